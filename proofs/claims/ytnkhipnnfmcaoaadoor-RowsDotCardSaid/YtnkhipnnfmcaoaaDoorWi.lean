/- rows.Dot: the sum of products, or which error. -/
import Derived.Test.YtnkhipnnfmcaoaaDoorWh
import Derived.Test.YtnkhipnnfmcaoaaDoorEc
namespace Go.Proofs.YtnkhipnnfmcaoaaDoor
open Go.RowKit

set_option maxHeartbeats 400000 in
theorem greatOne_any (n : Int) (w : World) :
    Calls Tryd.prog 50 #[.int .i64 n] w fun e w' => e = .returned (.bool (decide (2147483648 < n ∨ n < -2147483648))) ∧ Below w.heap.size w w' := by
  go_enter Tryd.func50, Tryd.ntmps50
  go_wp2_with fail
  refine (from_any n _).mono ?_
  rintro e w1 ⟨rfl, hb1⟩
  go_wp2_with fail
  refine (above_near n 2147483648 _ (by omega) (by omega)).mono ?_
  rintro e w2 ⟨rfl, hb2⟩
  go_wp2_with fail
  go_ret
  exact ⟨by simp, hb1.trans (hb2.mono hb1.size)⟩

theorem greatOne_as (n : Int) (bo : Bool) (hbo : Hid (bo = decide (2147483648 < n ∨ n < -2147483648))) (w : World) :
    Calls Tryd.prog 50 #[.int .i64 n] w fun e w' => e = .returned (.bool bo) ∧ Below w.heap.size w w' := by
  rw [hbo.out]; exact greatOne_any n w

set_option maxHeartbeats 400000 in
theorem indexGreat_none (a : Option Addr) (c : Nat) (w : World) :
    Calls Tryd.prog 72 #[.slice a 0 c, .func (.func 50) #[] #[]] w fun e w' => ∃ i : Int, e = .returned (.int .i64 i) ∧ decide (0 ≤ i) = false ∧ Below w.heap.size w w' := by
  go_enter Tryd.func72, Tryd.ntmps72
  go_wp2_with fail
  refine wp_loop_rounds 1 ?_
  rw [rounds_succ]
  go_wp2_with fail
  go_ret
  exact ⟨-1, rfl, rfl, Below.refl _ _⟩

set_option maxHeartbeats 1000000 in
theorem indexGreat_some (b off c : Nat) (l : List Int) (n : Nat) (w : World) (hl : Hid (n = l.length)) (hb : b < w.heap.size) (hc : ∀ i, i < l.length → w.cell? ⟨b, off + i, none⟩ = some (.int .i64 (l.getD i 0))) (hn : n ≤ 4611686018427387903) :
    Calls Tryd.prog 72 #[.slice (some ⟨b, off, none⟩) n c, .func (.func 50) #[] #[]] w fun e w' => ∃ i : Int, e = .returned (.int .i64 i) ∧ decide (0 ≤ i) = largeB l ∧ Below w.heap.size w w' := by
  go_enter Tryd.func72, Tryd.ntmps72
  go_wp2_with fail
  go_loopw [8] (fun i wr => ∃ k : Nat, k ≤ n ∧ i = .int .i64 k ∧ largeB (l.take k) = false ∧ Below w.heap.size w wr) (fun i _ => n - (intOf i).toNat)
  case atStart => exact ⟨0, Nat.zero_le _, rfl, rfl, Below.refl _ _⟩
  case round =>
    obtain ⟨k, hk, rfl, hL, hbel⟩ := hrel
    have HL := hide hL
    clear hL
    by_cases hlt : k < n
    · have hkl : k < l.length := by rw [← hl.out]; exact hlt
      obtain ⟨x, hxe⟩ : ∃ x, x = l.getD k 0 := ⟨_, rfl⟩
      have hcx : wr.cell? ⟨b, off + k, none⟩ = some (.int .i64 x) := by rw [hxe, hbel.cell (p := ⟨b, off + k, none⟩) hb]; exact hc k hkl
      have Hx := hide hxe
      clear hxe
      by_cases hg : 2147483648 < x ∨ x < -2147483648
      · have hbo : Hid (true = decide (2147483648 < x ∨ x < -2147483648)) := by unfold Hid; simp [hg]
        have hr : Hid (largeB l = true) := largeB_of_get l k hkl (by rw [← Hx.out]; exact hg)
        clear hg
        go_wp2_with fail
        refine (greatOne_as x true hbo _).mono ?_
        rintro e w2 ⟨rfl, hb2⟩
        go_wp2_with fail
        go_ret
        exact ⟨k, rfl, by rw [hr.out]; simp, hbel.trans (hb2.mono hbel.size)⟩
      · have hbo : Hid (false = decide (2147483648 < x ∨ x < -2147483648)) := by unfold Hid; simp [hg]
        have HG := hide hg
        clear hg
        go_wp2_with fail
        refine (greatOne_as x false hbo _).mono ?_
        rintro e w2 ⟨rfl, hb2⟩
        go_wp2_with fail
        go_roundw
        case rel => exact ⟨k + 1, by omega, by go_num, largeB_take_succ l k hkl HL.out (by rw [← Hx.out]; have := HG.out; omega) (by rw [← Hx.out]; have := HG.out; omega), hbel.trans (hb2.mono hbel.size)⟩
        case measure => simp [intOf]; omega
    · have hke : Hid (l.take k = l) := List.take_of_length_le (by rw [← hl.out]; omega)
      go_wp2_with fail
      go_ret
      exact ⟨-1, rfl, by rw [← hke.out, HL.out]; rfl, hbel⟩

theorem indexGreat_any (a : Option Addr) (c : Nat) (l : List Int) (n : Nat) (w : World) (hA : IntsAt w a l) (hl : Hid (n = l.length)) (hn : n ≤ 4611686018427387903) :
    Calls Tryd.prog 72 #[.slice a n c, .func (.func 50) #[] #[]] w fun e w' => ∃ i : Int, e = .returned (.int .i64 i) ∧ decide (0 ≤ i) = largeB l ∧ Below w.heap.size w w' := by
  rcases hA with rfl | ⟨b, off, rfl, hb, hc⟩
  · have h := hl.out
    subst h
    exact indexGreat_none a c w
  · exact indexGreat_some b off c l n w hl hb hc hn

set_option maxHeartbeats 400000 in
theorem hasGreat_any (a : Option Addr) (c : Nat) (l : List Int) (n : Nat) (bo : Bool) (w : World) (hA : IntsAt w a l) (hl : Hid (n = l.length)) (hbo : Hid (largeB l = bo)) (hn : n ≤ 4611686018427387903) :
    Calls Tryd.prog 35 #[.slice a n c] w fun e w' => e = .returned (.bool bo) ∧ Below w.heap.size w w' := by
  have hC : ∀ W : World, IntsAt W a l → Calls Tryd.prog 49 #[.slice a n c, .func (.func 50) #[] #[]] W fun e w' => e = .returned (.bool bo) ∧ Below W.heap.size W w' := by
    intro W hW
    go_enter Tryd.func49, Tryd.ntmps49
    go_wp2_with fail
    refine (indexGreat_any a c l n _ hW hl hn).mono ?_
    rintro e w1 ⟨i, rfl, hi, hb1⟩
    have HI := hide hi
    clear hi
    go_wp2_with fail
    go_ret
    exact ⟨ret_bool (by rw [← hbo.out, ← HI.out]), hb1⟩
  have HC := hide hC
  clear hC
  go_enter Tryd.func35, Tryd.ntmps35
  go_wp2_with fail
  refine (HC.out _ hA).mono ?_
  rintro e w1 ⟨rfl, hb1⟩
  go_wp2_with fail
  go_ret
  exact ⟨rfl, hb1⟩

/-- The error of a pair of rows. -/
def pairErr (a : Nat → Addr) (l m : List Int) : Value :=
  if l.length ≠ m.length then .iface 49 (.pointer (some (a 2)))
  else if largeB l || largeB m then .iface 49 (.pointer (some (a 1))) else .nilIface

set_option maxHeartbeats 1000000 in
theorem validPair_any (x y : Option Addr) (c c' : Nat) (l m : List Int) (n n' : Nat) (a : Nat → Addr) (w : World) (hS : Sents w a) (hA : IntsAt w x l) (hB : IntsAt w y m) (hl : Hid (n = l.length)) (hm : Hid (n' = m.length)) (hn : n ≤ 4611686018427387903) (hn' : n' ≤ 4611686018427387903) :
    Calls Tryd.prog 21 #[.slice x n c, .slice y n' c'] w fun e w' => e = .returned (pairErr a l m) ∧ Below w.heap.size w w' := by
  have q2 : w.cell? ⟨2, 0, none⟩ = some (.iface 49 (.pointer (some (a 2)))) := hS.cell 2 (by omega)
  by_cases h : l.length = m.length
  · have hne : ((n : Int) != (n' : Int)) = false := by rw [hl.out, hm.out, h]; simp
    cases h1 : largeB l with
    | true =>
      have hP : Hid (pairErr a l m = .iface 49 (.pointer (some (a 1)))) := by unfold Hid pairErr; rw [if_neg (by simp [h]), h1]; rfl
      have H1 := hide h1
      clear h1
      rw [hP.out]
      go_enter Tryd.func21, Tryd.ntmps21
      go_wp2_with fail
      refine (hasGreat_any x c l n true _ hA hl H1 hn).mono ?_
      rintro e w1 ⟨rfl, hb1⟩
      have q1 : w1.cell? ⟨1, 0, none⟩ = some (.iface 49 (.pointer (some (a 1)))) := (hS.below hb1).cell 1 (by omega)
      go_wp2_with fail
      go_ret
      exact ⟨rfl, hb1⟩
    | false =>
      cases h2 : largeB m with
      | true =>
        have hP : Hid (pairErr a l m = .iface 49 (.pointer (some (a 1)))) := by unfold Hid pairErr; rw [if_neg (by simp [h]), h1, h2]; rfl
        have H1 := hide h1
        have H2 := hide h2
        clear h1 h2
        rw [hP.out]
        go_enter Tryd.func21, Tryd.ntmps21
        go_wp2_with fail
        refine (hasGreat_any x c l n false _ hA hl H1 hn).mono ?_
        rintro e w1 ⟨rfl, hb1⟩
        go_wp2_with fail
        refine (hasGreat_any y c' m n' true _ (hB.below hb1) hm H2 hn').mono ?_
        rintro e w2 ⟨rfl, hb2⟩
        have hb12 := hb1.trans (hb2.mono hb1.size)
        have q1 : w2.cell? ⟨1, 0, none⟩ = some (.iface 49 (.pointer (some (a 1)))) := (hS.below hb12).cell 1 (by omega)
        go_wp2_with fail
        go_ret
        exact ⟨rfl, hb12⟩
      | false =>
        have hP : Hid (pairErr a l m = .nilIface) := by unfold Hid pairErr; rw [if_neg (by simp [h]), h1, h2]; rfl
        have H1 := hide h1
        have H2 := hide h2
        clear h1 h2
        rw [hP.out]
        go_enter Tryd.func21, Tryd.ntmps21
        go_wp2_with fail
        refine (hasGreat_any x c l n false _ hA hl H1 hn).mono ?_
        rintro e w1 ⟨rfl, hb1⟩
        go_wp2_with fail
        refine (hasGreat_any y c' m n' false _ (hB.below hb1) hm H2 hn').mono ?_
        rintro e w2 ⟨rfl, hb2⟩
        have hb12 := hb1.trans (hb2.mono hb1.size)
        go_wp2_with fail
        go_ret
        exact ⟨rfl, hb12⟩
  · have hne : ((n : Int) != (n' : Int)) = true := by rw [bne_iff_ne, hl.out, hm.out]; omega
    have hP : Hid (pairErr a l m = .iface 49 (.pointer (some (a 2)))) := by unfold Hid pairErr; rw [if_pos h]
    rw [hP.out]
    go_enter Tryd.func21, Tryd.ntmps21
    go_wp2_with fail
    go_ret
    exact ⟨rfl, Below.refl _ _⟩

set_option maxHeartbeats 400000 in
theorem above_far (p m : Int) (a : Option Addr) (n c : Nat) (w : World) (hn : 0 < n) :
    Calls Tryd.prog 24 #[.agg #[.int .i64 p, .slice a n c], .int .i64 m] w fun e w' => e = .returned (.bool true) ∧ Below w.heap.size w w' := by
  go_enter Tryd.func24, Tryd.ntmps24
  go_wp2_with (go_at_call 40; refine (isNear_no _ _ _ _ _ hn).mono ?_; rintro e w1 ⟨rfl, hb1⟩)
  go_ret
  exact ⟨rfl, ((Below.refl _ _).alloc (Nat.le_refl _) _).trans (hb1.mono (by simp))⟩

/-- Is a number above a bound in size? -/
theorem aboveN_any (p : Int) (a : Option Addr) (n c : Nat) (z m : Int) (w : World) (h : NumP w p a n c z) (hm : 0 ≤ m) (hm2 : m ≤ 9223372036854775807) :
    Calls Tryd.prog 24 #[.agg #[.int .i64 p, .slice a n c], .int .i64 m] w fun e w' => e = .returned (.bool (decide (m < z ∨ z < -m))) ∧ Below w.heap.size w w' := by
  rcases h with ⟨rfl, rfl, rfl, rfl, _, _⟩ | ⟨ls, _, _, h0, _, _, _, _, hf⟩
  · exact above_near p m w hm hm2
  · refine (above_far p m a n c w h0).mono ?_
    rintro e w' ⟨rfl, hb⟩
    exact ⟨ret_bool (by simp; omega), hb⟩

theorem aboveN_as (p : Int) (a : Option Addr) (n c : Nat) (z m : Int) (bo : Bool) (hbo : Hid (bo = decide (m < z ∨ z < -m))) (w : World) (h : NumP w p a n c z) (hm : 0 ≤ m) (hm2 : m ≤ 9223372036854775807) :
    Calls Tryd.prog 24 #[.agg #[.int .i64 p, .slice a n c], .int .i64 m] w fun e w' => e = .returned (.bool bo) ∧ Below w.heap.size w w' := by
  rw [hbo.out]; exact aboveN_any p a n c z m w h hm hm2

theorem prod_bd (l m : List Int) (h1 : ∀ x ∈ l, -2147483648 ≤ x ∧ x ≤ 2147483648) (h2 : ∀ x ∈ m, -2147483648 ≤ x ∧ x ≤ 2147483648) : ∀ x ∈ prodL l m, -4611686018427387904 ≤ x ∧ x ≤ 4611686018427387904 := by
  intro x hx
  obtain ⟨k, hk, rfl⟩ := List.getElem_of_mem hx
  simp only [prodL, List.length_zipWith] at hk
  have e : (prodL l m)[k] = l[k]'(by omega) * m[k]'(by omega) := by simp [prodL]
  rw [e]
  have a1 := h1 (l[k]'(by omega)) (List.getElem_mem _)
  have a2 := h2 (m[k]'(by omega)) (List.getElem_mem _)
  generalize l[k]'(by omega) = u at *
  generalize m[k]'(by omega) = v at *
  have h3 := Int.mul_le_mul (show (u.natAbs : Int) ≤ 2147483648 by omega) (show (v.natAbs : Int) ≤ 2147483648 by omega) (by omega) (by omega)
  have h4 : ((u * v).natAbs : Int) = (u.natAbs : Int) * (v.natAbs : Int) := by rw [Int.natAbs_mul]; simp
  omega

/-- What rows.Dot answers, number and error. -/
def dotN (l m : List Int) : Int := if l.length ≠ m.length ∨ largeB l = true ∨ largeB m = true then 0 else if 4611686018427387904 < (prodL l m).sum ∨ (prodL l m).sum < -4611686018427387904 then 0 else (prodL l m).sum
def dotE (a : Nat → Addr) (l m : List Int) : Value :=
  if l.length ≠ m.length then .iface 49 (.pointer (some (a 2)))
  else if largeB l || largeB m then .iface 49 (.pointer (some (a 1)))
  else if 4611686018427387904 < (prodL l m).sum ∨ (prodL l m).sum < -4611686018427387904 then .iface 49 (.pointer (some (a 1))) else .nilIface

set_option maxHeartbeats 2000000 in
theorem dot_bad (x y : Option Addr) (c c' : Nat) (l m : List Int) (n n' : Nat) (a : Nat → Addr) (q : Addr) (w : World) (hS : Sents w a) (hA : IntsAt w x l) (hB : IntsAt w y m) (hl : Hid (n = l.length)) (hm : Hid (n' = m.length)) (hn : n ≤ 1073741824) (hn' : n' ≤ 1073741824) (hp : Hid (pairErr a l m = .iface 49 (.pointer (some q)))) :
    Calls Tryd.prog 11 #[.slice x n c, .slice y n' c'] w fun e w' => e = .returned (.tuple #[.int .i64 0, .iface 49 (.pointer (some q))]) ∧ Below w.heap.size w w' := by
  go_enter Tryd.func11, Tryd.ntmps11
  go_wp2_with fail
  refine (validPair_any x y c c' l m n n' a _ hS hA hB hl hm (by omega) (by omega)).mono ?_
  rintro e w1 ⟨rfl, hb1⟩
  rw [hp.out]
  go_wp2_with fail
  go_ret2
  exact ⟨rfl, hb1⟩

theorem rowOf_as (a : Option Addr) (n c : Nat) (l : List Int) (w : World) (hA : IntsAt w a l) (hl : Hid (n = l.length)) (hn : n ≤ 4398046511104) :
    Calls Tryd.prog 22 #[.slice a n c] w fun e w' => ∃ g, e = .returned (.slice (some ⟨g, 0, none⟩) n n) ∧ w.heap.size ≤ g ∧ NearRow w' g l ∧ Below w.heap.size w w' := by
  have h := hl.out
  subst h
  exact rowOf_any a c l w hA hn

set_option maxHeartbeats 2000000 in
theorem dot_good (x y : Option Addr) (c c' : Nat) (l m : List Int) (n : Nat) (a : Nat → Addr) (w : World) (hS : Sents w a) (hA : IntsAt w x l) (hB : IntsAt w y m) (hl : Hid (n = l.length)) (hm : Hid (n = m.length)) (hn : n ≤ 1073741824) (hp : Hid (pairErr a l m = .nilIface)) (hL : Hid (largeB l = false)) (hM : Hid (largeB m = false)) (z : Int) (hz : Hid (z = (prodL l m).sum)) (big : Bool) (hbig : Hid (big = decide (4611686018427387904 < z ∨ z < -4611686018427387904))) :
    Calls Tryd.prog 11 #[.slice x n c, .slice y n c'] w fun e w' => e = .returned (if big then .tuple #[.int .i64 0, .iface 49 (.pointer (some (a 1)))] else .tuple #[.int .i64 z, .nilIface]) ∧ Below w.heap.size w w' := by
  have Hl := hide (largeB_false hL.out)
  have Hm := hide (largeB_false hM.out)
  have HP := hide (prod_bd l m Hl.out Hm.out)
  cases big with
  | true =>
    rw [if_pos rfl]
    go_enter Tryd.func11, Tryd.ntmps11
    go_wp2_with fail
    refine (validPair_any x y c c' l m n n a _ hS hA hB hl hm (by omega) (by omega)).mono ?_
    rintro e w1 ⟨rfl, hb1⟩
    rw [hp.out]
    go_wp2_with fail
    refine (rowOf_as x n c l _ (hA.below hb1) hl (by omega)).mono ?_
    rintro e w2 ⟨g2, rfl, hg2, hr2, hb2⟩
    have hbw2 := hb1.trans (hb2.mono hb1.size)
    go_wp2_with fail
    refine (rowOf_as y n c' m _ (hB.below hbw2) hm (by omega)).mono ?_
    rintro e w3 ⟨g3, rfl, hg3, hr3, hb3⟩
    have hbw3 := hbw2.trans (hb3.mono hbw2.size)
    go_wp2_with fail
    refine (rowDot_near g2 n g3 n l m n _ (hr2.below hb3) hr3 hl hm hn Hl.out Hm.out HP).mono ?_
    rintro e w4 ⟨p, d, k, r, rfl, hN4, hb4⟩
    have hbw4 := hbw3.trans (hb4.mono hbw3.size)
    have hN5 := hN4.below ((Below.refl w4.heap.size w4).alloc (Nat.le_refl _) (.cells #[.int .i64 p, .slice d k r] 56))
    clear hb1 hb2 hb3 hb4 hbw2 hbw3
    go_wp2_with fail
    refine (aboveN_as p d k r z 4611686018427387904 true hbig _ (by rw [hz.out]; exact hN5) (by omega) (by omega)).mono ?_
    rintro e w6 ⟨rfl, hb6⟩
    have hbw6 := (hbw4.alloc hbw4.size _).trans (hb6.mono (by have := hbw4.size; simp; omega))
    have q1 : w6.cell? ⟨1, 0, none⟩ = some (.iface 49 (.pointer (some (a 1)))) := (hS.below hbw6).cell 1 (by omega)
    go_wp2_with fail
    go_region
    all_goals go_wp2_with fail
    all_goals
      go_ret2
      exact ⟨rfl, hbw6.drew⟩
  | false =>
    rw [if_neg (by simp)]
    go_enter Tryd.func11, Tryd.ntmps11
    go_wp2_with fail
    refine (validPair_any x y c c' l m n n a _ hS hA hB hl hm (by omega) (by omega)).mono ?_
    rintro e w1 ⟨rfl, hb1⟩
    rw [hp.out]
    go_wp2_with fail
    refine (rowOf_as x n c l _ (hA.below hb1) hl (by omega)).mono ?_
    rintro e w2 ⟨g2, rfl, hg2, hr2, hb2⟩
    have hbw2 := hb1.trans (hb2.mono hb1.size)
    go_wp2_with fail
    refine (rowOf_as y n c' m _ (hB.below hbw2) hm (by omega)).mono ?_
    rintro e w3 ⟨g3, rfl, hg3, hr3, hb3⟩
    have hbw3 := hbw2.trans (hb3.mono hbw2.size)
    go_wp2_with fail
    refine (rowDot_near g2 n g3 n l m n _ (hr2.below hb3) hr3 hl hm hn Hl.out Hm.out HP).mono ?_
    rintro e w4 ⟨p, d, k, r, rfl, hN4, hb4⟩
    have hbw4 := hbw3.trans (hb4.mono hbw3.size)
    have hN5 := hN4.below ((Below.refl w4.heap.size w4).alloc (Nat.le_refl _) (.cells #[.int .i64 p, .slice d k r] 56))
    clear hb1 hb2 hb3 hb4 hbw2 hbw3
    go_wp2_with fail
    refine (aboveN_as p d k r z 4611686018427387904 false hbig _ (by rw [hz.out]; exact hN5) (by omega) (by omega)).mono ?_
    rintro e w6 ⟨rfl, hb6⟩
    have hbw6 := (hbw4.alloc hbw4.size _).trans (hb6.mono (by have := hbw4.size; simp; omega))
    have hcs : w6.cell? ⟨w4.heap.size, 0, none⟩ = some (.int .i64 p) ∧ w6.cell? ⟨w4.heap.size, 1, none⟩ = some (.slice d k r) := ⟨(hb6.cell (by simp)).trans (by simp), (hb6.cell (by simp)).trans (by simp)⟩
    obtain ⟨hcs0, hcs1⟩ := hcs
    have hnr : k = 0 ∧ d = none ∧ r = 0 ∧ p = z := by
      have hb' := hbig.out
      rcases hN5 with ⟨h1, h2, h3, h4, _, _⟩ | ⟨ls, _, _, _, _, _, _, _, hf⟩
      · exact ⟨h1, h2, h3, by rw [hz.out]; exact h4⟩
      · rw [← hz.out] at hf
        have : ¬ (4611686018427387904 < z ∨ z < -4611686018427387904) := by simpa using hb'.symm
        omega
    obtain ⟨e1, e2, e3, e4⟩ := hnr
    rw [e1, e2, e3] at hcs1
    rw [e4] at hcs0
    clear hN5 hN4 e1 e2 e3 e4
    go_wp2_with fail
    refine (int_near z _).mono ?_
    rintro e w7 ⟨rfl, hb7⟩
    go_wp2_with fail
    go_ret2
    exact ⟨rfl, hbw6.trans (hb7.mono hbw6.size)⟩

end Go.Proofs.YtnkhipnnfmcaoaaDoor
