/- Which rows can be handed in: hasGreat, validPair. -/
import Derived.Test.YtmeaemjdmjhmdaaDoorKi
import Derived.Test.YtmeaemjdmjhmdaaDoorEc
namespace Go.Proofs.YtmeaemjdmjhmdaaDoor
open Go.RowKit

set_option maxHeartbeats 400000 in
theorem greatOne_any (n : Int) (w : World) :
    Calls Tryd.prog 32 #[.int .i64 n] w fun e w' => e = .returned (.bool (decide (2147483648 < n ∨ n < -2147483648))) ∧ Below w.heap.size w w' := by
  go_enter Tryd.func32, Tryd.ntmps32
  go_wp2_with fail
  refine (from_any n _).mono ?_
  rintro e w1 ⟨rfl, hb1⟩
  go_wp2_with fail
  refine (above_near n 2147483648 _ (by omega) (by omega)).mono ?_
  rintro e w2 ⟨rfl, hb2⟩
  go_wp2_with fail
  go_ret
  exact ⟨by simp, hb1.trans (hb2.mono hb1.size)⟩

theorem greatOne_as (n : Int) (bo : Bool) (hbo : Hid (bo = decide (2147483648 < n ∨ n < -2147483648))) (w : World) :
    Calls Tryd.prog 32 #[.int .i64 n] w fun e w' => e = .returned (.bool bo) ∧ Below w.heap.size w w' := by
  rw [hbo.out]; exact greatOne_any n w

set_option maxHeartbeats 400000 in
theorem indexGreat_none (a : Option Addr) (c : Nat) (w : World) :
    Calls Tryd.prog 51 #[.slice a 0 c, .func (.func 32) #[] #[]] w fun e w' => ∃ i : Int, e = .returned (.int .i64 i) ∧ decide (0 ≤ i) = false ∧ Below w.heap.size w w' := by
  go_enter Tryd.func51, Tryd.ntmps51
  go_wp2_with fail
  refine wp_loop_rounds 1 ?_
  rw [rounds_succ]
  go_wp2_with fail
  go_ret
  exact ⟨-1, rfl, rfl, Below.refl _ _⟩

set_option maxHeartbeats 1000000 in
theorem indexGreat_some (b off c : Nat) (l : List Int) (n : Nat) (w : World) (hl : Hid (n = l.length)) (hb : b < w.heap.size) (hc : ∀ i, i < l.length → w.cell? ⟨b, off + i, none⟩ = some (.int .i64 (l.getD i 0))) (hn : n ≤ 4611686018427387903) :
    Calls Tryd.prog 51 #[.slice (some ⟨b, off, none⟩) n c, .func (.func 32) #[] #[]] w fun e w' => ∃ i : Int, e = .returned (.int .i64 i) ∧ decide (0 ≤ i) = largeB l ∧ Below w.heap.size w w' := by
  go_enter Tryd.func51, Tryd.ntmps51
  go_wp2_with fail
  go_loopw [8] (fun i wr => ∃ k : Nat, k ≤ n ∧ i = .int .i64 k ∧ largeB (l.take k) = false ∧ Below w.heap.size w wr) (fun i _ => n - (intOf i).toNat)
  case atStart => exact ⟨0, Nat.zero_le _, rfl, rfl, Below.refl _ _⟩
  case round =>
    obtain ⟨k, hk, rfl, hL, hbel⟩ := hrel
    have HL := hide hL
    clear hL
    by_cases hlt : k < n
    · have hkl : k < l.length := by rw [← hl.out]; exact hlt
      obtain ⟨x, hxe⟩ : ∃ x, x = l.getD k 0 := ⟨_, rfl⟩
      have hcx : wr.cell? ⟨b, off + k, none⟩ = some (.int .i64 x) := by rw [hxe, hbel.cell (p := ⟨b, off + k, none⟩) hb]; exact hc k hkl
      have Hx := hide hxe
      clear hxe
      by_cases hg : 2147483648 < x ∨ x < -2147483648
      · have hbo : Hid (true = decide (2147483648 < x ∨ x < -2147483648)) := by unfold Hid; simp [hg]
        have hr : Hid (largeB l = true) := largeB_of_get l k hkl (by rw [← Hx.out]; exact hg)
        clear hg
        go_wp2_with fail
        refine (greatOne_as x true hbo _).mono ?_
        rintro e w2 ⟨rfl, hb2⟩
        go_wp2_with fail
        go_ret
        exact ⟨k, rfl, by rw [hr.out]; simp, hbel.trans (hb2.mono hbel.size)⟩
      · have hbo : Hid (false = decide (2147483648 < x ∨ x < -2147483648)) := by unfold Hid; simp [hg]
        have HG := hide hg
        clear hg
        go_wp2_with fail
        refine (greatOne_as x false hbo _).mono ?_
        rintro e w2 ⟨rfl, hb2⟩
        go_wp2_with fail
        go_roundw
        case rel => exact ⟨k + 1, by omega, by go_num, largeB_take_succ l k hkl HL.out (by rw [← Hx.out]; have := HG.out; omega) (by rw [← Hx.out]; have := HG.out; omega), hbel.trans (hb2.mono hbel.size)⟩
        case measure => simp [intOf]; omega
    · have hke : Hid (l.take k = l) := List.take_of_length_le (by rw [← hl.out]; omega)
      go_wp2_with fail
      go_ret
      exact ⟨-1, rfl, by rw [← hke.out, HL.out]; rfl, hbel⟩

theorem indexGreat_any (a : Option Addr) (c : Nat) (l : List Int) (n : Nat) (w : World) (hA : IntsAt w a l) (hl : Hid (n = l.length)) (hn : n ≤ 4611686018427387903) :
    Calls Tryd.prog 51 #[.slice a n c, .func (.func 32) #[] #[]] w fun e w' => ∃ i : Int, e = .returned (.int .i64 i) ∧ decide (0 ≤ i) = largeB l ∧ Below w.heap.size w w' := by
  rcases hA with rfl | ⟨b, off, rfl, hb, hc⟩
  · have h := hl.out
    subst h
    exact indexGreat_none a c w
  · exact indexGreat_some b off c l n w hl hb hc hn

set_option maxHeartbeats 400000 in
theorem hasGreat_any (a : Option Addr) (c : Nat) (l : List Int) (n : Nat) (bo : Bool) (w : World) (hA : IntsAt w a l) (hl : Hid (n = l.length)) (hbo : Hid (largeB l = bo)) (hn : n ≤ 4611686018427387903) :
    Calls Tryd.prog 19 #[.slice a n c] w fun e w' => e = .returned (.bool bo) ∧ Below w.heap.size w w' := by
  have hC : ∀ W : World, IntsAt W a l → Calls Tryd.prog 31 #[.slice a n c, .func (.func 32) #[] #[]] W fun e w' => e = .returned (.bool bo) ∧ Below W.heap.size W w' := by
    intro W hW
    go_enter Tryd.func31, Tryd.ntmps31
    go_wp2_with fail
    refine (indexGreat_any a c l n _ hW hl hn).mono ?_
    rintro e w1 ⟨i, rfl, hi, hb1⟩
    have HI := hide hi
    clear hi
    go_wp2_with fail
    go_ret
    exact ⟨ret_bool (by rw [← hbo.out, ← HI.out]), hb1⟩
  have HC := hide hC
  clear hC
  go_enter Tryd.func19, Tryd.ntmps19
  go_wp2_with fail
  refine (HC.out _ hA).mono ?_
  rintro e w1 ⟨rfl, hb1⟩
  go_wp2_with fail
  go_ret
  exact ⟨rfl, hb1⟩

/-- The error of a pair of rows. -/
def pairErr (a : Nat → Addr) (l m : List Int) : Value :=
  if l.length ≠ m.length then .iface 118 (.pointer (some (a 2)))
  else if largeB l || largeB m then .iface 118 (.pointer (some (a 1))) else .nilIface

set_option maxHeartbeats 1000000 in
theorem validPair_any (x y : Option Addr) (c c' : Nat) (l m : List Int) (n n' : Nat) (a : Nat → Addr) (w : World) (hS : Sents w a) (hA : IntsAt w x l) (hB : IntsAt w y m) (hl : Hid (n = l.length)) (hm : Hid (n' = m.length)) (hn : n ≤ 4611686018427387903) (hn' : n' ≤ 4611686018427387903) :
    Calls Tryd.prog 11 #[.slice x n c, .slice y n' c'] w fun e w' => e = .returned (pairErr a l m) ∧ Below w.heap.size w w' := by
  have q2 : w.cell? ⟨1, 0, none⟩ = some (.iface 118 (.pointer (some (a 2)))) := hS.cell 2 (by omega)
  by_cases h : l.length = m.length
  · have hne : ((n : Int) != (n' : Int)) = false := by rw [hl.out, hm.out, h]; simp
    cases h1 : largeB l with
    | true =>
      have hP : Hid (pairErr a l m = .iface 118 (.pointer (some (a 1)))) := by unfold Hid pairErr; rw [if_neg (by simp [h]), h1]; rfl
      have H1 := hide h1
      clear h1
      rw [hP.out]
      go_enter Tryd.func11, Tryd.ntmps11
      go_wp2_with fail
      refine (hasGreat_any x c l n true _ hA hl H1 hn).mono ?_
      rintro e w1 ⟨rfl, hb1⟩
      have q1 : w1.cell? ⟨0, 0, none⟩ = some (.iface 118 (.pointer (some (a 1)))) := (hS.below hb1).cell 1 (by omega)
      go_wp2_with fail
      go_ret
      exact ⟨rfl, hb1⟩
    | false =>
      cases h2 : largeB m with
      | true =>
        have hP : Hid (pairErr a l m = .iface 118 (.pointer (some (a 1)))) := by unfold Hid pairErr; rw [if_neg (by simp [h]), h1, h2]; rfl
        have H1 := hide h1
        have H2 := hide h2
        clear h1 h2
        rw [hP.out]
        go_enter Tryd.func11, Tryd.ntmps11
        go_wp2_with fail
        refine (hasGreat_any x c l n false _ hA hl H1 hn).mono ?_
        rintro e w1 ⟨rfl, hb1⟩
        go_wp2_with fail
        refine (hasGreat_any y c' m n' true _ (hB.below hb1) hm H2 hn').mono ?_
        rintro e w2 ⟨rfl, hb2⟩
        have hb12 := hb1.trans (hb2.mono hb1.size)
        have q1 : w2.cell? ⟨0, 0, none⟩ = some (.iface 118 (.pointer (some (a 1)))) := (hS.below hb12).cell 1 (by omega)
        go_wp2_with fail
        go_ret
        exact ⟨rfl, hb12⟩
      | false =>
        have hP : Hid (pairErr a l m = .nilIface) := by unfold Hid pairErr; rw [if_neg (by simp [h]), h1, h2]; rfl
        have H1 := hide h1
        have H2 := hide h2
        clear h1 h2
        rw [hP.out]
        go_enter Tryd.func11, Tryd.ntmps11
        go_wp2_with fail
        refine (hasGreat_any x c l n false _ hA hl H1 hn).mono ?_
        rintro e w1 ⟨rfl, hb1⟩
        go_wp2_with fail
        refine (hasGreat_any y c' m n' false _ (hB.below hb1) hm H2 hn').mono ?_
        rintro e w2 ⟨rfl, hb2⟩
        have hb12 := hb1.trans (hb2.mono hb1.size)
        go_wp2_with fail
        go_ret
        exact ⟨rfl, hb12⟩
  · have hne : ((n : Int) != (n' : Int)) = true := by rw [bne_iff_ne, hl.out, hm.out]; omega
    have hP : Hid (pairErr a l m = .iface 118 (.pointer (some (a 2)))) := by unfold Hid pairErr; rw [if_pos h]
    rw [hP.out]
    go_enter Tryd.func11, Tryd.ntmps11
    go_wp2_with fail
    go_ret
    exact ⟨rfl, Below.refl _ _⟩

theorem rowOf_as (a : Option Addr) (n c : Nat) (l : List Int) (w : World) (hA : IntsAt w a l) (hl : Hid (n = l.length)) (hn : n ≤ 4398046511104) :
    Calls Tryd.prog 12 #[.slice a n c] w fun e w' => ∃ g, e = .returned (.slice (some ⟨g, 0, none⟩) n n) ∧ w.heap.size ≤ g ∧ NearRow w' g l ∧ Below w.heap.size w w' := by
  have h := hl.out
  subst h
  exact rowOf_any a c l w hA hn

theorem coded_sent_yes (k : Nat) (hk : k < 8) (c : Int) (hc : (k : Int) + 1 = c) (a : Nat → Addr) (w : World) (hS : Sents w a) :
    Calls Tryd.prog 7 #[.iface 118 (.pointer (some (a k))), .int .i64 c] w fun e w' => e = .returned (.bool true) ∧ Below w.heap.size w w' := by
  refine (coded_sent k hk c a (a k) rfl w hS).mono ?_
  rintro e w' ⟨rfl, h⟩
  exact ⟨by simp [hc], h⟩


end Go.Proofs.YtmeaemjdmjhmdaaDoor
