/- rows.Dot: the sum of products, or which error. -/
import Derived.Test.YtmeaemjdmjhmdaaDoorWh
import Derived.Test.YtmeaemjdmjhmdaaDoorWn
import Derived.Test.YtmeaemjdmjhmdaaDoorWx
namespace Go.Proofs.YtmeaemjdmjhmdaaDoor
open Go.RowKit

theorem prod_bd (l m : List Int) (h1 : ∀ x ∈ l, -2147483648 ≤ x ∧ x ≤ 2147483648) (h2 : ∀ x ∈ m, -2147483648 ≤ x ∧ x ≤ 2147483648) : ∀ x ∈ prodL l m, -4611686018427387904 ≤ x ∧ x ≤ 4611686018427387904 := by
  intro x hx
  obtain ⟨k, hk, rfl⟩ := List.getElem_of_mem hx
  simp only [prodL, List.length_zipWith] at hk
  have e : (prodL l m)[k] = l[k]'(by omega) * m[k]'(by omega) := by simp [prodL]
  rw [e]
  have a1 := h1 (l[k]'(by omega)) (List.getElem_mem _)
  have a2 := h2 (m[k]'(by omega)) (List.getElem_mem _)
  generalize l[k]'(by omega) = u at *
  generalize m[k]'(by omega) = v at *
  have h3 := Int.mul_le_mul (show (u.natAbs : Int) ≤ 2147483648 by omega) (show (v.natAbs : Int) ≤ 2147483648 by omega) (by omega) (by omega)
  have h4 : ((u * v).natAbs : Int) = (u.natAbs : Int) * (v.natAbs : Int) := by rw [Int.natAbs_mul]; simp
  omega

/-- What rows.Dot answers, number and error. -/
def dotN (l m : List Int) : Int := if l.length ≠ m.length ∨ largeB l = true ∨ largeB m = true then 0 else if 4611686018427387904 < (prodL l m).sum ∨ (prodL l m).sum < -4611686018427387904 then 0 else (prodL l m).sum
def dotE (a : Nat → Addr) (l m : List Int) : Value :=
  if l.length ≠ m.length then .iface 118 (.pointer (some (a 2)))
  else if largeB l || largeB m then .iface 118 (.pointer (some (a 1)))
  else if 4611686018427387904 < (prodL l m).sum ∨ (prodL l m).sum < -4611686018427387904 then .iface 118 (.pointer (some (a 1))) else .nilIface

set_option maxHeartbeats 2000000 in
theorem dot_bad (x y : Option Addr) (c c' : Nat) (l m : List Int) (n n' : Nat) (a : Nat → Addr) (q : Addr) (w : World) (hS : Sents w a) (hA : IntsAt w x l) (hB : IntsAt w y m) (hl : Hid (n = l.length)) (hm : Hid (n' = m.length)) (hn : n ≤ 1073741824) (hn' : n' ≤ 1073741824) (hp : Hid (pairErr a l m = .iface 118 (.pointer (some q)))) :
    Calls Tryd.prog 5 #[.slice x n c, .slice y n' c'] w fun e w' => e = .returned (.tuple #[.int .i64 0, .iface 118 (.pointer (some q))]) ∧ Below w.heap.size w w' := by
  go_enter Tryd.func5, Tryd.ntmps5
  go_wp2_with fail
  refine (validPair_any x y c c' l m n n' a _ hS hA hB hl hm (by omega) (by omega)).mono ?_
  rintro e w1 ⟨rfl, hb1⟩
  rw [hp.out]
  go_wp2_with fail
  go_ret2
  exact ⟨rfl, hb1⟩

set_option maxHeartbeats 2000000 in
theorem dot_good (x y : Option Addr) (c c' : Nat) (l m : List Int) (n : Nat) (a : Nat → Addr) (w : World) (hS : Sents w a) (hA : IntsAt w x l) (hB : IntsAt w y m) (hl : Hid (n = l.length)) (hm : Hid (n = m.length)) (hn : n ≤ 1073741824) (hp : Hid (pairErr a l m = .nilIface)) (hL : Hid (largeB l = false)) (hM : Hid (largeB m = false)) (z : Int) (hz : Hid (z = (prodL l m).sum)) (big : Bool) (hbig : Hid (big = decide (4611686018427387904 < z ∨ z < -4611686018427387904))) :
    Calls Tryd.prog 5 #[.slice x n c, .slice y n c'] w fun e w' => e = .returned (if big then .tuple #[.int .i64 0, .iface 118 (.pointer (some (a 1)))] else .tuple #[.int .i64 z, .nilIface]) ∧ Below w.heap.size w w' := by
  have Hl := hide (largeB_false hL.out)
  have Hm := hide (largeB_false hM.out)
  have HP := hide (prod_bd l m Hl.out Hm.out)
  cases big with
  | true =>
    rw [if_pos rfl]
    go_enter Tryd.func5, Tryd.ntmps5
    go_wp2_with fail
    refine (validPair_any x y c c' l m n n a _ hS hA hB hl hm (by omega) (by omega)).mono ?_
    rintro e w1 ⟨rfl, hb1⟩
    rw [hp.out]
    go_wp2_with fail
    refine (rowOf_as x n c l _ (hA.below hb1) hl (by omega)).mono ?_
    rintro e w2 ⟨g2, rfl, hg2, hr2, hb2⟩
    have hbw2 := hb1.trans (hb2.mono hb1.size)
    go_wp2_with fail
    refine (rowOf_as y n c' m _ (hB.below hbw2) hm (by omega)).mono ?_
    rintro e w3 ⟨g3, rfl, hg3, hr3, hb3⟩
    have hbw3 := hbw2.trans (hb3.mono hbw2.size)
    go_wp2_with fail
    refine (rowDot_near g2 n g3 n l m n _ (hr2.below hb3) hr3 hl hm hn Hl.out Hm.out HP).mono ?_
    rintro e w4 ⟨p, d, k, r, rfl, hN4, hb4⟩
    have hbw4 := hbw3.trans (hb4.mono hbw3.size)
    have hN5 := hN4.below ((Below.refl w4.heap.size w4).alloc (Nat.le_refl _) (.cells #[.int .i64 p, .slice d k r] 36))
    clear hb1 hb2 hb3 hb4 hbw2 hbw3
    go_wp2_with fail
    refine (aboveN_as p d k r z 4611686018427387904 true hbig _ (by rw [hz.out]; exact hN5) (by omega) (by omega)).mono ?_
    rintro e w6 ⟨rfl, hb6⟩
    have hbw6 := (hbw4.alloc hbw4.size _).trans (hb6.mono (by have := hbw4.size; simp; omega))
    have q1 : w6.cell? ⟨0, 0, none⟩ = some (.iface 118 (.pointer (some (a 1)))) := (hS.below hbw6).cell 1 (by omega)
    go_wp2_with fail
    go_region
    all_goals go_wp2_with fail
    all_goals
      go_ret2
      exact ⟨rfl, hbw6.drew⟩
  | false =>
    rw [if_neg (by simp)]
    go_enter Tryd.func5, Tryd.ntmps5
    go_wp2_with fail
    refine (validPair_any x y c c' l m n n a _ hS hA hB hl hm (by omega) (by omega)).mono ?_
    rintro e w1 ⟨rfl, hb1⟩
    rw [hp.out]
    go_wp2_with fail
    refine (rowOf_as x n c l _ (hA.below hb1) hl (by omega)).mono ?_
    rintro e w2 ⟨g2, rfl, hg2, hr2, hb2⟩
    have hbw2 := hb1.trans (hb2.mono hb1.size)
    go_wp2_with fail
    refine (rowOf_as y n c' m _ (hB.below hbw2) hm (by omega)).mono ?_
    rintro e w3 ⟨g3, rfl, hg3, hr3, hb3⟩
    have hbw3 := hbw2.trans (hb3.mono hbw2.size)
    go_wp2_with fail
    refine (rowDot_near g2 n g3 n l m n _ (hr2.below hb3) hr3 hl hm hn Hl.out Hm.out HP).mono ?_
    rintro e w4 ⟨p, d, k, r, rfl, hN4, hb4⟩
    have hbw4 := hbw3.trans (hb4.mono hbw3.size)
    have hN5 := hN4.below ((Below.refl w4.heap.size w4).alloc (Nat.le_refl _) (.cells #[.int .i64 p, .slice d k r] 36))
    clear hb1 hb2 hb3 hb4 hbw2 hbw3
    go_wp2_with fail
    refine (aboveN_as p d k r z 4611686018427387904 false hbig _ (by rw [hz.out]; exact hN5) (by omega) (by omega)).mono ?_
    rintro e w6 ⟨rfl, hb6⟩
    have hbw6 := (hbw4.alloc hbw4.size _).trans (hb6.mono (by have := hbw4.size; simp; omega))
    have hcs : w6.cell? ⟨w4.heap.size, 0, none⟩ = some (.int .i64 p) ∧ w6.cell? ⟨w4.heap.size, 1, none⟩ = some (.slice d k r) := ⟨(hb6.cell (by simp)).trans (by simp), (hb6.cell (by simp)).trans (by simp)⟩
    obtain ⟨hcs0, hcs1⟩ := hcs
    have hnr : k = 0 ∧ d = none ∧ r = 0 ∧ p = z := by
      have hb' := hbig.out
      rcases hN5 with ⟨h1, h2, h3, h4, _, _⟩ | ⟨ls, _, _, _, _, _, _, _, hf⟩
      · exact ⟨h1, h2, h3, by rw [hz.out]; exact h4⟩
      · rw [← hz.out] at hf
        have : ¬ (4611686018427387904 < z ∨ z < -4611686018427387904) := by simpa using hb'.symm
        omega
    obtain ⟨e1, e2, e3, e4⟩ := hnr
    rw [e1, e2, e3] at hcs1
    rw [e4] at hcs0
    clear hN5 hN4 e1 e2 e3 e4
    go_wp2_with fail
    refine (int_near z _).mono ?_
    rintro e w7 ⟨rfl, hb7⟩
    go_wp2_with fail
    go_ret2
    exact ⟨rfl, hbw6.trans (hb7.mono hbw6.size)⟩

end Go.Proofs.YtmeaemjdmjhmdaaDoor
