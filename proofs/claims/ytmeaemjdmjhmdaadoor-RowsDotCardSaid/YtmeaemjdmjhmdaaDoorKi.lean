/- The copy of a list; the closed fact; the statement's own walk. -/
import Derived.Test.YtmeaemjdmjhmdaaDoorKh
import Derived.Test.YtmeaemjdmjhmdaaDoorEc
namespace Go.Proofs.YtmeaemjdmjhmdaaDoor
open Go.RowKit

set_option maxHeartbeats 1000000 in
theorem halves_true (w : World) :
    Calls Tryd.prog 4 #[] w fun e w' => e = .returned (.bool true) ∧ Below w.heap.size w w' := by
  go_enter Tryd.func4, Tryd.ntmps4
  go_wp2_with fail
  refine (normal_near (some ⟨w.heap.size, 0, none⟩) 2 [4, 6] _ (.inr ⟨w.heap.size, 0, rfl, by simp, ?_⟩) ?_ (by simp)).mono ?_
  · intro i hi
    match i, hi with
    | 0, _ => simp
    | 1, _ => simp
  · intro x hx; simp at hx; omega
  rintro e w1 ⟨g1, rfl, hg1, hI1, hb1⟩
  have hl : ([4, 6] : List Int).map (·.tdiv (gcdL [4, 6])) = [2, 3] := by decide
  rw [hl] at hI1
  go_wp2_with fail
  refine (sameInts_any _ _ 2 2 2 2 [2, 3] [2, 3] _ (hI1.below ((Below.refl _ _).alloc (Nat.le_refl _) _)) (.inr ⟨w1.heap.size, 0, rfl, by simp, ?_⟩) rfl rfl (by omega)).mono ?_
  · intro i hi
    match i, hi with
    | 0, _ => simp
    | 1, _ => simp
  rintro e w2 ⟨rfl, hb2⟩
  go_wp2_with fail
  go_ret
  have hs1 := hb1.size
  simp at hs1
  exact ⟨by simp, (((Below.refl _ _).alloc (Nat.le_refl _) _).trans (hb1.mono (by simp))).trans ((((Below.refl _ _).alloc (by omega) _).trans (hb2.mono (by simp; omega))))⟩

theorem large_as (a : Option Addr) (n c : Nat) (l : List Int) (bo : Bool) (w : World) (hA : IntsAt w a l) (hl : Hid (n = l.length)) (hbo : Hid (largeB l = bo)) (hn : n ≤ 4611686018427387903) :
    Calls Tryd.prog 8 #[.slice a n c] w fun e w' => e = .returned (.bool bo) ∧ Below w.heap.size w w' := by
  have h := hl.out
  subst h
  rw [← hbo.out]; exact large_any a c l w hA hn

theorem normal_as (a : Option Addr) (n c : Nat) (l : List Int) (w : World) (hA : IntsAt w a l) (hl : Hid (n = l.length)) (hf : Fits l) (hn : n ≤ 4398046511104) :
    Calls Tryd.prog 10 #[.slice a n c] w fun e w' => ∃ g, e = .returned (.slice (some ⟨g, 0, none⟩) n n) ∧ w.heap.size ≤ g ∧ IntsAt w' (some ⟨g, 0, none⟩) (l.map (·.tdiv (gcdL l))) ∧ Below w.heap.size w w' := by
  have h := hl.out
  subst h
  exact normal_near a c l w hA hf hn

end Go.Proofs.YtmeaemjdmjhmdaaDoor
