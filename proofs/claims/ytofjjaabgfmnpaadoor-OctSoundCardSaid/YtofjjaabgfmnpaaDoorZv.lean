/- Zones: points of what is forgotten, assigned, joined; a copy of numbers of one's own. -/
import Derived.Test.YtofjjaabgfmnpaaDoorYs
import Derived.Test.YtofjjaabgfmnpaaDoorYv
import Derived.Test.YtofjjaabgfmnpaaDoorZr
namespace Go.Proofs.YtofjjaabgfmnpaaDoor
open Go.RowKit
set_option linter.unusedVariables false

set_option maxHeartbeats 400000 in
theorem ints_own (y : Option Addr) (k c : Nat) (p : List Int) (w : World) (hI : IntsAt w y p) (hk : Hid (k = p.length)) (hk0 : 1 ≤ k) (hk2 : k ≤ 1000) :
    Calls Tryd.prog 18 #[.slice y k c] w fun e w' => ∃ g cp, e = .returned (.slice (some ⟨g, 0, none⟩) k cp) ∧ w.heap.size ≤ g ∧ IntsAt w' (some ⟨g, 0, none⟩) p ∧ g < w'.heap.size ∧ (∀ o, w'.frozen? ⟨g, o, none⟩ = false) ∧ Below w.heap.size w w' := by
  obtain ⟨i0, hi, hz0, hz1, hz2⟩ := info_parts Tryd.infoInt
  rcases hI with rfl | ⟨b, off, rfl, hlt, hc⟩
  · have := hk.out; simp at this; omega
  go_enter Tryd.func18, Tryd.ntmps18
  go_wp2_with (at_builtin; refine wpList_append_own _ rfl _ _ 25 rfl w.heap.size 3 i0 (.int .i64 0) 1 8 Tryd.underlying25 hi hz0 hz1 hz2 rfl (by decide) _ _ _ rfl (World.ownsRow_nil _ _ _ _) ⟨b, off, none⟩ k c (p.map (Value.int .i64)) rfl (by rw [List.length_map, ← hk.out, Nat.mul_one]) (news_ints hc) (ints_oneCell _ _) (by unfold maxLen; omega) (by omega) (Nat.le_refl _) ?_)
  intro v' w1 hown hgrow _
  obtain ⟨g, cp, rfl, hg, hI1⟩ := own_form (l := p) hown (by omega)
  have hfr := hown.frozenAt
  have hgl := (hown.lt g (by simp [Value.ownBlock])).2
  go_wp2_with fail
  go_ret
  exact ⟨g, cp, rfl, hg, hI1, hgl, hfr, (Below.refl _ _).grown hgrow (Nat.le_refl _) (fun j hj => by cases hj)⟩
theorem IntsAt.set {w : World} {g k : Nat} {p : List Int} (h : IntsAt w (some ⟨g, 0, none⟩) p) (hk : k < p.length) (c : Int) : IntsAt (w.setCell ⟨g, k, none⟩ (.int .i64 c)) (some ⟨g, 0, none⟩) (p.set k c) := by
  rcases h with h | ⟨b, off, e, hlt, hc⟩
  · subst h; simp at hk
  · obtain ⟨rfl, rfl⟩ : g = b ∧ 0 = off := by simpa using e
    refine .inr ⟨g, 0, rfl, by simpa [World.setCell] using hlt, fun i hi => ?_⟩
    rw [List.length_set] at hi
    have h1 := hc i hi
    rw [Nat.zero_add] at h1 ⊢
    by_cases ei : i = k
    · subst ei
      have h2 : (p.set i c).getD i 0 = c := by simp [hi]
      rw [h2]
      apply World.cell?_setCell_same
      exact h1
    · have h2 : (p.set k c).getD i 0 = p.getD i 0 := by simp only [List.getD_eq_getElem?_getD]; rw [List.getElem?_set_ne (fun h => ei h.symm)]
      rw [h2]
      have h3 : (w.setCell ⟨g, k, none⟩ (.int .i64 c)).cell? ⟨g, i, none⟩ = w.cell? ⟨g, i, none⟩ := by
        apply World.cell?_setCell_other
        intro h; apply ei; cases h; rfl
      rw [h3]; exact h1

end Go.Proofs.YtofjjaabgfmnpaaDoor
