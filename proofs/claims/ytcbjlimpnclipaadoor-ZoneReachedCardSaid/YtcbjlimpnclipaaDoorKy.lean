/- The copy of a list of ints. -/
import Derived.Test.YtcbjlimpnclipaaDoorKz
import Derived.Laws.AppendOwnNone
namespace Go.Proofs.YtcbjlimpnclipaaDoor
open Go.RowKit

set_option maxHeartbeats 400000 in
theorem intsCopy_some (b off c : Nat) (l : List Int) (w : World) (hc : ∀ i, i < l.length → w.cell? ⟨b, off + i, none⟩ = some (.int .i64 (l.getD i 0))) (hn : l.length ≤ 4398046511104) :
    Calls Tryd.prog 14 #[.slice (some ⟨b, off, none⟩) l.length c] w fun e w' => ∃ a cap, e = .returned (.slice a l.length cap) ∧ IntsAt w' a l ∧ Below w.heap.size w w' := by
  obtain ⟨i0, hi, hz0, hz1, hz2⟩ := info_parts Tryd.info3
  have hnews : ∀ j u, (l.map (Value.int .i64))[j]? = some u → w.cell? ((⟨b, off, none⟩ : Addr).add j) = some u := by
    intro j u hj
    have hjl : j < l.length := by
      rcases Nat.lt_or_ge j l.length with h | h
      · exact h
      · rw [List.getElem?_eq_none (by simpa using h)] at hj; cases hj
    have := hc j hjl
    have hu : u = .int .i64 (l.getD j 0) := by simp [hjl] at hj; rw [← hj]; simp [hjl]
    rw [hu, ← this]
    unfold Addr.add
    split
    · rename_i h0; subst h0; simp
    · rfl
  go_enter Tryd.func14, Tryd.ntmps14
  go_wp2_with (at_builtin; refine wpList_append_own _ rfl _ _ 25 rfl w.heap.size 3 i0 (.int .i64 0) 1 8 Tryd.underlying25 hi hz0 hz1 hz2 rfl (by decide) _ _ _ rfl (World.ownsRow_nil _ _ _ _) ⟨b, off, none⟩ l.length c (l.map (Value.int .i64)) rfl (by simp) hnews (ints_oneCell _ _) (by unfold maxLen; omega) (by omega) (Nat.le_refl _) ?_)
  intro v' w1 hown hgrow _
  obtain ⟨a, cap, rfl, hI⟩ := IntsAt_of_own hown
  go_wp2_with fail
  go_ret
  exact ⟨a, cap, rfl, hI, (Below.refl _ _).grown hgrow (Nat.le_refl _) (fun j hj => by cases hj)⟩

set_option maxHeartbeats 400000 in
theorem intsCopy_nil (c : Nat) (w : World) :
    Calls Tryd.prog 14 #[.slice none 0 c] w fun e w' => ∃ a cap, e = .returned (.slice a 0 cap) ∧ IntsAt w' a [] ∧ Below w.heap.size w w' := by
  obtain ⟨i0, hi, hz0, hz1, hz2⟩ := info_parts Tryd.info3
  go_enter Tryd.func14, Tryd.ntmps14
  go_wp2
  go_ret
  exact ⟨none, 0, rfl, .inl rfl, Below.refl _ _⟩

set_option maxHeartbeats 400000 in
theorem intsCopy_empty (x : Addr) (c : Nat) (w : World) :
    Calls Tryd.prog 14 #[.slice (some x) 0 c] w fun e w' => ∃ a cap, e = .returned (.slice a 0 cap) ∧ IntsAt w' a [] ∧ Below w.heap.size w w' := by
  obtain ⟨i0, hi, hz0, hz1, hz2⟩ := info_parts Tryd.info3
  go_enter Tryd.func14, Tryd.ntmps14
  go_wp2_with (at_builtin; refine wpList_append_own _ rfl _ _ 25 rfl w.heap.size 3 i0 (.int .i64 0) 1 8 Tryd.underlying25 hi hz0 hz1 hz2 rfl (by decide) _ _ _ rfl (World.ownsRow_nil _ _ _ _) x 0 c (([] : List Int).map (Value.int .i64)) rfl (by simp) (by intro j u h; simp at h) (by simp) (by unfold maxLen; omega) (by omega) (Nat.le_refl _) ?_)
  intro v' w1 hown hgrow _
  obtain ⟨a, cap, hv, hI⟩ := IntsAt_of_own (l := []) (by simpa using hown)
  rw [hv]
  go_wp2_with fail
  go_ret
  exact ⟨_, _, rfl, .inl rfl, (Below.refl _ _).grown hgrow (Nat.le_refl _) (fun j hj => by cases hj)⟩

theorem intsCopy_any (a : Option Addr) (c : Nat) (l : List Int) (w : World) (hA : IntsAt w a l) (hn : l.length ≤ 4398046511104) :
    Calls Tryd.prog 14 #[.slice a l.length c] w fun e w' => ∃ a' cap, e = .returned (.slice a' l.length cap) ∧ IntsAt w' a' l ∧ Below w.heap.size w w' := by
  rcases hA with rfl | ⟨b, off, rfl, hb, hc⟩
  · cases a with
    | none => exact intsCopy_nil c w
    | some x => exact intsCopy_empty x c w
  · exact intsCopy_some b off c l w hc hn

theorem intsCopy_as (a : Option Addr) (n c : Nat) (l : List Int) (w : World) (hA : IntsAt w a l) (hl : Hid (n = l.length)) (hn : n ≤ 4398046511104) :
    Calls Tryd.prog 14 #[.slice a n c] w fun e w' => ∃ a' cap, e = .returned (.slice a' n cap) ∧ IntsAt w' a' l ∧ Below w.heap.size w w' := by
  have h := hl.out
  subst h
  exact intsCopy_any a c l w hA hn

end Go.Proofs.YtcbjlimpnclipaaDoor
