/- Octagons of no variables: the reference. -/
import Derived.Test.YtbafkjhlogkllaaGreatDoorOl
import Derived.Laws.AppendOwnNone
namespace Go.Proofs.YtbafkjhlogkllaaGreatDoor.Oc
open Go.RowKit
set_option linter.unusedVariables false

theorem Tryz.infoCellZ : (Tryz.prog.info? 56).map (fun i => (i.zero, i.size, i.bytes)) = some (some (.agg #[.bool false, .int .i64 0]), 2, 16) := by kernel_rfl
set_option maxHeartbeats 1000000 in
theorem clip_nil (x : Option Addr) (c : Nat) (w : World) : Calls Tryz.prog 28 #[.slice x 0 c] w fun e w' => e = .returned (.tuple #[]) ∧ w' = w := by
  go_enter Tryz.func28, Tryz.ntmps28
  go_wp2_with fail
  refine wp_loop_rounds 1 ?_
  rw [rounds_succ]
  go_wp2_with fail
  refine bodyPost_end (v := .tuple #[]) (by simp [results, Tryz.results28, go_sem]) rfl ⟨rfl, rfl⟩
/-- What is told of an octagon of no variables. -/
def Co0 (W : World) (e : Ending) (w' : World) : Prop := ∃ (x5 : Option Addr) (c5 : Nat), e = .returned (.tuple #[(.agg #[.int .i64 0, (.slice x5 0 c5)]), .bool true]) ∧ Below W.heap.size W w'
set_option maxRecDepth 20000 in
set_option maxHeartbeats 4000000 in
theorem closedOct_zero (x : Option Addr) (c : Nat) (w : World) : Calls Tryz.prog 11 #[(.agg #[.int .i64 0, (.slice x 0 c)])] w fun e w' => Co0 w e w' := by
  obtain ⟨i0, hi0, hz0, hz1, hz2⟩ := info_parts Tryz.infoCellZ
  have s0 := ((St.start1' w).box2 42 (.int .i64 0) (.slice x 0 c)).box2 42 (.int .i64 0) (.slice none 0 0)
  have s1 := s0.box2 42 (.int .i64 0) (.slice none 0 0)
  simp only [World.size_alloc] at s1
  have HCl : Hid (∀ (W : World) (y : Option Addr) (cy : Nat), Calls Tryz.prog 28 #[.slice y 0 cy] W fun e w' => e = .returned (.tuple #[]) ∧ w' = W) := fun W y cy => clip_nil y cy W
  cases x with
  | none =>
    have q1 := s1.hold
    simp only [Holds, and_true] at q1
    go_enter Tryz.func11, Tryz.ntmps11
    go_wp2_with fail
    refine wp_loop_rounds 1 ?_
    rw [rounds_succ]
    go_wp2_with fail
    refine wp_loop_rounds 2 ?_
    rw [rounds_succ]
    go_wp2_with fail
    refine wp_loop_rounds 1 ?_
    rw [rounds_succ]
    go_wp2_with fail
    rw [rounds_succ]
    go_wp2_with fail
    refine (HCl.out _ _ _).mono ?_
    rintro e w2 ⟨rfl, hw2⟩
    rw [hw2]
    clear hw2
    go_wp2_with fail
    refine bodyPost_ret (v := .tuple #[(.agg #[.int .i64 0, (.slice none 0 0)]), .bool true]) (by simp [results, Tryz.results11, go_sem, *]) rfl ⟨none, 0, rfl, ?_⟩
    (repeat' (first | exact Below.refl _ _ | assumption | refine Below.setCell ?_ (by first | (simp; done) | (simp; omega)) _ | refine Below.alloc ?_ (by first | (simp; done) | (simp; omega)) _))
  | some p =>
    go_enter Tryz.func11, Tryz.ntmps11
    go_wp2_with (at_builtin; refine wpList_append_own _ rfl _ _ 22 rfl w.heap.size 56 i0 _ 2 16 Tryz.underlying22 hi0 hz0 hz1 hz2 rfl (by decide) _ _ _ rfl (World.ownsRow_nil _ _ _ _) p 0 c [] rfl (by simp) (by intro j u h; simp at h) (by simp) (by unfold maxLen; omega) (by omega) (by simp; omega) ?_)
    intro v' w1 hown hgrow hthird
    have hb1 := (Below.refl _ _).grown hgrow (Nat.le_refl _) (fun j hj => by simp [Value.ownBlock] at hj)
    have s2 := s1.call hb1
    obtain ⟨x5, c5, rfl⟩ : ∃ (x5 : Option Addr) (c5 : Nat), v' = .slice x5 0 c5 := by
      obtain ⟨h1, h2⟩ := hown
      rcases h2 with ⟨rfl, _⟩ | ⟨g, cap, cur, rfl, _⟩
      · exact ⟨none, 0, rfl⟩
      · exact ⟨_, cap, rfl⟩
    have q2 := s2.hold
    simp only [Holds, and_true] at q2
    have hbel := s2.bel
    clear hown hgrow hb1 s1 hi0 hz0 hz1 hz2 hthird
    go_wp2_with fail
    refine wp_loop_rounds 1 ?_
    rw [rounds_succ]
    go_wp2_with fail
    refine wp_loop_rounds 2 ?_
    rw [rounds_succ]
    go_wp2_with fail
    refine wp_loop_rounds 1 ?_
    rw [rounds_succ]
    go_wp2_with fail
    rw [rounds_succ]
    go_wp2_with fail
    refine (HCl.out _ _ _).mono ?_
    rintro e w2 ⟨rfl, hw2⟩
    rw [hw2]
    clear hw2
    go_wp2_with fail
    refine bodyPost_ret (v := .tuple #[(.agg #[.int .i64 0, (.slice x5 0 c5)]), .bool true]) (by simp [results, Tryz.results11, go_sem, *]) rfl ⟨x5, c5, rfl, ?_⟩
    (repeat' (first | exact Below.refl _ _ | assumption | refine Below.setCell ?_ (by first | (simp; done) | (simp; omega)) _ | refine Below.alloc ?_ (by first | (simp; done) | (simp; omega)) _))
end Go.Proofs.YtbafkjhlogkllaaGreatDoor.Oc
