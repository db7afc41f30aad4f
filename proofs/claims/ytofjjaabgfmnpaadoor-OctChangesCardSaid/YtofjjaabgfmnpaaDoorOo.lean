/- Octagons of no variables: the reference. -/
import Derived.Test.YtofjjaabgfmnpaaDoorOl
import Derived.Laws.AppendOwnNone
namespace Go.Proofs.YtofjjaabgfmnpaaDoor
open Go.RowKit
set_option linter.unusedVariables false

theorem Tryd.infoCellZ : (Tryd.prog.info? 69).map (fun i => (i.zero, i.size, i.bytes)) = some (some (.agg #[.bool false, .int .i64 0]), 2, 16) := by kernel_rfl
set_option maxHeartbeats 1000000 in
theorem clip_nil (x : Option Addr) (c : Nat) (w : World) : Calls Tryd.prog 63 #[.slice x 0 c] w fun e w' => e = .returned (.tuple #[]) ∧ w' = w := by
  go_enter Tryd.func63, Tryd.ntmps63
  go_wp2_with fail
  refine wp_loop_rounds 1 ?_
  rw [rounds_succ]
  go_wp2_with fail
  refine bodyPost_end (v := .tuple #[]) (by simp [results, Tryd.results63, go_sem]) rfl ⟨rfl, rfl⟩
/-- What is told of an octagon of no variables. -/
def Co0 (W : World) (e : Ending) (w' : World) : Prop := ∃ (x5 : Option Addr) (c5 : Nat), e = .returned (.tuple #[(.agg #[.int .i64 0, (.slice x5 0 c5)]), .bool true]) ∧ Below W.heap.size W w'
set_option maxRecDepth 20000 in
set_option maxHeartbeats 4000000 in
theorem closedOct_zero (x : Option Addr) (c : Nat) (w : World) : Calls Tryd.prog 25 #[(.agg #[.int .i64 0, (.slice x 0 c)])] w fun e w' => Co0 w e w' := by
  obtain ⟨i0, hi0, hz0, hz1, hz2⟩ := info_parts Tryd.infoCellZ
  have s0 := ((St.start1' w).box2 24 (.int .i64 0) (.slice x 0 c)).box2 24 (.int .i64 0) (.slice none 0 0)
  have s1 := s0.box2 24 (.int .i64 0) (.slice none 0 0)
  simp only [World.size_alloc] at s1
  have HCl : Hid (∀ (W : World) (y : Option Addr) (cy : Nat), Calls Tryd.prog 63 #[.slice y 0 cy] W fun e w' => e = .returned (.tuple #[]) ∧ w' = W) := fun W y cy => clip_nil y cy W
  cases x with
  | none =>
    have q1 := s1.hold
    simp only [Holds, and_true] at q1
    go_enter Tryd.func25, Tryd.ntmps25
    go_wp2_with fail
    refine wp_loop_rounds 1 ?_
    rw [rounds_succ]
    go_wp2_with fail
    refine wp_loop_rounds 2 ?_
    rw [rounds_succ]
    go_wp2_with fail
    refine wp_loop_rounds 1 ?_
    rw [rounds_succ]
    go_wp2_with fail
    rw [rounds_succ]
    go_wp2_with fail
    refine (HCl.out _ _ _).mono ?_
    rintro e w2 ⟨rfl, hw2⟩
    rw [hw2]
    clear hw2
    go_wp2_with fail
    refine bodyPost_ret (v := .tuple #[(.agg #[.int .i64 0, (.slice none 0 0)]), .bool true]) (by simp [results, Tryd.results25, go_sem, *]) rfl ⟨none, 0, rfl, ?_⟩
    (repeat' (first | exact Below.refl _ _ | assumption | refine Below.setCell ?_ (by first | (simp; done) | (simp; omega)) _ | refine Below.alloc ?_ (by first | (simp; done) | (simp; omega)) _))
  | some p =>
    go_enter Tryd.func25, Tryd.ntmps25
    go_wp2_with (at_builtin; refine wpList_append_own _ rfl _ _ 22 rfl w.heap.size 69 i0 _ 2 16 Tryd.underlying22 hi0 hz0 hz1 hz2 rfl (by decide) _ _ _ rfl (World.ownsRow_nil _ _ _ _) p 0 c [] rfl (by simp) (by intro j u h; simp at h) (by simp) (by unfold maxLen; omega) (by omega) (by simp; omega) ?_)
    intro v' w1 hown hgrow hthird
    have hb1 := (Below.refl _ _).grown hgrow (Nat.le_refl _) (fun j hj => by simp [Value.ownBlock] at hj)
    have s2 := s1.call hb1
    obtain ⟨x5, c5, rfl⟩ : ∃ (x5 : Option Addr) (c5 : Nat), v' = .slice x5 0 c5 := by
      obtain ⟨h1, h2⟩ := hown
      rcases h2 with ⟨rfl, _⟩ | ⟨g, cap, cur, rfl, _⟩
      · exact ⟨none, 0, rfl⟩
      · exact ⟨_, cap, rfl⟩
    have q2 := s2.hold
    simp only [Holds, and_true] at q2
    have hbel := s2.bel
    clear hown hgrow hb1 s1 hi0 hz0 hz1 hz2 hthird
    go_wp2_with fail
    refine wp_loop_rounds 1 ?_
    rw [rounds_succ]
    go_wp2_with fail
    refine wp_loop_rounds 2 ?_
    rw [rounds_succ]
    go_wp2_with fail
    refine wp_loop_rounds 1 ?_
    rw [rounds_succ]
    go_wp2_with fail
    rw [rounds_succ]
    go_wp2_with fail
    refine (HCl.out _ _ _).mono ?_
    rintro e w2 ⟨rfl, hw2⟩
    rw [hw2]
    clear hw2
    go_wp2_with fail
    refine bodyPost_ret (v := .tuple #[(.agg #[.int .i64 0, (.slice x5 0 c5)]), .bool true]) (by simp [results, Tryd.results25, go_sem, *]) rfl ⟨x5, c5, rfl, ?_⟩
    (repeat' (first | exact Below.refl _ _ | assumption | refine Below.setCell ?_ (by first | (simp; done) | (simp; omega)) _ | refine Below.alloc ?_ (by first | (simp; done) | (simp; omega)) _))
set_option maxRecDepth 20000 in
set_option maxHeartbeats 4000000 in
theorem joinedOct_zero (x y : Option Addr) (c c' : Nat) (w : World) : Calls Tryd.prog 31 #[(.agg #[.int .i64 0, (.slice x 0 c)]), (.agg #[.int .i64 0, (.slice y 0 c')])] w fun e w' => Co0 w e w' := by
  have HC : Hid (∀ (W : World) (x : Option Addr) (c : Nat), Calls Tryd.prog 25 #[(.agg #[.int .i64 0, (.slice x 0 c)])] W fun e w' => Co0 W e w') := fun W x c => closedOct_zero x c W
  have s0 := (((St.start1' w).box2 24 (.int .i64 0) (.slice x 0 c)).box2 24 (.int .i64 0) (.slice y 0 c')).box2 24 (.int .i64 0) (.slice none 0 0)
  simp only [World.size_alloc] at s0
  have q0 := s0.hold
  simp only [Holds, and_true] at q0
  go_enter Tryd.func31, Tryd.ntmps31
  go_wp2_with fail
  refine (HC.out _ _ _).mono ?_
  rintro e w1 ⟨x5, c5, rfl, hb1⟩
  have s1 := (s0.call hb1).box2 24 (.int .i64 0) (.slice x5 0 c5)
  have q1 := s1.hold
  simp only [Holds, and_true] at q1
  clear s0 q0
  go_wp2_with fail
  refine (HC.out _ _ _).mono ?_
  rintro e w2 ⟨x6, c6, rfl, hb2⟩
  have s2 := (s1.call hb2).box2 24 (.int .i64 0) (.slice x6 0 c6)
  have q2 := s2.hold
  simp only [Holds, and_true] at q2
  have hbel := s2.bel
  clear s1 q1
  go_wp2_with fail
  refine wp_loop_rounds 1 ?_
  rw [rounds_succ]
  go_wp2_with fail
  refine bodyPost_ret (v := .tuple #[(.agg #[.int .i64 0, (.slice x5 0 c5)]), .bool true]) (by simp [results, Tryd.results31, go_sem, *]) rfl ⟨x5, c5, rfl, ?_⟩
  (repeat' (first | exact Below.refl _ _ | assumption | refine Below.setCell ?_ (by first | (simp; done) | (simp; omega)) _ | refine Below.alloc ?_ (by first | (simp; done) | (simp; omega)) _))
set_option maxRecDepth 20000 in
set_option maxHeartbeats 4000000 in
theorem octIn_zero (x y : Option Addr) (c c' : Nat) (w : World) : Calls Tryd.prog 33 #[(.agg #[.int .i64 0, (.slice x 0 c)]), (.agg #[.int .i64 0, (.slice y 0 c')])] w fun e w' => e = .returned (.bool true) ∧ Below w.heap.size w w' := by
  have HC : Hid (∀ (W : World) (x : Option Addr) (c : Nat), Calls Tryd.prog 25 #[(.agg #[.int .i64 0, (.slice x 0 c)])] W fun e w' => Co0 W e w') := fun W x c => closedOct_zero x c W
  have s0 := ((St.start1' w).box2 24 (.int .i64 0) (.slice x 0 c)).box2 24 (.int .i64 0) (.slice y 0 c')
  simp only [World.size_alloc] at s0
  have q0 := s0.hold
  simp only [Holds, and_true] at q0
  go_enter Tryd.func33, Tryd.ntmps33
  go_wp2_with fail
  refine (HC.out _ _ _).mono ?_
  rintro e w1 ⟨x5, c5, rfl, hb1⟩
  have s1 := (s0.call hb1).box2 24 (.int .i64 0) (.slice x5 0 c5)
  have q1 := s1.hold
  simp only [Holds, and_true] at q1
  clear s0 q0
  go_wp2_with fail
  refine wp_loop_rounds 1 ?_
  rw [rounds_succ]
  go_wp2_with fail
  go_ret
  exact ⟨rfl, s1.bel⟩
set_option maxRecDepth 20000 in
set_option maxHeartbeats 4000000 in
theorem metOct_zero (x y : Option Addr) (c c' : Nat) (w : World) : Calls Tryd.prog 32 #[(.agg #[.int .i64 0, (.slice x 0 c)]), (.agg #[.int .i64 0, (.slice y 0 c')])] w fun e w' => ∃ (x5 : Option Addr) (c5 : Nat), e = .returned (.agg #[.int .i64 0, (.slice x5 0 c5)]) ∧ Below w.heap.size w w' := by
  obtain ⟨i0, hi0, hz0, hz1, hz2⟩ := info_parts Tryd.infoCellZ
  have s0 := (((St.start1' w).box2 24 (.int .i64 0) (.slice x 0 c)).box2 24 (.int .i64 0) (.slice y 0 c')).box2 24 (.int .i64 0) (.slice none 0 0)
  have s1 := s0.box2 24 (.int .i64 0) (.slice none 0 0)
  simp only [World.size_alloc] at s1
  cases x with
  | none =>
    have q1 := s1.hold
    simp only [Holds, and_true] at q1
    go_enter Tryd.func32, Tryd.ntmps32
    go_wp2_with fail
    refine wp_loop_rounds 1 ?_
    rw [rounds_succ]
    go_wp2_with fail
    refine bodyPost_ret (v := (.agg #[.int .i64 0, (.slice none 0 0)])) (by simp [results, Tryd.results32, go_sem, *]) rfl ⟨none, 0, rfl, ?_⟩
    (repeat' (first | exact Below.refl _ _ | assumption | refine Below.setCell ?_ (by first | (simp; done) | (simp; omega)) _ | refine Below.alloc ?_ (by first | (simp; done) | (simp; omega)) _))
  | some p =>
    go_enter Tryd.func32, Tryd.ntmps32
    go_wp2_with (at_builtin; refine wpList_append_own _ rfl _ _ 22 rfl w.heap.size 69 i0 _ 2 16 Tryd.underlying22 hi0 hz0 hz1 hz2 rfl (by decide) _ _ _ rfl (World.ownsRow_nil _ _ _ _) p 0 c [] rfl (by simp) (by intro j u h; simp at h) (by simp) (by unfold maxLen; omega) (by omega) (by simp; omega) ?_)
    intro v' w1 hown hgrow hthird
    have hb1 := (Below.refl _ _).grown hgrow (Nat.le_refl _) (fun j hj => by simp [Value.ownBlock] at hj)
    have s2 := s1.call hb1
    obtain ⟨x5, c5, rfl⟩ : ∃ (x5 : Option Addr) (c5 : Nat), v' = .slice x5 0 c5 := by
      obtain ⟨h1, h2⟩ := hown
      rcases h2 with ⟨rfl, _⟩ | ⟨g, cap, cur, rfl, _⟩
      · exact ⟨none, 0, rfl⟩
      · exact ⟨_, cap, rfl⟩
    have q2 := s2.hold
    simp only [Holds, and_true] at q2
    have hbel := s2.bel
    clear hown hgrow hb1 s1 hi0 hz0 hz1 hz2 hthird
    go_wp2_with fail
    refine wp_loop_rounds 1 ?_
    rw [rounds_succ]
    go_wp2_with fail
    refine bodyPost_ret (v := (.agg #[.int .i64 0, (.slice x5 0 c5)])) (by simp [results, Tryd.results32, go_sem, *]) rfl ⟨x5, c5, rfl, ?_⟩
    (repeat' (first | exact Below.refl _ _ | assumption | refine Below.setCell ?_ (by first | (simp; done) | (simp; omega)) _ | refine Below.alloc ?_ (by first | (simp; done) | (simp; omega)) _))
end Go.Proofs.YtofjjaabgfmnpaaDoor
