/- The program's Within; the closed sentence of the statements. -/
import Derived.Test.YtegibkjopkakhaaDoorPk
namespace Go.Proofs.YtegibkjopkakhaaDoor
open Go.RowKit

theorem ret_bv {b c : Bool} {v v' : Value} (h : b = c) (k : v = v') : Ending.returned (.tuple #[.bool b, v]) = .returned (.tuple #[.bool c, v']) := by rw [h, k]

set_option maxRecDepth 20000 in
set_option maxHeartbeats 2000000 in
theorem within_is (a : Nat → Addr) : WithinC a := by
  intro d u d' u' lo hi lo' hi' w hS _ _
  by_cases hE : twoErr ⟨d, u, lo, hi⟩ ⟨d', u', lo', hi'⟩ = 0
  · obtain ⟨kA, kB⟩ := (twoErr_ok _ _).1 hE
    have hB := fun W h => both_ok d u d' u' lo hi lo' hi' a W h hE
    rw [hE, inside_iff kA kB]
    have HB := hide hB
    clear hB kA kB hE
    generalize eLo ⟨d, u, lo, hi⟩ = x0 at *
    generalize eHi ⟨d, u, lo, hi⟩ = x1 at *
    generalize eLo ⟨d', u', lo', hi'⟩ = y0 at *
    generalize eHi ⟨d', u', lo', hi'⟩ = y1 at *
    go_enter Tryd.func25, Tryd.ntmps25
    go_wp2_with fail
    have s0 := ((St.startE hS).box4 23 (.bool d) (.bool u) (.int .i64 lo) (.int .i64 hi)).box4 23 (.bool d') (.bool u') (.int .i64 lo') (.int .i64 hi')
    simp only [allocSize] at s0
    refine (HB.out _ s0.errz).mono ?_
    rintro e w1 ⟨rfl, hb1⟩
    have s1 := s0.call hb1
    clear hb1 s0
    go_wp2_with fail
    all_goals
      go_ret2
      exact ⟨ret_bv (by simp; try grind) rfl, ((s1.alloc _).alloc _).bel⟩
  · have hB := fun W h => both_err d u d' u' lo hi lo' hi' a W h hE
    have HB := hide hB
    rw [decide_eq_false hE, Bool.false_and]
    rw [errV_some hE] at HB ⊢
    clear hB
    generalize (twoErr ⟨d, u, lo, hi⟩ ⟨d', u', lo', hi'⟩).toNat - 1 = k at *
    go_enter Tryd.func25, Tryd.ntmps25
    go_wp2_with fail
    have s0 := ((St.startE hS).box4 23 (.bool d) (.bool u) (.int .i64 lo) (.int .i64 hi)).box4 23 (.bool d') (.bool u') (.int .i64 lo') (.int .i64 hi')
    simp only [allocSize] at s0
    refine (HB.out _ s0.errz).mono ?_
    rintro e w1 ⟨rfl, hb1⟩
    have s1 := s0.call hb1
    clear hb1 s0
    go_wp2_with fail
    all_goals
      go_ret2
      exact ⟨rfl, ((s1.alloc _).alloc _).bel⟩

theorem sums_1234 : LeastOf (sums ⟨false, false, 1, 2⟩ ⟨false, false, 3, 4⟩) ⟨false, false, 4, 6⟩ := by
  refine ⟨by simp [okI], ?_, fun h => (by cases h), fun _ => ⟨6, ⟨2, 4, by simp [inI], by simp [inI], rfl⟩, .inl rfl⟩, fun h => (by cases h), fun _ => ⟨4, ⟨1, 3, by simp [inI], by simp [inI], rfl⟩, .inl rfl⟩⟩
  rintro n ⟨x, y, hx, hy, rfl⟩
  simp [inI] at hx hy ⊢
  omega

set_option maxRecDepth 20000 in
set_option maxHeartbeats 2000000 in
theorem three_is (a : Nat → Addr) : ThreeC a := by
  intro w hS
  have hA : ∀ W : World, ErrS W a → Calls Tryd.prog 9 #[(.agg #[.bool false, .bool false, .int .i64 1, .int .i64 2]), (.agg #[.bool false, .bool false, .int .i64 3, .int .i64 4])] W fun e w' => e = .returned (.tuple #[(.agg #[.bool false, .bool false, .int .i64 4, .int .i64 6]), .nilIface]) ∧ Below W.heap.size W w' := by
    intro W h
    refine ((add_is a).good false false false false 1 2 3 4 (by simp [okI]) (by simp [okI]) W h).mono ?_
    rintro e w' ⟨rd, ru, rl, rh, rfl, L, hb⟩
    have := L.unique sums_1234 (fun _ => Iff.rfl)
    cases this
    exact ⟨rfl, hb⟩
  have HA := hide hA
  have hE := fun W => eqIv false false false false 4 6 4 6 W
  clear hA
  go_enter Tryd.func7, Tryd.ntmps7
  go_wp2_with fail
  refine (HA.out _ hS).mono ?_
  rintro e w1 ⟨rfl, hb1⟩
  have s1 := (St.startE hS).call hb1
  clear hb1
  go_wp2_with fail
  all_goals
    go_ret
    exact ⟨ret_bool (by simp), (s1.alloc _).bel⟩

theorem valid_is (a : Nat → Addr) (d u : Bool) (lo hi : Int) (w : World) (hS : ErrS w a) : Calls Tryd.prog 36 #[(.agg #[.bool d, .bool u, .int .i64 lo, .int .i64 hi])] w fun e w' => e = .returned (errV a (ivErr d u lo hi)) ∧ Below w.heap.size w w' := valid_any d u lo hi a w hS
end Go.Proofs.YtegibkjopkakhaaDoor
