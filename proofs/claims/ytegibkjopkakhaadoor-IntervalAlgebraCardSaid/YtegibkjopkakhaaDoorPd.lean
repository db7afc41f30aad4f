/- The program's intervals: both by their ends. -/
import Derived.Test.YtegibkjopkakhaaDoorPc
import Derived.Deep.RegionWith
namespace Go.Proofs.YtegibkjopkakhaaDoor
open Go.RowKit

set_option maxRecDepth 20000 in
set_option maxHeartbeats 4000000 in
theorem both_ok (d u d' u' : Bool) (lo hi lo' hi' : Int) (a : Nat → Addr) (w : World) (hS : ErrS w a) (hE : twoErr ⟨d, u, lo, hi⟩ ⟨d', u', lo', hi'⟩ = 0) :
    Calls Tryd.prog 39 #[(.agg #[.bool d, .bool u, .int .i64 lo, .int .i64 hi]), (.agg #[.bool d', .bool u', .int .i64 lo', .int .i64 hi'])] w fun e w' => e = .returned (.tuple #[(Value.agg #[Value.int .i64 (eLo ⟨d, u, lo, hi⟩), Value.int .i64 (eHi ⟨d, u, lo, hi⟩)]), (Value.agg #[Value.int .i64 (eLo ⟨d', u', lo', hi'⟩), Value.int .i64 (eHi ⟨d', u', lo', hi'⟩)]), .nilIface]) ∧ Below w.heap.size w w' := by
  have h1 : ivErr d u lo hi = 0 := by unfold twoErr at hE; dsimp only at hE; split at hE <;> assumption
  have h2 : ivErr d' u' lo' hi' = 0 := by unfold twoErr at hE; dsimp only at hE; rw [if_pos h1] at hE; exact hE
  have hV1 : ∀ W : World, ErrS W a → Calls Tryd.prog 36 #[(.agg #[.bool d, .bool u, .int .i64 lo, .int .i64 hi])] W fun e w' => e = .returned .nilIface ∧ Below W.heap.size W w' := fun W h => by have := valid_any d u lo hi a W h; rw [h1] at this; exact this
  have hV2 : ∀ W : World, ErrS W a → Calls Tryd.prog 36 #[(.agg #[.bool d', .bool u', .int .i64 lo', .int .i64 hi'])] W fun e w' => e = .returned .nilIface ∧ Below W.heap.size W w' := fun W h => by have := valid_any d' u' lo' hi' a W h; rw [h2] at this; exact this
  have HV1 := hide hV1
  have HV2 := hide hV2
  obtain ⟨x0, hx0⟩ : ∃ x, x = eLo ⟨d, u, lo, hi⟩ := ⟨_, rfl⟩
  obtain ⟨x1, hx1⟩ : ∃ x, x = eHi ⟨d, u, lo, hi⟩ := ⟨_, rfl⟩
  obtain ⟨y0, hy0⟩ : ∃ x, x = eLo ⟨d', u', lo', hi'⟩ := ⟨_, rfl⟩
  obtain ⟨y1, hy1⟩ : ∃ x, x = eHi ⟨d', u', lo', hi'⟩ := ⟨_, rfl⟩
  have hE1 : ∀ W : World, Calls Tryd.prog 52 #[(.agg #[.bool d, .bool u, .int .i64 lo, .int .i64 hi])] W fun e w' => e = .returned (Value.agg #[Value.int .i64 (x0), Value.int .i64 (x1)]) ∧ Below W.heap.size W w' := fun W => by rw [hx0, hx1]; exact endsOf_any d u lo hi W
  have hE2 : ∀ W : World, Calls Tryd.prog 52 #[(.agg #[.bool d', .bool u', .int .i64 lo', .int .i64 hi'])] W fun e w' => e = .returned (Value.agg #[Value.int .i64 (y0), Value.int .i64 (y1)]) ∧ Below W.heap.size W w' := fun W => by rw [hy0, hy1]; exact endsOf_any d' u' lo' hi' W
  have HE1 := hide hE1
  have HE2 := hide hE2
  rw [← hx0, ← hx1, ← hy0, ← hy1]
  clear hx0 hx1 hy0 hy1 hE1 hE2 hV1 hV2 h1 h2 hE
  go_enter Tryd.func39, Tryd.ntmps39
  go_wp2_with fail
  have s0 := ((((St.startE hS).box4 23 (.bool d) (.bool u) (.int .i64 lo) (.int .i64 hi)).box4 23 (.bool d') (.bool u') (.int .i64 lo') (.int .i64 hi')).box2 55 (.int .i64 0) (.int .i64 0)).box2 55 (.int .i64 0) (.int .i64 0)
  simp only [allocSize] at s0
  refine (HV1.out _ s0.errz).mono ?_
  rintro e w1 ⟨rfl, hb1⟩
  have s1 := s0.call hb1
  have q1 := s1.hold
  simp only [Holds, and_true] at q1
  clear hb1 s0
  go_wp2_with fail
  refine (HV2.out _ s1.errz).mono ?_
  rintro e w2 ⟨rfl, hb2⟩
  have s2 := s1.call hb2
  clear hb2 s1 q1
  have q2 := s2.hold
  simp only [Holds, and_true] at q2
  go_wp2_with fail
  go_region_with (first
    | (go_at_call_of 52 (Value.agg #[Value.bool d, Value.bool u, Value.int IntKind.i64 lo, Value.int IntKind.i64 hi]); refine (HE1.out _).mono ?_; rintro e w3 ⟨rfl, hb3⟩; first | (have s4 := s3.call hb3; have q4 := s4.hold; simp only [Holds, and_true] at q4; clear hb3 q3) | (have s3 := s2.drew.call hb3; have q3 := s3.hold; simp only [Holds, and_true] at q3; clear hb3 q2))
    | (go_at_call_of 52 (Value.agg #[Value.bool d', Value.bool u', Value.int IntKind.i64 lo', Value.int IntKind.i64 hi']); refine (HE2.out _).mono ?_; rintro e w3 ⟨rfl, hb3⟩; first | (have s4 := s3.call hb3; have q4 := s4.hold; simp only [Holds, and_true] at q4; clear hb3 q3) | (have s3 := s2.drew.call hb3; have q3 := s3.hold; simp only [Holds, and_true] at q3; clear hb3 q2)))
  all_goals
    go_wp2_with fail
    refine bodyPost_ret (v := .tuple #[(Value.agg #[Value.int .i64 (x0), Value.int .i64 (x1)]), (Value.agg #[Value.int .i64 (y0), Value.int .i64 (y1)]), .nilIface]) ?_ rfl ⟨rfl, ?_⟩
    · simp [results, Tryd.results39, go_sem, *]
    · (repeat' (first | exact s4.bel | exact s3.bel | exact s2.bel | exact s1.bel | refine Below.setCell ?_ (by dsimp only; omega) _ | refine Below.alloc ?_ (by first | (simp; done) | (simp; omega)) _ | refine Below.drew ?_ | exact Below.refl _ _))

set_option maxRecDepth 20000 in
set_option maxHeartbeats 4000000 in
theorem both_err (d u d' u' : Bool) (lo hi lo' hi' : Int) (a : Nat → Addr) (w : World) (hS : ErrS w a) (hE : twoErr ⟨d, u, lo, hi⟩ ⟨d', u', lo', hi'⟩ ≠ 0) :
    Calls Tryd.prog 39 #[(.agg #[.bool d, .bool u, .int .i64 lo, .int .i64 hi]), (.agg #[.bool d', .bool u', .int .i64 lo', .int .i64 hi'])] w fun e w' => e = .returned (.tuple #[(Value.agg #[Value.int .i64 (0), Value.int .i64 (0)]), (Value.agg #[Value.int .i64 (0), Value.int .i64 (0)]), errV a (twoErr ⟨d, u, lo, hi⟩ ⟨d', u', lo', hi'⟩)]) ∧ Below w.heap.size w w' := by
  obtain ⟨x, hx⟩ : ∃ x, x = ivErr d u lo hi := ⟨_, rfl⟩
  obtain ⟨y, hy⟩ : ∃ x, x = ivErr d' u' lo' hi' := ⟨_, rfl⟩
  have hV1 : ∀ W : World, ErrS W a → Calls Tryd.prog 36 #[(.agg #[.bool d, .bool u, .int .i64 lo, .int .i64 hi])] W fun e w' => e = .returned (errV a x) ∧ Below W.heap.size W w' := fun W h => by rw [hx]; exact valid_any d u lo hi a W h
  have hV2 : ∀ W : World, ErrS W a → Calls Tryd.prog 36 #[(.agg #[.bool d', .bool u', .int .i64 lo', .int .i64 hi'])] W fun e w' => e = .returned (errV a y) ∧ Below W.heap.size W w' := fun W h => by rw [hy]; exact valid_any d' u' lo' hi' a W h
  have HV1 := hide hV1
  have HV2 := hide hV2
  have hT : twoErr ⟨d, u, lo, hi⟩ ⟨d', u', lo', hi'⟩ = if x = 0 then y else x := by unfold twoErr; dsimp only; rw [hx, hy]
  rw [hT] at hE ⊢
  clear hx hy hV1 hV2 hT
  by_cases h0 : x = 0
  · rw [if_pos h0] at hE ⊢
    subst h0
    rw [errV_some hE]
    go_enter Tryd.func39, Tryd.ntmps39
    go_wp2_with fail
    have s0 := ((((St.startE hS).box4 23 (.bool d) (.bool u) (.int .i64 lo) (.int .i64 hi)).box4 23 (.bool d') (.bool u') (.int .i64 lo') (.int .i64 hi')).box2 55 (.int .i64 0) (.int .i64 0)).box2 55 (.int .i64 0) (.int .i64 0)
    simp only [allocSize] at s0
    refine (HV1.out _ s0.errz).mono ?_
    rintro e w1 ⟨rfl, hb1⟩
    rw [errV_zero]
    have s1 := s0.call hb1
    have q1 := s1.hold
    simp only [Holds, and_true] at q1
    clear hb1 s0
    go_wp2_with fail
    refine (HV2.out _ s1.errz).mono ?_
    rintro e w2 ⟨rfl, hb2⟩
    rw [errV_some hE]
    have s2 := s1.call hb2
    clear hb2 s1 q1
    have q2 := s2.hold
    simp only [Holds, and_true] at q2
    go_wp2_with fail
    refine bodyPost_ret (v := .tuple #[(Value.agg #[Value.int .i64 (0), Value.int .i64 (0)]), (Value.agg #[Value.int .i64 (0), Value.int .i64 (0)]), .iface 103 (.pointer (some (a (y.toNat - 1))))]) ?_ rfl ⟨rfl, ?_⟩
    · simp [results, Tryd.results39, go_sem, *]
    · (repeat' (first | exact s4.bel | exact s3.bel | exact s2.bel | exact s1.bel | refine Below.setCell ?_ (by dsimp only; omega) _ | refine Below.alloc ?_ (by first | (simp; done) | (simp; omega)) _ | refine Below.drew ?_ | exact Below.refl _ _))
  · rw [if_neg h0] at hE ⊢
    rw [errV_some hE]
    go_enter Tryd.func39, Tryd.ntmps39
    go_wp2_with fail
    have s0 := ((((St.startE hS).box4 23 (.bool d) (.bool u) (.int .i64 lo) (.int .i64 hi)).box4 23 (.bool d') (.bool u') (.int .i64 lo') (.int .i64 hi')).box2 55 (.int .i64 0) (.int .i64 0)).box2 55 (.int .i64 0) (.int .i64 0)
    simp only [allocSize] at s0
    refine (HV1.out _ s0.errz).mono ?_
    rintro e w1 ⟨rfl, hb1⟩
    rw [errV_some hE]
    have s1 := s0.call hb1
    have q1 := s1.hold
    simp only [Holds, and_true] at q1
    clear hb1 s0
    go_wp2_with fail
    refine bodyPost_ret (v := .tuple #[(Value.agg #[Value.int .i64 (0), Value.int .i64 (0)]), (Value.agg #[Value.int .i64 (0), Value.int .i64 (0)]), .iface 103 (.pointer (some (a (x.toNat - 1))))]) ?_ rfl ⟨rfl, ?_⟩
    · simp [results, Tryd.results39, go_sem, *]
    · (repeat' (first | exact s4.bel | exact s3.bel | exact s2.bel | exact s1.bel | refine Below.setCell ?_ (by dsimp only; omega) _ | refine Below.alloc ?_ (by first | (simp; done) | (simp; omega)) _ | refine Below.drew ?_ | exact Below.refl _ _))

end Go.Proofs.YtegibkjopkakhaaDoor
