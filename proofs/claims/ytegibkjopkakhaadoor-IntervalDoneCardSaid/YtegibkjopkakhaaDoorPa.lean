/- The program's ends of intervals: its small functions. -/
import Derived.Test.YtegibkjopkakhaaDoorGd
namespace Go.Proofs.YtegibkjopkakhaaDoor
open Go.RowKit

theorem ret_ends {p q p' q' : Int} (h1 : p = p') (h2 : q = q') : Ending.returned (Value.agg #[Value.int .i64 (p), Value.int .i64 (q)]) = .returned (Value.agg #[Value.int .i64 (p'), Value.int .i64 (q')]) := by rw [h1, h2]

set_option maxHeartbeats 400000 in
theorem pfar_any (n : Int) (w : World) :
    Calls Tryd.prog 51 #[.int .i64 n] w fun e w' => e = .returned (.bool (farB n 1099511627776)) ∧ w' = w := by
  go_enter Tryd.func51, Tryd.ntmps51
  go_wp2
  all_goals
    go_ret
    exact ⟨ret_bool (by grind [farB]), rfl⟩

set_option maxHeartbeats 400000 in
theorem isNone_any (p q : Int) (w : World) :
    Calls Tryd.prog 44 #[(Value.agg #[Value.int .i64 (p), Value.int .i64 (q)])] w fun e w' => e = .returned (.bool (decide (q < p))) ∧ Below w.heap.size w w' := by
  go_enter Tryd.func44, Tryd.ntmps44
  go_wp2
  all_goals
    go_ret
    exact ⟨ret_bool (by grind), by (repeat' (first | exact Below.refl _ _ | refine Below.setCell ?_ (by first | (simp; done) | (simp; omega)) _ | refine Below.alloc ?_ (by first | (simp; done) | (simp; omega)) _ | refine Below.drew ?_))⟩

set_option maxHeartbeats 400000 in
theorem nothing_any (w : World) :
    Calls Tryd.prog 48 #[] w fun e w' => e = .returned (Value.agg #[Value.int .i64 (9223372036854775807), Value.int .i64 (-9223372036854775807)]) ∧ Below w.heap.size w w' := by
  go_enter Tryd.func48, Tryd.ntmps48
  go_wp2
  all_goals
    refine bodyPost_ret (v := (Value.agg #[Value.int .i64 (9223372036854775807), Value.int .i64 (-9223372036854775807)])) ?_ rfl ⟨rfl, ?_⟩
    · simp [results, Tryd.results48, go_sem]
    · (repeat' (first | exact Below.refl _ _ | refine Below.setCell ?_ (by first | (simp; done) | (simp; omega)) _ | refine Below.alloc ?_ (by first | (simp; done) | (simp; omega)) _ | refine Below.drew ?_))

set_option maxHeartbeats 400000 in
theorem ejoin_any (p q p' q' : Int) (w : World) :
    Calls Tryd.prog 37 #[(Value.agg #[Value.int .i64 (p), Value.int .i64 (q)]), (Value.agg #[Value.int .i64 (p'), Value.int .i64 (q')])] w fun e w' => e = .returned (Value.agg #[Value.int .i64 (min p p'), Value.int .i64 (max q q')]) ∧ Below w.heap.size w w' := by
  go_enter Tryd.func37, Tryd.ntmps37
  go_wp2
  all_goals
    refine bodyPost_ret (v := (Value.agg #[Value.int .i64 (min p p'), Value.int .i64 (max q q')])) ?_ rfl ⟨rfl, ?_⟩
    · simp [results, Tryd.results37, go_sem]
      try omega
    · (repeat' (first | exact Below.refl _ _ | refine Below.setCell ?_ (by first | (simp; done) | (simp; omega)) _ | refine Below.alloc ?_ (by first | (simp; done) | (simp; omega)) _ | refine Below.drew ?_))

set_option maxHeartbeats 1000000 in
theorem endsOf_any (d u : Bool) (lo hi : Int) (w : World) :
    Calls Tryd.prog 52 #[(.agg #[.bool d, .bool u, .int .i64 lo, .int .i64 hi])] w fun e w' => e = .returned (Value.agg #[Value.int .i64 (eLo ⟨d, u, lo, hi⟩), Value.int .i64 (eHi ⟨d, u, lo, hi⟩)]) ∧ Below w.heap.size w w' := by
  cases d <;> cases u
  all_goals
    go_enter Tryd.func52, Tryd.ntmps52
    go_wp2
    all_goals
      refine bodyPost_ret ?_ rfl ⟨rfl, ?_⟩
      · simp [results, Tryd.results52, go_sem, eLo, eHi]
      · (repeat' (first | exact Below.refl _ _ | refine Below.setCell ?_ (by first | (simp; done) | (simp; omega)) _ | refine Below.alloc ?_ (by first | (simp; done) | (simp; omega)) _ | refine Below.drew ?_))

set_option maxHeartbeats 1000000 in
theorem told_any (p q : Int) (w : World) :
    Calls Tryd.prog 45 #[(Value.agg #[Value.int .i64 (p), Value.int .i64 (q)])] w fun e w' => e = .returned (told p q).v ∧ Below w.heap.size w w' := by
  by_cases h1 : p < -1099511627776 <;> by_cases h2 : 1099511627776 < q
  all_goals
    go_enter Tryd.func45, Tryd.ntmps45
    go_wp2
    all_goals
      refine bodyPost_ret (v := (told p q).v) ?_ rfl ⟨rfl, ?_⟩
      · simp [results, Tryd.results45, go_sem, told, Iv.v, h1, h2]
        try grind
      · (repeat' (first | exact Below.refl _ _ | refine Below.setCell ?_ (by first | (simp; done) | (simp; omega)) _ | refine Below.alloc ?_ (by first | (simp; done) | (simp; omega)) _ | refine Below.drew ?_))

set_option maxHeartbeats 400000 in
theorem isFar_any (n : Int) (w : World) :
    Calls Tryd.prog 53 #[.int .i64 n] w fun e w' => e = .returned (.bool (decide (n = 9223372036854775807 ∨ n = -9223372036854775807))) ∧ w' = w := by
  go_enter Tryd.func53, Tryd.ntmps53
  go_wp2
  all_goals
    go_ret
    exact ⟨ret_bool (by grind), rfl⟩

set_option maxHeartbeats 400000 in
theorem sum_any (x y : Int) (w : World) (h1 : x = 9223372036854775807 ∨ x = -9223372036854775807 ∨ (-4611686018427387904 ≤ x ∧ x ≤ 4611686018427387903)) (h2 : y = 9223372036854775807 ∨ y = -9223372036854775807 ∨ (-4611686018427387904 ≤ y ∧ y ≤ 4611686018427387903)) :
    Calls Tryd.prog 40 #[.int .i64 x, .int .i64 y] w fun e w' => e = .returned (.int .i64 (sumE x y)) ∧ w' = w := by
  by_cases g1 : x = 9223372036854775807 ∨ x = -9223372036854775807
  · go_enter Tryd.func40, Tryd.ntmps40
    go_wp2_with (go_at_call 53; refine (isFar_any _ _).mono ?_; rintro e w' ⟨rfl, rfl⟩; rw [decide_eq_true g1])
    all_goals
      go_ret
      exact ⟨ret_int (by unfold sumE; rw [if_pos g1]), rfl⟩
  · by_cases g2 : y = 9223372036854775807 ∨ y = -9223372036854775807
    · go_enter Tryd.func40, Tryd.ntmps40
      go_wp2_with (go_at_call 53; refine (isFar_any _ _).mono ?_; rintro e w' ⟨rfl, rfl⟩; first | rw [decide_eq_false g1] | rw [decide_eq_true g2])
      all_goals
        go_ret
        exact ⟨ret_int (by unfold sumE; rw [if_neg g1, if_pos g2]), rfl⟩
    · have hb : (-9223372036854775808 ≤ x + y ∧ x + y ≤ 9223372036854775807) := by omega
      go_enter Tryd.func40, Tryd.ntmps40
      go_wp2_with (go_at_call 53; refine (isFar_any _ _).mono ?_; rintro e w' ⟨rfl, rfl⟩; first | rw [decide_eq_false g1] | rw [decide_eq_false g2])
      all_goals
        go_ret
        exact ⟨ret_int (by unfold sumE; rw [if_neg g1, if_neg g2]; try omega), rfl⟩

set_option maxHeartbeats 400000 in
theorem opposite_any (p q : Int) (w : World) (h1 : (-9223372036854775807 ≤ p ∧ p ≤ 9223372036854775807)) (h2 : (-9223372036854775807 ≤ q ∧ q ≤ 9223372036854775807)) :
    Calls Tryd.prog 41 #[(Value.agg #[Value.int .i64 (p), Value.int .i64 (q)])] w fun e w' => e = .returned (Value.agg #[Value.int .i64 (-q), Value.int .i64 (-p)]) ∧ Below w.heap.size w w' := by
  obtain ⟨h3, h4⟩ := h1
  obtain ⟨h5, h6⟩ := h2
  go_enter Tryd.func41, Tryd.ntmps41
  go_wp2
  all_goals
    refine bodyPost_ret (v := (Value.agg #[Value.int .i64 (-q), Value.int .i64 (-p)])) ?_ rfl ⟨rfl, ?_⟩
    · simp [results, Tryd.results41, go_sem]
      try omega
    · (repeat' (first | exact Below.refl _ _ | refine Below.setCell ?_ (by first | (simp; done) | (simp; omega)) _ | refine Below.alloc ?_ (by first | (simp; done) | (simp; omega)) _ | refine Below.drew ?_))

end Go.Proofs.YtegibkjopkakhaaDoor
