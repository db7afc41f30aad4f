/- The program's ends of intervals: products, quotients, what two have together. -/
import Derived.Test.YtegibkjopkakhaaDoorPa
import Derived.Test.YtegibkjopkakhaaDoorKu
namespace Go.Proofs.YtegibkjopkakhaaDoor
open Go.RowKit

theorem wrapIn (n : Int) (h : -9223372036854775808 ≤ n ∧ n ≤ 9223372036854775807) : wrap64 n = n := by unfold wrap64; omega

/-- A product that is not too great, by a quotient. -/
theorem le_quo {x y : Int} (hy : 0 < y) : x ≤ 1099511627776 / y ↔ x * y ≤ 1099511627776 := Int.le_ediv_iff_mul_le hy

theorem le_quo_neg {x y : Int} (hy : y < 0) : x ≤ wrap64 (-Int.tdiv 1099511627776 y) ↔ -(x * y) ≤ 1099511627776 := by
  have e : -Int.tdiv 1099511627776 y = 1099511627776 / -y := by rw [← Int.tdiv_neg, Int.tdiv_eq_ediv_of_nonneg (by omega)]
  have n : 0 ≤ 1099511627776 / -y := Int.ediv_nonneg (by omega) (by omega)
  have m : 1099511627776 / -y ≤ 1099511627776 := Int.ediv_le_self _ (by omega)
  rw [e, wrapIn _ (by omega), le_quo (by omega), Int.mul_neg]
theorem clip_in {z : Int} (h1 : -1099511627776 ≤ z) (h2 : z ≤ 1099511627776) : clipE z = z := by unfold clipE; rw [if_neg (by omega), if_neg (by omega)]
theorem clip_hi {z : Int} (h1 : 1099511627776 < z) : clipE z = 9223372036854775807 := by unfold clipE; rw [if_neg (by omega), if_pos h1]
theorem clip_lo {z : Int} (h1 : z < -1099511627776) : clipE z = -9223372036854775807 := by unfold clipE; rw [if_pos h1]

set_option maxHeartbeats 1000000 in
theorem product_any (x y : Int) (w : World) (h1 : (-9223372036854775807 ≤ x ∧ x ≤ 9223372036854775807)) (h2 : (-9223372036854775807 ≤ y ∧ y ≤ 9223372036854775807)) :
    Calls Tryd.prog 43 #[.int .i64 x, .int .i64 y] w fun e w' => e = .returned (.int .i64 (clipE (x * y))) ∧ w' = w := by
  obtain ⟨h3, h4⟩ := h1
  obtain ⟨h5, h6⟩ := h2
  by_cases hx : x = 0
  · subst hx
    go_enter Tryd.func43, Tryd.ntmps43
    go_wp2
    all_goals
      go_ret
      exact ⟨ret_int (by rw [Int.zero_mul]; rfl), rfl⟩
  · by_cases hy : y = 0
    · subst hy
      go_enter Tryd.func43, Tryd.ntmps43
      go_wp2
      all_goals
        go_ret
        exact ⟨ret_int (by rw [Int.mul_zero]; rfl), rfl⟩
    · rcases (by omega : 0 < x ∨ x < 0) with sx | sx <;> rcases (by omega : 0 < y ∨ y < 0) with sy | sy
      · have L := hide (le_quo (x := x) sy)
        have P := hide (Int.mul_pos sx sy)
        go_enter Tryd.func43, Tryd.ntmps43
        go_wp2
        all_goals
          have L := L.out
          have P := P.out
          go_ret
          exact ⟨ret_int (by first | (exfalso; simp_all; done) | (exfalso; simp_all; omega) | (rw [wrapIn _ (by omega), clip_in (by omega) (by omega)]) | (rw [clip_hi (by omega)]) | (rw [clip_lo (by omega)])), rfl⟩
      · have L := hide (le_quo_neg (x := x) sy)
        have P := hide (Int.mul_neg_of_pos_of_neg sx sy)
        go_enter Tryd.func43, Tryd.ntmps43
        go_wp2
        all_goals
          have L := L.out
          have P := P.out
          go_ret
          exact ⟨ret_int (by first | (exfalso; simp_all; done) | (exfalso; simp_all; omega) | (rw [wrapIn _ (by omega), clip_in (by omega) (by omega)]) | (rw [clip_hi (by omega)]) | (rw [clip_lo (by omega)])), rfl⟩
      · have L := hide (le_quo (x := -x) (y := y) (by omega))
        have P := hide (Int.mul_neg_of_neg_of_pos sx sy)
        go_enter Tryd.func43, Tryd.ntmps43
        go_wp2
        all_goals
          have L := L.out
          have P := P.out
          rw [Int.neg_mul] at L
          go_ret
          exact ⟨ret_int (by first | (exfalso; simp_all; done) | (exfalso; simp_all; omega) | (rw [wrapIn _ (by omega), clip_in (by omega) (by omega)]) | (rw [clip_hi (by omega)]) | (rw [clip_lo (by omega)])), rfl⟩
      · have L := hide (le_quo_neg (x := -x) sy)
        have P := hide (Int.mul_pos_of_neg_of_neg sx sy)
        go_enter Tryd.func43, Tryd.ntmps43
        go_wp2
        all_goals
          have L := L.out
          have P := P.out
          rw [Int.neg_mul, Int.neg_neg] at L
          go_ret
          exact ⟨ret_int (by first | (exfalso; simp_all; done) | (exfalso; simp_all; omega) | (rw [wrapIn _ (by omega), clip_in (by omega) (by omega)]) | (rw [clip_hi (by omega)]) | (rw [clip_lo (by omega)])), rfl⟩
set_option maxHeartbeats 1000000 in
theorem quotient_any (x y : Int) (w : World) (h1 : (-9223372036854775807 ≤ x ∧ x ≤ 9223372036854775807)) (h2 : 1 ≤ y ∧ y ≤ 9223372036854775807) :
    Calls Tryd.prog 55 #[.int .i64 x, .int .i64 y] w fun e w' => e = .returned (.int .i64 (quoE x y)) ∧ w' = w := by
  obtain ⟨h3, h4⟩ := h1
  obtain ⟨h5, h6⟩ := h2
  by_cases g1 : x = 9223372036854775807 ∨ x = -9223372036854775807
  · go_enter Tryd.func55, Tryd.ntmps55
    go_wp2_with (go_at_call 53; refine (isFar_any _ _).mono ?_; rintro e w' ⟨rfl, rfl⟩; rw [decide_eq_true g1])
    all_goals
      go_ret
      exact ⟨ret_int (by unfold quoE; rw [if_pos g1]), rfl⟩
  · have G := hide (tdiv_range (a := x) (b := y) (m := 9223372036854775807) (by omega) h3 h4 (by omega))
    have hy0 : y ≠ 0 := by omega
    rcases (by omega : 0 ≤ x ∨ x < 0) with sx | sx
    all_goals
      go_enter Tryd.func55, Tryd.ntmps55
      go_wp2_with (go_at_call 53; refine (isFar_any _ _).mono ?_; rintro e w' ⟨rfl, rfl⟩; rw [decide_eq_false g1])
      all_goals
        go_ret
        exact ⟨ret_int (by
          have G := G.out
          unfold quoE; rw [if_neg g1]
          first | (rw [Int.tdiv_eq_ediv_of_nonneg sx]; done) | (rw [wrapIn _ (by omega)]; done) | done), rfl⟩

theorem allocSize (W : World) (o : Obj) : (W.alloc o).heap.size = W.heap.size + 1 := by simp
theorem St.start0 (w : World) : St w w (fun _ => True) [] := ⟨Below.refl _ _, trivial, trivial, fun _ _ _ _ => trivial⟩

set_option maxHeartbeats 2000000 in
theorem emeet_any (p q p' q' : Int) (w : World) :
    Calls Tryd.prog 38 #[(Value.agg #[Value.int .i64 (p), Value.int .i64 (q)]), (Value.agg #[Value.int .i64 (p'), Value.int .i64 (q')])] w fun e w' => e = .returned (Value.agg #[Value.int .i64 (meL p q p' q'), Value.int .i64 (meH p q p' q')]) ∧ Below w.heap.size w w' := by
  go_enter Tryd.func38, Tryd.ntmps38
  go_wp2_with fail
  all_goals
    refine (isNone_any _ _ _).mono ?_
    rintro e w1 ⟨rfl, hb⟩
    have s1 := ((((St.start0 w).box2 _ _ _).box2 _ _ _).box2 _ _ _).call hb
    simp only [allocSize] at s1
    have q1 := s1.hold
    simp only [Holds, and_true] at q1
    clear hb
    go_wp2_with (go_at_call 48; refine (nothing_any _).mono ?_; rintro e w2 ⟨rfl, hb2⟩; have s2 := s1.call hb2; have q2 := s2.hold; simp only [Holds, and_true] at q2; clear q1 hb2)
    all_goals
      refine bodyPost_ret (v := (Value.agg #[Value.int .i64 (meL p q p' q'), Value.int .i64 (meH p q p' q')])) ?_ rfl ⟨rfl, ?_⟩
      · simp [results, Tryd.results38, go_sem, *]
        try grind [meL, meH]
      · (repeat' (first | exact s4.bel | exact s3.bel | exact s2.bel | exact s1.bel | refine Below.setCell ?_ (by dsimp only; omega) _ | refine Below.alloc ?_ (by first | (simp; done) | (simp; omega)) _ | refine Below.drew ?_))

set_option maxHeartbeats 1000000 in
theorem efrom_any (p q n : Int) (w : World) :
    Calls Tryd.prog 54 #[(Value.agg #[Value.int .i64 (p), Value.int .i64 (q)]), .int .i64 n] w fun e w' => e = .returned (Value.agg #[Value.int .i64 (meL p q n 9223372036854775807), Value.int .i64 (meH p q n 9223372036854775807)]) ∧ Below w.heap.size w w' := by
  go_enter Tryd.func54, Tryd.ntmps54
  go_wp2_with fail
  refine (emeet_any _ _ _ _ _).mono ?_
  rintro e w1 ⟨rfl, hb⟩
  have s1 := (((St.start0 w).box2 _ _ _).box2 _ _ _).call hb
  simp only [allocSize] at s1
  have q1 := s1.hold
  simp only [Holds, and_true] at q1
  clear hb
  go_wp2_with fail
  refine bodyPost_ret (v := (Value.agg #[Value.int .i64 (meL p q n 9223372036854775807), Value.int .i64 (meH p q n 9223372036854775807)])) ?_ rfl ⟨rfl, ?_⟩
  · simp [results, Tryd.results54, go_sem, *]
  · (repeat' (first | exact s4.bel | exact s3.bel | exact s2.bel | exact s1.bel | refine Below.setCell ?_ (by dsimp only; omega) _ | refine Below.alloc ?_ (by first | (simp; done) | (simp; omega)) _ | refine Below.drew ?_))

end Go.Proofs.YtegibkjopkakhaaDoor
