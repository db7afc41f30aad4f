/- Remainders of the program's ends. -/
import Derived.Test.YtegibkjopkakhaaDoorPh
namespace Go.Proofs.YtegibkjopkakhaaDoor
open Go.RowKit

/-- Ends of a right interval. -/
def EndR (p q : Int) : Prop := p ≤ q ∧ (p = -9223372036854775807 ∨ (-1099511627776 ≤ p ∧ p ≤ 1099511627776)) ∧ (q = 9223372036854775807 ∨ (-1099511627776 ≤ q ∧ q ≤ 1099511627776))
theorem endR_of {A : Iv} (h : okI A) : EndR (eLo A) (eHi A) := by
  have a := eLo_r h; have b := eHi_r h; have c := e_le h
  exact ⟨c, by omega, by omega⟩
theorem EndR.neg {p q : Int} (h : EndR p q) : EndR (-q) (-p) := by unfold EndR at *; omega
theorem EndR.f {p q : Int} (h : EndR p q) : (-9223372036854775807 ≤ p ∧ p ≤ 9223372036854775807) ∧ (-9223372036854775807 ≤ q ∧ q ≤ 9223372036854775807) := by unfold EndR at h; omega

set_option maxRecDepth 20000 in
set_option maxHeartbeats 4000000 in
theorem remaindersAbove_any (p q c0 c1 : Int) (w : World) (hE : EndR p q) (hS : SizR c0 c1) :
    Calls Tryd.prog 49 #[(Value.agg #[Value.int .i64 (p), Value.int .i64 (q)]), (Value.agg #[Value.int .i64 (c0), Value.int .i64 (c1)])] w fun e w' => e = .returned (Value.agg #[Value.int .i64 (raL p q c0 c1), Value.int .i64 (raH p q c0 c1)]) ∧ Below w.heap.size w w' := by
  have HF := hide (fun W => efrom_any p q 0 W)
  have hS' := hS
  obtain ⟨k1, k2, k3, k4⟩ := hS'
  have m : (meH p q 0 9223372036854775807 < meL p q 0 9223372036854775807) ∨ (0 ≤ meL p q 0 9223372036854775807 ∧ meL p q 0 9223372036854775807 ≤ meH p q 0 9223372036854775807 ∧ meL p q 0 9223372036854775807 ≤ 1099511627776 ∧ (meH p q 0 9223372036854775807 = 9223372036854775807 ∨ meH p q 0 9223372036854775807 ≤ 1099511627776)) := by
    unfold EndR at hE; unfold meL meH; split <;> omega
  unfold raL raH
  generalize meL p q 0 9223372036854775807 = a0 at *
  generalize meH p q 0 9223372036854775807 = a1 at *
  by_cases hn : a1 < a0
  · rw [if_pos hn, if_pos hn]
    clear m hS k4
    go_enter Tryd.func49, Tryd.ntmps49
    go_wp2_with fail
    refine (HF.out _).mono ?_
    rintro e w1 ⟨rfl, hb1⟩
    have s1 := ((((St.start0 w).box2 55 (.int .i64 p) (.int .i64 q)).box2 55 (.int .i64 c0) (.int .i64 c1)).box2 55 (.int .i64 0) (.int .i64 0)).call hb1
    simp only [allocSize] at s1
    have q1 := s1.hold
    simp only [Holds, and_true] at q1
    have s2 : St w ((w1.setCell ⟨w.heap.size, 0, none⟩ (.int .i64 a0)).setCell ⟨w.heap.size, 1, none⟩ (.int .i64 a1)) (fun _ => True) ((w.heap.size + 1 + 1, 0, Value.int .i64 (0)) :: (w.heap.size + 1 + 1, 1, Value.int .i64 (0)) :: (w.heap.size + 1, 0, Value.int .i64 (c0)) :: (w.heap.size + 1, 1, Value.int .i64 (c1)) :: (w.heap.size, 0, Value.int .i64 (a0)) :: (w.heap.size, 1, Value.int .i64 (a1)) :: []) := St.set2 ((w.heap.size + 1 + 1, 0, Value.int .i64 (0)) :: (w.heap.size + 1 + 1, 1, Value.int .i64 (0)) :: (w.heap.size + 1, 0, Value.int .i64 (c0)) :: (w.heap.size + 1, 1, Value.int .i64 (c1)) :: []) [] s1 (by omega) ⟨(by dsimp only; omega), (by dsimp only; omega), (by dsimp only; omega), (by dsimp only; omega), trivial⟩ trivial (.int .i64 a0) (.int .i64 a1)
    clear hb1 s1
    go_wp2_with fail
    refine (isNone_any _ _ _).mono ?_
    rintro e w2 ⟨rfl, hb2⟩
    have s3 := s2.call hb2
    clear hb2 s2 q1
    have q3 := s3.hold
    simp only [Holds, and_true] at q3
    rw [decide_eq_true hn]
    go_wp2_with fail
    refine (nothing_any _).mono ?_
    rintro e w3 ⟨rfl, hb3⟩
    have s4 := s3.call hb3
    clear hb3 q3
    have q4 := s4.hold
    simp only [Holds, and_true] at q4
    go_wp2_with fail
    refine bodyPost_ret (v := (Value.agg #[Value.int .i64 (9223372036854775807), Value.int .i64 (-9223372036854775807)])) ?_ rfl ⟨rfl, ?_⟩
    · simp [results, Tryd.results49, go_sem, q4]
    · (repeat' (first | exact s4.bel | exact s3.bel | exact s2.bel | exact s1.bel | exact hK.st.bel | refine Below.setCell ?_ (by dsimp only; omega) _ | refine Below.alloc ?_ (by first | (simp; done) | (simp; omega)) _ | refine Below.drew ?_ | exact Below.refl _ _))
  · rw [if_neg hn, if_neg hn]
    obtain ⟨m1, m2, m3, m4⟩ := m.resolve_left hn
    have f0 : (-9223372036854775807 ≤ a0 ∧ a0 ≤ 9223372036854775807) := by omega
    have f1 : (-9223372036854775807 ≤ a1 ∧ a1 ≤ 9223372036854775807) := by omega
    have Q0 := hide (fun W => quotient_any a0 c1 W f0 (by omega))
    have Q1 := hide (fun W => quotient_any a1 c0 W f1 (by omega))
    have same := fun e => ra_same m1 m2 m3 m4 hS e
    have ft := quo_lr f0 (by omega : 0 < c1)
    clear m hS f0 f1
    generalize quoE a0 c1 = t at *
    generalize quoE a1 c0 = t' at *
    by_cases e : t = t'
    · rw [if_pos e, if_pos e]
      obtain ⟨u, u0, u1, u2, u3, u4, u5, u6, u7, u8, u9⟩ := same e
      subst u1
      subst e
      have P := hide (fun (y : Int) (W : World) (hy : y = c0 ∨ y = c1) => product_any t y W ft (by omega))
      have g1 : 0 ≤ clipE (t * c1) ∧ clipE (t * c1) ≤ a0 := by rw [u4]; exact ⟨Int.mul_nonneg u0 (by omega), u6⟩
      have g0 : 0 ≤ clipE (t * c0) ∧ clipE (t * c0) ≤ a1 := by rw [u5]; exact ⟨Int.mul_nonneg u0 (by omega), u7⟩
      clear u3 u4 u5 u6 u7 u8 u9 same k4
      obtain ⟨g2, g3⟩ := g1
      obtain ⟨g4, g5⟩ := g0
      go_enter Tryd.func49, Tryd.ntmps49
      go_wp2_with fail
      refine (HF.out _).mono ?_
      rintro e w1 ⟨rfl, hb1⟩
      have s1 := ((((St.start0 w).box2 55 (.int .i64 p) (.int .i64 q)).box2 55 (.int .i64 c0) (.int .i64 c1)).box2 55 (.int .i64 0) (.int .i64 0)).call hb1
      simp only [allocSize] at s1
      have q1 := s1.hold
      simp only [Holds, and_true] at q1
      have s2 : St w ((w1.setCell ⟨w.heap.size, 0, none⟩ (.int .i64 a0)).setCell ⟨w.heap.size, 1, none⟩ (.int .i64 a1)) (fun _ => True) ((w.heap.size + 1 + 1, 0, Value.int .i64 (0)) :: (w.heap.size + 1 + 1, 1, Value.int .i64 (0)) :: (w.heap.size + 1, 0, Value.int .i64 (c0)) :: (w.heap.size + 1, 1, Value.int .i64 (c1)) :: (w.heap.size, 0, Value.int .i64 (a0)) :: (w.heap.size, 1, Value.int .i64 (a1)) :: []) := St.set2 ((w.heap.size + 1 + 1, 0, Value.int .i64 (0)) :: (w.heap.size + 1 + 1, 1, Value.int .i64 (0)) :: (w.heap.size + 1, 0, Value.int .i64 (c0)) :: (w.heap.size + 1, 1, Value.int .i64 (c1)) :: []) [] s1 (by omega) ⟨(by dsimp only; omega), (by dsimp only; omega), (by dsimp only; omega), (by dsimp only; omega), trivial⟩ trivial (.int .i64 a0) (.int .i64 a1)
      clear hb1 s1
      go_wp2_with fail
      refine (isNone_any _ _ _).mono ?_
      rintro e w2 ⟨rfl, hb2⟩
      have s3 := s2.call hb2
      clear hb2 s2 q1
      have q3 := s3.hold
      simp only [Holds, and_true] at q3
      rw [decide_eq_false (show ¬ a1 < a0 by omega)]
      go_wp2_with (first
        | (go_at_call_of 55 (Value.int IntKind.i64 a0); refine (Q0.out _).mono ?_; rintro e w' ⟨rfl, rfl⟩)
        | (go_at_call_of 55 (Value.int IntKind.i64 a1); refine (Q1.out _).mono ?_; rintro e w' ⟨rfl, rfl⟩))
      have hK0 := Kq.of (L := (w.heap.size + 1, 0, Value.int .i64 (c0)) :: (w.heap.size + 1, 1, Value.int .i64 (c1)) :: (w.heap.size, 0, Value.int .i64 (a0)) :: (w.heap.size, 1, Value.int .i64 (a1)) :: []) (r := w.heap.size + 1 + 1) s3 ⟨(by dsimp only; omega), (by dsimp only; omega), (by dsimp only; omega), (by dsimp only; omega), trivial⟩ (by omega)
      clear s3
      go_region_held3 (fun w' => w'.cell? ⟨w.heap.size + 1, 0, none⟩ = some (.int .i64 (c0)) ∧ w'.cell? ⟨w.heap.size + 1, 1, none⟩ = some (.int .i64 (c1)) ∧ w'.cell? ⟨w.heap.size, 0, none⟩ = some (.int .i64 (a0)) ∧ w'.cell? ⟨w.heap.size, 1, none⟩ = some (.int .i64 (a1)) ∧ (w'.cell? ⟨w.heap.size + 1 + 1, 0, none⟩ = some (.int .i64 (intC w' (w.heap.size + 1 + 1) 0)) ∧ w'.cell? ⟨w.heap.size + 1 + 1, 1, none⟩ = some (.int .i64 (intC w' (w.heap.size + 1 + 1) 1)) ∧ w'.frozen? ⟨w.heap.size + 1 + 1, 0, none⟩ = false ∧ w'.frozen? ⟨w.heap.size + 1 + 1, 1, none⟩ = false ∧ Kq w w' ((w.heap.size + 1, 0, Value.int .i64 (c0)) :: (w.heap.size + 1, 1, Value.int .i64 (c1)) :: (w.heap.size, 0, Value.int .i64 (a0)) :: (w.heap.size, 1, Value.int .i64 (a1)) :: []) (w.heap.size + 1 + 1))) (first | (exact keepQd ((w.heap.size + 1, 0, Value.int .i64 (c0)) :: (w.heap.size + 1, 1, Value.int .i64 (c1)) :: (w.heap.size, 0, Value.int .i64 (a0)) :: (w.heap.size, 1, Value.int .i64 (a1)) :: []) (w.heap.size + 1 + 1) (by assumption)) | (exact keepQ ((w.heap.size + 1, 0, Value.int .i64 (c0)) :: (w.heap.size + 1, 1, Value.int .i64 (c1)) :: (w.heap.size, 0, Value.int .i64 (a0)) :: (w.heap.size, 1, Value.int .i64 (a1)) :: []) (w.heap.size + 1 + 1) (by assumption) (by assumption)) | (exact keepQs ((w.heap.size + 1, 0, Value.int .i64 (c0)) :: (w.heap.size + 1, 1, Value.int .i64 (c1)) :: (w.heap.size, 0, Value.int .i64 (a0)) :: (w.heap.size, 1, Value.int .i64 (a1)) :: []) (w.heap.size + 1 + 1) rfl (by assumption)) | (exact (Kq.drew hK0).all))
        (first
          | (go_at_call 43; refine (P.out _ _ ?hy).mono ?_; (case hy => first | exact Or.inl rfl | exact Or.inr rfl); rintro e w3 ⟨rfl, rfl⟩))
      have hK := hK0
      have v1 : IntKind.i64.wrap (a0 - clipE (t * c1)) = a0 - clipE (t * c1) := wrap_small _ (by omega) (by omega)
      have v0 : IntKind.i64.wrap (a1 - clipE (t * c0)) = a1 - clipE (t * c0) := wrap_small _ (by omega) (by omega)
      go_wp2_with fail
      refine bodyPost_ret (v := (Value.agg #[Value.int .i64 (a0 - clipE (t * c1)), Value.int .i64 (a1 - clipE (t * c0))])) ?_ rfl ⟨rfl, ?_⟩
      · simp [results, Tryd.results49, go_sem, q3, v0, v1]
      · (repeat' (first | exact s4.bel | exact s3.bel | exact s2.bel | exact s1.bel | exact hK.st.bel | refine Below.setCell ?_ (by dsimp only; omega) _ | refine Below.alloc ?_ (by first | (simp; done) | (simp; omega)) _ | refine Below.drew ?_ | exact Below.refl _ _))
    · rw [if_neg e, if_neg e]
      clear same
      have U := hide (fun W => sum_any c1 (-1) W (by omega) (by omega))
      clear ft k4
      generalize sumE c1 (-1) = z at *
      have ne : t ≠ t' := e
      by_cases hm : a1 ≤ z
      · rw [Int.min_eq_left hm]
        go_enter Tryd.func49, Tryd.ntmps49
        go_wp2_with fail
        refine (HF.out _).mono ?_
        rintro e w1 ⟨rfl, hb1⟩
        have s1 := ((((St.start0 w).box2 55 (.int .i64 p) (.int .i64 q)).box2 55 (.int .i64 c0) (.int .i64 c1)).box2 55 (.int .i64 0) (.int .i64 0)).call hb1
        simp only [allocSize] at s1
        have q1 := s1.hold
        simp only [Holds, and_true] at q1
        have s2 : St w ((w1.setCell ⟨w.heap.size, 0, none⟩ (.int .i64 a0)).setCell ⟨w.heap.size, 1, none⟩ (.int .i64 a1)) (fun _ => True) ((w.heap.size + 1 + 1, 0, Value.int .i64 (0)) :: (w.heap.size + 1 + 1, 1, Value.int .i64 (0)) :: (w.heap.size + 1, 0, Value.int .i64 (c0)) :: (w.heap.size + 1, 1, Value.int .i64 (c1)) :: (w.heap.size, 0, Value.int .i64 (a0)) :: (w.heap.size, 1, Value.int .i64 (a1)) :: []) := St.set2 ((w.heap.size + 1 + 1, 0, Value.int .i64 (0)) :: (w.heap.size + 1 + 1, 1, Value.int .i64 (0)) :: (w.heap.size + 1, 0, Value.int .i64 (c0)) :: (w.heap.size + 1, 1, Value.int .i64 (c1)) :: []) [] s1 (by omega) ⟨(by dsimp only; omega), (by dsimp only; omega), (by dsimp only; omega), (by dsimp only; omega), trivial⟩ trivial (.int .i64 a0) (.int .i64 a1)
        clear hb1 s1
        go_wp2_with fail
        refine (isNone_any _ _ _).mono ?_
        rintro e w2 ⟨rfl, hb2⟩
        have s3 := s2.call hb2
        clear hb2 s2 q1
        have q3 := s3.hold
        simp only [Holds, and_true] at q3
        rw [decide_eq_false (show ¬ a1 < a0 by omega)]
        go_wp2_with (first
          | (go_at_call_of 55 (Value.int IntKind.i64 a0); refine (Q0.out _).mono ?_; rintro e w' ⟨rfl, rfl⟩)
          | (go_at_call_of 55 (Value.int IntKind.i64 a1); refine (Q1.out _).mono ?_; rintro e w' ⟨rfl, rfl⟩))
        go_region_with (go_at_call 40; refine (U.out _).mono ?_; rintro e w3 ⟨rfl, rfl⟩)
        all_goals
          go_wp2_with fail
        all_goals
          refine bodyPost_ret (v := (Value.agg #[Value.int .i64 (0), Value.int .i64 (a1)])) ?_ rfl ⟨rfl, ?_⟩
          · simp [results, Tryd.results49, go_sem, q3]
            try omega
          · (repeat' (first | exact s4.bel | exact s3.bel | exact s2.bel | exact s1.bel | exact hK.st.bel | refine Below.setCell ?_ (by dsimp only; omega) _ | refine Below.alloc ?_ (by first | (simp; done) | (simp; omega)) _ | refine Below.drew ?_ | exact Below.refl _ _))
      · rw [Int.min_eq_right (by omega)]
        go_enter Tryd.func49, Tryd.ntmps49
        go_wp2_with fail
        refine (HF.out _).mono ?_
        rintro e w1 ⟨rfl, hb1⟩
        have s1 := ((((St.start0 w).box2 55 (.int .i64 p) (.int .i64 q)).box2 55 (.int .i64 c0) (.int .i64 c1)).box2 55 (.int .i64 0) (.int .i64 0)).call hb1
        simp only [allocSize] at s1
        have q1 := s1.hold
        simp only [Holds, and_true] at q1
        have s2 : St w ((w1.setCell ⟨w.heap.size, 0, none⟩ (.int .i64 a0)).setCell ⟨w.heap.size, 1, none⟩ (.int .i64 a1)) (fun _ => True) ((w.heap.size + 1 + 1, 0, Value.int .i64 (0)) :: (w.heap.size + 1 + 1, 1, Value.int .i64 (0)) :: (w.heap.size + 1, 0, Value.int .i64 (c0)) :: (w.heap.size + 1, 1, Value.int .i64 (c1)) :: (w.heap.size, 0, Value.int .i64 (a0)) :: (w.heap.size, 1, Value.int .i64 (a1)) :: []) := St.set2 ((w.heap.size + 1 + 1, 0, Value.int .i64 (0)) :: (w.heap.size + 1 + 1, 1, Value.int .i64 (0)) :: (w.heap.size + 1, 0, Value.int .i64 (c0)) :: (w.heap.size + 1, 1, Value.int .i64 (c1)) :: []) [] s1 (by omega) ⟨(by dsimp only; omega), (by dsimp only; omega), (by dsimp only; omega), (by dsimp only; omega), trivial⟩ trivial (.int .i64 a0) (.int .i64 a1)
        clear hb1 s1
        go_wp2_with fail
        refine (isNone_any _ _ _).mono ?_
        rintro e w2 ⟨rfl, hb2⟩
        have s3 := s2.call hb2
        clear hb2 s2 q1
        have q3 := s3.hold
        simp only [Holds, and_true] at q3
        rw [decide_eq_false (show ¬ a1 < a0 by omega)]
        go_wp2_with (first
          | (go_at_call_of 55 (Value.int IntKind.i64 a0); refine (Q0.out _).mono ?_; rintro e w' ⟨rfl, rfl⟩)
          | (go_at_call_of 55 (Value.int IntKind.i64 a1); refine (Q1.out _).mono ?_; rintro e w' ⟨rfl, rfl⟩))
        go_region_with (go_at_call 40; refine (U.out _).mono ?_; rintro e w3 ⟨rfl, rfl⟩)
        all_goals
          go_wp2_with fail
        all_goals
          refine bodyPost_ret (v := (Value.agg #[Value.int .i64 (0), Value.int .i64 (z)])) ?_ rfl ⟨rfl, ?_⟩
          · simp [results, Tryd.results49, go_sem, q3]
            try omega
          · (repeat' (first | exact s4.bel | exact s3.bel | exact s2.bel | exact s1.bel | exact hK.st.bel | refine Below.setCell ?_ (by dsimp only; omega) _ | refine Below.alloc ?_ (by first | (simp; done) | (simp; omega)) _ | refine Below.drew ?_ | exact Below.refl _ _))

set_option maxRecDepth 20000 in
set_option maxHeartbeats 4000000 in
theorem remainders_any (p q p' q' : Int) (w : World) (hA : EndR p q) (hB : EndR p' q') (hS : szH p' q' < szL p' q' ∨ SizR (szL p' q') (szH p' q')) (hR : szL p' q' ≤ szH p' q' → (-9223372036854775807 ≤ (raL (-q) (-p) (szL p' q') (szH p' q')) ∧ (raL (-q) (-p) (szL p' q') (szH p' q')) ≤ 9223372036854775807) ∧ (-9223372036854775807 ≤ (raH (-q) (-p) (szL p' q') (szH p' q')) ∧ (raH (-q) (-p) (szL p' q') (szH p' q')) ≤ 9223372036854775807)) :
    Calls Tryd.prog 32 #[(Value.agg #[Value.int .i64 (p), Value.int .i64 (q)]), (Value.agg #[Value.int .i64 (p'), Value.int .i64 (q')])] w fun e w' => e = .returned (Value.agg #[Value.int .i64 (reL p q p' q'), Value.int .i64 (reH p q p' q')]) ∧ Below w.heap.size w w' := by
  have HZ := hide (fun W => sizesOf_any p' q' W hB.f.1 hB.f.2)
  unfold reL reH
  generalize szL p' q' = c0 at *
  generalize szH p' q' = c1 at *
  by_cases hn : c1 < c0
  · rw [if_pos hn, if_pos hn]
    clear hS hR hA hB
    go_enter Tryd.func32, Tryd.ntmps32
    go_wp2_with fail
    refine (HZ.out _).mono ?_
    rintro e w1 ⟨rfl, hb1⟩
    have s1 := ((((St.start0 w).box2 55 (.int .i64 p) (.int .i64 q)).box2 55 (.int .i64 p') (.int .i64 q')).box2 55 (.int .i64 0) (.int .i64 0)).call hb1
    simp only [allocSize] at s1
    have s2 := s1.box2 55 (.int .i64 c0) (.int .i64 c1)
    have q1 := s1.hold
    simp only [Holds, and_true] at q1
    clear hb1 s1
    go_wp2_with fail
    refine (isNone_any _ _ _).mono ?_
    rintro e w2 ⟨rfl, hb2⟩
    have s3 := s2.call hb2
    clear hb2 s2 q1
    have q3 := s3.hold
    simp only [Holds, and_true] at q3
    rw [decide_eq_true hn]
    go_wp2_with fail
    refine (nothing_any _).mono ?_
    rintro e w3 ⟨rfl, hb3⟩
    have s4 := s3.call hb3
    clear hb3 q3
    have q4 := s4.hold
    simp only [Holds, and_true] at q4
    go_wp2_with fail
    refine bodyPost_ret (v := (Value.agg #[Value.int .i64 (9223372036854775807), Value.int .i64 (-9223372036854775807)])) ?_ rfl ⟨rfl, ?_⟩
    · simp [results, Tryd.results32, go_sem, q4]
    · (repeat' (first | exact s4.bel | exact s3.bel | exact s2.bel | exact s1.bel | exact hK.st.bel | refine Below.setCell ?_ (by dsimp only; omega) _ | refine Below.alloc ?_ (by first | (simp; done) | (simp; omega)) _ | refine Below.drew ?_ | exact Below.refl _ _))
  · rw [if_neg hn, if_neg hn]
    have hS := hS.resolve_left hn
    have hR := hR (by omega)
    have HA := hide (fun W => remaindersAbove_any p q c0 c1 W hA hS)
    have HB := hide (fun W => remaindersAbove_any (-q) (-p) c0 c1 W hA.neg hS)
    have HO := hide (fun W => opposite_any p q W hA.f.1 hA.f.2)
    have HO' := hide (fun W => opposite_any _ _ W hR.1 hR.2)
    clear hS hR hA hB
    generalize raL p q c0 c1 = x0 at *
    generalize raH p q c0 c1 = x1 at *
    generalize raL (-q) (-p) c0 c1 = y0 at *
    generalize raH (-q) (-p) c0 c1 = y1 at *
    have HJ := hide (fun W => ejoin_any x0 x1 (-y1) (-y0) W)
    go_enter Tryd.func32, Tryd.ntmps32
    go_wp2_with fail
    refine (HZ.out _).mono ?_
    rintro e w1 ⟨rfl, hb1⟩
    have s1 := ((((St.start0 w).box2 55 (.int .i64 p) (.int .i64 q)).box2 55 (.int .i64 p') (.int .i64 q')).box2 55 (.int .i64 0) (.int .i64 0)).call hb1
    simp only [allocSize] at s1
    have q1 := s1.hold
    simp only [Holds, and_true] at q1
    have hlt : w.heap.size + 1 + 1 < w1.heap.size := q1.1.2.1
    obtain ⟨b, hb⟩ : ∃ b, b = w1.heap.size := ⟨_, rfl⟩
    have hltb : w.heap.size + 1 + 1 < b := by omega
    have s2 : St w (w1.alloc (.cells #[.int .i64 c0, .int .i64 c1] 55)) (fun _ => True) ((b, 0, Value.int .i64 (c0)) :: (b, 1, Value.int .i64 (c1)) :: (w.heap.size + 1 + 1, 0, Value.int .i64 (0)) :: (w.heap.size + 1 + 1, 1, Value.int .i64 (0)) :: (w.heap.size + 1, 0, Value.int .i64 (p')) :: (w.heap.size + 1, 1, Value.int .i64 (q')) :: (w.heap.size, 0, Value.int .i64 (p)) :: (w.heap.size, 1, Value.int .i64 (q)) :: []) := by
      rw [hb]; exact s1.box2 55 (.int .i64 c0) (.int .i64 c1)
    clear hb1 s1
    go_wp2_with fail
    rw [← hb]
    have HBB := hide hb
    clear hb hlt
    refine (isNone_any _ _ _).mono ?_
    rintro e w2 ⟨rfl, hb2⟩
    have s3 := s2.call hb2
    clear hb2 s2 q1
    have q3 := s3.hold
    simp only [Holds, and_true] at q3
    rw [decide_eq_false (show ¬ c1 < c0 by omega)]
    go_wp2_with fail
    have hK0 : Kq w w2 ((b, 0, Value.int .i64 (c0)) :: (b, 1, Value.int .i64 (c1)) :: (w.heap.size, 0, Value.int .i64 (p)) :: (w.heap.size, 1, Value.int .i64 (q)) :: []) (w.heap.size + 1 + 1) := ⟨⟨s3.bel, ⟨s3.hold.1, s3.hold.2.1, s3.hold.2.2.2.2.2.2.1, s3.hold.2.2.2.2.2.2.2.1, trivial⟩, trivial, s3.cl⟩, ⟨(by dsimp only; omega), (by dsimp only; omega), (by dsimp only; omega), (by dsimp only; omega), trivial⟩, by omega, ⟨0, s3.hold.2.2.1.1⟩, ⟨0, s3.hold.2.2.2.1.1⟩, s3.hold.2.2.1.2.2, s3.hold.2.2.2.1.2.2, s3.hold.2.2.1.2.1⟩
    clear s3
    go_region_held3 (fun w' => w'.cell? ⟨b, 0, none⟩ = some (.int .i64 (c0)) ∧ w'.cell? ⟨b, 1, none⟩ = some (.int .i64 (c1)) ∧ w'.cell? ⟨w.heap.size, 0, none⟩ = some (.int .i64 (p)) ∧ w'.cell? ⟨w.heap.size, 1, none⟩ = some (.int .i64 (q)) ∧ (w'.cell? ⟨w.heap.size + 1 + 1, 0, none⟩ = some (.int .i64 (intC w' (w.heap.size + 1 + 1) 0)) ∧ w'.cell? ⟨w.heap.size + 1 + 1, 1, none⟩ = some (.int .i64 (intC w' (w.heap.size + 1 + 1) 1)) ∧ w'.frozen? ⟨w.heap.size + 1 + 1, 0, none⟩ = false ∧ w'.frozen? ⟨w.heap.size + 1 + 1, 1, none⟩ = false ∧ Kq w w' ((b, 0, Value.int .i64 (c0)) :: (b, 1, Value.int .i64 (c1)) :: (w.heap.size, 0, Value.int .i64 (p)) :: (w.heap.size, 1, Value.int .i64 (q)) :: []) (w.heap.size + 1 + 1))) (first | (exact keepQd ((b, 0, Value.int .i64 (c0)) :: (b, 1, Value.int .i64 (c1)) :: (w.heap.size, 0, Value.int .i64 (p)) :: (w.heap.size, 1, Value.int .i64 (q)) :: []) (w.heap.size + 1 + 1) (by assumption)) | (exact keepQ ((b, 0, Value.int .i64 (c0)) :: (b, 1, Value.int .i64 (c1)) :: (w.heap.size, 0, Value.int .i64 (p)) :: (w.heap.size, 1, Value.int .i64 (q)) :: []) (w.heap.size + 1 + 1) (by assumption) (by assumption)) | (exact keepQs ((b, 0, Value.int .i64 (c0)) :: (b, 1, Value.int .i64 (c1)) :: (w.heap.size, 0, Value.int .i64 (p)) :: (w.heap.size, 1, Value.int .i64 (q)) :: []) (w.heap.size + 1 + 1) rfl (by assumption)) | (exact (Kq.drew hK0).all))
      (first
        | (go_at_call_of 41 (Value.agg #[Value.int IntKind.i64 p, Value.int IntKind.i64 q]); refine (HO.out _).mono ?_; rintro e w4 ⟨rfl, hb4⟩)
        | (go_at_call_of 41 (Value.agg #[Value.int IntKind.i64 y0, Value.int IntKind.i64 y1]); refine (HO'.out _).mono ?_; rintro e w5 ⟨rfl, hb5⟩)
        | (go_at_call_of 49 (Value.agg #[Value.int IntKind.i64 p, Value.int IntKind.i64 q]); refine (HA.out _).mono ?_; rintro e w6 ⟨rfl, hb6⟩)
        | (go_at_call_of 49 (Value.agg #[Value.int IntKind.i64 (-q), Value.int IntKind.i64 (-p)]); refine (HB.out _).mono ?_; rintro e w7 ⟨rfl, hb7⟩)
        | (go_at_call 37; refine (HJ.out _).mono ?_; rintro e w8 ⟨rfl, hb8⟩))
    have hK := ((((hK0.drew.call hb6).call hb4).call hb7).call hb5).call hb8
    (obtain ⟨n0, r0⟩ := hK.r0; obtain ⟨n1, r1⟩ := hK.r1; go_wp2_with fail; refine bodyPost_ret (v := (Value.agg #[Value.int .i64 (min x0 (-y1)), Value.int .i64 (max x1 (-y0))])) ?_ rfl ⟨rfl, ?_⟩; (simp [results, Tryd.results32, go_sem, r0, r1]; try exact ⟨rfl, rfl⟩); (repeat' (first | exact s4.bel | exact s3.bel | exact s2.bel | exact s1.bel | exact hK.st.bel | refine Below.setCell ?_ (by dsimp only; omega) _ | refine Below.alloc ?_ (by first | (simp; done) | (simp; omega)) _ | refine Below.drew ?_ | exact Below.refl _ _)))

end Go.Proofs.YtegibkjopkakhaaDoor
