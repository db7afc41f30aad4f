/- The walk of IntervalLattice, by what is asked of the program's functions. -/
import Derived.Test.YtijbjahedfmfgaaDoorIu
namespace Go.Proofs.YtijbjahedfmfgaaDoor
open Go.RowKit

set_option maxHeartbeats 4000000 in
theorem lattice_bad (a : Nat → Addr) (hT : ThreeC a) (hJ : JoinC a) (hM : MeetC a) (hW : WithinC a) (d u d' u' : Bool) (lo hi lo' hi' : Int) (w : World) (hS : Sents w a) (r1 : (-9223372036854775808 ≤ lo ∧ lo ≤ 9223372036854775807) ∧ (-9223372036854775808 ≤ hi ∧ hi ≤ 9223372036854775807)) (r2 : (-9223372036854775808 ≤ lo' ∧ lo' ≤ 9223372036854775807) ∧ (-9223372036854775808 ≤ hi' ∧ hi' ≤ 9223372036854775807)) (e : Int) (he : Hid (e = twoErr ⟨d, u, lo, hi⟩ ⟨d', u', lo', hi'⟩)) (h0 : 0 < e) :
    Calls Tryd.prog 4 #[(.agg #[.bool d, .bool u, .int .i64 lo, .int .i64 hi]), (.agg #[.bool d', .bool u', .int .i64 lo', .int .i64 hi'])] w fun x w' => x = .returned (.bool true) ∧ Below w.heap.size w w' := by
  have e8 : e ≤ 8 := by rw [he.out]; exact (twoErr_range _ _).2
  obtain ⟨v, hv⟩ : ∃ v, v = errV a e := ⟨_, rfl⟩
  have J : ∀ W : World, Sents W a → Calls Tryd.prog 16 #[(.agg #[.bool d, .bool u, .int .i64 lo, .int .i64 hi]), (.agg #[.bool d', .bool u', .int .i64 lo', .int .i64 hi'])] W fun x w' => x = .returned (.tuple #[(.agg #[.bool false, .bool false, .int .i64 0, .int .i64 0]), v]) ∧ Below W.heap.size W w' := by
    intro W h
    have := hJ d u d' u' lo hi lo' hi' W h.errs r1 r2
    rw [← he.out, if_neg (by omega), ← hv] at this
    exact this
  have M : ∀ W : World, Sents W a → Calls Tryd.prog 17 #[(.agg #[.bool d, .bool u, .int .i64 lo, .int .i64 hi]), (.agg #[.bool d', .bool u', .int .i64 lo', .int .i64 hi'])] W fun x w' => x = .returned (.tuple #[(.agg #[.bool false, .bool false, .int .i64 0, .int .i64 0]), .bool false, v]) ∧ Below W.heap.size W w' := by
    intro W h
    have := hM d u d' u' lo hi lo' hi' W h.errs r1 r2
    rw [← he.out, if_neg (by omega), ← hv, decide_eq_false (by omega)] at this
    exact this
  have I : ∀ W : World, Sents W a → Calls Tryd.prog 18 #[(.agg #[.bool d, .bool u, .int .i64 lo, .int .i64 hi]), (.agg #[.bool d', .bool u', .int .i64 lo', .int .i64 hi'])] W fun x w' => x = .returned (.tuple #[.bool false, v]) ∧ Below W.heap.size W w' := by
    intro W h
    have := hW d u d' u' lo hi lo' hi' W h.errs r1 r2
    rw [← he.out, ← hv, decide_eq_false (by omega)] at this
    exact this
  have E : ∀ W : World, Calls Tryd.prog 15 #[(.agg #[.bool d, .bool u, .int .i64 lo, .int .i64 hi]), (.agg #[.bool d', .bool u', .int .i64 lo', .int .i64 hi'])] W fun x w' => x = .returned (.int .i64 e) ∧ Below W.heap.size W w' := by
    intro W; rw [he.out]; exact twoErr_any d u d' u' lo hi lo' hi' W
  have C : ∀ W : World, Sents W a → Calls Tryd.prog 11 #[v, .int .i64 e] W fun x w' => x = .returned (.bool true) ∧ Below W.heap.size W w' := by
    intro W h
    rw [hv]
    exact coded_errV e (by omega) e8 a W h
  have Hv := hide hv
  have HJ := hide J
  have HM := hide M
  have HI := hide I
  have HE := hide E
  have HC := hide C
  clear J M I E C hJ hM hW hv
  go_enter Tryd.func4, Tryd.ntmps4
  go_wp2_with fail
  have s0 := ((St.start hS).box4 23 (.bool d) (.bool u) (.int .i64 lo) (.int .i64 hi)).box4 23 (.bool d') (.bool u') (.int .i64 lo') (.int .i64 hi')
  simp only [World.size_alloc] at s0
  refine (hT _ s0.sents.errs).mono ?_
  (rintro x w1 ⟨rfl, hb⟩; have s1 := s0.call hb; have q1 := s1.hold; simp only [Holds, and_true] at q1; clear hb s0; try clear q0)
  go_wp2_with fail
  refine (HE.out _).mono ?_
  (rintro x w2 ⟨rfl, hb⟩; have s2 := s1.call hb; have q2 := s2.hold; simp only [Holds, and_true] at q2; clear hb s1; try clear q1)
  go_wp2_with fail
  refine (HJ.out _ s2.sents).mono ?_
  (rintro x w3 ⟨rfl, hb⟩; have s3 := s2.call hb; have q3 := s3.hold; simp only [Holds, and_true] at q3; clear hb s2; try clear q2)
  go_wp2_with fail
  (have s31 := s3.box4 23 (.bool false) (.bool false) (.int .i64 0) (.int .i64 0))
  refine (HM.out _ s31.sents).mono ?_
  (rintro x w4 ⟨rfl, hb⟩; have s4 := s31.call hb; have q4 := s4.hold; simp only [Holds, and_true] at q4; clear hb s31; try clear q31)
  go_wp2_with fail
  (have s41 := s4.box4 23 (.bool false) (.bool false) (.int .i64 0) (.int .i64 0))
  refine (HI.out _ s41.sents).mono ?_
  (rintro x w5 ⟨rfl, hb⟩; have s5 := s41.call hb; have q5 := s5.hold; simp only [Holds, and_true] at q5; clear hb s41; try clear q41)
  go_wp2_with fail
  refine (isSpan_err _ _ _ _ _ _ _ _ e h0 e8 a _ s5.sents v Hv).mono ?_
  (rintro x w6 ⟨rfl, hb⟩; have s6 := s5.call hb; have q6 := s6.hold; simp only [Holds, and_true] at q6; clear hb s5; try clear q5)
  go_wp2_with fail
  refine (isSpan_err _ _ _ _ _ _ _ _ e h0 e8 a _ s6.sents v Hv).mono ?_
  (rintro x w7 ⟨rfl, hb⟩; have s7 := s6.call hb; have q7 := s7.hold; simp only [Holds, and_true] at q7; clear hb s6; try clear q6)
  go_wp2_with fail
  refine (HC.out _ s7.sents).mono ?_
  (rintro x w8 ⟨rfl, hb⟩; have s8 := s7.call hb; have q8 := s8.hold; simp only [Holds, and_true] at q8; clear hb s7; try clear q7)
  go_wp2_with fail
  go_ret
  exact ⟨ret_bool (by simp), s8.bel⟩

set_option maxHeartbeats 4000000 in
theorem lattice_good (a : Nat → Addr) (hT : ThreeC a) (hJ : JoinC a) (hM : MeetC a) (hW : WithinC a) (d u d' u' : Bool) (lo hi lo' hi' : Int) (w : World) (hS : Sents w a) (r1 : (-9223372036854775808 ≤ lo ∧ lo ≤ 9223372036854775807) ∧ (-9223372036854775808 ≤ hi ∧ hi ≤ 9223372036854775807)) (r2 : (-9223372036854775808 ≤ lo' ∧ lo' ≤ 9223372036854775807) ∧ (-9223372036854775808 ≤ hi' ∧ hi' ≤ 9223372036854775807)) (he : Hid (twoErr ⟨d, u, lo, hi⟩ ⟨d', u', lo', hi'⟩ = 0)) :
    Calls Tryd.prog 4 #[(.agg #[.bool d, .bool u, .int .i64 lo, .int .i64 hi]), (.agg #[.bool d', .bool u', .int .i64 lo', .int .i64 hi'])] w fun x w' => x = .returned (.bool true) ∧ Below w.heap.size w w' := by
  obtain ⟨⟨jd, ju, jl, jh⟩, hj⟩ : ∃ J, J = joined ⟨d, u, lo, hi⟩ ⟨d', u', lo', hi'⟩ := ⟨_, rfl⟩
  obtain ⟨⟨md, mu, ml, mh⟩, hm⟩ : ∃ J, J = met ⟨d, u, lo, hi⟩ ⟨d', u', lo', hi'⟩ := ⟨_, rfl⟩
  obtain ⟨mb, hmb⟩ : ∃ b, b = metB ⟨d, u, lo, hi⟩ ⟨d', u', lo', hi'⟩ := ⟨_, rfl⟩
  obtain ⟨ib, hib⟩ : ∃ b, b = insideB ⟨d, u, lo, hi⟩ ⟨d', u', lo', hi'⟩ := ⟨_, rfl⟩
  have J : ∀ W : World, Sents W a → Calls Tryd.prog 16 #[(.agg #[.bool d, .bool u, .int .i64 lo, .int .i64 hi]), (.agg #[.bool d', .bool u', .int .i64 lo', .int .i64 hi'])] W fun x w' => x = .returned (.tuple #[(.agg #[.bool jd, .bool ju, .int .i64 jl, .int .i64 jh]), .nilIface]) ∧ Below W.heap.size W w' := by
    intro W h
    have := hJ d u d' u' lo hi lo' hi' W h.errs r1 r2
    rw [he.out, if_pos rfl, ← hj] at this
    exact this
  have M : ∀ W : World, Sents W a → Calls Tryd.prog 17 #[(.agg #[.bool d, .bool u, .int .i64 lo, .int .i64 hi]), (.agg #[.bool d', .bool u', .int .i64 lo', .int .i64 hi'])] W fun x w' => x = .returned (.tuple #[(.agg #[.bool md, .bool mu, .int .i64 ml, .int .i64 mh]), .bool mb, .nilIface]) ∧ Below W.heap.size W w' := by
    intro W h
    have := hM d u d' u' lo hi lo' hi' W h.errs r1 r2
    rw [he.out, if_pos rfl, ← hm, ← hmb] at this
    exact this
  have I : ∀ W : World, Sents W a → Calls Tryd.prog 18 #[(.agg #[.bool d, .bool u, .int .i64 lo, .int .i64 hi]), (.agg #[.bool d', .bool u', .int .i64 lo', .int .i64 hi'])] W fun x w' => x = .returned (.tuple #[.bool ib, .nilIface]) ∧ Below W.heap.size W w' := by
    intro W h
    have := hW d u d' u' lo hi lo' hi' W h.errs r1 r2
    rw [he.out, ← hib] at this
    exact this
  have E : ∀ W : World, Calls Tryd.prog 15 #[(.agg #[.bool d, .bool u, .int .i64 lo, .int .i64 hi]), (.agg #[.bool d', .bool u', .int .i64 lo', .int .i64 hi'])] W fun x w' => x = .returned (.int .i64 0) ∧ Below W.heap.size W w' := by
    intro W; have := twoErr_any d u d' u' lo hi lo' hi' W; rw [he.out] at this; exact this
  have RJ : ∀ W : World, Calls Tryd.prog 21 #[(.agg #[.bool d, .bool u, .int .i64 lo, .int .i64 hi]), (.agg #[.bool d', .bool u', .int .i64 lo', .int .i64 hi'])] W fun x w' => x = .returned (.agg #[.bool jd, .bool ju, .int .i64 jl, .int .i64 jh]) ∧ Below W.heap.size W w' := by
    intro W; have := joined_any d u d' u' lo hi lo' hi' W; rw [← hj] at this; exact this
  have RM : ∀ W : World, Calls Tryd.prog 20 #[(.agg #[.bool d, .bool u, .int .i64 lo, .int .i64 hi]), (.agg #[.bool d', .bool u', .int .i64 lo', .int .i64 hi'])] W fun x w' => x = .returned (.tuple #[(.agg #[.bool md, .bool mu, .int .i64 ml, .int .i64 mh]), .bool mb]) ∧ Below W.heap.size W w' := by
    intro W; have := met_any d u d' u' lo hi lo' hi' W; rw [← hm, ← hmb] at this; exact this
  have RI : ∀ W : World, Calls Tryd.prog 22 #[(.agg #[.bool d, .bool u, .int .i64 lo, .int .i64 hi]), (.agg #[.bool d', .bool u', .int .i64 lo', .int .i64 hi'])] W fun x w' => x = .returned (.bool ib) ∧ Below W.heap.size W w' := by
    intro W; have := inside_any d u d' u' lo hi lo' hi' W; rw [hib]; exact this
  have HJ := hide J
  have HM := hide M
  have HI := hide I
  have HE := hide E
  have HRJ := hide RJ
  have HRM := hide RM
  have HRI := hide RI
  clear J M I E RJ RM RI hJ hM hW hj hm hmb hib
  go_enter Tryd.func4, Tryd.ntmps4
  go_wp2_with fail
  have s0 := ((St.start hS).box4 23 (.bool d) (.bool u) (.int .i64 lo) (.int .i64 hi)).box4 23 (.bool d') (.bool u') (.int .i64 lo') (.int .i64 hi')
  simp only [World.size_alloc] at s0
  refine (hT _ s0.sents.errs).mono ?_
  (rintro x w1 ⟨rfl, hb⟩; have s1 := s0.call hb; have q1 := s1.hold; simp only [Holds, and_true] at q1; clear hb s0; try clear q0)
  go_wp2_with fail
  refine (HE.out _).mono ?_
  (rintro x w2 ⟨rfl, hb⟩; have s2 := s1.call hb; have q2 := s2.hold; simp only [Holds, and_true] at q2; clear hb s1; try clear q1)
  go_wp2_with fail
  refine (HJ.out _ s2.sents).mono ?_
  (rintro x w3 ⟨rfl, hb⟩; have s3 := s2.call hb; have q3 := s3.hold; simp only [Holds, and_true] at q3; clear hb s2; try clear q2)
  go_wp2_with fail
  (have s31 := s3.box4 23 (.bool jd) (.bool ju) (.int .i64 jl) (.int .i64 jh))
  refine (HM.out _ s31.sents).mono ?_
  (rintro x w4 ⟨rfl, hb⟩; have s4 := s31.call hb; have q4 := s4.hold; simp only [Holds, and_true] at q4; clear hb s31; try clear q31)
  go_wp2_with fail
  (have s41 := s4.box4 23 (.bool md) (.bool mu) (.int .i64 ml) (.int .i64 mh))
  refine (HI.out _ s41.sents).mono ?_
  (rintro x w5 ⟨rfl, hb⟩; have s5 := s41.call hb; have q5 := s5.hold; simp only [Holds, and_true] at q5; clear hb s41; try clear q41)
  go_wp2_with fail
  refine (HRM.out _).mono ?_
  (rintro x w6 ⟨rfl, hb⟩; have s6 := s5.call hb; have q6 := s6.hold; simp only [Holds, and_true] at q6; clear hb s5; try clear q5)
  go_wp2_with fail
  (have s61 := s6.box4 23 (.bool md) (.bool mu) (.int .i64 ml) (.int .i64 mh))
  go_region_held3 (fun w' => w'.cell? ⟨w6.heap.size, 0, none⟩ = some (.bool md) ∧ w'.cell? ⟨w6.heap.size, 1, none⟩ = some (.bool mu) ∧ w'.cell? ⟨w6.heap.size, 2, none⟩ = some (.int .i64 ml) ∧ w'.cell? ⟨w6.heap.size, 3, none⟩ = some (.int .i64 mh) ∧ w'.cell? ⟨w4.heap.size, 0, none⟩ = some (.bool md) ∧ w'.cell? ⟨w4.heap.size, 1, none⟩ = some (.bool mu) ∧ w'.cell? ⟨w4.heap.size, 2, none⟩ = some (.int .i64 ml) ∧ w'.cell? ⟨w4.heap.size, 3, none⟩ = some (.int .i64 mh) ∧ w'.cell? ⟨w3.heap.size, 0, none⟩ = some (.bool jd) ∧ w'.cell? ⟨w3.heap.size, 1, none⟩ = some (.bool ju) ∧ w'.cell? ⟨w3.heap.size, 2, none⟩ = some (.int .i64 jl) ∧ w'.cell? ⟨w3.heap.size, 3, none⟩ = some (.int .i64 jh) ∧ w'.cell? ⟨w.heap.size + 1, 0, none⟩ = some (.bool d') ∧ w'.cell? ⟨w.heap.size + 1, 1, none⟩ = some (.bool u') ∧ w'.cell? ⟨w.heap.size + 1, 2, none⟩ = some (.int .i64 lo') ∧ w'.cell? ⟨w.heap.size + 1, 3, none⟩ = some (.int .i64 hi') ∧ w'.cell? ⟨w.heap.size, 0, none⟩ = some (.bool d) ∧ w'.cell? ⟨w.heap.size, 1, none⟩ = some (.bool u) ∧ w'.cell? ⟨w.heap.size, 2, none⟩ = some (.int .i64 lo) ∧ w'.cell? ⟨w.heap.size, 3, none⟩ = some (.int .i64 hi) ∧ St w w' (SZ a) ((w6.heap.size, 0, Value.bool md) :: (w6.heap.size, 1, Value.bool mu) :: (w6.heap.size, 2, Value.int .i64 ml) :: (w6.heap.size, 3, Value.int .i64 mh) :: (w4.heap.size, 0, Value.bool md) :: (w4.heap.size, 1, Value.bool mu) :: (w4.heap.size, 2, Value.int .i64 ml) :: (w4.heap.size, 3, Value.int .i64 mh) :: (w3.heap.size, 0, Value.bool jd) :: (w3.heap.size, 1, Value.bool ju) :: (w3.heap.size, 2, Value.int .i64 jl) :: (w3.heap.size, 3, Value.int .i64 jh) :: (w.heap.size + 1, 0, Value.bool d') :: (w.heap.size + 1, 1, Value.bool u') :: (w.heap.size + 1, 2, Value.int .i64 lo') :: (w.heap.size + 1, 3, Value.int .i64 hi') :: (w.heap.size, 0, Value.bool d) :: (w.heap.size, 1, Value.bool u) :: (w.heap.size, 2, Value.int .i64 lo) :: (w.heap.size, 3, Value.int .i64 hi) :: [])) (first | (exact keepSt (((w6.heap.size, 0, Value.bool md) :: (w6.heap.size, 1, Value.bool mu) :: (w6.heap.size, 2, Value.int .i64 ml) :: (w6.heap.size, 3, Value.int .i64 mh) :: (w4.heap.size, 0, Value.bool md) :: (w4.heap.size, 1, Value.bool mu) :: (w4.heap.size, 2, Value.int .i64 ml) :: (w4.heap.size, 3, Value.int .i64 mh) :: (w3.heap.size, 0, Value.bool jd) :: (w3.heap.size, 1, Value.bool ju) :: (w3.heap.size, 2, Value.int .i64 jl) :: (w3.heap.size, 3, Value.int .i64 jh) :: (w.heap.size + 1, 0, Value.bool d') :: (w.heap.size + 1, 1, Value.bool u') :: (w.heap.size + 1, 2, Value.int .i64 lo') :: (w.heap.size + 1, 3, Value.int .i64 hi') :: (w.heap.size, 0, Value.bool d) :: (w.heap.size, 1, Value.bool u) :: (w.heap.size, 2, Value.int .i64 lo) :: (w.heap.size, 3, Value.int .i64 hi) :: [])) (by assumption) (by assumption)) | (exact keepSt (((w6.heap.size, 0, Value.bool md) :: (w6.heap.size, 1, Value.bool mu) :: (w6.heap.size, 2, Value.int .i64 ml) :: (w6.heap.size, 3, Value.int .i64 mh) :: (w4.heap.size, 0, Value.bool md) :: (w4.heap.size, 1, Value.bool mu) :: (w4.heap.size, 2, Value.int .i64 ml) :: (w4.heap.size, 3, Value.int .i64 mh) :: (w3.heap.size, 0, Value.bool jd) :: (w3.heap.size, 1, Value.bool ju) :: (w3.heap.size, 2, Value.int .i64 jl) :: (w3.heap.size, 3, Value.int .i64 jh) :: (w.heap.size + 1, 0, Value.bool d') :: (w.heap.size + 1, 1, Value.bool u') :: (w.heap.size + 1, 2, Value.int .i64 lo') :: (w.heap.size + 1, 3, Value.int .i64 hi') :: (w.heap.size, 0, Value.bool d) :: (w.heap.size, 1, Value.bool u) :: (w.heap.size, 2, Value.int .i64 lo) :: (w.heap.size, 3, Value.int .i64 hi) :: [])) (Below.refl _ _).drew (by assumption)) | (exact keepSt0 (((w6.heap.size, 0, Value.bool md) :: (w6.heap.size, 1, Value.bool mu) :: (w6.heap.size, 2, Value.int .i64 ml) :: (w6.heap.size, 3, Value.int .i64 mh) :: (w4.heap.size, 0, Value.bool md) :: (w4.heap.size, 1, Value.bool mu) :: (w4.heap.size, 2, Value.int .i64 ml) :: (w4.heap.size, 3, Value.int .i64 mh) :: (w3.heap.size, 0, Value.bool jd) :: (w3.heap.size, 1, Value.bool ju) :: (w3.heap.size, 2, Value.int .i64 jl) :: (w3.heap.size, 3, Value.int .i64 jh) :: (w.heap.size + 1, 0, Value.bool d') :: (w.heap.size + 1, 1, Value.bool u') :: (w.heap.size + 1, 2, Value.int .i64 lo') :: (w.heap.size + 1, 3, Value.int .i64 hi') :: (w.heap.size, 0, Value.bool d) :: (w.heap.size, 1, Value.bool u) :: (w.heap.size, 2, Value.int .i64 lo) :: (w.heap.size, 3, Value.int .i64 hi) :: [])) (St.drew (by assumption))) | (exact keepSt0 (((w6.heap.size, 0, Value.bool md) :: (w6.heap.size, 1, Value.bool mu) :: (w6.heap.size, 2, Value.int .i64 ml) :: (w6.heap.size, 3, Value.int .i64 mh) :: (w4.heap.size, 0, Value.bool md) :: (w4.heap.size, 1, Value.bool mu) :: (w4.heap.size, 2, Value.int .i64 ml) :: (w4.heap.size, 3, Value.int .i64 mh) :: (w3.heap.size, 0, Value.bool jd) :: (w3.heap.size, 1, Value.bool ju) :: (w3.heap.size, 2, Value.int .i64 jl) :: (w3.heap.size, 3, Value.int .i64 jh) :: (w.heap.size + 1, 0, Value.bool d') :: (w.heap.size + 1, 1, Value.bool u') :: (w.heap.size + 1, 2, Value.int .i64 lo') :: (w.heap.size + 1, 3, Value.int .i64 hi') :: (w.heap.size, 0, Value.bool d) :: (w.heap.size, 1, Value.bool u) :: (w.heap.size, 2, Value.int .i64 lo) :: (w.heap.size, 3, Value.int .i64 hi) :: [])) (by assumption)))
    (first
      | (go_at_call 21; refine (HRJ.out _).mono ?_; rintro e w7 ⟨rfl, hb7⟩)
      | (go_at_call 22; refine (HRI.out _).mono ?_; rintro e w8 ⟨rfl, hb8⟩)
      | (go_at_call_of 19 (Value.agg #[.bool jd, .bool ju, .int .i64 jl, .int .i64 jh]); refine (isSpan_ok jd ju jd ju jl jh jl jh _).mono ?_; rintro e w9 ⟨rfl, hb9⟩)
      | (go_at_call_of 19 (Value.agg #[.bool md, .bool mu, .int .i64 ml, .int .i64 mh]); refine (isSpan_ok md mu md mu ml mh ml mh _).mono ?_; rintro e w9 ⟨rfl, hb9⟩))
  go_wp2_with fail
  go_ret
  exact ⟨ret_bool (by simp), keepSt_bel (((w6.heap.size, 0, Value.bool md) :: (w6.heap.size, 1, Value.bool mu) :: (w6.heap.size, 2, Value.int .i64 ml) :: (w6.heap.size, 3, Value.int .i64 mh) :: (w4.heap.size, 0, Value.bool md) :: (w4.heap.size, 1, Value.bool mu) :: (w4.heap.size, 2, Value.int .i64 ml) :: (w4.heap.size, 3, Value.int .i64 mh) :: (w3.heap.size, 0, Value.bool jd) :: (w3.heap.size, 1, Value.bool ju) :: (w3.heap.size, 2, Value.int .i64 jl) :: (w3.heap.size, 3, Value.int .i64 jh) :: (w.heap.size + 1, 0, Value.bool d') :: (w.heap.size + 1, 1, Value.bool u') :: (w.heap.size + 1, 2, Value.int .i64 lo') :: (w.heap.size + 1, 3, Value.int .i64 hi') :: (w.heap.size, 0, Value.bool d) :: (w.heap.size, 1, Value.bool u) :: (w.heap.size, 2, Value.int .i64 lo) :: (w.heap.size, 3, Value.int .i64 hi) :: [])) (by assumption)⟩

theorem intervalLattice_by (a : Nat → Addr) (hT : ThreeC a) (hJ : JoinC a) (hM : MeetC a) (hW : WithinC a) (d u d' u' : Bool) (lo hi lo' hi' : Int) (w : World) (hS : Sents w a) (r1 : (-9223372036854775808 ≤ lo ∧ lo ≤ 9223372036854775807) ∧ (-9223372036854775808 ≤ hi ∧ hi ≤ 9223372036854775807)) (r2 : (-9223372036854775808 ≤ lo' ∧ lo' ≤ 9223372036854775807) ∧ (-9223372036854775808 ≤ hi' ∧ hi' ≤ 9223372036854775807)) :
    Calls Tryd.prog 4 #[(.agg #[.bool d, .bool u, .int .i64 lo, .int .i64 hi]), (.agg #[.bool d', .bool u', .int .i64 lo', .int .i64 hi'])] w fun x w' => x = .returned (.bool true) ∧ Below w.heap.size w w' := by
  by_cases h : twoErr ⟨d, u, lo, hi⟩ ⟨d', u', lo', hi'⟩ = 0
  · exact lattice_good a hT hJ hM hW d u d' u' lo hi lo' hi' w hS r1 r2 h
  · exact lattice_bad a hT hJ hM hW d u d' u' lo hi lo' hi' w hS r1 r2 _ rfl (by have := twoErr_range ⟨d, u, lo, hi⟩ ⟨d', u', lo', hi'⟩; omega)

end Go.Proofs.YtijbjahedfmfgaaDoor
