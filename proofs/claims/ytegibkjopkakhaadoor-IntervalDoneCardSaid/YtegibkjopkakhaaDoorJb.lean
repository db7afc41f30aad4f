/- The walk of IntervalDone, by what is asked of the program's functions. -/
import Derived.Test.YtegibkjopkakhaaDoorJa
import Derived.Deep.DeepCutAuto
namespace Go.Proofs.YtegibkjopkakhaaDoor
open Go.RowKit
set_option linter.unusedVariables false


theorem inside_as (d u d' u' : Bool) (lo hi lo' hi' : Int) (h : Hid (joined ⟨d', u', lo', hi'⟩ ⟨d, u, lo, hi⟩ = ⟨d', u', lo', hi'⟩)) (W : World) :
    Calls Tryd.prog 18 #[(.agg #[.bool d, .bool u, .int .i64 lo, .int .i64 hi]), (.agg #[.bool d', .bool u', .int .i64 lo', .int .i64 hi'])] W fun e w' => e = .returned (.bool true) ∧ Below W.heap.size W w' := by
  refine (inside_any d u d' u' lo hi lo' hi' W).mono ?_
  rintro e w' ⟨rfl, hb⟩
  exact ⟨by rw [decide_eq_true h.out], hb⟩
set_option maxRecDepth 20000 in
set_option maxHeartbeats 16000000 in
theorem done_good (a : Nat → Addr) (hT : ThreeC a) (hA : AddC a) (hB : SubC a) (hM : MulC a) (hD : DivC a) (hR : RemC a) (lo hi lo' hi' : Int) (w : World) (hS : Sents w a) (K1 : Hid (okI ⟨false, false, lo, hi⟩)) (K2 : Hid (okI ⟨false, false, lo', hi'⟩)) (st : Hid (SmallTwo lo hi lo' hi'))
    (HF : Hid (∀ W : World, Calls Tryd.prog 15 #[(.agg #[.bool false, .bool false, .int .i64 lo, .int .i64 hi]), .int .i64 12] W fun x w' => x = .returned (.bool true) ∧ Below W.heap.size W w'))
    (HG : Hid (∀ W : World, Calls Tryd.prog 15 #[(.agg #[.bool false, .bool false, .int .i64 lo', .int .i64 hi']), .int .i64 12] W fun x w' => x = .returned (.bool true) ∧ Below W.heap.size W w'))
    (HE : Hid (∀ W : World, Calls Tryd.prog 8 #[(.agg #[.bool false, .bool false, .int .i64 lo, .int .i64 hi]), (.agg #[.bool false, .bool false, .int .i64 lo', .int .i64 hi'])] W fun x w' => x = .returned (.int .i64 0) ∧ Below W.heap.size W w')) :
    Calls Tryd.prog 3 #[(.agg #[.bool false, .bool false, .int .i64 lo, .int .i64 hi]), (.agg #[.bool false, .bool false, .int .i64 lo', .int .i64 hi'])] w fun x w' => x = .returned (.bool true) ∧ Below w.heap.size w w' := by
  (go_enter Tryd.func3, Tryd.ntmps3; go_wp2_with fail; have s0 := ((St.start hS).box4 23 (.bool false) (.bool false) (.int .i64 lo) (.int .i64 hi)).box4 23 (.bool false) (.bool false) (.int .i64 lo') (.int .i64 hi'); simp only [World.size_alloc] at s0; refine (hT _ s0.sents.errs).mono ?_; (rintro x1 w1 ⟨rfl, hb⟩; have s1 := s0.call hb; have q1 := s1.hold; simp only [Holds, and_true] at q1; clear hb s0; try clear q0); go_wp2_with fail; refine (HE.out _).mono ?_; (rintro x1 w2 ⟨rfl, hb⟩; have s2 := s1.call hb; have q2 := s2.hold; simp only [Holds, and_true] at q2; clear hb s1; try clear q1); go_wp2_with fail)
  refine (hA.good false false false false lo hi lo' hi' K1.out K2.out _ s2.sents.errs).mono ?_
  (rintro x1 w3 ⟨pd, pu, pl, ph, rfl, hp, hb⟩; have s3 := s2.call hb; have q3 := s3.hold; simp only [Holds, and_true] at q3; clear hb s2; try clear q2)
  have HP := hide hp
  clear hp
  go_wp2_with fail
  (have s31 := s3.box4 23 (.bool pd) (.bool pu) (.int .i64 pl) (.int .i64 ph))
  refine (hB.good false false false false lo hi lo' hi' K1.out K2.out _ s31.sents.errs).mono ?_
  (rintro x1 w4 ⟨qd, qu, ql, qh, rfl, hp, hb⟩; have s4 := s31.call hb; have q4 := s4.hold; simp only [Holds, and_true] at q4; clear hb s31; try clear q31)
  have HQ := hide hp
  clear hp
  go_wp2_with fail
  (have s41 := s4.box4 23 (.bool qd) (.bool qu) (.int .i64 ql) (.int .i64 qh))
  refine (hM.good false false false false lo hi lo' hi' K1.out K2.out _ s41.sents.errs).mono ?_
  (rintro x1 w5 ⟨rd, ru, rl, rh, rfl, hp, hb⟩; have s5 := s41.call hb; have q5 := s5.hold; simp only [Holds, and_true] at q5; clear hb s41; try clear q41)
  have HRR := hide hp
  clear hp
  go_wp2_with fail
  (have s51 := s5.box4 23 (.bool rd) (.bool ru) (.int .i64 rl) (.int .i64 rh))
  refine (hD.good false false false false lo hi lo' hi' K1.out K2.out _ s51.sents.errs).mono ?_
  (rintro x1 w6 ⟨ed, eu, el, eh, is, rfl, hp, hb⟩; have s6 := s51.call hb; have q6 := s6.hold; simp only [Holds, and_true] at q6; clear hb s51; try clear q51)
  have HD := hide hp
  clear hp
  go_wp2_with fail
  (have s61 := s6.box4 23 (.bool ed) (.bool eu) (.int .i64 el) (.int .i64 eh))
  refine (hR.good false false false false lo hi lo' hi' K1.out K2.out _ s61.sents.errs).mono ?_
  (rintro x1 w7 ⟨md, mu, ml, mh, too, rfl, hp, hb⟩; have s7 := s61.call hb; have q7 := s7.hold; simp only [Holds, and_true] at q7; clear hb s61; try clear q61)
  have HM := hide hp
  clear hp
  go_wp2_with fail
  (have s71 := s7.box4 23 (.bool md) (.bool mu) (.int .i64 ml) (.int .i64 mh))
  have hti : is = too := Bool.eq_iff_iff.2 (HD.out.some.trans HM.out.some.symm)
  subst hti
  refine (HF.out _).mono ?_
  (rintro x1 w8 ⟨rfl, hb⟩; have s8 := s71.call hb; have q8 := s8.hold; simp only [Holds, and_true] at q8; clear hb s71; try clear q71)
  go_wp2_with fail
  refine (HG.out _).mono ?_
  (rintro x1 w9 ⟨rfl, hb⟩; have s9 := s8.call hb; have q9 := s9.hold; simp only [Holds, and_true] at q9; clear hb s8; try clear q8)
  go_wp2_with fail
  refine (done_any 43 (by unfold isHow; omega) lo hi lo' hi' _ st.out.a.1 st.out.a.2.1 st.out.b.1 st.out.b.2.1 st.out.a.2.2 st.out.b.2.2).mono ?_
  (rintro x1 w10 ⟨⟨y1, n1, c1, xs, rfl, hn1, hk1, hI1, hD1⟩, hb⟩; have s10 := s9.call hb; have q10 := s10.hold; simp only [Holds, and_true] at q10; clear hb s9; try clear q9)
  have Hn1 := hide hn1
  have HD1 := hide hD1
  clear hn1 hD1
  go_wp2_with fail
  refine (span_as y1 n1 c1 xs _ hI1 Hn1 (by omega)).mono ?_
  (rintro x1 w11 ⟨zd, zu, zl, zh, bb, rfl, hsp, hb⟩; have s11 := s10.call hb; have q11 := s11.hold; simp only [Holds, and_true] at q11; clear hb s10; try clear q10)
  obtain ⟨rfl, rfl, rfl, rfl⟩ := Iv.mk.inj (done_add st.out HP.out HD1.out hsp).symm
  clear hsp HD1 Hn1 hI1 hk1
  go_wp2_with fail
  (have s111 := s11.box4 23 (.bool pd) (.bool pu) (.int .i64 pl) (.int .i64 ph))
  refine (done_any 45 (by unfold isHow; omega) lo hi lo' hi' _ st.out.a.1 st.out.a.2.1 st.out.b.1 st.out.b.2.1 st.out.a.2.2 st.out.b.2.2).mono ?_
  (rintro x1 w12 ⟨⟨y1, n1, c1, xs, rfl, hn1, hk1, hI1, hD1⟩, hb⟩; have s12 := s111.call hb; have q12 := s12.hold; simp only [Holds, and_true] at q12; clear hb s111; try clear q111)
  have Hn1 := hide hn1
  have HD1 := hide hD1
  clear hn1 hD1
  go_wp2_with fail
  refine (span_as y1 n1 c1 xs _ hI1 Hn1 (by omega)).mono ?_
  (rintro x1 w13 ⟨zd, zu, zl, zh, bb, rfl, hsp, hb⟩; have s13 := s12.call hb; have q13 := s13.hold; simp only [Holds, and_true] at q13; clear hb s12; try clear q12)
  obtain ⟨rfl, rfl, rfl, rfl⟩ := Iv.mk.inj (done_sub st.out HQ.out HD1.out hsp).symm
  clear hsp HD1 Hn1 hI1 hk1
  go_wp2_with fail
  (have s131 := s13.box4 23 (.bool qd) (.bool qu) (.int .i64 ql) (.int .i64 qh))
  refine (done_any 42 (by unfold isHow; omega) lo hi lo' hi' _ st.out.a.1 st.out.a.2.1 st.out.b.1 st.out.b.2.1 st.out.a.2.2 st.out.b.2.2).mono ?_
  (rintro x1 w14 ⟨⟨y1, n1, c1, xs, rfl, hn1, hk1, hI1, hD1⟩, hb⟩; have s14 := s131.call hb; have q14 := s14.hold; simp only [Holds, and_true] at q14; clear hb s131; try clear q131)
  have Hn1 := hide hn1
  have HD1 := hide hD1
  clear hn1 hD1
  go_wp2_with fail
  refine (span_as y1 n1 c1 xs _ hI1 Hn1 (by omega)).mono ?_
  (rintro x1 w15 ⟨zd, zu, zl, zh, bb, rfl, hsp, hb⟩; have s15 := s14.call hb; have q15 := s15.hold; simp only [Holds, and_true] at q15; clear hb s14; try clear q14)
  obtain ⟨rfl, rfl, rfl, rfl⟩ := Iv.mk.inj (done_mul st.out HRR.out HD1.out hsp).symm
  clear hsp HD1 Hn1 hI1 hk1
  go_wp2_with fail
  (have s151 := s15.box4 23 (.bool rd) (.bool ru) (.int .i64 rl) (.int .i64 rh))
  refine (isSpan_same pd pu pl ph _).mono ?_
  (rintro x1 w16 ⟨rfl, hb⟩; have s16 := s151.call hb; have q16 := s16.hold; simp only [Holds, and_true] at q16; clear hb s151; try clear q151)
  go_wp2_with fail
  refine (isSpan_same qd qu ql qh _).mono ?_
  (rintro x1 w17 ⟨rfl, hb⟩; have s17 := s16.call hb; have q17 := s17.hold; simp only [Holds, and_true] at q17; clear hb s16; try clear q16)
  go_wp2_with fail
  refine (isSpan_same rd ru rl rh _).mono ?_
  (rintro x1 w18 ⟨rfl, hb⟩; have s18 := s17.call hb; have q18 := s18.hold; simp only [Holds, and_true] at q18; clear hb s17; try clear q17)
  go_wp2_with fail
  refine (done_any 47 (by unfold isHow; omega) lo hi lo' hi' _ st.out.a.1 st.out.a.2.1 st.out.b.1 st.out.b.2.1 st.out.a.2.2 st.out.b.2.2).mono ?_
  (rintro x1 w19 ⟨⟨y1, n1, c1, xs, rfl, hn1, hk1, hI1, hD1⟩, hb⟩; have s19 := s18.call hb; have q19 := s19.hold; simp only [Holds, and_true] at q19; clear hb s18; try clear q18)
  have Hn1 := hide hn1
  have HD1 := hide hD1
  clear hn1 hD1
  go_wp2_with fail
  refine (span_as y1 n1 c1 xs _ hI1 Hn1 (by omega)).mono ?_
  (rintro x1 w20 ⟨ud, uu, ul, uh, bb, rfl, hsp, hb⟩; have s20 := s19.call hb; have q20 := s20.hold; simp only [Holds, and_true] at q20; clear hb s19; try clear q19)
  obtain ⟨hbb, hU1, hU2⟩ := done_div st.out HD.out HD1.out hsp
  have hbb := hbb.symm
  subst hbb
  have HU1 := hide hU1
  have HU2 := hide hU2
  clear hU1 hU2
  clear hsp HD1 Hn1 hI1 hk1
  go_wp2_with fail
  (have s201 := s20.box4 23 (.bool ud) (.bool uu) (.int .i64 ul) (.int .i64 uh))
  refine (done_any 37 (by unfold isHow; omega) lo hi lo' hi' _ st.out.a.1 st.out.a.2.1 st.out.b.1 st.out.b.2.1 st.out.a.2.2 st.out.b.2.2).mono ?_
  (rintro x1 w21 ⟨⟨y1, n1, c1, xs, rfl, hn1, hk1, hI1, hD1⟩, hb⟩; have s21 := s201.call hb; have q21 := s21.hold; simp only [Holds, and_true] at q21; clear hb s201; try clear q201)
  have Hn1 := hide hn1
  have HD1 := hide hD1
  clear hn1 hD1
  go_wp2_with fail
  refine (span_as y1 n1 c1 xs _ hI1 Hn1 (by omega)).mono ?_
  (rintro x1 w22 ⟨vd, vu, vl, vh, bb, rfl, hsp, hb⟩; have s22 := s21.call hb; have q22 := s22.hold; simp only [Holds, and_true] at q22; clear hb s21; try clear q21)
  obtain ⟨hbb, hV1, hV2⟩ := done_rem st.out HM.out HD1.out hsp
  have hbb := hbb.symm
  subst hbb
  have HV1 := hide hV1
  have HV2 := hide hV2
  clear hV1 hV2
  clear hsp HD1 Hn1 hI1 hk1
  go_upto_region 21 with fail
  (have s221 := s22.box4 23 (.bool vd) (.bool vu) (.int .i64 vl) (.int .i64 vh))
  clear HP HQ HRR
  have q221 := s221.hold
  simp only [Holds, and_true] at q221
  cases is
  · obtain ⟨rfl, rfl, rfl, rfl⟩ := Iv.mk.inj (HD.out.none rfl)
    obtain ⟨rfl, rfl, rfl, rfl⟩ := Iv.mk.inj (HM.out.none rfl)
    have hE := fun W => eqIv false false false false 0 0 0 0 W
    go_wp2_with fail
    go_ret
    exact ⟨ret_bool (by simp), s221.bel⟩
  · have HJ1 := hide (HU1.out rfl)
    have HJ2 := hide (HV1.out rfl)
    have HS1 := hide (HD.out.small (by have := st.out.a; simp [smallB, farB]; omega) (by have := st.out.b; simp [smallB, farB]; omega))
    have HS2 := hide (HM.out.small (by have := st.out.a; simp [smallB, farB]; omega) (by have := st.out.b; simp [smallB, farB]; omega))
    by_cases ho : 0 < lo' ∨ hi' < 0
    · obtain ⟨h1, h2, h3, h4⟩ := Iv.mk.inj (HU2.out rfl ho)
      subst h1 h2 h3 h4
      have hE := fun W => neIv ed eu ed eu el eh el eh W
      by_cases hq : lo' = hi'
      · obtain ⟨h1, h2, h3, h4⟩ := Iv.mk.inj (HV2.out rfl hq)
        subst h1 h2 h3 h4
        have hE2 := fun W => neIv md mu md mu ml mh ml mh W
        have hq' : (lo' == hi') = true := by simp [hq]
        clear hq
        by_cases ho1 : 0 < lo'
        all_goals
          try (have ho2 : hi' < 0 := by omega)
          clear ho
          go_wp2_with fail
          refine (inside_as ed eu ed eu el eh el eh HJ1 _).mono ?_
          (rintro x1 w23 ⟨rfl, hb⟩; have s23 := s221.call hb; have q23 := s23.hold; simp only [Holds, and_true] at q23; clear hb s221; try clear q221)
          go_wp2_with fail
          refine (inside_as md mu md mu ml mh ml mh HJ2 _).mono ?_
          (rintro x1 w24 ⟨rfl, hb⟩; have s24 := s23.call hb; have q24 := s24.hold; simp only [Holds, and_true] at q24; clear hb s23; try clear q23)
          go_wp2_with fail
          refine (small_as ed eu el eh HS1 _).mono ?_
          (rintro x1 w25 ⟨rfl, hb⟩; have s25 := s24.call hb; have q25 := s25.hold; simp only [Holds, and_true] at q25; clear hb s24; try clear q24)
          go_wp2_with fail
          refine (small_as md mu ml mh HS2 _).mono ?_
          (rintro x1 w26 ⟨rfl, hb⟩; have s26 := s25.call hb; have q26 := s26.hold; simp only [Holds, and_true] at q26; clear hb s25; try clear q25)
          go_wp2_with fail
          go_ret
          exact ⟨ret_bool (by simp), s26.bel⟩
      · have hq' : (lo' == hi') = false := by simp [hq]
        by_cases ho1 : 0 < lo'
        all_goals
          try (have ho2 : hi' < 0 := by omega)
          clear ho
          go_wp2_with fail
          refine (inside_as ed eu ed eu el eh el eh HJ1 _).mono ?_
          (rintro x1 w23 ⟨rfl, hb⟩; have s23 := s221.call hb; have q23 := s23.hold; simp only [Holds, and_true] at q23; clear hb s221; try clear q221)
          go_wp2_with fail
          refine (inside_as vd vu md mu vl vh ml mh HJ2 _).mono ?_
          (rintro x1 w24 ⟨rfl, hb⟩; have s24 := s23.call hb; have q24 := s24.hold; simp only [Holds, and_true] at q24; clear hb s23; try clear q23)
          go_wp2_with fail
          refine (small_as ed eu el eh HS1 _).mono ?_
          (rintro x1 w25 ⟨rfl, hb⟩; have s25 := s24.call hb; have q25 := s25.hold; simp only [Holds, and_true] at q25; clear hb s24; try clear q24)
          go_wp2_with fail
          refine (small_as md mu ml mh HS2 _).mono ?_
          (rintro x1 w26 ⟨rfl, hb⟩; have s26 := s25.call hb; have q26 := s26.hold; simp only [Holds, and_true] at q26; clear hb s25; try clear q25)
          go_wp2_with fail
          go_ret
          exact ⟨ret_bool (by simp), s26.bel⟩
    · have ho1 : ¬ 0 < lo' := fun h => ho (.inl h)
      have ho2 : ¬ hi' < 0 := fun h => ho (.inr h)
      clear ho
      by_cases hq : lo' = hi'
      · obtain ⟨h1, h2, h3, h4⟩ := Iv.mk.inj (HV2.out rfl hq)
        subst h1 h2 h3 h4
        have hE2 := fun W => neIv md mu md mu ml mh ml mh W
        have hq' : (lo' == hi') = true := by simp [hq]
        clear hq
        go_wp2_with fail
        refine (inside_as ud uu ed eu ul uh el eh HJ1 _).mono ?_
        (rintro x1 w23 ⟨rfl, hb⟩; have s23 := s221.call hb; have q23 := s23.hold; simp only [Holds, and_true] at q23; clear hb s221; try clear q221)
        go_wp2_with fail
        refine (inside_as md mu md mu ml mh ml mh HJ2 _).mono ?_
        (rintro x1 w24 ⟨rfl, hb⟩; have s24 := s23.call hb; have q24 := s24.hold; simp only [Holds, and_true] at q24; clear hb s23; try clear q23)
        go_wp2_with fail
        refine (small_as ed eu el eh HS1 _).mono ?_
        (rintro x1 w25 ⟨rfl, hb⟩; have s25 := s24.call hb; have q25 := s25.hold; simp only [Holds, and_true] at q25; clear hb s24; try clear q24)
        go_wp2_with fail
        refine (small_as md mu ml mh HS2 _).mono ?_
        (rintro x1 w26 ⟨rfl, hb⟩; have s26 := s25.call hb; have q26 := s26.hold; simp only [Holds, and_true] at q26; clear hb s25; try clear q25)
        go_wp2_with fail
        go_ret
        exact ⟨ret_bool (by simp), s26.bel⟩
      · have hq' : (lo' == hi') = false := by simp [hq]
        go_wp2_with fail
        refine (inside_as ud uu ed eu ul uh el eh HJ1 _).mono ?_
        (rintro x1 w23 ⟨rfl, hb⟩; have s23 := s221.call hb; have q23 := s23.hold; simp only [Holds, and_true] at q23; clear hb s221; try clear q221)
        go_wp2_with fail
        refine (inside_as vd vu md mu vl vh ml mh HJ2 _).mono ?_
        (rintro x1 w24 ⟨rfl, hb⟩; have s24 := s23.call hb; have q24 := s24.hold; simp only [Holds, and_true] at q24; clear hb s23; try clear q23)
        go_wp2_with fail
        refine (small_as ed eu el eh HS1 _).mono ?_
        (rintro x1 w25 ⟨rfl, hb⟩; have s25 := s24.call hb; have q25 := s25.hold; simp only [Holds, and_true] at q25; clear hb s24; try clear q24)
        go_wp2_with fail
        refine (small_as md mu ml mh HS2 _).mono ?_
        (rintro x1 w26 ⟨rfl, hb⟩; have s26 := s25.call hb; have q26 := s26.hold; simp only [Holds, and_true] at q26; clear hb s25; try clear q25)
        go_wp2_with fail
        go_ret
        exact ⟨ret_bool (by simp), s26.bel⟩

theorem intervalDone_by (a : Nat → Addr) (hT : ThreeC a) (hA : AddC a) (hB : SubC a) (hM : MulC a) (hD : DivC a) (hR : RemC a) (d u d' u' : Bool) (lo hi lo' hi' : Int) (w : World) (hS : Sents w a) (r1 : (-9223372036854775808 ≤ lo ∧ lo ≤ 9223372036854775807) ∧ (-9223372036854775808 ≤ hi ∧ hi ≤ 9223372036854775807)) (r2 : (-9223372036854775808 ≤ lo' ∧ lo' ≤ 9223372036854775807) ∧ (-9223372036854775808 ≤ hi' ∧ hi' ≤ 9223372036854775807)) :
    Calls Tryd.prog 3 #[(.agg #[.bool d, .bool u, .int .i64 lo, .int .i64 hi]), (.agg #[.bool d', .bool u', .int .i64 lo', .int .i64 hi'])] w fun x w' => x = .returned (.bool true) ∧ Below w.heap.size w w' := by
  obtain ⟨e, he⟩ : ∃ e, e = twoErr ⟨d, u, lo, hi⟩ ⟨d', u', lo', hi'⟩ := ⟨_, rfl⟩
  have hE : ∀ W : World, Calls Tryd.prog 8 #[(.agg #[.bool d, .bool u, .int .i64 lo, .int .i64 hi]), (.agg #[.bool d', .bool u', .int .i64 lo', .int .i64 hi'])] W fun x w' => x = .returned (.int .i64 e) ∧ Below W.heap.size W w' := by
    intro W; rw [he]; exact twoErr_any d u d' u' lo hi lo' hi' W
  by_cases h0 : e = 0
  · subst h0
    obtain ⟨k1, k2⟩ := (twoErr_ok _ _).1 he.symm
    cases hf : smallB ⟨d, u, lo, hi⟩ 12 with
    | false => exact done_far a hT hA hB hM hD hR d u d' u' lo hi lo' hi' w hS k1 k2 false (smallB ⟨d', u', lo', hi'⟩ 12) rfl (by intro W; have := small_any d u lo hi 12 (by omega) (by omega) W; rw [hf] at this; exact this) (fun W => small_any d' u' lo' hi' 12 (by omega) (by omega) W) hE
    | true =>
      cases hg : smallB ⟨d', u', lo', hi'⟩ 12 with
      | false => exact done_far a hT hA hB hM hD hR d u d' u' lo hi lo' hi' w hS k1 k2 true false rfl (by intro W; have := small_any d u lo hi 12 (by omega) (by omega) W; rw [hf] at this; exact this) (by intro W; have := small_any d' u' lo' hi' 12 (by omega) (by omega) W; rw [hg] at this; exact this) hE
      | true =>
        obtain ⟨rfl, rfl, a1, a2, a3, a4⟩ := smallB_12 hf
        obtain ⟨rfl, rfl, b1, b2, b3, b4⟩ := smallB_12 hg
        exact done_good a hT hA hB hM hD hR lo hi lo' hi' w hS k1 k2 ⟨⟨a1, a4, k1.2.2.1 rfl rfl⟩, ⟨b1, b4, k2.2.2.1 rfl rfl⟩⟩ (fun W => small_as _ _ _ _ hf W) (fun W => small_as _ _ _ _ hg W) hE
  · have hr := twoErr_range ⟨d, u, lo, hi⟩ ⟨d', u', lo', hi'⟩
    have op : ∀ (F : Nat) (S : Iv → Iv → Int → Prop), OpC F S a → ∀ W : World, Sents W a → Calls Tryd.prog F #[(.agg #[.bool d, .bool u, .int .i64 lo, .int .i64 hi]), (.agg #[.bool d', .bool u', .int .i64 lo', .int .i64 hi'])] W fun x w' => x = .returned (.tuple #[(.agg #[.bool false, .bool false, .int .i64 0, .int .i64 0]), errV a e]) ∧ Below W.heap.size W w' := by
      intro F S h W hs
      refine (h d u d' u' lo hi lo' hi' W hs.errs r1 r2).mono ?_
      rintro x w' ⟨⟨R, rfl, _, k⟩, hb⟩
      rw [k (by omega), ← he]
      exact ⟨rfl, hb⟩
    refine done_bad a hT d u d' u' lo hi lo' hi' w hS e (errV a e) (by omega) (op _ _ hA) (op _ _ hB) (op _ _ hM) ?_ ?_ ?_ hE
    · intro W hs
      refine (hD d u d' u' lo hi lo' hi' W hs.errs r1 r2).mono ?_
      rintro x w' ⟨⟨R, b, rfl, _, k⟩, hb⟩
      obtain ⟨k1, k2⟩ := k (by omega)
      rw [k1, k2, ← he]
      exact ⟨rfl, hb⟩
    · intro W hs
      refine (hR d u d' u' lo hi lo' hi' W hs.errs r1 r2).mono ?_
      rintro x w' ⟨⟨R, b, rfl, _, k⟩, hb⟩
      obtain ⟨k1, k2⟩ := k (by omega)
      rw [k1, k2, ← he]
      exact ⟨rfl, hb⟩
    · intro W hs
      refine (isSpan_err false false false false 0 0 0 0 e (by omega) (by omega) a W hs _ rfl).mono ?_
      rintro x w' ⟨rfl, hb⟩
      exact ⟨by simp, hb⟩

end Go.Proofs.YtegibkjopkakhaaDoor
