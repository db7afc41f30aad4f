/- The walk of IntervalDone, by what is asked of the program's functions. -/
import Derived.Test.YtegibkjopkakhaaDoorIs
import Derived.Deep.DeepCutAuto
namespace Go.Proofs.YtegibkjopkakhaaDoor
open Go.RowKit
set_option linter.unusedVariables false


theorem isSpan_same (d u : Bool) (lo hi : Int) (W : World) :
    Calls Tryd.prog 14 #[(.agg #[.bool d, .bool u, .int .i64 lo, .int .i64 hi]), .nilIface, (.agg #[.bool d, .bool u, .int .i64 lo, .int .i64 hi]), .int .i64 0] W fun x w' => x = .returned (.bool true) ∧ Below W.heap.size W w' := by
  refine (isSpan_ok d u d u lo hi lo hi W).mono ?_
  rintro e w' ⟨rfl, hb⟩
  exact ⟨by simp, hb⟩

set_option maxRecDepth 20000 in
set_option maxHeartbeats 8000000 in
theorem done_bad (a : Nat → Addr) (hT : ThreeC a) (d u d' u' : Bool) (lo hi lo' hi' : Int) (w : World) (hS : Sents w a) (e : Int) (v : Value) (h0 : 0 < e)
    (HA : Hid (∀ W : World, Sents W a → Calls Tryd.prog 9 #[(.agg #[.bool d, .bool u, .int .i64 lo, .int .i64 hi]), (.agg #[.bool d', .bool u', .int .i64 lo', .int .i64 hi'])] W fun x w' => x = .returned (.tuple #[(.agg #[.bool false, .bool false, .int .i64 0, .int .i64 0]), v]) ∧ Below W.heap.size W w'))
    (HB : Hid (∀ W : World, Sents W a → Calls Tryd.prog 10 #[(.agg #[.bool d, .bool u, .int .i64 lo, .int .i64 hi]), (.agg #[.bool d', .bool u', .int .i64 lo', .int .i64 hi'])] W fun x w' => x = .returned (.tuple #[(.agg #[.bool false, .bool false, .int .i64 0, .int .i64 0]), v]) ∧ Below W.heap.size W w'))
    (HM : Hid (∀ W : World, Sents W a → Calls Tryd.prog 11 #[(.agg #[.bool d, .bool u, .int .i64 lo, .int .i64 hi]), (.agg #[.bool d', .bool u', .int .i64 lo', .int .i64 hi'])] W fun x w' => x = .returned (.tuple #[(.agg #[.bool false, .bool false, .int .i64 0, .int .i64 0]), v]) ∧ Below W.heap.size W w'))
    (HD : Hid (∀ W : World, Sents W a → Calls Tryd.prog 12 #[(.agg #[.bool d, .bool u, .int .i64 lo, .int .i64 hi]), (.agg #[.bool d', .bool u', .int .i64 lo', .int .i64 hi'])] W fun x w' => x = .returned (.tuple #[(.agg #[.bool false, .bool false, .int .i64 0, .int .i64 0]), .bool false, v]) ∧ Below W.heap.size W w'))
    (HR : Hid (∀ W : World, Sents W a → Calls Tryd.prog 13 #[(.agg #[.bool d, .bool u, .int .i64 lo, .int .i64 hi]), (.agg #[.bool d', .bool u', .int .i64 lo', .int .i64 hi'])] W fun x w' => x = .returned (.tuple #[(.agg #[.bool false, .bool false, .int .i64 0, .int .i64 0]), .bool false, v]) ∧ Below W.heap.size W w'))
    (HS : Hid (∀ W : World, Sents W a → Calls Tryd.prog 14 #[(.agg #[.bool false, .bool false, .int .i64 0, .int .i64 0]), v, (.agg #[.bool false, .bool false, .int .i64 0, .int .i64 0]), .int .i64 e] W fun x w' => x = .returned (.bool true) ∧ Below W.heap.size W w'))
    (HE : Hid (∀ W : World, Calls Tryd.prog 8 #[(.agg #[.bool d, .bool u, .int .i64 lo, .int .i64 hi]), (.agg #[.bool d', .bool u', .int .i64 lo', .int .i64 hi'])] W fun x w' => x = .returned (.int .i64 e) ∧ Below W.heap.size W w')) :
    Calls Tryd.prog 3 #[(.agg #[.bool d, .bool u, .int .i64 lo, .int .i64 hi]), (.agg #[.bool d', .bool u', .int .i64 lo', .int .i64 hi'])] w fun x w' => x = .returned (.bool true) ∧ Below w.heap.size w w' := by
  (go_enter Tryd.func3, Tryd.ntmps3; go_wp2_with fail; have s0 := ((St.start hS).box4 23 (.bool d) (.bool u) (.int .i64 lo) (.int .i64 hi)).box4 23 (.bool d') (.bool u') (.int .i64 lo') (.int .i64 hi'); simp only [World.size_alloc] at s0; refine (hT _ s0.sents.errs).mono ?_; (rintro x1 w1 ⟨rfl, hb⟩; have s1 := s0.call hb; have q1 := s1.hold; simp only [Holds, and_true] at q1; clear hb s0; try clear q0); go_wp2_with fail; refine (HE.out _).mono ?_; (rintro x1 w2 ⟨rfl, hb⟩; have s2 := s1.call hb; have q2 := s2.hold; simp only [Holds, and_true] at q2; clear hb s1; try clear q1); go_wp2_with fail)
  refine (HA.out _ s2.sents).mono ?_
  (rintro x1 w3 ⟨rfl, hb⟩; have s3 := s2.call hb; have q3 := s3.hold; simp only [Holds, and_true] at q3; clear hb s2; try clear q2)
  go_wp2_with fail
  (have s31 := s3.box4 23 (.bool false) (.bool false) (.int .i64 0) (.int .i64 0))
  refine (HB.out _ s31.sents).mono ?_
  (rintro x1 w4 ⟨rfl, hb⟩; have s4 := s31.call hb; have q4 := s4.hold; simp only [Holds, and_true] at q4; clear hb s31; try clear q31)
  go_wp2_with fail
  (have s41 := s4.box4 23 (.bool false) (.bool false) (.int .i64 0) (.int .i64 0))
  refine (HM.out _ s41.sents).mono ?_
  (rintro x1 w5 ⟨rfl, hb⟩; have s5 := s41.call hb; have q5 := s5.hold; simp only [Holds, and_true] at q5; clear hb s41; try clear q41)
  go_wp2_with fail
  (have s51 := s5.box4 23 (.bool false) (.bool false) (.int .i64 0) (.int .i64 0))
  refine (HD.out _ s51.sents).mono ?_
  (rintro x1 w6 ⟨rfl, hb⟩; have s6 := s51.call hb; have q6 := s6.hold; simp only [Holds, and_true] at q6; clear hb s51; try clear q51)
  go_wp2_with fail
  (have s61 := s6.box4 23 (.bool false) (.bool false) (.int .i64 0) (.int .i64 0))
  refine (HR.out _ s61.sents).mono ?_
  (rintro x1 w7 ⟨rfl, hb⟩; have s7 := s61.call hb; have q7 := s7.hold; simp only [Holds, and_true] at q7; clear hb s61; try clear q61)
  go_wp2_with fail
  (have s71 := s7.box4 23 (.bool false) (.bool false) (.int .i64 0) (.int .i64 0))
  refine (HS.out _ s71.sents).mono ?_
  (rintro x1 w8 ⟨rfl, hb⟩; have s8 := s71.call hb; have q8 := s8.hold; simp only [Holds, and_true] at q8; clear hb s71; try clear q71)
  go_wp2_with fail
  refine (HS.out _ s8.sents).mono ?_
  (rintro x1 w9 ⟨rfl, hb⟩; have s9 := s8.call hb; have q9 := s9.hold; simp only [Holds, and_true] at q9; clear hb s8; try clear q8)
  go_wp2_with fail
  refine (HS.out _ s9.sents).mono ?_
  (rintro x1 w10 ⟨rfl, hb⟩; have s10 := s9.call hb; have q10 := s10.hold; simp only [Holds, and_true] at q10; clear hb s9; try clear q9)
  go_wp2_with fail
  refine (HS.out _ s10.sents).mono ?_
  (rintro x1 w11 ⟨rfl, hb⟩; have s11 := s10.call hb; have q11 := s11.hold; simp only [Holds, and_true] at q11; clear hb s10; try clear q10)
  go_wp2_with fail
  refine (HS.out _ s11.sents).mono ?_
  (rintro x1 w12 ⟨rfl, hb⟩; have s12 := s11.call hb; have q12 := s12.hold; simp only [Holds, and_true] at q12; clear hb s11; try clear q11)
  go_wp2_with fail
  go_ret
  exact ⟨ret_bool (by simp), s12.bel⟩

set_option maxRecDepth 20000 in
set_option maxHeartbeats 8000000 in
theorem done_far (a : Nat → Addr) (hT : ThreeC a) (hA : AddC a) (hB : SubC a) (hM : MulC a) (hD : DivC a) (hR : RemC a) (d u d' u' : Bool) (lo hi lo' hi' : Int) (w : World) (hS : Sents w a) (K1 : Hid (okI ⟨d, u, lo, hi⟩)) (K2 : Hid (okI ⟨d', u', lo', hi'⟩)) (f g : Bool) (hfg : Hid ((f && g) = false))
    (HF : Hid (∀ W : World, Calls Tryd.prog 15 #[(.agg #[.bool d, .bool u, .int .i64 lo, .int .i64 hi]), .int .i64 12] W fun x w' => x = .returned (.bool f) ∧ Below W.heap.size W w'))
    (HG : Hid (∀ W : World, Calls Tryd.prog 15 #[(.agg #[.bool d', .bool u', .int .i64 lo', .int .i64 hi']), .int .i64 12] W fun x w' => x = .returned (.bool g) ∧ Below W.heap.size W w'))
    (HE : Hid (∀ W : World, Calls Tryd.prog 8 #[(.agg #[.bool d, .bool u, .int .i64 lo, .int .i64 hi]), (.agg #[.bool d', .bool u', .int .i64 lo', .int .i64 hi'])] W fun x w' => x = .returned (.int .i64 0) ∧ Below W.heap.size W w')) :
    Calls Tryd.prog 3 #[(.agg #[.bool d, .bool u, .int .i64 lo, .int .i64 hi]), (.agg #[.bool d', .bool u', .int .i64 lo', .int .i64 hi'])] w fun x w' => x = .returned (.bool true) ∧ Below w.heap.size w w' := by
  (go_enter Tryd.func3, Tryd.ntmps3; go_wp2_with fail; have s0 := ((St.start hS).box4 23 (.bool d) (.bool u) (.int .i64 lo) (.int .i64 hi)).box4 23 (.bool d') (.bool u') (.int .i64 lo') (.int .i64 hi'); simp only [World.size_alloc] at s0; refine (hT _ s0.sents.errs).mono ?_; (rintro x1 w1 ⟨rfl, hb⟩; have s1 := s0.call hb; have q1 := s1.hold; simp only [Holds, and_true] at q1; clear hb s0; try clear q0); go_wp2_with fail; refine (HE.out _).mono ?_; (rintro x1 w2 ⟨rfl, hb⟩; have s2 := s1.call hb; have q2 := s2.hold; simp only [Holds, and_true] at q2; clear hb s1; try clear q1); go_wp2_with fail)
  refine (hA.good d u d' u' lo hi lo' hi' K1.out K2.out _ s2.sents.errs).mono ?_
  (rintro x1 w3 ⟨pd, pu, pl, ph, rfl, hp, hb⟩; have s3 := s2.call hb; have q3 := s3.hold; simp only [Holds, and_true] at q3; clear hb s2; try clear q2)
  have HP := hide hp
  clear hp
  go_wp2_with fail
  (have s31 := s3.box4 23 (.bool pd) (.bool pu) (.int .i64 pl) (.int .i64 ph))
  refine (hB.good d u d' u' lo hi lo' hi' K1.out K2.out _ s31.sents.errs).mono ?_
  (rintro x1 w4 ⟨qd, qu, ql, qh, rfl, hp, hb⟩; have s4 := s31.call hb; have q4 := s4.hold; simp only [Holds, and_true] at q4; clear hb s31; try clear q31)
  have HQ := hide hp
  clear hp
  go_wp2_with fail
  (have s41 := s4.box4 23 (.bool qd) (.bool qu) (.int .i64 ql) (.int .i64 qh))
  refine (hM.good d u d' u' lo hi lo' hi' K1.out K2.out _ s41.sents.errs).mono ?_
  (rintro x1 w5 ⟨rd, ru, rl, rh, rfl, hp, hb⟩; have s5 := s41.call hb; have q5 := s5.hold; simp only [Holds, and_true] at q5; clear hb s41; try clear q41)
  have HRR := hide hp
  clear hp
  go_wp2_with fail
  (have s51 := s5.box4 23 (.bool rd) (.bool ru) (.int .i64 rl) (.int .i64 rh))
  refine (hD.good d u d' u' lo hi lo' hi' K1.out K2.out _ s51.sents.errs).mono ?_
  (rintro x1 w6 ⟨ed, eu, el, eh, is, rfl, hp, hb⟩; have s6 := s51.call hb; have q6 := s6.hold; simp only [Holds, and_true] at q6; clear hb s51; try clear q51)
  have HD := hide hp
  clear hp
  go_wp2_with fail
  (have s61 := s6.box4 23 (.bool ed) (.bool eu) (.int .i64 el) (.int .i64 eh))
  refine (hR.good d u d' u' lo hi lo' hi' K1.out K2.out _ s61.sents.errs).mono ?_
  (rintro x1 w7 ⟨md, mu, ml, mh, too, rfl, hp, hb⟩; have s7 := s61.call hb; have q7 := s7.hold; simp only [Holds, and_true] at q7; clear hb s61; try clear q61)
  have HM := hide hp
  clear hp
  go_wp2_with fail
  (have s71 := s7.box4 23 (.bool md) (.bool mu) (.int .i64 ml) (.int .i64 mh))
  refine (HF.out _).mono ?_
  (rintro x1 w8 ⟨rfl, hb⟩; have s8 := s71.call hb; have q8 := s8.hold; simp only [Holds, and_true] at q8; clear hb s71; try clear q71)
  cases f
  · go_wp2_with fail
    go_ret
    exact ⟨ret_bool (by simp), s8.bel⟩
  · go_wp2_with fail
    refine (HG.out _).mono ?_
    (rintro x1 w9 ⟨rfl, hb⟩; have s9 := s8.call hb; have q9 := s9.hold; simp only [Holds, and_true] at q9; clear hb s8; try clear q8)
    have hg : g = false := by have := hfg.out; simpa using this
    subst hg
    go_wp2_with fail
    go_ret
    exact ⟨ret_bool (by simp), s9.bel⟩

end Go.Proofs.YtegibkjopkakhaaDoor
