/- The walk of IntervalAlgebra, by what is asked of the program's functions. -/
import Derived.Test.YtegibkjopkakhaaDoorIu
import Derived.Test.YtegibkjopkakhaaDoorIh
namespace Go.Proofs.YtegibkjopkakhaaDoor
open Go.RowKit

set_option maxHeartbeats 1000000 in
theorem small_any (d u : Bool) (lo hi m : Int) (w : World) (hm : 0 ≤ m) (hm2 : m ≤ 9223372036854775807) :
    Calls Tryd.prog 15 #[(.agg #[.bool d, .bool u, .int .i64 lo, .int .i64 hi]), .int .i64 m] w fun e w' => e = .returned (.bool (smallB ⟨d, u, lo, hi⟩ m)) ∧ Below w.heap.size w w' := by
  cases d <;> cases u
  all_goals
    go_enter Tryd.func15, Tryd.ntmps15
    go_wp2_with (go_at_call 20; refine (far_any _ _ _ (by omega) (by omega)).mono ?_; rintro e w' ⟨rfl, rfl⟩)
    all_goals
      go_ret
      exact ⟨ret_bool (by grind [smallB]), (Below.refl _ _).alloc (Nat.le_refl _) _⟩
theorem small_as (d u : Bool) (lo hi m : Int) (b : Bool) (hb : Hid (smallB ⟨d, u, lo, hi⟩ m = b)) (w : World) (hm : 0 ≤ m) (hm2 : m ≤ 9223372036854775807) :
    Calls Tryd.prog 15 #[(.agg #[.bool d, .bool u, .int .i64 lo, .int .i64 hi]), .int .i64 m] w fun e w' => e = .returned (.bool b) ∧ Below w.heap.size w w' := by
  rw [← hb.out]; exact small_any d u lo hi m w hm hm2

theorem al_two (d u d' u' : Bool) (lo hi lo' hi' : Int) (e : Int) (he : Hid (twoErr ⟨d, u, lo, hi⟩ ⟨d', u', lo', hi'⟩ = e)) (w : World) :
    Calls Tryd.prog 8 #[(.agg #[.bool d, .bool u, .int .i64 lo, .int .i64 hi]), (.agg #[.bool d', .bool u', .int .i64 lo', .int .i64 hi'])] w fun x w' => x = .returned (.int .i64 e) ∧ Below w.heap.size w w' := by
  rw [← he.out]; exact twoErr_any d u d' u' lo hi lo' hi' w
theorem al_one (d u : Bool) (lo hi e : Int) (he : Hid (ivErr d u lo hi = e)) (w : World) :
    Calls Tryd.prog 22 #[(.agg #[.bool d, .bool u, .int .i64 lo, .int .i64 hi])] w fun x w' => x = .returned (.int .i64 e) ∧ Below w.heap.size w w' := by
  rw [← he.out]; exact ivErr_any d u lo hi w

theorem joined_ok' {A B : Iv} (h1 : okI A) (h2 : okI B) : okI (joined A B) := by
  obtain ⟨o1, o2, o3, o4, o5, o6, o7⟩ := h1
  obtain ⟨p1, p2, p3, p4, p5, p6, p7⟩ := h2
  obtain ⟨d, u, lo, hi⟩ := A
  obtain ⟨d', u', lo', hi'⟩ := B
  unfold joined okI
  dsimp only at *
  grind

theorem fin_of {d u : Bool} {lo hi : Int} (h : smallB ⟨d, u, lo, hi⟩ 1000 = true) (o : okI ⟨d, u, lo, hi⟩) : Fin ⟨d, u, lo, hi⟩ 1000 := by
  obtain ⟨_, _, o3, _⟩ := o
  cases d <;> cases u <;> simp [smallB, farB] at h
  exact ⟨rfl, rfl, by dsimp only at *; omega, o3 rfl rfl, by dsimp only at *; omega⟩

set_option maxRecDepth 20000 in
set_option maxHeartbeats 2000000 in
theorem algebra_out (a : Nat → Addr) (hT : ThreeC a) (d u d' u' d2 u2 : Bool) (lo hi lo' hi' lo2 hi2 : Int) (w : World) (hS : ErrS w a) (b1 b2 b3 : Bool) (h1 : Hid (smallB ⟨d, u, lo, hi⟩ 1000 = b1)) (h2 : Hid (smallB ⟨d', u', lo', hi'⟩ 1000 = b2)) (h3 : Hid (smallB ⟨d2, u2, lo2, hi2⟩ 1000 = b3)) (e f : Int) (he : Hid (twoErr ⟨d, u, lo, hi⟩ ⟨d', u', lo', hi'⟩ = e)) (hf : Hid (ivErr d2 u2 lo2 hi2 = f)) (e0 : 0 ≤ e) (f0 : 0 ≤ f) (h : b1 = false ∨ b2 = false ∨ b3 = false ∨ 0 < e ∨ 0 < f) :
    Calls Tryd.prog 5 #[(.agg #[.bool d, .bool u, .int .i64 lo, .int .i64 hi]), (.agg #[.bool d', .bool u', .int .i64 lo', .int .i64 hi']), (.agg #[.bool d2, .bool u2, .int .i64 lo2, .int .i64 hi2])] w fun x w' => x = .returned (.bool true) ∧ Below w.heap.size w w' := by
  cases b1 with
  | false =>
    (go_enter Tryd.func5, Tryd.ntmps5; go_wp2_with fail; have s0 := (((St.startE hS).box4 23 (.bool d) (.bool u) (.int .i64 lo) (.int .i64 hi)).box4 23 (.bool d') (.bool u') (.int .i64 lo') (.int .i64 hi')).box4 23 (.bool d2) (.bool u2) (.int .i64 lo2) (.int .i64 hi2); simp only [World.size_alloc] at s0; refine (hT _ s0.errz).mono ?_; (rintro x1 w1 ⟨rfl, hb⟩; have s1 := s0.call hb; have q1 := s1.hold; simp only [Holds, and_true] at q1; clear hb s0; try clear q0); go_wp2_with fail)
    refine (small_as d u lo hi 1000 false h1 _ (by omega) (by omega)).mono ?_
    (rintro x1 w2 ⟨rfl, hb⟩; have s2 := s1.call hb; have q2 := s2.hold; simp only [Holds, and_true] at q2; clear hb s1; try clear q1)
    go_wp2_with fail
    go_ret
    exact ⟨rfl, s2.bel⟩
  | true =>
    cases b2 with
    | false =>
      (go_enter Tryd.func5, Tryd.ntmps5; go_wp2_with fail; have s0 := (((St.startE hS).box4 23 (.bool d) (.bool u) (.int .i64 lo) (.int .i64 hi)).box4 23 (.bool d') (.bool u') (.int .i64 lo') (.int .i64 hi')).box4 23 (.bool d2) (.bool u2) (.int .i64 lo2) (.int .i64 hi2); simp only [World.size_alloc] at s0; refine (hT _ s0.errz).mono ?_; (rintro x1 w1 ⟨rfl, hb⟩; have s1 := s0.call hb; have q1 := s1.hold; simp only [Holds, and_true] at q1; clear hb s0; try clear q0); go_wp2_with fail)
      refine (small_as d u lo hi 1000 true h1 _ (by omega) (by omega)).mono ?_
      (rintro x1 w2 ⟨rfl, hb⟩; have s2 := s1.call hb; have q2 := s2.hold; simp only [Holds, and_true] at q2; clear hb s1; try clear q1)
      go_wp2_with fail
      refine (small_as d' u' lo' hi' 1000 false h2 _ (by omega) (by omega)).mono ?_
      (rintro x1 w3 ⟨rfl, hb⟩; have s3 := s2.call hb; have q3 := s3.hold; simp only [Holds, and_true] at q3; clear hb s2; try clear q2)
      go_wp2_with fail
      go_ret
      exact ⟨rfl, s3.bel⟩
    | true =>
      cases b3 with
      | false =>
        (go_enter Tryd.func5, Tryd.ntmps5; go_wp2_with fail; have s0 := (((St.startE hS).box4 23 (.bool d) (.bool u) (.int .i64 lo) (.int .i64 hi)).box4 23 (.bool d') (.bool u') (.int .i64 lo') (.int .i64 hi')).box4 23 (.bool d2) (.bool u2) (.int .i64 lo2) (.int .i64 hi2); simp only [World.size_alloc] at s0; refine (hT _ s0.errz).mono ?_; (rintro x1 w1 ⟨rfl, hb⟩; have s1 := s0.call hb; have q1 := s1.hold; simp only [Holds, and_true] at q1; clear hb s0; try clear q0); go_wp2_with fail)
        refine (small_as d u lo hi 1000 true h1 _ (by omega) (by omega)).mono ?_
        (rintro x1 w2 ⟨rfl, hb⟩; have s2 := s1.call hb; have q2 := s2.hold; simp only [Holds, and_true] at q2; clear hb s1; try clear q1)
        go_wp2_with fail
        refine (small_as d' u' lo' hi' 1000 true h2 _ (by omega) (by omega)).mono ?_
        (rintro x1 w3 ⟨rfl, hb⟩; have s3 := s2.call hb; have q3 := s3.hold; simp only [Holds, and_true] at q3; clear hb s2; try clear q2)
        go_wp2_with fail
        refine (small_as d2 u2 lo2 hi2 1000 false h3 _ (by omega) (by omega)).mono ?_
        (rintro x1 w4 ⟨rfl, hb⟩; have s4 := s3.call hb; have q4 := s4.hold; simp only [Holds, and_true] at q4; clear hb s3; try clear q3)
        go_wp2_with fail
        go_ret
        exact ⟨rfl, s4.bel⟩
      | true =>
        by_cases hp : 0 < e
        · clear h
          (go_enter Tryd.func5, Tryd.ntmps5; go_wp2_with fail; have s0 := (((St.startE hS).box4 23 (.bool d) (.bool u) (.int .i64 lo) (.int .i64 hi)).box4 23 (.bool d') (.bool u') (.int .i64 lo') (.int .i64 hi')).box4 23 (.bool d2) (.bool u2) (.int .i64 lo2) (.int .i64 hi2); simp only [World.size_alloc] at s0; refine (hT _ s0.errz).mono ?_; (rintro x1 w1 ⟨rfl, hb⟩; have s1 := s0.call hb; have q1 := s1.hold; simp only [Holds, and_true] at q1; clear hb s0; try clear q0); go_wp2_with fail)
          refine (small_as d u lo hi 1000 true h1 _ (by omega) (by omega)).mono ?_
          (rintro x1 w2 ⟨rfl, hb⟩; have s2 := s1.call hb; have q2 := s2.hold; simp only [Holds, and_true] at q2; clear hb s1; try clear q1)
          go_wp2_with fail
          refine (small_as d' u' lo' hi' 1000 true h2 _ (by omega) (by omega)).mono ?_
          (rintro x1 w3 ⟨rfl, hb⟩; have s3 := s2.call hb; have q3 := s3.hold; simp only [Holds, and_true] at q3; clear hb s2; try clear q2)
          go_wp2_with fail
          refine (small_as d2 u2 lo2 hi2 1000 true h3 _ (by omega) (by omega)).mono ?_
          (rintro x1 w4 ⟨rfl, hb⟩; have s4 := s3.call hb; have q4 := s4.hold; simp only [Holds, and_true] at q4; clear hb s3; try clear q3)
          go_wp2_with fail
          refine (al_two d u d' u' lo hi lo' hi' e he _).mono ?_
          (rintro x1 w5 ⟨rfl, hb⟩; have s5 := s4.call hb; have q5 := s5.hold; simp only [Holds, and_true] at q5; clear hb s4; try clear q4)
          go_wp2_with fail
          go_ret
          exact ⟨rfl, s5.bel⟩
        · have hq : 0 < f := by simp at h; omega
          have ez : e = 0 := by omega
          subst ez
          clear h hp
          (go_enter Tryd.func5, Tryd.ntmps5; go_wp2_with fail; have s0 := (((St.startE hS).box4 23 (.bool d) (.bool u) (.int .i64 lo) (.int .i64 hi)).box4 23 (.bool d') (.bool u') (.int .i64 lo') (.int .i64 hi')).box4 23 (.bool d2) (.bool u2) (.int .i64 lo2) (.int .i64 hi2); simp only [World.size_alloc] at s0; refine (hT _ s0.errz).mono ?_; (rintro x1 w1 ⟨rfl, hb⟩; have s1 := s0.call hb; have q1 := s1.hold; simp only [Holds, and_true] at q1; clear hb s0; try clear q0); go_wp2_with fail)
          refine (small_as d u lo hi 1000 true h1 _ (by omega) (by omega)).mono ?_
          (rintro x1 w2 ⟨rfl, hb⟩; have s2 := s1.call hb; have q2 := s2.hold; simp only [Holds, and_true] at q2; clear hb s1; try clear q1)
          go_wp2_with fail
          refine (small_as d' u' lo' hi' 1000 true h2 _ (by omega) (by omega)).mono ?_
          (rintro x1 w3 ⟨rfl, hb⟩; have s3 := s2.call hb; have q3 := s3.hold; simp only [Holds, and_true] at q3; clear hb s2; try clear q2)
          go_wp2_with fail
          refine (small_as d2 u2 lo2 hi2 1000 true h3 _ (by omega) (by omega)).mono ?_
          (rintro x1 w4 ⟨rfl, hb⟩; have s4 := s3.call hb; have q4 := s4.hold; simp only [Holds, and_true] at q4; clear hb s3; try clear q3)
          go_wp2_with fail
          refine (al_two d u d' u' lo hi lo' hi' 0 he _).mono ?_
          (rintro x1 w5 ⟨rfl, hb⟩; have s5 := s4.call hb; have q5 := s5.hold; simp only [Holds, and_true] at q5; clear hb s4; try clear q4)
          go_wp2_with fail
          refine (al_one d2 u2 lo2 hi2 f hf _).mono ?_
          (rintro x1 w6 ⟨rfl, hb⟩; have s6 := s5.call hb; have q6 := s6.hold; simp only [Holds, and_true] at q6; clear hb s5; try clear q5)
          go_wp2_with fail
          go_ret
          exact ⟨rfl, s6.bel⟩

set_option maxRecDepth 20000 in
set_option maxHeartbeats 32000000 in
theorem algebra_in (a : Nat → Addr) (hT : ThreeC a) (hJ : JoinC a) (hM : MeetC a) (hA : AddC a) (hB : SubC a) (hP : MulC a) (d u d' u' d2 u2 : Bool) (lo hi lo' hi' lo2 hi2 : Int) (w : World) (hS : ErrS w a) (h1 : okI ⟨d, u, lo, hi⟩) (h2 : okI ⟨d', u', lo', hi'⟩) (h3 : okI ⟨d2, u2, lo2, hi2⟩) (g1 : smallB ⟨d, u, lo, hi⟩ 1000 = true) (g2 : smallB ⟨d', u', lo', hi'⟩ 1000 = true) (g3 : smallB ⟨d2, u2, lo2, hi2⟩ 1000 = true) :
    Calls Tryd.prog 5 #[(.agg #[.bool d, .bool u, .int .i64 lo, .int .i64 hi]), (.agg #[.bool d', .bool u', .int .i64 lo', .int .i64 hi']), (.agg #[.bool d2, .bool u2, .int .i64 lo2, .int .i64 hi2])] w fun x w' => x = .returned (.bool true) ∧ Below w.heap.size w w' := by
  have H1 := hide ((twoErr_ok _ _).2 ⟨h1, h2⟩)
  have H3 := hide ((okI_iff ⟨d2, u2, lo2, hi2⟩).2 h3)
  have F1 := hide (fin_of g1 h1)
  have F2 := hide (fin_of g2 h2)
  have F3 := hide (fin_of g3 h3)
  have G1 := hide g1
  have G2 := hide g2
  have G3 := hide g3
  have K1 := hide h1
  have K2 := hide h2
  have K3 := hide h3
  clear h1 h2 h3 g1 g2 g3
  have hwn : (-1000 ≤ lo' ∧ lo' ≤ hi' ∧ hi' ≤ 1000) := by have := F2.out; exact ⟨this.2.2.1, this.2.2.2.1, this.2.2.2.2⟩
  have wn1 : wrap64 (-hi') = -hi' := IntWalk.wrap64_in _ ⟨by omega, by omega⟩
  have wn2 : wrap64 (-lo') = -lo' := IntWalk.wrap64_in _ ⟨by omega, by omega⟩
  have K4 := hide (show okI ⟨false, false, -hi', -lo'⟩ by unfold okI; dsimp only; simp; omega)
  have F4 := hide (show Fin ⟨false, false, -hi', -lo'⟩ 1000 by unfold Fin; dsimp only; simp; omega)
  clear hwn
  obtain ⟨⟨nd, nu, nl, nh⟩, hn⟩ : ∃ J, J = joined ⟨d, u, lo, hi⟩ ⟨d', u', lo', hi'⟩ := ⟨_, rfl⟩
  obtain ⟨⟨md, mu, ml, mh⟩, hm⟩ : ∃ J, J = met ⟨d, u, lo, hi⟩ ⟨d', u', lo', hi'⟩ := ⟨_, rfl⟩
  obtain ⟨mb, hmb⟩ : ∃ b, b = metB ⟨d, u, lo, hi⟩ ⟨d', u', lo', hi'⟩ := ⟨_, rfl⟩
  have J1 : ∀ W : World, ErrS W a → Calls Tryd.prog 23 #[(.agg #[.bool d, .bool u, .int .i64 lo, .int .i64 hi]), (.agg #[.bool d', .bool u', .int .i64 lo', .int .i64 hi'])] W fun x w' => x = .returned (.tuple #[(.agg #[.bool nd, .bool nu, .int .i64 nl, .int .i64 nh]), .nilIface]) ∧ Below W.heap.size W w' := by
    intro W h
    have := hJ.good d u d' u' lo hi lo' hi' K1.out K2.out W h
    rw [← hn] at this
    exact this
  have M1 : ∀ W : World, ErrS W a → Calls Tryd.prog 24 #[(.agg #[.bool d, .bool u, .int .i64 lo, .int .i64 hi]), (.agg #[.bool nd, .bool nu, .int .i64 nl, .int .i64 nh])] W fun x w' => x = .returned (.tuple #[(.agg #[.bool d, .bool u, .int .i64 lo, .int .i64 hi]), .bool true, .nilIface]) ∧ Below W.heap.size W w' := by
    intro W h
    have := hM.good d u nd nu lo hi nl nh K1.out (by rw [hn]; exact joined_ok' K1.out K2.out) W h
    rw [hn, (meet_join F1.out F2.out).1, (meet_join F1.out F2.out).2] at this
    exact this
  have J2 : ∀ W : World, ErrS W a → Calls Tryd.prog 23 #[(.agg #[.bool d, .bool u, .int .i64 lo, .int .i64 hi]), (.agg #[.bool d, .bool u, .int .i64 lo, .int .i64 hi])] W fun x w' => x = .returned (.tuple #[(.agg #[.bool d, .bool u, .int .i64 lo, .int .i64 hi]), .nilIface]) ∧ Below W.heap.size W w' := by
    intro W h
    have := hJ.good d u d u lo hi lo hi K1.out K1.out W h
    rw [join_self F1.out] at this
    exact this
  have M2 : ∀ W : World, ErrS W a → Calls Tryd.prog 24 #[(.agg #[.bool d, .bool u, .int .i64 lo, .int .i64 hi]), (.agg #[.bool d', .bool u', .int .i64 lo', .int .i64 hi'])] W fun x w' => x = .returned (.tuple #[(.agg #[.bool md, .bool mu, .int .i64 ml, .int .i64 mh]), .bool mb, .nilIface]) ∧ Below W.heap.size W w' := by
    intro W h
    have := hM.good d u d' u' lo hi lo' hi' K1.out K2.out W h
    rw [← hm, ← hmb] at this
    exact this
  have J3 : mb = true → ∀ W : World, ErrS W a → Calls Tryd.prog 23 #[(.agg #[.bool d, .bool u, .int .i64 lo, .int .i64 hi]), (.agg #[.bool md, .bool mu, .int .i64 ml, .int .i64 mh])] W fun x w' => x = .returned (.tuple #[(.agg #[.bool d, .bool u, .int .i64 lo, .int .i64 hi]), .nilIface]) ∧ Below W.heap.size W w' := by
    intro hb W h
    rw [hmb] at hb
    have jm := join_meet F1.out F2.out hb
    have := hJ.good d u md mu lo hi ml mh K1.out (by rw [hm]; exact jm.2) W h
    rw [hm, jm.1] at this
    exact this
  have HJ1 := hide J1
  have HM1 := hide M1
  have HJ2 := hide J2
  have HM2 := hide M2
  have HJ3 := hide J3
  clear J1 M1 J2 M2 J3 hn hm hmb hJ hM
  (go_enter Tryd.func5, Tryd.ntmps5; go_wp2_with fail; have s0 := (((St.startE hS).box4 23 (.bool d) (.bool u) (.int .i64 lo) (.int .i64 hi)).box4 23 (.bool d') (.bool u') (.int .i64 lo') (.int .i64 hi')).box4 23 (.bool d2) (.bool u2) (.int .i64 lo2) (.int .i64 hi2); simp only [World.size_alloc] at s0; refine (hT _ s0.errz).mono ?_; (rintro x1 w1 ⟨rfl, hb⟩; have s1 := s0.call hb; have q1 := s1.hold; simp only [Holds, and_true] at q1; clear hb s0; try clear q0); go_wp2_with fail)
  refine (small_as d u lo hi 1000 true G1 _ (by omega) (by omega)).mono ?_
  (rintro x1 w2 ⟨rfl, hb⟩; have s2 := s1.call hb; have q2 := s2.hold; simp only [Holds, and_true] at q2; clear hb s1; try clear q1)
  go_wp2_with fail
  refine (small_as d' u' lo' hi' 1000 true G2 _ (by omega) (by omega)).mono ?_
  (rintro x1 w3 ⟨rfl, hb⟩; have s3 := s2.call hb; have q3 := s3.hold; simp only [Holds, and_true] at q3; clear hb s2; try clear q2)
  go_wp2_with fail
  refine (small_as d2 u2 lo2 hi2 1000 true G3 _ (by omega) (by omega)).mono ?_
  (rintro x1 w4 ⟨rfl, hb⟩; have s4 := s3.call hb; have q4 := s4.hold; simp only [Holds, and_true] at q4; clear hb s3; try clear q3)
  go_wp2_with fail
  refine (al_two d u d' u' lo hi lo' hi' 0 H1 _).mono ?_
  (rintro x1 w5 ⟨rfl, hb⟩; have s5 := s4.call hb; have q5 := s5.hold; simp only [Holds, and_true] at q5; clear hb s4; try clear q4)
  go_wp2_with fail
  refine (al_one d2 u2 lo2 hi2 0 H3 _).mono ?_
  (rintro x1 w6 ⟨rfl, hb⟩; have s6 := s5.call hb; have q6 := s6.hold; simp only [Holds, and_true] at q6; clear hb s5; try clear q5)
  go_wp2_with fail
  refine (hA.good d u d' u' lo hi lo' hi' K1.out K2.out _ s6.errz).mono ?_
  (rintro x1 w7 ⟨xd, xu, xl, xh, rfl, hp, hb⟩; have s7 := s6.call hb; have q7 := s7.hold; simp only [Holds, and_true] at q7; clear hb s6; try clear q6)
  have HX := hide hp
  clear hp
  go_wp2_with fail
  have o7 := s7.hold.older
  have z7 : w.heap.size + 2 < w7.heap.size := by have := s7.hold.1.2.1; omega
  (have s71 := s7.box4 23 (.bool xd) (.bool xu) (.int .i64 xl) (.int .i64 xh))
  refine (hA.good d' u' d u lo' hi' lo hi K2.out K1.out _ s71.errz).mono ?_
  (rintro x1 w8 ⟨yd, yu, yl, yh, rfl, hp, hb⟩; have s8 := s71.call hb; have q8 := s8.hold; simp only [Holds, and_true] at q8; clear hb s71; try clear q71)
  have HY := hide hp
  clear hp
  obtain ⟨rfl, rfl, rfl, rfl⟩ : xd = yd ∧ xu = yu ∧ xl = yl ∧ xh = yh := by simpa using HX.out.unique HY.out (sums_comm _ _)
  go_wp2_with fail
  have o8 := s8.hold.older
  have z8 : w7.heap.size < w8.heap.size := by have := s8.hold.1.2.1; omega
  (have s81 := s8.box4 23 (.bool xd) (.bool xu) (.int .i64 xl) (.int .i64 xh))
  refine (hA.good xd xu d2 u2 xl xh lo2 hi2 HX.out.ok K3.out _ s81.errz).mono ?_
  (rintro x1 w9 ⟨pd, pu, pl, ph, rfl, hp, hb⟩; have s9 := s81.call hb; have q9 := s9.hold; simp only [Holds, and_true] at q9; clear hb s81; try clear q81)
  have HU := hide hp
  clear hp
  go_wp2_with fail
  have o9 := s9.hold.older
  have z9 : w8.heap.size < w9.heap.size := by have := s9.hold.1.2.1; omega
  (have s91 := s9.box4 23 (.bool pd) (.bool pu) (.int .i64 pl) (.int .i64 ph))
  refine (hA.good d' u' d2 u2 lo' hi' lo2 hi2 K2.out K3.out _ s91.errz).mono ?_
  (rintro x1 w10 ⟨zd, zu, zl, zh, rfl, hp, hb⟩; have s10 := s91.call hb; have q10 := s10.hold; simp only [Holds, and_true] at q10; clear hb s91; try clear q91)
  have HZ := hide hp
  clear hp
  go_wp2_with fail
  have o10 := s10.hold.older
  have z10 : w9.heap.size < w10.heap.size := by have := s10.hold.1.2.1; omega
  (have s101 := s10.box4 23 (.bool zd) (.bool zu) (.int .i64 zl) (.int .i64 zh))
  refine (hA.good d u zd zu lo hi zl zh K1.out HZ.out.ok _ s101.errz).mono ?_
  (rintro x1 w11 ⟨vd, vu, vl, vh, rfl, hp, hb⟩; have s11 := s101.call hb; have q11 := s11.hold; simp only [Holds, and_true] at q11; clear hb s101; try clear q101)
  have HV := hide hp
  clear hp
  obtain ⟨rfl, rfl, rfl, rfl⟩ : pd = vd ∧ pu = vu ∧ pl = vl ∧ ph = vh := by simpa using sum_assoc F1.out F2.out F3.out HX.out HU.out HZ.out HV.out
  have N1 := fun W => neIv xd xu xd xu xl xh xl xh W
  have N2 := fun W => neIv pd pu pd pu pl ph pl ph W
  go_wp2_with fail
  have o11 := s11.hold.older
  have z11 : w10.heap.size < w11.heap.size := by have := s11.hold.1.2.1; omega
  (have s111 := s11.box4 23 (.bool pd) (.bool pu) (.int .i64 pl) (.int .i64 ph))
  clear HX HY HU HZ HV o7 o8 o9 o10 o11
  refine (hP.good d u d' u' lo hi lo' hi' K1.out K2.out _ s111.errz).mono ?_
  (rintro x1 w12 ⟨ed, eu, el, eh, rfl, hp, hb⟩; have s12 := s111.call hb; have q12 := s12.hold; simp only [Holds, and_true] at q12; clear hb s111; try clear q111)
  have HX := hide hp
  clear hp
  go_wp2_with fail
  have s12a : St w _ (EZ a) ((w11.heap.size, 0, Value.bool pd) :: (w11.heap.size, 1, Value.bool pu) :: (w11.heap.size, 2, Value.int .i64 pl) :: (w11.heap.size, 3, Value.int .i64 ph) :: (w10.heap.size, 0, Value.bool zd) :: (w10.heap.size, 1, Value.bool zu) :: (w10.heap.size, 2, Value.int .i64 zl) :: (w10.heap.size, 3, Value.int .i64 zh) :: (w9.heap.size, 0, Value.bool pd) :: (w9.heap.size, 1, Value.bool pu) :: (w9.heap.size, 2, Value.int .i64 pl) :: (w9.heap.size, 3, Value.int .i64 ph) :: (w8.heap.size, 0, Value.bool xd) :: (w8.heap.size, 1, Value.bool xu) :: (w8.heap.size, 2, Value.int .i64 xl) :: (w8.heap.size, 3, Value.int .i64 xh) :: (w7.heap.size, 0, Value.bool ed) :: (w7.heap.size, 1, Value.bool eu) :: (w7.heap.size, 2, Value.int .i64 el) :: (w7.heap.size, 3, Value.int .i64 eh) :: ((w.heap.size + 2, 0, Value.bool d2) :: (w.heap.size + 2, 1, Value.bool u2) :: (w.heap.size + 2, 2, Value.int .i64 lo2) :: (w.heap.size + 2, 3, Value.int .i64 hi2) :: (w.heap.size + 1, 0, Value.bool d') :: (w.heap.size + 1, 1, Value.bool u') :: (w.heap.size + 1, 2, Value.int .i64 lo') :: (w.heap.size + 1, 3, Value.int .i64 hi') :: (w.heap.size, 0, Value.bool d) :: (w.heap.size, 1, Value.bool u) :: (w.heap.size, 2, Value.int .i64 lo) :: (w.heap.size, 3, Value.int .i64 hi) :: [])) := s12.set4 ((w11.heap.size, 0, Value.bool pd) :: (w11.heap.size, 1, Value.bool pu) :: (w11.heap.size, 2, Value.int .i64 pl) :: (w11.heap.size, 3, Value.int .i64 ph) :: (w10.heap.size, 0, Value.bool zd) :: (w10.heap.size, 1, Value.bool zu) :: (w10.heap.size, 2, Value.int .i64 zl) :: (w10.heap.size, 3, Value.int .i64 zh) :: (w9.heap.size, 0, Value.bool pd) :: (w9.heap.size, 1, Value.bool pu) :: (w9.heap.size, 2, Value.int .i64 pl) :: (w9.heap.size, 3, Value.int .i64 ph) :: (w8.heap.size, 0, Value.bool xd) :: (w8.heap.size, 1, Value.bool xu) :: (w8.heap.size, 2, Value.int .i64 xl) :: (w8.heap.size, 3, Value.int .i64 xh) :: []) ( ((w.heap.size + 2, 0, Value.bool d2) :: (w.heap.size + 2, 1, Value.bool u2) :: (w.heap.size + 2, 2, Value.int .i64 lo2) :: (w.heap.size + 2, 3, Value.int .i64 hi2) :: (w.heap.size + 1, 0, Value.bool d') :: (w.heap.size + 1, 1, Value.bool u') :: (w.heap.size + 1, 2, Value.int .i64 lo') :: (w.heap.size + 1, 3, Value.int .i64 hi') :: (w.heap.size, 0, Value.bool d) :: (w.heap.size, 1, Value.bool u) :: (w.heap.size, 2, Value.int .i64 lo) :: (w.heap.size, 3, Value.int .i64 hi) :: [])) (by omega) (by simp only [Apart, ne_eq, and_true]; omega) (by simp only [Apart, ne_eq, and_true]; omega) (.bool ed) (.bool eu) (.int .i64 el) (.int .i64 eh)
  have q12a := s12a.hold
  simp only [Holds, and_true] at q12a
  clear s12 q12
  refine (hP.good d' u' d u lo' hi' lo hi K2.out K1.out _ s12a.errz).mono ?_
  (rintro x1 w13 ⟨fd, fu, fl, fh, rfl, hp, hb⟩; have s13 := s12a.call hb; have q13 := s13.hold; simp only [Holds, and_true] at q13; clear hb s12a; try clear q12a)
  have HY := hide hp
  clear hp
  obtain ⟨rfl, rfl, rfl, rfl⟩ : ed = fd ∧ eu = fu ∧ el = fl ∧ eh = fh := by simpa using HX.out.unique HY.out (prods_comm _ _)
  go_wp2_with fail
  have s13a : St w _ (EZ a) ((w11.heap.size, 0, Value.bool pd) :: (w11.heap.size, 1, Value.bool pu) :: (w11.heap.size, 2, Value.int .i64 pl) :: (w11.heap.size, 3, Value.int .i64 ph) :: (w10.heap.size, 0, Value.bool zd) :: (w10.heap.size, 1, Value.bool zu) :: (w10.heap.size, 2, Value.int .i64 zl) :: (w10.heap.size, 3, Value.int .i64 zh) :: (w9.heap.size, 0, Value.bool pd) :: (w9.heap.size, 1, Value.bool pu) :: (w9.heap.size, 2, Value.int .i64 pl) :: (w9.heap.size, 3, Value.int .i64 ph) :: (w8.heap.size, 0, Value.bool ed) :: (w8.heap.size, 1, Value.bool eu) :: (w8.heap.size, 2, Value.int .i64 el) :: (w8.heap.size, 3, Value.int .i64 eh) :: (w7.heap.size, 0, Value.bool ed) :: (w7.heap.size, 1, Value.bool eu) :: (w7.heap.size, 2, Value.int .i64 el) :: (w7.heap.size, 3, Value.int .i64 eh) :: ((w.heap.size + 2, 0, Value.bool d2) :: (w.heap.size + 2, 1, Value.bool u2) :: (w.heap.size + 2, 2, Value.int .i64 lo2) :: (w.heap.size + 2, 3, Value.int .i64 hi2) :: (w.heap.size + 1, 0, Value.bool d') :: (w.heap.size + 1, 1, Value.bool u') :: (w.heap.size + 1, 2, Value.int .i64 lo') :: (w.heap.size + 1, 3, Value.int .i64 hi') :: (w.heap.size, 0, Value.bool d) :: (w.heap.size, 1, Value.bool u) :: (w.heap.size, 2, Value.int .i64 lo) :: (w.heap.size, 3, Value.int .i64 hi) :: [])) := s13.set4 ((w11.heap.size, 0, Value.bool pd) :: (w11.heap.size, 1, Value.bool pu) :: (w11.heap.size, 2, Value.int .i64 pl) :: (w11.heap.size, 3, Value.int .i64 ph) :: (w10.heap.size, 0, Value.bool zd) :: (w10.heap.size, 1, Value.bool zu) :: (w10.heap.size, 2, Value.int .i64 zl) :: (w10.heap.size, 3, Value.int .i64 zh) :: (w9.heap.size, 0, Value.bool pd) :: (w9.heap.size, 1, Value.bool pu) :: (w9.heap.size, 2, Value.int .i64 pl) :: (w9.heap.size, 3, Value.int .i64 ph) :: []) ((w7.heap.size, 0, Value.bool ed) :: (w7.heap.size, 1, Value.bool eu) :: (w7.heap.size, 2, Value.int .i64 el) :: (w7.heap.size, 3, Value.int .i64 eh) :: ((w.heap.size + 2, 0, Value.bool d2) :: (w.heap.size + 2, 1, Value.bool u2) :: (w.heap.size + 2, 2, Value.int .i64 lo2) :: (w.heap.size + 2, 3, Value.int .i64 hi2) :: (w.heap.size + 1, 0, Value.bool d') :: (w.heap.size + 1, 1, Value.bool u') :: (w.heap.size + 1, 2, Value.int .i64 lo') :: (w.heap.size + 1, 3, Value.int .i64 hi') :: (w.heap.size, 0, Value.bool d) :: (w.heap.size, 1, Value.bool u) :: (w.heap.size, 2, Value.int .i64 lo) :: (w.heap.size, 3, Value.int .i64 hi) :: [])) (by omega) (by simp only [Apart, ne_eq, and_true]; omega) (by simp only [Apart, ne_eq, and_true]; omega) (.bool ed) (.bool eu) (.int .i64 el) (.int .i64 eh)
  have q13a := s13a.hold
  simp only [Holds, and_true] at q13a
  clear s13 q13
  refine (hP.good ed eu d2 u2 el eh lo2 hi2 HX.out.ok K3.out _ s13a.errz).mono ?_
  (rintro x1 w14 ⟨gd, gu, gl, gh, rfl, hp, hb⟩; have s14 := s13a.call hb; have q14 := s14.hold; simp only [Holds, and_true] at q14; clear hb s13a; try clear q13a)
  have HU := hide hp
  clear hp
  go_wp2_with fail
  have s14a : St w _ (EZ a) ((w11.heap.size, 0, Value.bool pd) :: (w11.heap.size, 1, Value.bool pu) :: (w11.heap.size, 2, Value.int .i64 pl) :: (w11.heap.size, 3, Value.int .i64 ph) :: (w10.heap.size, 0, Value.bool zd) :: (w10.heap.size, 1, Value.bool zu) :: (w10.heap.size, 2, Value.int .i64 zl) :: (w10.heap.size, 3, Value.int .i64 zh) :: (w9.heap.size, 0, Value.bool gd) :: (w9.heap.size, 1, Value.bool gu) :: (w9.heap.size, 2, Value.int .i64 gl) :: (w9.heap.size, 3, Value.int .i64 gh) :: (w8.heap.size, 0, Value.bool ed) :: (w8.heap.size, 1, Value.bool eu) :: (w8.heap.size, 2, Value.int .i64 el) :: (w8.heap.size, 3, Value.int .i64 eh) :: (w7.heap.size, 0, Value.bool ed) :: (w7.heap.size, 1, Value.bool eu) :: (w7.heap.size, 2, Value.int .i64 el) :: (w7.heap.size, 3, Value.int .i64 eh) :: ((w.heap.size + 2, 0, Value.bool d2) :: (w.heap.size + 2, 1, Value.bool u2) :: (w.heap.size + 2, 2, Value.int .i64 lo2) :: (w.heap.size + 2, 3, Value.int .i64 hi2) :: (w.heap.size + 1, 0, Value.bool d') :: (w.heap.size + 1, 1, Value.bool u') :: (w.heap.size + 1, 2, Value.int .i64 lo') :: (w.heap.size + 1, 3, Value.int .i64 hi') :: (w.heap.size, 0, Value.bool d) :: (w.heap.size, 1, Value.bool u) :: (w.heap.size, 2, Value.int .i64 lo) :: (w.heap.size, 3, Value.int .i64 hi) :: [])) := s14.set4 ((w11.heap.size, 0, Value.bool pd) :: (w11.heap.size, 1, Value.bool pu) :: (w11.heap.size, 2, Value.int .i64 pl) :: (w11.heap.size, 3, Value.int .i64 ph) :: (w10.heap.size, 0, Value.bool zd) :: (w10.heap.size, 1, Value.bool zu) :: (w10.heap.size, 2, Value.int .i64 zl) :: (w10.heap.size, 3, Value.int .i64 zh) :: []) ((w8.heap.size, 0, Value.bool ed) :: (w8.heap.size, 1, Value.bool eu) :: (w8.heap.size, 2, Value.int .i64 el) :: (w8.heap.size, 3, Value.int .i64 eh) :: (w7.heap.size, 0, Value.bool ed) :: (w7.heap.size, 1, Value.bool eu) :: (w7.heap.size, 2, Value.int .i64 el) :: (w7.heap.size, 3, Value.int .i64 eh) :: ((w.heap.size + 2, 0, Value.bool d2) :: (w.heap.size + 2, 1, Value.bool u2) :: (w.heap.size + 2, 2, Value.int .i64 lo2) :: (w.heap.size + 2, 3, Value.int .i64 hi2) :: (w.heap.size + 1, 0, Value.bool d') :: (w.heap.size + 1, 1, Value.bool u') :: (w.heap.size + 1, 2, Value.int .i64 lo') :: (w.heap.size + 1, 3, Value.int .i64 hi') :: (w.heap.size, 0, Value.bool d) :: (w.heap.size, 1, Value.bool u) :: (w.heap.size, 2, Value.int .i64 lo) :: (w.heap.size, 3, Value.int .i64 hi) :: [])) (by omega) (by simp only [Apart, ne_eq, and_true]; omega) (by simp only [Apart, ne_eq, and_true]; omega) (.bool gd) (.bool gu) (.int .i64 gl) (.int .i64 gh)
  have q14a := s14a.hold
  simp only [Holds, and_true] at q14a
  clear s14 q14
  refine (hP.good d' u' d2 u2 lo' hi' lo2 hi2 K2.out K3.out _ s14a.errz).mono ?_
  (rintro x1 w15 ⟨jd, ju, jl, jh, rfl, hp, hb⟩; have s15 := s14a.call hb; have q15 := s15.hold; simp only [Holds, and_true] at q15; clear hb s14a; try clear q14a)
  have HZ := hide hp
  clear hp
  go_wp2_with fail
  have s15a : St w _ (EZ a) ((w11.heap.size, 0, Value.bool pd) :: (w11.heap.size, 1, Value.bool pu) :: (w11.heap.size, 2, Value.int .i64 pl) :: (w11.heap.size, 3, Value.int .i64 ph) :: (w10.heap.size, 0, Value.bool jd) :: (w10.heap.size, 1, Value.bool ju) :: (w10.heap.size, 2, Value.int .i64 jl) :: (w10.heap.size, 3, Value.int .i64 jh) :: (w9.heap.size, 0, Value.bool gd) :: (w9.heap.size, 1, Value.bool gu) :: (w9.heap.size, 2, Value.int .i64 gl) :: (w9.heap.size, 3, Value.int .i64 gh) :: (w8.heap.size, 0, Value.bool ed) :: (w8.heap.size, 1, Value.bool eu) :: (w8.heap.size, 2, Value.int .i64 el) :: (w8.heap.size, 3, Value.int .i64 eh) :: (w7.heap.size, 0, Value.bool ed) :: (w7.heap.size, 1, Value.bool eu) :: (w7.heap.size, 2, Value.int .i64 el) :: (w7.heap.size, 3, Value.int .i64 eh) :: ((w.heap.size + 2, 0, Value.bool d2) :: (w.heap.size + 2, 1, Value.bool u2) :: (w.heap.size + 2, 2, Value.int .i64 lo2) :: (w.heap.size + 2, 3, Value.int .i64 hi2) :: (w.heap.size + 1, 0, Value.bool d') :: (w.heap.size + 1, 1, Value.bool u') :: (w.heap.size + 1, 2, Value.int .i64 lo') :: (w.heap.size + 1, 3, Value.int .i64 hi') :: (w.heap.size, 0, Value.bool d) :: (w.heap.size, 1, Value.bool u) :: (w.heap.size, 2, Value.int .i64 lo) :: (w.heap.size, 3, Value.int .i64 hi) :: [])) := s15.set4 ((w11.heap.size, 0, Value.bool pd) :: (w11.heap.size, 1, Value.bool pu) :: (w11.heap.size, 2, Value.int .i64 pl) :: (w11.heap.size, 3, Value.int .i64 ph) :: []) ((w9.heap.size, 0, Value.bool gd) :: (w9.heap.size, 1, Value.bool gu) :: (w9.heap.size, 2, Value.int .i64 gl) :: (w9.heap.size, 3, Value.int .i64 gh) :: (w8.heap.size, 0, Value.bool ed) :: (w8.heap.size, 1, Value.bool eu) :: (w8.heap.size, 2, Value.int .i64 el) :: (w8.heap.size, 3, Value.int .i64 eh) :: (w7.heap.size, 0, Value.bool ed) :: (w7.heap.size, 1, Value.bool eu) :: (w7.heap.size, 2, Value.int .i64 el) :: (w7.heap.size, 3, Value.int .i64 eh) :: ((w.heap.size + 2, 0, Value.bool d2) :: (w.heap.size + 2, 1, Value.bool u2) :: (w.heap.size + 2, 2, Value.int .i64 lo2) :: (w.heap.size + 2, 3, Value.int .i64 hi2) :: (w.heap.size + 1, 0, Value.bool d') :: (w.heap.size + 1, 1, Value.bool u') :: (w.heap.size + 1, 2, Value.int .i64 lo') :: (w.heap.size + 1, 3, Value.int .i64 hi') :: (w.heap.size, 0, Value.bool d) :: (w.heap.size, 1, Value.bool u) :: (w.heap.size, 2, Value.int .i64 lo) :: (w.heap.size, 3, Value.int .i64 hi) :: [])) (by omega) (by simp only [Apart, ne_eq, and_true]; omega) (by simp only [Apart, ne_eq, and_true]; omega) (.bool jd) (.bool ju) (.int .i64 jl) (.int .i64 jh)
  have q15a := s15a.hold
  simp only [Holds, and_true] at q15a
  clear s15 q15
  refine (hP.good d u jd ju lo hi jl jh K1.out HZ.out.ok _ s15a.errz).mono ?_
  (rintro x1 w16 ⟨kd, ku, kl, kh, rfl, hp, hb⟩; have s16 := s15a.call hb; have q16 := s16.hold; simp only [Holds, and_true] at q16; clear hb s15a; try clear q15a)
  have HV := hide hp
  clear hp
  obtain ⟨rfl, rfl, rfl, rfl⟩ : gd = kd ∧ gu = ku ∧ gl = kl ∧ gh = kh := by simpa using prod_assoc F1.out F2.out F3.out HX.out HU.out HZ.out HV.out
  clear N1 N2
  have N1 := fun W => neIv ed eu ed eu el eh el eh W
  have N2 := fun W => neIv gd gu gd gu gl gh gl gh W
  go_wp2_with fail
  have s16a : St w _ (EZ a) ((w11.heap.size, 0, Value.bool gd) :: (w11.heap.size, 1, Value.bool gu) :: (w11.heap.size, 2, Value.int .i64 gl) :: (w11.heap.size, 3, Value.int .i64 gh) :: (w10.heap.size, 0, Value.bool jd) :: (w10.heap.size, 1, Value.bool ju) :: (w10.heap.size, 2, Value.int .i64 jl) :: (w10.heap.size, 3, Value.int .i64 jh) :: (w9.heap.size, 0, Value.bool gd) :: (w9.heap.size, 1, Value.bool gu) :: (w9.heap.size, 2, Value.int .i64 gl) :: (w9.heap.size, 3, Value.int .i64 gh) :: (w8.heap.size, 0, Value.bool ed) :: (w8.heap.size, 1, Value.bool eu) :: (w8.heap.size, 2, Value.int .i64 el) :: (w8.heap.size, 3, Value.int .i64 eh) :: (w7.heap.size, 0, Value.bool ed) :: (w7.heap.size, 1, Value.bool eu) :: (w7.heap.size, 2, Value.int .i64 el) :: (w7.heap.size, 3, Value.int .i64 eh) :: ((w.heap.size + 2, 0, Value.bool d2) :: (w.heap.size + 2, 1, Value.bool u2) :: (w.heap.size + 2, 2, Value.int .i64 lo2) :: (w.heap.size + 2, 3, Value.int .i64 hi2) :: (w.heap.size + 1, 0, Value.bool d') :: (w.heap.size + 1, 1, Value.bool u') :: (w.heap.size + 1, 2, Value.int .i64 lo') :: (w.heap.size + 1, 3, Value.int .i64 hi') :: (w.heap.size, 0, Value.bool d) :: (w.heap.size, 1, Value.bool u) :: (w.heap.size, 2, Value.int .i64 lo) :: (w.heap.size, 3, Value.int .i64 hi) :: [])) := s16.set4 ( []) ((w10.heap.size, 0, Value.bool jd) :: (w10.heap.size, 1, Value.bool ju) :: (w10.heap.size, 2, Value.int .i64 jl) :: (w10.heap.size, 3, Value.int .i64 jh) :: (w9.heap.size, 0, Value.bool gd) :: (w9.heap.size, 1, Value.bool gu) :: (w9.heap.size, 2, Value.int .i64 gl) :: (w9.heap.size, 3, Value.int .i64 gh) :: (w8.heap.size, 0, Value.bool ed) :: (w8.heap.size, 1, Value.bool eu) :: (w8.heap.size, 2, Value.int .i64 el) :: (w8.heap.size, 3, Value.int .i64 eh) :: (w7.heap.size, 0, Value.bool ed) :: (w7.heap.size, 1, Value.bool eu) :: (w7.heap.size, 2, Value.int .i64 el) :: (w7.heap.size, 3, Value.int .i64 eh) :: ((w.heap.size + 2, 0, Value.bool d2) :: (w.heap.size + 2, 1, Value.bool u2) :: (w.heap.size + 2, 2, Value.int .i64 lo2) :: (w.heap.size + 2, 3, Value.int .i64 hi2) :: (w.heap.size + 1, 0, Value.bool d') :: (w.heap.size + 1, 1, Value.bool u') :: (w.heap.size + 1, 2, Value.int .i64 lo') :: (w.heap.size + 1, 3, Value.int .i64 hi') :: (w.heap.size, 0, Value.bool d) :: (w.heap.size, 1, Value.bool u) :: (w.heap.size, 2, Value.int .i64 lo) :: (w.heap.size, 3, Value.int .i64 hi) :: [])) (by omega) trivial (by simp only [Apart, ne_eq, and_true]; omega) (.bool gd) (.bool gu) (.int .i64 gl) (.int .i64 gh)
  have q16a := s16a.hold
  simp only [Holds, and_true] at q16a
  clear s16 q16
  clear HX HY HU HZ HV
  have s16ad : St w _ (EZ a) ((w8.heap.size, 0, Value.bool ed) :: (w8.heap.size, 1, Value.bool eu) :: (w8.heap.size, 2, Value.int .i64 el) :: (w8.heap.size, 3, Value.int .i64 eh) :: (w7.heap.size, 0, Value.bool ed) :: (w7.heap.size, 1, Value.bool eu) :: (w7.heap.size, 2, Value.int .i64 el) :: (w7.heap.size, 3, Value.int .i64 eh) :: ((w.heap.size + 2, 0, Value.bool d2) :: (w.heap.size + 2, 1, Value.bool u2) :: (w.heap.size + 2, 2, Value.int .i64 lo2) :: (w.heap.size + 2, 3, Value.int .i64 hi2) :: (w.heap.size + 1, 0, Value.bool d') :: (w.heap.size + 1, 1, Value.bool u') :: (w.heap.size + 1, 2, Value.int .i64 lo') :: (w.heap.size + 1, 3, Value.int .i64 hi') :: (w.heap.size, 0, Value.bool d) :: (w.heap.size, 1, Value.bool u) :: (w.heap.size, 2, Value.int .i64 lo) :: (w.heap.size, 3, Value.int .i64 hi) :: [])) := s16a.drop 12
  have q16ad := s16ad.hold
  simp only [Holds, and_true] at q16ad
  clear s16a q16a
  refine (hB.good d u d' u' lo hi lo' hi' K1.out K2.out _ s16ad.errz).mono ?_
  (rintro x1 w17 ⟨xd, xu, xl, xh, rfl, hp, hb⟩; have s17 := s16ad.call hb; have q17 := s17.hold; simp only [Holds, and_true] at q17; clear hb s16ad; try clear q16ad)
  have HX := hide hp
  clear hp
  go_wp2_with fail
  have s17a : St w _ (EZ a) ((w8.heap.size, 0, Value.bool ed) :: (w8.heap.size, 1, Value.bool eu) :: (w8.heap.size, 2, Value.int .i64 el) :: (w8.heap.size, 3, Value.int .i64 eh) :: (w7.heap.size, 0, Value.bool xd) :: (w7.heap.size, 1, Value.bool xu) :: (w7.heap.size, 2, Value.int .i64 xl) :: (w7.heap.size, 3, Value.int .i64 xh) :: ((w.heap.size + 2, 0, Value.bool d2) :: (w.heap.size + 2, 1, Value.bool u2) :: (w.heap.size + 2, 2, Value.int .i64 lo2) :: (w.heap.size + 2, 3, Value.int .i64 hi2) :: (w.heap.size + 1, 0, Value.bool d') :: (w.heap.size + 1, 1, Value.bool u') :: (w.heap.size + 1, 2, Value.int .i64 lo') :: (w.heap.size + 1, 3, Value.int .i64 hi') :: (w.heap.size, 0, Value.bool d) :: (w.heap.size, 1, Value.bool u) :: (w.heap.size, 2, Value.int .i64 lo) :: (w.heap.size, 3, Value.int .i64 hi) :: [])) := s17.set4 ((w8.heap.size, 0, Value.bool ed) :: (w8.heap.size, 1, Value.bool eu) :: (w8.heap.size, 2, Value.int .i64 el) :: (w8.heap.size, 3, Value.int .i64 eh) :: []) ( ((w.heap.size + 2, 0, Value.bool d2) :: (w.heap.size + 2, 1, Value.bool u2) :: (w.heap.size + 2, 2, Value.int .i64 lo2) :: (w.heap.size + 2, 3, Value.int .i64 hi2) :: (w.heap.size + 1, 0, Value.bool d') :: (w.heap.size + 1, 1, Value.bool u') :: (w.heap.size + 1, 2, Value.int .i64 lo') :: (w.heap.size + 1, 3, Value.int .i64 hi') :: (w.heap.size, 0, Value.bool d) :: (w.heap.size, 1, Value.bool u) :: (w.heap.size, 2, Value.int .i64 lo) :: (w.heap.size, 3, Value.int .i64 hi) :: [])) (by omega) (by simp only [Apart, ne_eq, and_true]; omega) (by simp only [Apart, ne_eq, and_true]; omega) (.bool xd) (.bool xu) (.int .i64 xl) (.int .i64 xh)
  have q17a := s17a.hold
  simp only [Holds, and_true] at q17a
  clear s17 q17
  clear N1 N2
  refine (hA.good d u false false lo hi (-hi') (-lo') K1.out K4.out _ s17a.errz).mono ?_
  (rintro x1 w18 ⟨yd, yu, yl, yh, rfl, hp, hb⟩; have s18 := s17a.call hb; have q18 := s18.hold; simp only [Holds, and_true] at q18; clear hb s17a; try clear q17a)
  have HY := hide hp
  clear hp
  obtain ⟨rfl, rfl, rfl, rfl⟩ : xd = yd ∧ xu = yu ∧ xl = yl ∧ xh = yh := by
    have e1 := diff_fin F1.out F2.out (by omega) HX.out
    have e2 := sum_fin F1.out F4.out (by omega) HY.out
    simp only [Iv.mk.injEq] at e1 e2
    obtain ⟨p1, p2, p3, p4⟩ := e1
    obtain ⟨r1, r2, r3, r4⟩ := e2
    exact ⟨by rw [p1, r1], by rw [p2, r2], by omega, by omega⟩
  go_wp2_with fail
  have s18a : St w _ (EZ a) ((w8.heap.size, 0, Value.bool xd) :: (w8.heap.size, 1, Value.bool xu) :: (w8.heap.size, 2, Value.int .i64 xl) :: (w8.heap.size, 3, Value.int .i64 xh) :: (w7.heap.size, 0, Value.bool xd) :: (w7.heap.size, 1, Value.bool xu) :: (w7.heap.size, 2, Value.int .i64 xl) :: (w7.heap.size, 3, Value.int .i64 xh) :: ((w.heap.size + 2, 0, Value.bool d2) :: (w.heap.size + 2, 1, Value.bool u2) :: (w.heap.size + 2, 2, Value.int .i64 lo2) :: (w.heap.size + 2, 3, Value.int .i64 hi2) :: (w.heap.size + 1, 0, Value.bool d') :: (w.heap.size + 1, 1, Value.bool u') :: (w.heap.size + 1, 2, Value.int .i64 lo') :: (w.heap.size + 1, 3, Value.int .i64 hi') :: (w.heap.size, 0, Value.bool d) :: (w.heap.size, 1, Value.bool u) :: (w.heap.size, 2, Value.int .i64 lo) :: (w.heap.size, 3, Value.int .i64 hi) :: [])) := s18.set4 ( []) ((w7.heap.size, 0, Value.bool xd) :: (w7.heap.size, 1, Value.bool xu) :: (w7.heap.size, 2, Value.int .i64 xl) :: (w7.heap.size, 3, Value.int .i64 xh) :: ((w.heap.size + 2, 0, Value.bool d2) :: (w.heap.size + 2, 1, Value.bool u2) :: (w.heap.size + 2, 2, Value.int .i64 lo2) :: (w.heap.size + 2, 3, Value.int .i64 hi2) :: (w.heap.size + 1, 0, Value.bool d') :: (w.heap.size + 1, 1, Value.bool u') :: (w.heap.size + 1, 2, Value.int .i64 lo') :: (w.heap.size + 1, 3, Value.int .i64 hi') :: (w.heap.size, 0, Value.bool d) :: (w.heap.size, 1, Value.bool u) :: (w.heap.size, 2, Value.int .i64 lo) :: (w.heap.size, 3, Value.int .i64 hi) :: [])) (by omega) trivial (by simp only [Apart, ne_eq, and_true]; omega) (.bool xd) (.bool xu) (.int .i64 xl) (.int .i64 xh)
  have q18a := s18a.hold
  simp only [Holds, and_true] at q18a
  clear s18 q18
  refine (HJ1.out _ s18a.errz).mono ?_
  (rintro x1 w19 ⟨rfl, hb⟩; have s19 := s18a.call hb; have q19 := s19.hold; simp only [Holds, and_true] at q19; clear hb s18a; try clear q18a)
  go_wp2_with fail
  have z19 : w8.heap.size < w19.heap.size := by have := s19.hold.1.2.1; omega
  (have s191 := s19.box4 23 (.bool nd) (.bool nu) (.int .i64 nl) (.int .i64 nh))
  refine (HM1.out _ s191.errz).mono ?_
  (rintro x1 w20 ⟨rfl, hb⟩; have s20 := s191.call hb; have q20 := s20.hold; simp only [Holds, and_true] at q20; clear hb s191; try clear q191)
  go_wp2_with fail
  have z20 : w19.heap.size < w20.heap.size := by have := s20.hold.1.2.1; omega
  (have s201 := s20.box4 23 (.bool d) (.bool u) (.int .i64 lo) (.int .i64 hi))
  refine (HJ2.out _ s201.errz).mono ?_
  (rintro x1 w21 ⟨rfl, hb⟩; have s21 := s201.call hb; have q21 := s21.hold; simp only [Holds, and_true] at q21; clear hb s201; try clear q201)
  have N1 := fun W => neIv xd xu xd xu xl xh xl xh W
  have N2 := fun W => neIv d u d u lo hi lo hi W
  go_wp2_with fail
  have z21 : w20.heap.size < w21.heap.size := by have := s21.hold.1.2.1; omega
  (have s211 := s21.box4 23 (.bool d) (.bool u) (.int .i64 lo) (.int .i64 hi))
  refine (HM2.out _ s211.errz).mono ?_
  (rintro x1 w22 ⟨rfl, hb⟩; have s22 := s211.call hb; have q22 := s22.hold; simp only [Holds, and_true] at q22; clear hb s211; try clear q211)
  cases mb with
  | false =>
    go_wp2_with fail
    go_ret
    have s22a : St w _ (EZ a) ((w21.heap.size, 0, Value.bool d) :: (w21.heap.size, 1, Value.bool u) :: (w21.heap.size, 2, Value.int .i64 lo) :: (w21.heap.size, 3, Value.int .i64 hi) :: (w20.heap.size, 0, Value.bool md) :: (w20.heap.size, 1, Value.bool mu) :: (w20.heap.size, 2, Value.int .i64 ml) :: (w20.heap.size, 3, Value.int .i64 mh) :: (w19.heap.size, 0, Value.bool nd) :: (w19.heap.size, 1, Value.bool nu) :: (w19.heap.size, 2, Value.int .i64 nl) :: (w19.heap.size, 3, Value.int .i64 nh) :: (w8.heap.size, 0, Value.bool xd) :: (w8.heap.size, 1, Value.bool xu) :: (w8.heap.size, 2, Value.int .i64 xl) :: (w8.heap.size, 3, Value.int .i64 xh) :: (w7.heap.size, 0, Value.bool xd) :: (w7.heap.size, 1, Value.bool xu) :: (w7.heap.size, 2, Value.int .i64 xl) :: (w7.heap.size, 3, Value.int .i64 xh) :: ((w.heap.size + 2, 0, Value.bool d2) :: (w.heap.size + 2, 1, Value.bool u2) :: (w.heap.size + 2, 2, Value.int .i64 lo2) :: (w.heap.size + 2, 3, Value.int .i64 hi2) :: (w.heap.size + 1, 0, Value.bool d') :: (w.heap.size + 1, 1, Value.bool u') :: (w.heap.size + 1, 2, Value.int .i64 lo') :: (w.heap.size + 1, 3, Value.int .i64 hi') :: (w.heap.size, 0, Value.bool d) :: (w.heap.size, 1, Value.bool u) :: (w.heap.size, 2, Value.int .i64 lo) :: (w.heap.size, 3, Value.int .i64 hi) :: [])) := s22.set4 ((w21.heap.size, 0, Value.bool d) :: (w21.heap.size, 1, Value.bool u) :: (w21.heap.size, 2, Value.int .i64 lo) :: (w21.heap.size, 3, Value.int .i64 hi) :: []) ((w19.heap.size, 0, Value.bool nd) :: (w19.heap.size, 1, Value.bool nu) :: (w19.heap.size, 2, Value.int .i64 nl) :: (w19.heap.size, 3, Value.int .i64 nh) :: (w8.heap.size, 0, Value.bool xd) :: (w8.heap.size, 1, Value.bool xu) :: (w8.heap.size, 2, Value.int .i64 xl) :: (w8.heap.size, 3, Value.int .i64 xh) :: (w7.heap.size, 0, Value.bool xd) :: (w7.heap.size, 1, Value.bool xu) :: (w7.heap.size, 2, Value.int .i64 xl) :: (w7.heap.size, 3, Value.int .i64 xh) :: ((w.heap.size + 2, 0, Value.bool d2) :: (w.heap.size + 2, 1, Value.bool u2) :: (w.heap.size + 2, 2, Value.int .i64 lo2) :: (w.heap.size + 2, 3, Value.int .i64 hi2) :: (w.heap.size + 1, 0, Value.bool d') :: (w.heap.size + 1, 1, Value.bool u') :: (w.heap.size + 1, 2, Value.int .i64 lo') :: (w.heap.size + 1, 3, Value.int .i64 hi') :: (w.heap.size, 0, Value.bool d) :: (w.heap.size, 1, Value.bool u) :: (w.heap.size, 2, Value.int .i64 lo) :: (w.heap.size, 3, Value.int .i64 hi) :: [])) (by omega) (by simp only [Apart, ne_eq, and_true]; omega) (by simp only [Apart, ne_eq, and_true]; omega) (.bool md) (.bool mu) (.int .i64 ml) (.int .i64 mh)
    have q22a := s22a.hold
    simp only [Holds, and_true] at q22a
    clear s22 q22
    exact ⟨rfl, s22a.bel⟩
  | true =>
    go_wp2_with fail
    have s22a : St w _ (EZ a) ((w21.heap.size, 0, Value.bool d) :: (w21.heap.size, 1, Value.bool u) :: (w21.heap.size, 2, Value.int .i64 lo) :: (w21.heap.size, 3, Value.int .i64 hi) :: (w20.heap.size, 0, Value.bool md) :: (w20.heap.size, 1, Value.bool mu) :: (w20.heap.size, 2, Value.int .i64 ml) :: (w20.heap.size, 3, Value.int .i64 mh) :: (w19.heap.size, 0, Value.bool nd) :: (w19.heap.size, 1, Value.bool nu) :: (w19.heap.size, 2, Value.int .i64 nl) :: (w19.heap.size, 3, Value.int .i64 nh) :: (w8.heap.size, 0, Value.bool xd) :: (w8.heap.size, 1, Value.bool xu) :: (w8.heap.size, 2, Value.int .i64 xl) :: (w8.heap.size, 3, Value.int .i64 xh) :: (w7.heap.size, 0, Value.bool xd) :: (w7.heap.size, 1, Value.bool xu) :: (w7.heap.size, 2, Value.int .i64 xl) :: (w7.heap.size, 3, Value.int .i64 xh) :: ((w.heap.size + 2, 0, Value.bool d2) :: (w.heap.size + 2, 1, Value.bool u2) :: (w.heap.size + 2, 2, Value.int .i64 lo2) :: (w.heap.size + 2, 3, Value.int .i64 hi2) :: (w.heap.size + 1, 0, Value.bool d') :: (w.heap.size + 1, 1, Value.bool u') :: (w.heap.size + 1, 2, Value.int .i64 lo') :: (w.heap.size + 1, 3, Value.int .i64 hi') :: (w.heap.size, 0, Value.bool d) :: (w.heap.size, 1, Value.bool u) :: (w.heap.size, 2, Value.int .i64 lo) :: (w.heap.size, 3, Value.int .i64 hi) :: [])) := s22.set4 ((w21.heap.size, 0, Value.bool d) :: (w21.heap.size, 1, Value.bool u) :: (w21.heap.size, 2, Value.int .i64 lo) :: (w21.heap.size, 3, Value.int .i64 hi) :: []) ((w19.heap.size, 0, Value.bool nd) :: (w19.heap.size, 1, Value.bool nu) :: (w19.heap.size, 2, Value.int .i64 nl) :: (w19.heap.size, 3, Value.int .i64 nh) :: (w8.heap.size, 0, Value.bool xd) :: (w8.heap.size, 1, Value.bool xu) :: (w8.heap.size, 2, Value.int .i64 xl) :: (w8.heap.size, 3, Value.int .i64 xh) :: (w7.heap.size, 0, Value.bool xd) :: (w7.heap.size, 1, Value.bool xu) :: (w7.heap.size, 2, Value.int .i64 xl) :: (w7.heap.size, 3, Value.int .i64 xh) :: ((w.heap.size + 2, 0, Value.bool d2) :: (w.heap.size + 2, 1, Value.bool u2) :: (w.heap.size + 2, 2, Value.int .i64 lo2) :: (w.heap.size + 2, 3, Value.int .i64 hi2) :: (w.heap.size + 1, 0, Value.bool d') :: (w.heap.size + 1, 1, Value.bool u') :: (w.heap.size + 1, 2, Value.int .i64 lo') :: (w.heap.size + 1, 3, Value.int .i64 hi') :: (w.heap.size, 0, Value.bool d) :: (w.heap.size, 1, Value.bool u) :: (w.heap.size, 2, Value.int .i64 lo) :: (w.heap.size, 3, Value.int .i64 hi) :: [])) (by omega) (by simp only [Apart, ne_eq, and_true]; omega) (by simp only [Apart, ne_eq, and_true]; omega) (.bool md) (.bool mu) (.int .i64 ml) (.int .i64 mh)
    have q22a := s22a.hold
    simp only [Holds, and_true] at q22a
    clear s22 q22
    refine (HJ3.out trivial _ s22a.errz).mono ?_
    (rintro x1 w23 ⟨rfl, hb⟩; have s23 := s22a.call hb; have q23 := s23.hold; simp only [Holds, and_true] at q23; clear hb s22a; try clear q22a)
    clear N1 N2
    have N1 := fun W => eqIv d u d u lo hi lo hi W
    go_wp2_with fail
    go_ret
    have s23a : St w _ (EZ a) ((w21.heap.size, 0, Value.bool d) :: (w21.heap.size, 1, Value.bool u) :: (w21.heap.size, 2, Value.int .i64 lo) :: (w21.heap.size, 3, Value.int .i64 hi) :: (w20.heap.size, 0, Value.bool md) :: (w20.heap.size, 1, Value.bool mu) :: (w20.heap.size, 2, Value.int .i64 ml) :: (w20.heap.size, 3, Value.int .i64 mh) :: (w19.heap.size, 0, Value.bool d) :: (w19.heap.size, 1, Value.bool u) :: (w19.heap.size, 2, Value.int .i64 lo) :: (w19.heap.size, 3, Value.int .i64 hi) :: (w8.heap.size, 0, Value.bool xd) :: (w8.heap.size, 1, Value.bool xu) :: (w8.heap.size, 2, Value.int .i64 xl) :: (w8.heap.size, 3, Value.int .i64 xh) :: (w7.heap.size, 0, Value.bool xd) :: (w7.heap.size, 1, Value.bool xu) :: (w7.heap.size, 2, Value.int .i64 xl) :: (w7.heap.size, 3, Value.int .i64 xh) :: ((w.heap.size + 2, 0, Value.bool d2) :: (w.heap.size + 2, 1, Value.bool u2) :: (w.heap.size + 2, 2, Value.int .i64 lo2) :: (w.heap.size + 2, 3, Value.int .i64 hi2) :: (w.heap.size + 1, 0, Value.bool d') :: (w.heap.size + 1, 1, Value.bool u') :: (w.heap.size + 1, 2, Value.int .i64 lo') :: (w.heap.size + 1, 3, Value.int .i64 hi') :: (w.heap.size, 0, Value.bool d) :: (w.heap.size, 1, Value.bool u) :: (w.heap.size, 2, Value.int .i64 lo) :: (w.heap.size, 3, Value.int .i64 hi) :: [])) := s23.set4 ((w21.heap.size, 0, Value.bool d) :: (w21.heap.size, 1, Value.bool u) :: (w21.heap.size, 2, Value.int .i64 lo) :: (w21.heap.size, 3, Value.int .i64 hi) :: (w20.heap.size, 0, Value.bool md) :: (w20.heap.size, 1, Value.bool mu) :: (w20.heap.size, 2, Value.int .i64 ml) :: (w20.heap.size, 3, Value.int .i64 mh) :: []) ((w8.heap.size, 0, Value.bool xd) :: (w8.heap.size, 1, Value.bool xu) :: (w8.heap.size, 2, Value.int .i64 xl) :: (w8.heap.size, 3, Value.int .i64 xh) :: (w7.heap.size, 0, Value.bool xd) :: (w7.heap.size, 1, Value.bool xu) :: (w7.heap.size, 2, Value.int .i64 xl) :: (w7.heap.size, 3, Value.int .i64 xh) :: ((w.heap.size + 2, 0, Value.bool d2) :: (w.heap.size + 2, 1, Value.bool u2) :: (w.heap.size + 2, 2, Value.int .i64 lo2) :: (w.heap.size + 2, 3, Value.int .i64 hi2) :: (w.heap.size + 1, 0, Value.bool d') :: (w.heap.size + 1, 1, Value.bool u') :: (w.heap.size + 1, 2, Value.int .i64 lo') :: (w.heap.size + 1, 3, Value.int .i64 hi') :: (w.heap.size, 0, Value.bool d) :: (w.heap.size, 1, Value.bool u) :: (w.heap.size, 2, Value.int .i64 lo) :: (w.heap.size, 3, Value.int .i64 hi) :: [])) (by omega) (by simp only [Apart, ne_eq, and_true]; omega) (by simp only [Apart, ne_eq, and_true]; omega) (.bool d) (.bool u) (.int .i64 lo) (.int .i64 hi)
    have q23a := s23a.hold
    simp only [Holds, and_true] at q23a
    clear s23 q23
    exact ⟨ret_bool (by simp), s23a.bel⟩
theorem intervalAlgebra_by (a : Nat → Addr) (hT : ThreeC a) (hJ : JoinC a) (hM : MeetC a) (hA : AddC a) (hB : SubC a) (hP : MulC a) (d u d' u' d2 u2 : Bool) (lo hi lo' hi' lo2 hi2 : Int) (w : World) (hS : ErrS w a) :
    Calls Tryd.prog 5 #[(.agg #[.bool d, .bool u, .int .i64 lo, .int .i64 hi]), (.agg #[.bool d', .bool u', .int .i64 lo', .int .i64 hi']), (.agg #[.bool d2, .bool u2, .int .i64 lo2, .int .i64 hi2])] w fun x w' => x = .returned (.bool true) ∧ Below w.heap.size w w' := by
  by_cases h : smallB ⟨d, u, lo, hi⟩ 1000 = true ∧ smallB ⟨d', u', lo', hi'⟩ 1000 = true ∧ smallB ⟨d2, u2, lo2, hi2⟩ 1000 = true ∧ twoErr ⟨d, u, lo, hi⟩ ⟨d', u', lo', hi'⟩ = 0 ∧ ivErr d2 u2 lo2 hi2 = 0
  · obtain ⟨h1, h2, h3, h4, h5⟩ := h
    have k := (twoErr_ok _ _).1 h4
    exact algebra_in a hT hJ hM hA hB hP d u d' u' d2 u2 lo hi lo' hi' lo2 hi2 w hS k.1 k.2 ((okI_iff ⟨d2, u2, lo2, hi2⟩).1 h5) h1 h2 h3
  · have e0 := (twoErr_range ⟨d, u, lo, hi⟩ ⟨d', u', lo', hi'⟩).1
    have f0 := (ivErr_range d2 u2 lo2 hi2).1
    refine algebra_out a hT d u d' u' d2 u2 lo hi lo' hi' lo2 hi2 w hS _ _ _ rfl rfl rfl _ _ rfl rfl e0 f0 ?_
    cases h1 : smallB ⟨d, u, lo, hi⟩ 1000 <;> cases h2 : smallB ⟨d', u', lo', hi'⟩ 1000 <;> cases h3 : smallB ⟨d2, u2, lo2, hi2⟩ 1000 <;> simp
    by_cases h4 : twoErr ⟨d, u, lo, hi⟩ ⟨d', u', lo', hi'⟩ = 0
    · right
      have h5 : ivErr d2 u2 lo2 hi2 ≠ 0 := fun h5 => h ⟨h1, h2, h3, h4, h5⟩
      omega
    · left; omega

end Go.Proofs.YtegibkjopkakhaaDoor
