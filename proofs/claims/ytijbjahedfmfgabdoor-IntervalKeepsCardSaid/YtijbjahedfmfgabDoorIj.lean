/- The walk of IntervalKeeps, by what is asked of the program's functions. -/
import Derived.Test.YtijbjahedfmfgabDoorIx
namespace Go.Proofs.YtijbjahedfmfgabDoor
open Go.RowKit

theorem kp_two (d u d' u' : Bool) (lo hi lo' hi' : Int) (e : Int) (he : Hid (twoErr ⟨d, u, lo, hi⟩ ⟨d', u', lo', hi'⟩ = e)) (w : World) :
    Calls Tryd.prog 8 #[(.agg #[.bool d, .bool u, .int .i64 lo, .int .i64 hi]), (.agg #[.bool d', .bool u', .int .i64 lo', .int .i64 hi'])] w fun x w' => x = .returned (.int .i64 e) ∧ Below w.heap.size w w' := by
  rw [← he.out]; exact twoErr_any d u d' u' lo hi lo' hi' w
theorem kp_in (d u : Bool) (lo hi n : Int) (b : Bool) (hb : Hid (inB ⟨d, u, lo, hi⟩ n = b)) (w : World) :
    Calls Tryd.prog 15 #[(.agg #[.bool d, .bool u, .int .i64 lo, .int .i64 hi]), .int .i64 n] w fun e w' => e = .returned (.bool b) ∧ Below w.heap.size w w' := by
  rw [← hb.out]; exact inOf_any d u lo hi n w
theorem kp_far (n m : Int) (b : Bool) (hb : Hid (farB n m = b)) (w : World) (hm : 0 ≤ m) (hm2 : m ≤ 9223372036854775807) :
    Calls Tryd.prog 16 #[.int .i64 n, .int .i64 m] w fun e w' => e = .returned (.bool b) ∧ Below w.heap.size w w' := by
  rw [← hb.out]; refine (far_any n m w hm hm2).mono ?_; rintro e w' ⟨rfl, rfl⟩; exact ⟨rfl, Below.refl _ _⟩
theorem kp_stands (k : Nat) (h1 : 1 ≤ k) (h2 : k ≤ 6) (x y : Int) (s : ByteArray) (b : Bool) (hs : Hid (s = howS k)) (hb : Hid (rel k x y = b)) (w : World) :
    Calls Tryd.prog 13 #[.int .i64 x, .string s, .int .i64 y] w fun e w' => e = .returned (.bool b) ∧ Below w.heap.size w w' := by
  rw [← hb.out, hs.out]; exact stands_any k h1 h2 x y w

set_option maxHeartbeats 1000000 in
theorem keeps_out (a : Nat → Addr) (hT : ThreeC a) (d u d' u' : Bool) (lo hi lo' hi' : Int) (s : ByteArray) (x y : Int) (w : World) (hS : ErrT w a) (h : ¬ (okI ⟨d, u, lo, hi⟩ ∧ okI ⟨d', u', lo', hi'⟩ ∧ inI ⟨d, u, lo, hi⟩ x ∧ inI ⟨d', u', lo', hi'⟩ y)) :
    Calls Tryd.prog 4 #[(.agg #[.bool d, .bool u, .int .i64 lo, .int .i64 hi]), (.agg #[.bool d', .bool u', .int .i64 lo', .int .i64 hi']), .string s, .int .i64 x, .int .i64 y] w fun x w' => x = .returned (.bool true) ∧ Below w.heap.size w w' := by
  by_cases h1 : twoErr ⟨d, u, lo, hi⟩ ⟨d', u', lo', hi'⟩ = 0
  · have H1 := hide h1
    cases h2 : inB ⟨d, u, lo, hi⟩ x with
    | false =>
      have H2 := hide h2
      clear h h1 h2
      (go_enter Tryd.func4, Tryd.ntmps4; go_wp2_with fail; have s0 := ((St.startT hS).box4 23 (.bool d) (.bool u) (.int .i64 lo) (.int .i64 hi)).box4 23 (.bool d') (.bool u') (.int .i64 lo') (.int .i64 hi'); simp only [World.size_alloc] at s0; refine (hT _ s0.errt.1).mono ?_; (rintro x1 w1 ⟨rfl, hb⟩; have s1 := s0.call hb; have q1 := s1.hold; simp only [Holds, and_true] at q1; clear hb s0; try clear q0); go_wp2_with fail)
      refine (kp_two d u d' u' lo hi lo' hi' 0 H1 _).mono ?_
      (rintro x1 w2 ⟨rfl, hb⟩; have s2 := s1.call hb; have q2 := s2.hold; simp only [Holds, and_true] at q2; clear hb s1; try clear q1)
      go_wp2_with fail
      refine (kp_in d u lo hi x false H2 _).mono ?_
      (rintro x1 w3 ⟨rfl, hb⟩; have s3 := s2.call hb; have q3 := s3.hold; simp only [Holds, and_true] at q3; clear hb s2; try clear q2)
      go_wp2_with fail
      go_ret
      exact ⟨rfl, s3.bel⟩
    | true =>
      have h3 : inB ⟨d', u', lo', hi'⟩ y = false := by
        cases h3 : inB ⟨d', u', lo', hi'⟩ y with
        | false => rfl
        | true => exact absurd ⟨((twoErr_ok _ _).1 h1).1, ((twoErr_ok _ _).1 h1).2, (inB_iff _ _).1 h2, (inB_iff _ _).1 h3⟩ h
      have H2 := hide h2
      have H3 := hide h3
      clear h h1 h2 h3
      (go_enter Tryd.func4, Tryd.ntmps4; go_wp2_with fail; have s0 := ((St.startT hS).box4 23 (.bool d) (.bool u) (.int .i64 lo) (.int .i64 hi)).box4 23 (.bool d') (.bool u') (.int .i64 lo') (.int .i64 hi'); simp only [World.size_alloc] at s0; refine (hT _ s0.errt.1).mono ?_; (rintro x1 w1 ⟨rfl, hb⟩; have s1 := s0.call hb; have q1 := s1.hold; simp only [Holds, and_true] at q1; clear hb s0; try clear q0); go_wp2_with fail)
      refine (kp_two d u d' u' lo hi lo' hi' 0 H1 _).mono ?_
      (rintro x1 w2 ⟨rfl, hb⟩; have s2 := s1.call hb; have q2 := s2.hold; simp only [Holds, and_true] at q2; clear hb s1; try clear q1)
      go_wp2_with fail
      refine (kp_in d u lo hi x true H2 _).mono ?_
      (rintro x1 w3 ⟨rfl, hb⟩; have s3 := s2.call hb; have q3 := s3.hold; simp only [Holds, and_true] at q3; clear hb s2; try clear q2)
      go_wp2_with fail
      refine (kp_in d' u' lo' hi' y false H3 _).mono ?_
      (rintro x1 w4 ⟨rfl, hb⟩; have s4 := s3.call hb; have q4 := s4.hold; simp only [Holds, and_true] at q4; clear hb s3; try clear q3)
      go_wp2_with fail
      go_ret
      exact ⟨rfl, s4.bel⟩
  · obtain ⟨e, he⟩ : ∃ e, e = twoErr ⟨d, u, lo, hi⟩ ⟨d', u', lo', hi'⟩ := ⟨_, rfl⟩
    have he0 : 0 < e := by have := (twoErr_range ⟨d, u, lo, hi⟩ ⟨d', u', lo', hi'⟩).1; omega
    have He := hide he.symm
    clear h h1 he
    (go_enter Tryd.func4, Tryd.ntmps4; go_wp2_with fail; have s0 := ((St.startT hS).box4 23 (.bool d) (.bool u) (.int .i64 lo) (.int .i64 hi)).box4 23 (.bool d') (.bool u') (.int .i64 lo') (.int .i64 hi'); simp only [World.size_alloc] at s0; refine (hT _ s0.errt.1).mono ?_; (rintro x1 w1 ⟨rfl, hb⟩; have s1 := s0.call hb; have q1 := s1.hold; simp only [Holds, and_true] at q1; clear hb s0; try clear q0); go_wp2_with fail)
    refine (kp_two d u d' u' lo hi lo' hi' e He _).mono ?_
    (rintro x1 w2 ⟨rfl, hb⟩; have s2 := s1.call hb; have q2 := s2.hold; simp only [Holds, and_true] at q2; clear hb s1; try clear q1)
    go_wp2_with fail
    go_ret
    exact ⟨rfl, s2.bel⟩


theorem rel_sound {A B X Y : Iv} {k : Nat} {b : Bool} {x y : Int} (h : RefS A B k X Y b) (h3 : inI A x) (h4 : inI B y) (hr : rel k x y = true) : b = true ∧ okI X ∧ okI Y ∧ inI X x ∧ inI Y y := by
  have hb := h.some.2 ⟨x, y, h3, h4, hr⟩
  exact ⟨hb, (h.left hb).ok, (h.right hb).ok, (h.left hb).sound _ ⟨y, h3, h4, hr⟩, (h.right hb).sound _ ⟨x, h3, h4, hr⟩⟩

set_option maxHeartbeats 4000000 in
theorem keeps_in (a : Nat → Addr) (hT : ThreeC a) (hH : HasC a) (hF : RefineC a) (d u d' u' : Bool) (lo hi lo' hi' : Int) (s : ByteArray) (x y : Int) (w : World) (hS : ErrT w a) (bx : (-9223372036854775808 ≤ x ∧ x ≤ 9223372036854775807)) (bY : (-9223372036854775808 ≤ y ∧ y ≤ 9223372036854775807)) (h1 : okI ⟨d, u, lo, hi⟩) (h2 : okI ⟨d', u', lo', hi'⟩) (h3 : inI ⟨d, u, lo, hi⟩ x) (h4 : inI ⟨d', u', lo', hi'⟩ y) :
    Calls Tryd.prog 4 #[(.agg #[.bool d, .bool u, .int .i64 lo, .int .i64 hi]), (.agg #[.bool d', .bool u', .int .i64 lo', .int .i64 hi']), .string s, .int .i64 x, .int .i64 y] w fun x w' => x = .returned (.bool true) ∧ Below w.heap.size w w' := by
  have H1 := hide ((twoErr_ok _ _).2 ⟨h1, h2⟩)
  have H2 := hide ((inB_iff _ _).2 h3)
  have H3 := hide ((inB_iff _ _).2 h4)
  by_cases hl : 2 < s.size
  · have hl' : (2 : Int) < (s.size : Int) := by omega
    clear h1 h2 h3 h4 hl
    ((go_enter Tryd.func4, Tryd.ntmps4; go_wp2_with fail; have s0 := ((St.startT hS).box4 23 (.bool d) (.bool u) (.int .i64 lo) (.int .i64 hi)).box4 23 (.bool d') (.bool u') (.int .i64 lo') (.int .i64 hi'); simp only [World.size_alloc] at s0; refine (hT _ s0.errt.1).mono ?_; (rintro x1 w1 ⟨rfl, hb⟩; have s1 := s0.call hb; have q1 := s1.hold; simp only [Holds, and_true] at q1; clear hb s0; try clear q0); go_wp2_with fail); refine (kp_two d u d' u' lo hi lo' hi' 0 H1 _).mono ?_; (rintro x1 w2 ⟨rfl, hb⟩; have s2 := s1.call hb; have q2 := s2.hold; simp only [Holds, and_true] at q2; clear hb s1; try clear q1); go_wp2_with fail; refine (kp_in d u lo hi x true H2 _).mono ?_; (rintro x1 w3 ⟨rfl, hb⟩; have s3 := s2.call hb; have q3 := s3.hold; simp only [Holds, and_true] at q3; clear hb s2; try clear q2); go_wp2_with fail; refine (kp_in d' u' lo' hi' y true H3 _).mono ?_; (rintro x1 w4 ⟨rfl, hb⟩; have s4 := s3.call hb; have q4 := s4.hold; simp only [Holds, and_true] at q4; clear hb s3; try clear q3); go_wp2_with fail)
    go_ret
    exact ⟨rfl, s4.bel⟩
  have hl' : decide ((2 : Int) < (s.size : Int)) = false := decide_eq_false (by omega)
  by_cases hk : kindOf s = 0
  · have F : ∀ W : World, ErrT W a → Calls Tryd.prog 9 #[(.agg #[.bool d, .bool u, .int .i64 lo, .int .i64 hi]), (.agg #[.bool d', .bool u', .int .i64 lo', .int .i64 hi']), .string s] W fun e w' => e = .returned (.tuple #[(.agg #[.bool false, .bool false, .int .i64 0, .int .i64 0]), (.agg #[.bool false, .bool false, .int .i64 0, .int .i64 0]), .bool false, .iface 105 (.pointer (some (a 0)))]) ∧ Below W.heap.size W w' := by
      intro W h
      have e1 : refErr ⟨d, u, lo, hi⟩ ⟨d', u', lo', hi'⟩ s = 1 := by unfold refErr; rw [H1.out, if_pos rfl, if_pos hk]
      refine (hF d u d' u' lo hi lo' hi' s W h (okI_r h1) (okI_r h2)).mono ?_
      rintro e w' ⟨⟨X, Y, b, rfl, _, hz⟩, hb⟩
      rw [e1] at hz ⊢
      obtain ⟨rfl, rfl, rfl⟩ := hz (by omega)
      exact ⟨rfl, hb⟩
    have HF := hide F
    clear h1 h2 h3 h4 hl hk F
    ((go_enter Tryd.func4, Tryd.ntmps4; go_wp2_with fail; have s0 := ((St.startT hS).box4 23 (.bool d) (.bool u) (.int .i64 lo) (.int .i64 hi)).box4 23 (.bool d') (.bool u') (.int .i64 lo') (.int .i64 hi'); simp only [World.size_alloc] at s0; refine (hT _ s0.errt.1).mono ?_; (rintro x1 w1 ⟨rfl, hb⟩; have s1 := s0.call hb; have q1 := s1.hold; simp only [Holds, and_true] at q1; clear hb s0; try clear q0); go_wp2_with fail); refine (kp_two d u d' u' lo hi lo' hi' 0 H1 _).mono ?_; (rintro x1 w2 ⟨rfl, hb⟩; have s2 := s1.call hb; have q2 := s2.hold; simp only [Holds, and_true] at q2; clear hb s1; try clear q1); go_wp2_with fail; refine (kp_in d u lo hi x true H2 _).mono ?_; (rintro x1 w3 ⟨rfl, hb⟩; have s3 := s2.call hb; have q3 := s3.hold; simp only [Holds, and_true] at q3; clear hb s2; try clear q2); go_wp2_with fail; refine (kp_in d' u' lo' hi' y true H3 _).mono ?_; (rintro x1 w4 ⟨rfl, hb⟩; have s4 := s3.call hb; have q4 := s4.hold; simp only [Holds, and_true] at q4; clear hb s3; try clear q3); go_wp2_with fail)
    refine (HF.out _ s4.errt).mono ?_
    (rintro x1 w5 ⟨rfl, hb⟩; have s5 := s4.call hb; have q5 := s5.hold; simp only [Holds, and_true] at q5; clear hb s4; try clear q4)
    go_wp2_with fail
    go_ret
    exact ⟨rfl, ((s5.alloc _).alloc _).bel⟩
  obtain ⟨k, hke⟩ : ∃ k, k = kindOf s := ⟨_, rfl⟩
  have hk1 : 1 ≤ k := by omega
  have hk6 : k ≤ 6 := by rw [hke]; exact kindOf_le s
  have HK := hide (kindOf_eq hke.symm (by omega))
  have F : ∀ W : World, ErrT W a → Calls Tryd.prog 9 #[(.agg #[.bool d, .bool u, .int .i64 lo, .int .i64 hi]), (.agg #[.bool d', .bool u', .int .i64 lo', .int .i64 hi']), .string s] W fun e w' => ∃ (xd xu : Bool) (xl xh : Int) (yd yu : Bool) (yl yh : Int) (b : Bool), e = .returned (.tuple #[(.agg #[.bool xd, .bool xu, .int .i64 xl, .int .i64 xh]), (.agg #[.bool yd, .bool yu, .int .i64 yl, .int .i64 yh]), .bool b, .nilIface]) ∧ RefS ⟨d, u, lo, hi⟩ ⟨d', u', lo', hi'⟩ k ⟨xd, xu, xl, xh⟩ ⟨yd, yu, yl, yh⟩ b ∧ Below W.heap.size W w' := by
    intro W h
    have e1 : refErr ⟨d, u, lo, hi⟩ ⟨d', u', lo', hi'⟩ s = 0 := by unfold refErr; rw [H1.out, if_pos rfl, if_neg hk]
    refine (hF d u d' u' lo hi lo' hi' s W h (okI_r h1) (okI_r h2)).mono ?_
    rintro e w' ⟨⟨X, Y, b, rfl, hr, _⟩, hb⟩
    rw [e1] at hr ⊢
    obtain ⟨xd, xu, xl, xh⟩ := X
    obtain ⟨yd, yu, yl, yh⟩ := Y
    exact ⟨xd, xu, xl, xh, yd, yu, yl, yh, b, rfl, by rw [hke]; exact hr rfl, hb⟩
  have HF := hide F
  have K3 := hide h3
  have K4 := hide h4
  clear h1 h2 h3 h4 hl hk F hke
  ((go_enter Tryd.func4, Tryd.ntmps4; go_wp2_with fail; have s0 := ((St.startT hS).box4 23 (.bool d) (.bool u) (.int .i64 lo) (.int .i64 hi)).box4 23 (.bool d') (.bool u') (.int .i64 lo') (.int .i64 hi'); simp only [World.size_alloc] at s0; refine (hT _ s0.errt.1).mono ?_; (rintro x1 w1 ⟨rfl, hb⟩; have s1 := s0.call hb; have q1 := s1.hold; simp only [Holds, and_true] at q1; clear hb s0; try clear q0); go_wp2_with fail); refine (kp_two d u d' u' lo hi lo' hi' 0 H1 _).mono ?_; (rintro x1 w2 ⟨rfl, hb⟩; have s2 := s1.call hb; have q2 := s2.hold; simp only [Holds, and_true] at q2; clear hb s1; try clear q1); go_wp2_with fail; refine (kp_in d u lo hi x true H2 _).mono ?_; (rintro x1 w3 ⟨rfl, hb⟩; have s3 := s2.call hb; have q3 := s3.hold; simp only [Holds, and_true] at q3; clear hb s2; try clear q2); go_wp2_with fail; refine (kp_in d' u' lo' hi' y true H3 _).mono ?_; (rintro x1 w4 ⟨rfl, hb⟩; have s4 := s3.call hb; have q4 := s4.hold; simp only [Holds, and_true] at q4; clear hb s3; try clear q3); go_wp2_with fail)
  refine (HF.out _ s4.errt).mono ?_
  (rintro x1 w5 ⟨xd, xu, xl, xh, yd, yu, yl, yh, b, rfl, hr, hb⟩; have s5 := s4.call hb; have q5 := s5.hold; simp only [Holds, and_true] at q5; clear hb s4; try clear q4)
  have HR := hide hr
  clear hr
  go_wp2_with fail
  (have s51 := s5.box4 23 (.bool xd) (.bool xu) (.int .i64 xl) (.int .i64 xh))
  (have s52 := s51.box4 23 (.bool yd) (.bool yu) (.int .i64 yl) (.int .i64 yh))
  simp only [World.size_alloc] at s52
  clear s51
  cases hs : rel k x y with
  | false =>
    have Hs := hide hs
    clear hs
    refine (kp_stands k hk1 hk6 x y s false HK Hs _).mono ?_
    (rintro x1 w6 ⟨rfl, hb⟩; have s6 := s52.call hb; have q6 := s6.hold; simp only [Holds, and_true] at q6; clear hb s52; try clear q52)
    go_wp2_with fail
    go_ret
    exact ⟨rfl, s6.bel⟩
  | true =>
    have hfacts := rel_sound HR.out K3.out K4.out hs
    obtain ⟨rfl, ox, oy, ix, iy⟩ := hfacts
    have OX := hide ox
    have OY := hide oy
    have IX := hide ix
    have IY := hide iy
    have Hs := hide hs
    clear hs ox oy ix iy
    cases hx : farB x 1099511627776 with
    | true =>
      have HX := hide hx
      clear hx
      refine (kp_stands k hk1 hk6 x y s true HK Hs _).mono ?_
      (rintro x1 w6 ⟨rfl, hb⟩; have s6 := s52.call hb; have q6 := s6.hold; simp only [Holds, and_true] at q6; clear hb s52; try clear q52)
      go_wp2_with fail
      refine (kp_far x 1099511627776 true HX _ (by omega) (by omega)).mono ?_
      (rintro x1 w7 ⟨rfl, hb⟩; have s7 := s6.call hb; have q7 := s7.hold; simp only [Holds, and_true] at q7; clear hb s6; try clear q6)
      go_wp2_with fail
      go_ret
      exact ⟨rfl, s7.bel⟩
    | false =>
      have HX := hide hx
      clear hx
      cases hy : farB y 1099511627776 with
      | true =>
        have HY := hide hy
        clear hy
        refine (kp_stands k hk1 hk6 x y s true HK Hs _).mono ?_
        (rintro x1 w6 ⟨rfl, hb⟩; have s6 := s52.call hb; have q6 := s6.hold; simp only [Holds, and_true] at q6; clear hb s52; try clear q52)
        go_wp2_with fail
        refine (kp_far x 1099511627776 false HX _ (by omega) (by omega)).mono ?_
        (rintro x1 w7 ⟨rfl, hb⟩; have s7 := s6.call hb; have q7 := s7.hold; simp only [Holds, and_true] at q7; clear hb s6; try clear q6)
        go_wp2_with fail
        refine (kp_far y 1099511627776 true HY _ (by omega) (by omega)).mono ?_
        (rintro x1 w8 ⟨rfl, hb⟩; have s8 := s7.call hb; have q8 := s8.hold; simp only [Holds, and_true] at q8; clear hb s7; try clear q7)
        go_wp2_with fail
        go_ret
        exact ⟨rfl, s8.bel⟩
      | false =>
        have HY := hide hy
        clear hy
        refine (kp_stands k hk1 hk6 x y s true HK Hs _).mono ?_
        (rintro x1 w6 ⟨rfl, hb⟩; have s6 := s52.call hb; have q6 := s6.hold; simp only [Holds, and_true] at q6; clear hb s52; try clear q52)
        go_wp2_with fail
        refine (kp_far x 1099511627776 false HX _ (by omega) (by omega)).mono ?_
        (rintro x1 w7 ⟨rfl, hb⟩; have s7 := s6.call hb; have q7 := s7.hold; simp only [Holds, and_true] at q7; clear hb s6; try clear q6)
        go_wp2_with fail
        refine (kp_far y 1099511627776 false HY _ (by omega) (by omega)).mono ?_
        (rintro x1 w8 ⟨rfl, hb⟩; have s8 := s7.call hb; have q8 := s8.hold; simp only [Holds, and_true] at q8; clear hb s7; try clear q7)
        go_wp2_with fail
        refine (hH.good xd xu xl xh x OX.out bx IX.out _ s8.errt.1).mono ?_
        (rintro x1 w9 ⟨rfl, hb⟩; have s9 := s8.call hb; have q9 := s9.hold; simp only [Holds, and_true] at q9; clear hb s8; try clear q8)
        go_wp2_with fail
        refine (hH.good yd yu yl yh y OY.out bY IY.out _ s9.errt.1).mono ?_
        (rintro x1 w10 ⟨rfl, hb⟩; have s10 := s9.call hb; have q10 := s10.hold; simp only [Holds, and_true] at q10; clear hb s9; try clear q9)
        go_wp2_with fail
        go_ret
        exact ⟨ret_bool (by simp), s10.bel⟩

theorem intervalKeeps_by (a : Nat → Addr) (hT : ThreeC a) (hH : HasC a) (hF : RefineC a) (d u d' u' : Bool) (lo hi lo' hi' : Int) (s : ByteArray) (x y : Int) (w : World) (hS : ErrT w a) (bx : (-9223372036854775808 ≤ x ∧ x ≤ 9223372036854775807)) (bY : (-9223372036854775808 ≤ y ∧ y ≤ 9223372036854775807)) :
    Calls Tryd.prog 4 #[(.agg #[.bool d, .bool u, .int .i64 lo, .int .i64 hi]), (.agg #[.bool d', .bool u', .int .i64 lo', .int .i64 hi']), .string s, .int .i64 x, .int .i64 y] w fun x w' => x = .returned (.bool true) ∧ Below w.heap.size w w' := by
  by_cases h : okI ⟨d, u, lo, hi⟩ ∧ okI ⟨d', u', lo', hi'⟩ ∧ inI ⟨d, u, lo, hi⟩ x ∧ inI ⟨d', u', lo', hi'⟩ y
  · exact keeps_in a hT hH hF d u d' u' lo hi lo' hi' s x y w hS bx bY h.1 h.2.1 h.2.2.1 h.2.2.2
  · exact keeps_out a hT d u d' u' lo hi lo' hi' s x y w hS h

end Go.Proofs.YtijbjahedfmfgabDoor
