/- The walk of IntervalSound, by what is asked of the program's functions. -/
import Derived.Test.YtegibkjopkakhaaDoorIu
namespace Go.Proofs.YtegibkjopkakhaaDoor
open Go.RowKit

def DivC (a : Nat → Addr) : Prop := ∀ (d u d' u' : Bool) (lo hi lo' hi' : Int) (w : World), ErrS w a → (-9223372036854775808 ≤ lo ∧ lo ≤ 9223372036854775807) ∧ (-9223372036854775808 ≤ hi ∧ hi ≤ 9223372036854775807) → (-9223372036854775808 ≤ lo' ∧ lo' ≤ 9223372036854775807) ∧ (-9223372036854775808 ≤ hi' ∧ hi' ≤ 9223372036854775807) →
  Calls Tryd.prog 12 #[(.agg #[.bool d, .bool u, .int .i64 lo, .int .i64 hi]), (.agg #[.bool d', .bool u', .int .i64 lo', .int .i64 hi'])] w fun e w' => (∃ (R : Iv) (b : Bool), e = .returned (.tuple #[R.v, .bool b, errV a (twoErr ⟨d, u, lo, hi⟩ ⟨d', u', lo', hi'⟩)]) ∧ (twoErr ⟨d, u, lo, hi⟩ ⟨d', u', lo', hi'⟩ = 0 → DivS ⟨d, u, lo, hi⟩ ⟨d', u', lo', hi'⟩ R b) ∧ (twoErr ⟨d, u, lo, hi⟩ ⟨d', u', lo', hi'⟩ ≠ 0 → R = ivZ ∧ b = false)) ∧ Below w.heap.size w w'
def RemC (a : Nat → Addr) : Prop := ∀ (d u d' u' : Bool) (lo hi lo' hi' : Int) (w : World), ErrS w a → (-9223372036854775808 ≤ lo ∧ lo ≤ 9223372036854775807) ∧ (-9223372036854775808 ≤ hi ∧ hi ≤ 9223372036854775807) → (-9223372036854775808 ≤ lo' ∧ lo' ≤ 9223372036854775807) ∧ (-9223372036854775808 ≤ hi' ∧ hi' ≤ 9223372036854775807) →
  Calls Tryd.prog 13 #[(.agg #[.bool d, .bool u, .int .i64 lo, .int .i64 hi]), (.agg #[.bool d', .bool u', .int .i64 lo', .int .i64 hi'])] w fun e w' => (∃ (R : Iv) (b : Bool), e = .returned (.tuple #[R.v, .bool b, errV a (twoErr ⟨d, u, lo, hi⟩ ⟨d', u', lo', hi'⟩)]) ∧ (twoErr ⟨d, u, lo, hi⟩ ⟨d', u', lo', hi'⟩ = 0 → RemS ⟨d, u, lo, hi⟩ ⟨d', u', lo', hi'⟩ R b) ∧ (twoErr ⟨d, u, lo, hi⟩ ⟨d', u', lo', hi'⟩ ≠ 0 → R = ivZ ∧ b = false)) ∧ Below w.heap.size w w'

theorem DivC.good {a : Nat → Addr} (h : DivC a) (d u d' u' : Bool) (lo hi lo' hi' : Int) (h1 : okI ⟨d, u, lo, hi⟩) (h2 : okI ⟨d', u', lo', hi'⟩) (w : World) (hS : ErrS w a) :
    Calls Tryd.prog 12 #[(.agg #[.bool d, .bool u, .int .i64 lo, .int .i64 hi]), (.agg #[.bool d', .bool u', .int .i64 lo', .int .i64 hi'])] w fun e w' => ∃ (rd ru : Bool) (rl rh : Int) (b : Bool), e = .returned (.tuple #[(.agg #[.bool rd, .bool ru, .int .i64 rl, .int .i64 rh]), .bool b, .nilIface]) ∧ DivS ⟨d, u, lo, hi⟩ ⟨d', u', lo', hi'⟩ ⟨rd, ru, rl, rh⟩ b ∧ Below w.heap.size w w' := by
  refine (h d u d' u' lo hi lo' hi' w hS (okI_r h1) (okI_r h2)).mono ?_
  rintro e w' ⟨⟨R, b, rfl, hl, _⟩, hb⟩
  have e0 := (twoErr_ok _ _).2 ⟨h1, h2⟩
  obtain ⟨rd, ru, rl, rh⟩ := R
  exact ⟨rd, ru, rl, rh, b, by rw [e0]; rfl, hl e0, hb⟩

theorem RemC.good {a : Nat → Addr} (h : RemC a) (d u d' u' : Bool) (lo hi lo' hi' : Int) (h1 : okI ⟨d, u, lo, hi⟩) (h2 : okI ⟨d', u', lo', hi'⟩) (w : World) (hS : ErrS w a) :
    Calls Tryd.prog 13 #[(.agg #[.bool d, .bool u, .int .i64 lo, .int .i64 hi]), (.agg #[.bool d', .bool u', .int .i64 lo', .int .i64 hi'])] w fun e w' => ∃ (rd ru : Bool) (rl rh : Int) (b : Bool), e = .returned (.tuple #[(.agg #[.bool rd, .bool ru, .int .i64 rl, .int .i64 rh]), .bool b, .nilIface]) ∧ RemS ⟨d, u, lo, hi⟩ ⟨d', u', lo', hi'⟩ ⟨rd, ru, rl, rh⟩ b ∧ Below w.heap.size w w' := by
  refine (h d u d' u' lo hi lo' hi' w hS (okI_r h1) (okI_r h2)).mono ?_
  rintro e w' ⟨⟨R, b, rfl, hl, _⟩, hb⟩
  have e0 := (twoErr_ok _ _).2 ⟨h1, h2⟩
  obtain ⟨rd, ru, rl, rh⟩ := R
  exact ⟨rd, ru, rl, rh, b, by rw [e0]; rfl, hl e0, hb⟩

theorem twoErr_as (d u d' u' : Bool) (lo hi lo' hi' : Int) (e : Int) (he : Hid (twoErr ⟨d, u, lo, hi⟩ ⟨d', u', lo', hi'⟩ = e)) (w : World) :
    Calls Tryd.prog 8 #[(.agg #[.bool d, .bool u, .int .i64 lo, .int .i64 hi]), (.agg #[.bool d', .bool u', .int .i64 lo', .int .i64 hi'])] w fun x w' => x = .returned (.int .i64 e) ∧ Below w.heap.size w w' := by
  rw [← he.out]; exact twoErr_any d u d' u' lo hi lo' hi' w
theorem inOf_as (d u : Bool) (lo hi n : Int) (b : Bool) (hb : Hid (inB ⟨d, u, lo, hi⟩ n = b)) (w : World) :
    Calls Tryd.prog 19 #[(.agg #[.bool d, .bool u, .int .i64 lo, .int .i64 hi]), .int .i64 n] w fun e w' => e = .returned (.bool b) ∧ Below w.heap.size w w' := by
  rw [← hb.out]; exact inOf_any d u lo hi n w
theorem far_as (n m : Int) (b : Bool) (hb : Hid (farB n m = b)) (w : World) (hm : 0 ≤ m) (hm2 : m ≤ 9223372036854775807) :
    Calls Tryd.prog 20 #[.int .i64 n, .int .i64 m] w fun e w' => e = .returned (.bool b) ∧ Below w.heap.size w w' := by
  rw [← hb.out]; refine (far_any n m w hm hm2).mono ?_; rintro e w' ⟨rfl, rfl⟩; exact ⟨rfl, Below.refl _ _⟩


set_option maxHeartbeats 1000000 in
theorem sound_out (a : Nat → Addr) (hT : ThreeC a) (d u d' u' : Bool) (lo hi lo' hi' : Int) (x y : Int) (w : World) (hS : ErrS w a) (h : ¬ (okI ⟨d, u, lo, hi⟩ ∧ okI ⟨d', u', lo', hi'⟩ ∧ inI ⟨d, u, lo, hi⟩ x ∧ inI ⟨d', u', lo', hi'⟩ y)) :
    Calls Tryd.prog 4 #[(.agg #[.bool d, .bool u, .int .i64 lo, .int .i64 hi]), (.agg #[.bool d', .bool u', .int .i64 lo', .int .i64 hi']), .int .i64 x, .int .i64 y] w fun x w' => x = .returned (.bool true) ∧ Below w.heap.size w w' := by
  by_cases h1 : twoErr ⟨d, u, lo, hi⟩ ⟨d', u', lo', hi'⟩ = 0
  · have H1 := hide h1
    cases h2 : inB ⟨d, u, lo, hi⟩ x with
    | false =>
      have H2 := hide h2
      clear h h1 h2
      (go_enter Tryd.func4, Tryd.ntmps4; go_wp2_with fail; have s0 := ((St.startE hS).box4 23 (.bool d) (.bool u) (.int .i64 lo) (.int .i64 hi)).box4 23 (.bool d') (.bool u') (.int .i64 lo') (.int .i64 hi'); simp only [World.size_alloc] at s0; refine (hT _ s0.errz).mono ?_; (rintro x1 w1 ⟨rfl, hb⟩; have s1 := s0.call hb; have q1 := s1.hold; simp only [Holds, and_true] at q1; clear hb s0; try clear q0); go_wp2_with fail)
      refine (twoErr_as d u d' u' lo hi lo' hi' 0 H1 _).mono ?_
      (rintro x1 w2 ⟨rfl, hb⟩; have s2 := s1.call hb; have q2 := s2.hold; simp only [Holds, and_true] at q2; clear hb s1; try clear q1)
      go_wp2_with fail
      refine (inOf_as d u lo hi x false H2 _).mono ?_
      (rintro x1 w3 ⟨rfl, hb⟩; have s3 := s2.call hb; have q3 := s3.hold; simp only [Holds, and_true] at q3; clear hb s2; try clear q2)
      go_wp2_with fail
      go_ret
      exact ⟨rfl, s3.bel⟩
    | true =>
      have h3 : inB ⟨d', u', lo', hi'⟩ y = false := by
        cases h3 : inB ⟨d', u', lo', hi'⟩ y with
        | false => rfl
        | true => exact absurd ⟨((twoErr_ok _ _).1 h1).1, ((twoErr_ok _ _).1 h1).2, (inB_iff _ _).1 h2, (inB_iff _ _).1 h3⟩ h
      have H2 := hide h2
      have H3 := hide h3
      clear h h1 h2 h3
      (go_enter Tryd.func4, Tryd.ntmps4; go_wp2_with fail; have s0 := ((St.startE hS).box4 23 (.bool d) (.bool u) (.int .i64 lo) (.int .i64 hi)).box4 23 (.bool d') (.bool u') (.int .i64 lo') (.int .i64 hi'); simp only [World.size_alloc] at s0; refine (hT _ s0.errz).mono ?_; (rintro x1 w1 ⟨rfl, hb⟩; have s1 := s0.call hb; have q1 := s1.hold; simp only [Holds, and_true] at q1; clear hb s0; try clear q0); go_wp2_with fail)
      refine (twoErr_as d u d' u' lo hi lo' hi' 0 H1 _).mono ?_
      (rintro x1 w2 ⟨rfl, hb⟩; have s2 := s1.call hb; have q2 := s2.hold; simp only [Holds, and_true] at q2; clear hb s1; try clear q1)
      go_wp2_with fail
      refine (inOf_as d u lo hi x true H2 _).mono ?_
      (rintro x1 w3 ⟨rfl, hb⟩; have s3 := s2.call hb; have q3 := s3.hold; simp only [Holds, and_true] at q3; clear hb s2; try clear q2)
      go_wp2_with fail
      refine (inOf_as d' u' lo' hi' y false H3 _).mono ?_
      (rintro x1 w4 ⟨rfl, hb⟩; have s4 := s3.call hb; have q4 := s4.hold; simp only [Holds, and_true] at q4; clear hb s3; try clear q3)
      go_wp2_with fail
      go_ret
      exact ⟨rfl, s4.bel⟩
  · obtain ⟨e, he⟩ : ∃ e, e = twoErr ⟨d, u, lo, hi⟩ ⟨d', u', lo', hi'⟩ := ⟨_, rfl⟩
    have he0 : 0 < e := by have := (twoErr_range ⟨d, u, lo, hi⟩ ⟨d', u', lo', hi'⟩).1; omega
    have He := hide he.symm
    clear h h1 he
    (go_enter Tryd.func4, Tryd.ntmps4; go_wp2_with fail; have s0 := ((St.startE hS).box4 23 (.bool d) (.bool u) (.int .i64 lo) (.int .i64 hi)).box4 23 (.bool d') (.bool u') (.int .i64 lo') (.int .i64 hi'); simp only [World.size_alloc] at s0; refine (hT _ s0.errz).mono ?_; (rintro x1 w1 ⟨rfl, hb⟩; have s1 := s0.call hb; have q1 := s1.hold; simp only [Holds, and_true] at q1; clear hb s0; try clear q0); go_wp2_with fail)
    refine (twoErr_as d u d' u' lo hi lo' hi' e He _).mono ?_
    (rintro x1 w2 ⟨rfl, hb⟩; have s2 := s1.call hb; have q2 := s2.hold; simp only [Holds, and_true] at q2; clear hb s1; try clear q1)
    go_wp2_with fail
    go_ret
    exact ⟨rfl, s2.bel⟩


set_option maxHeartbeats 1000000 in
theorem sound_far (a : Nat → Addr) (hT : ThreeC a) (d u d' u' : Bool) (lo hi lo' hi' : Int) (x y : Int) (w : World) (hS : ErrS w a) (h1 : okI ⟨d, u, lo, hi⟩) (h2 : okI ⟨d', u', lo', hi'⟩) (h3 : inI ⟨d, u, lo, hi⟩ x) (h4 : inI ⟨d', u', lo', hi'⟩ y) (h : farB x 1073741824 = true ∨ farB y 1073741824 = true) :
    Calls Tryd.prog 4 #[(.agg #[.bool d, .bool u, .int .i64 lo, .int .i64 hi]), (.agg #[.bool d', .bool u', .int .i64 lo', .int .i64 hi']), .int .i64 x, .int .i64 y] w fun x w' => x = .returned (.bool true) ∧ Below w.heap.size w w' := by
  have H1 := hide ((twoErr_ok _ _).2 ⟨h1, h2⟩)
  have H2 := hide ((inB_iff _ _).2 h3)
  have H3 := hide ((inB_iff _ _).2 h4)
  clear h1 h2 h3 h4
  cases hx : farB x 1073741824 with
  | true =>
    have HX := hide hx
    clear hx h
    ((go_enter Tryd.func4, Tryd.ntmps4; go_wp2_with fail; have s0 := ((St.startE hS).box4 23 (.bool d) (.bool u) (.int .i64 lo) (.int .i64 hi)).box4 23 (.bool d') (.bool u') (.int .i64 lo') (.int .i64 hi'); simp only [World.size_alloc] at s0; refine (hT _ s0.errz).mono ?_; (rintro x1 w1 ⟨rfl, hb⟩; have s1 := s0.call hb; have q1 := s1.hold; simp only [Holds, and_true] at q1; clear hb s0; try clear q0); go_wp2_with fail); refine (twoErr_as d u d' u' lo hi lo' hi' 0 H1 _).mono ?_; (rintro x1 w2 ⟨rfl, hb⟩; have s2 := s1.call hb; have q2 := s2.hold; simp only [Holds, and_true] at q2; clear hb s1; try clear q1); go_wp2_with fail; refine (inOf_as d u lo hi x true H2 _).mono ?_; (rintro x1 w3 ⟨rfl, hb⟩; have s3 := s2.call hb; have q3 := s3.hold; simp only [Holds, and_true] at q3; clear hb s2; try clear q2); go_wp2_with fail; refine (inOf_as d' u' lo' hi' y true H3 _).mono ?_; (rintro x1 w4 ⟨rfl, hb⟩; have s4 := s3.call hb; have q4 := s4.hold; simp only [Holds, and_true] at q4; clear hb s3; try clear q3); go_wp2_with fail)
    refine (far_as x 1073741824 true HX _ (by omega) (by omega)).mono ?_
    (rintro x1 w5 ⟨rfl, hb⟩; have s5 := s4.call hb; have q5 := s5.hold; simp only [Holds, and_true] at q5; clear hb s4; try clear q4)
    go_wp2_with fail
    go_ret
    exact ⟨rfl, s5.bel⟩
  | false =>
    have hy : farB y 1073741824 = true := by rcases h with h | h; (rw [hx] at h; cases h); exact h
    have HX := hide hx
    have HY := hide hy
    clear hx hy h
    ((go_enter Tryd.func4, Tryd.ntmps4; go_wp2_with fail; have s0 := ((St.startE hS).box4 23 (.bool d) (.bool u) (.int .i64 lo) (.int .i64 hi)).box4 23 (.bool d') (.bool u') (.int .i64 lo') (.int .i64 hi'); simp only [World.size_alloc] at s0; refine (hT _ s0.errz).mono ?_; (rintro x1 w1 ⟨rfl, hb⟩; have s1 := s0.call hb; have q1 := s1.hold; simp only [Holds, and_true] at q1; clear hb s0; try clear q0); go_wp2_with fail); refine (twoErr_as d u d' u' lo hi lo' hi' 0 H1 _).mono ?_; (rintro x1 w2 ⟨rfl, hb⟩; have s2 := s1.call hb; have q2 := s2.hold; simp only [Holds, and_true] at q2; clear hb s1; try clear q1); go_wp2_with fail; refine (inOf_as d u lo hi x true H2 _).mono ?_; (rintro x1 w3 ⟨rfl, hb⟩; have s3 := s2.call hb; have q3 := s3.hold; simp only [Holds, and_true] at q3; clear hb s2; try clear q2); go_wp2_with fail; refine (inOf_as d' u' lo' hi' y true H3 _).mono ?_; (rintro x1 w4 ⟨rfl, hb⟩; have s4 := s3.call hb; have q4 := s4.hold; simp only [Holds, and_true] at q4; clear hb s3; try clear q3); go_wp2_with fail)
    refine (far_as x 1073741824 false HX _ (by omega) (by omega)).mono ?_
    (rintro x1 w5 ⟨rfl, hb⟩; have s5 := s4.call hb; have q5 := s5.hold; simp only [Holds, and_true] at q5; clear hb s4; try clear q4)
    go_wp2_with fail
    refine (far_as y 1073741824 true HY _ (by omega) (by omega)).mono ?_
    (rintro x1 w6 ⟨rfl, hb⟩; have s6 := s5.call hb; have q6 := s6.hold; simp only [Holds, and_true] at q6; clear hb s5; try clear q5)
    go_wp2_with fail
    go_ret
    exact ⟨rfl, s6.bel⟩

theorem tdiv_bd (x y : Int) (bx : -1073741824 ≤ x ∧ x ≤ 1073741824) : -1073741824 ≤ x.tdiv y ∧ x.tdiv y ≤ 1073741824 := by
  have h : (x.tdiv y).natAbs ≤ x.natAbs := by rw [Int.natAbs_tdiv]; exact Nat.div_le_self _ _
  omega
theorem tmod_bd (x y : Int) (bx : -1073741824 ≤ x ∧ x ≤ 1073741824) : -1073741824 ≤ x.tmod y ∧ x.tmod y ≤ 1073741824 := by
  have h : (x.tmod y).natAbs ≤ x.natAbs := by rw [Int.natAbs_tmod]; exact Nat.mod_le _ _
  omega
set_option maxHeartbeats 4000000 in
theorem sound_in (a : Nat → Addr) (hT : ThreeC a) (hH : HasC a) (hA : AddC a) (hB : SubC a) (hM : MulC a) (hD : DivC a) (hR : RemC a) (d u d' u' : Bool) (lo hi lo' hi' : Int) (x y : Int) (w : World) (hS : ErrS w a) (h1 : okI ⟨d, u, lo, hi⟩) (h2 : okI ⟨d', u', lo', hi'⟩) (h3 : inI ⟨d, u, lo, hi⟩ x) (h4 : inI ⟨d', u', lo', hi'⟩ y) (hx : farB x 1073741824 = false) (hy : farB y 1073741824 = false) :
    Calls Tryd.prog 4 #[(.agg #[.bool d, .bool u, .int .i64 lo, .int .i64 hi]), (.agg #[.bool d', .bool u', .int .i64 lo', .int .i64 hi']), .int .i64 x, .int .i64 y] w fun x w' => x = .returned (.bool true) ∧ Below w.heap.size w w' := by
  have H1 := hide ((twoErr_ok _ _).2 ⟨h1, h2⟩)
  have H2 := hide ((inB_iff _ _).2 h3)
  have H3 := hide ((inB_iff _ _).2 h4)
  have bx : -1073741824 ≤ x ∧ x ≤ 1073741824 := by simp [farB] at hx; omega
  have bY : -1073741824 ≤ y ∧ y ≤ 1073741824 := by simp [farB] at hy; omega
  have HX := hide hx
  have HY := hide hy
  have K1 := hide h1
  have K2 := hide h2
  have K3 := hide h3
  have K4 := hide h4
  clear h1 h2 h3 h4 hx hy
  have e1 : IntKind.i64.wrap (x + y) = x + y := wrap_small _ (by omega) (by omega)
  have e2 : IntKind.i64.wrap (x - y) = x - y := wrap_small _ (by omega) (by omega)
  have hxy : -1152921504606846976 ≤ x * y ∧ x * y ≤ 1152921504606846976 := by
    have h3 := Int.mul_le_mul (show (x.natAbs : Int) ≤ 1073741824 by omega) (show (y.natAbs : Int) ≤ 1073741824 by omega) (by omega) (by omega)
    have h4 : ((x * y).natAbs : Int) = (x.natAbs : Int) * (y.natAbs : Int) := by rw [Int.natAbs_mul]; simp
    omega
  have e3 : IntKind.i64.wrap (x * y) = x * y := wrap_small _ (by omega) (by omega)
  have f1 : wrap64 (x + y) = x + y := IntWalk.wrap64_in _ ⟨by omega, by omega⟩
  have f2 : wrap64 (x - y) = x - y := IntWalk.wrap64_in _ ⟨by omega, by omega⟩
  have f3 : wrap64 (x * y) = x * y := IntWalk.wrap64_in _ ⟨by omega, by omega⟩
  have HXY := hide hxy
  clear hxy
  ((go_enter Tryd.func4, Tryd.ntmps4; go_wp2_with fail; have s0 := ((St.startE hS).box4 23 (.bool d) (.bool u) (.int .i64 lo) (.int .i64 hi)).box4 23 (.bool d') (.bool u') (.int .i64 lo') (.int .i64 hi'); simp only [World.size_alloc] at s0; refine (hT _ s0.errz).mono ?_; (rintro x1 w1 ⟨rfl, hb⟩; have s1 := s0.call hb; have q1 := s1.hold; simp only [Holds, and_true] at q1; clear hb s0; try clear q0); go_wp2_with fail); refine (twoErr_as d u d' u' lo hi lo' hi' 0 H1 _).mono ?_; (rintro x1 w2 ⟨rfl, hb⟩; have s2 := s1.call hb; have q2 := s2.hold; simp only [Holds, and_true] at q2; clear hb s1; try clear q1); go_wp2_with fail; refine (inOf_as d u lo hi x true H2 _).mono ?_; (rintro x1 w3 ⟨rfl, hb⟩; have s3 := s2.call hb; have q3 := s3.hold; simp only [Holds, and_true] at q3; clear hb s2; try clear q2); go_wp2_with fail; refine (inOf_as d' u' lo' hi' y true H3 _).mono ?_; (rintro x1 w4 ⟨rfl, hb⟩; have s4 := s3.call hb; have q4 := s4.hold; simp only [Holds, and_true] at q4; clear hb s3; try clear q3); go_wp2_with fail)
  refine (far_as x 1073741824 false HX _ (by omega) (by omega)).mono ?_
  (rintro x1 w5 ⟨rfl, hb⟩; have s5 := s4.call hb; have q5 := s5.hold; simp only [Holds, and_true] at q5; clear hb s4; try clear q4)
  go_wp2_with fail
  refine (far_as y 1073741824 false HY _ (by omega) (by omega)).mono ?_
  (rintro x1 w6 ⟨rfl, hb⟩; have s6 := s5.call hb; have q6 := s6.hold; simp only [Holds, and_true] at q6; clear hb s5; try clear q5)
  go_wp2_with fail
  refine (hA.good d u d' u' lo hi lo' hi' K1.out K2.out _ s6.errz).mono ?_
  (rintro x1 w7 ⟨pd, pu, pl, ph, rfl, hp, hb⟩; have s7 := s6.call hb; have q7 := s7.hold; simp only [Holds, and_true] at q7; clear hb s6; try clear q6)
  have HP := hide hp
  clear hp
  go_wp2_with fail
  (have s71 := s7.box4 23 (.bool pd) (.bool pu) (.int .i64 pl) (.int .i64 ph))
  refine (hB.good d u d' u' lo hi lo' hi' K1.out K2.out _ s71.errz).mono ?_
  (rintro x1 w8 ⟨qd, qu, ql, qh, rfl, hp, hb⟩; have s8 := s71.call hb; have q8 := s8.hold; simp only [Holds, and_true] at q8; clear hb s71; try clear q71)
  have HQ := hide hp
  clear hp
  go_wp2_with fail
  (have s81 := s8.box4 23 (.bool qd) (.bool qu) (.int .i64 ql) (.int .i64 qh))
  refine (hM.good d u d' u' lo hi lo' hi' K1.out K2.out _ s81.errz).mono ?_
  (rintro x1 w9 ⟨rd, ru, rl, rh, rfl, hp, hb⟩; have s9 := s81.call hb; have q9 := s9.hold; simp only [Holds, and_true] at q9; clear hb s81; try clear q81)
  have HR := hide hp
  clear hp
  go_wp2_with fail
  (have s91 := s9.box4 23 (.bool rd) (.bool ru) (.int .i64 rl) (.int .i64 rh))
  refine (hD.good d u d' u' lo hi lo' hi' K1.out K2.out _ s91.errz).mono ?_
  (rintro x1 w10 ⟨dd, du, dl, dh, db, rfl, hp, hb⟩; have s10 := s91.call hb; have q10 := s10.hold; simp only [Holds, and_true] at q10; clear hb s91; try clear q91)
  have HD := hide hp
  clear hp
  go_wp2_with fail
  (have s101 := s10.box4 23 (.bool dd) (.bool du) (.int .i64 dl) (.int .i64 dh))
  refine (hR.good d u d' u' lo hi lo' hi' K1.out K2.out _ s101.errz).mono ?_
  (rintro x1 w11 ⟨md, mu, ml, mh, mb, rfl, hp, hb⟩; have s11 := s101.call hb; have q11 := s11.hold; simp only [Holds, and_true] at q11; clear hb s101; try clear q101)
  have HM := hide hp
  clear hp
  go_wp2_with fail
  (have s111 := s11.box4 23 (.bool md) (.bool mu) (.int .i64 ml) (.int .i64 mh))
  refine (hH.good pd pu pl ph (x + y) HP.out.ok (by omega) (HP.out.sound _ ⟨x, y, K3.out, K4.out, rfl⟩) _ s111.errz).mono ?_
  (rintro x1 w12 ⟨rfl, hb⟩; have s12 := s111.call hb; have q12 := s12.hold; simp only [Holds, and_true] at q12; clear hb s111; try clear q111)
  go_wp2_with fail
  refine (hH.good qd qu ql qh (x - y) HQ.out.ok (by omega) (HQ.out.sound _ ⟨x, y, K3.out, K4.out, rfl⟩) _ s12.errz).mono ?_
  (rintro x1 w13 ⟨rfl, hb⟩; have s13 := s12.call hb; have q13 := s13.hold; simp only [Holds, and_true] at q13; clear hb s12; try clear q12)
  go_wp2_with fail
  refine (hH.good rd ru rl rh (x * y) HR.out.ok (by have := HXY.out; omega) (HR.out.sound _ ⟨x, y, K3.out, K4.out, rfl⟩) _ s13.errz).mono ?_
  (rintro x1 w14 ⟨rfl, hb⟩; have s14 := s13.call hb; have q14 := s14.hold; simp only [Holds, and_true] at q14; clear hb s13; try clear q13)
  go_wp2_with fail
  by_cases hy0 : y = 0
  · have hyb : (y == 0) = true := by simp [hy0]
    have HY0 := hide hy0
    clear hy0
    go_region
    all_goals go_wp2_with fail
    all_goals
      go_ret
      exact ⟨rfl, s14.bel.drew⟩
  · have hdb : db = true := HD.out.some.2 ⟨y, K4.out, hy0⟩
    have hmb : mb = true := HM.out.some.2 ⟨y, K4.out, hy0⟩
    subst hdb hmb
    have g1 := tdiv_bd x y bx
    have g2 := tmod_bd x y bx
    have e4 : IntKind.i64.wrap (x.tdiv y) = x.tdiv y := wrap_small _ (by omega) (by omega)
    have f4 : wrap64 (x.tdiv y) = x.tdiv y := IntWalk.wrap64_in _ ⟨by omega, by omega⟩
    have e5 : IntKind.i64.wrap (x.tmod y) = x.tmod y := wrap_small _ (by omega) (by omega)
    have f5 : wrap64 (x.tmod y) = x.tmod y := IntWalk.wrap64_in _ ⟨by omega, by omega⟩
    have hyb : (y == 0) = false := by simp [hy0]
    have hq1 : inI ⟨dd, du, dl, dh⟩ (x.tdiv y) := HD.out.sound rfl _ ⟨x, y, K3.out, K4.out, hy0, rfl⟩
    have hq2 : inI ⟨md, mu, ml, mh⟩ (x.tmod y) := HM.out.sound rfl _ ⟨x, y, K3.out, K4.out, hy0, rfl⟩
    have HQ1 := hide hq1
    have HQ2 := hide hq2
    have G1 := hide g1
    have G2 := hide g2
    have t14 : St w w14 (EZ a) ((w11.heap.size, 0, Value.bool md) :: (w11.heap.size, 1, Value.bool mu) :: (w11.heap.size, 2, Value.int .i64 ml) :: (w11.heap.size, 3, Value.int .i64 mh) :: (w10.heap.size, 0, Value.bool dd) :: (w10.heap.size, 1, Value.bool du) :: (w10.heap.size, 2, Value.int .i64 dl) :: (w10.heap.size, 3, Value.int .i64 dh) :: []) := s14.take 8
    clear hq1 hq2 g1 g2 q14 s14
    go_region_held3 (fun w' => w'.cell? ⟨w11.heap.size, 0, none⟩ = some (.bool md) ∧ w'.cell? ⟨w11.heap.size, 1, none⟩ = some (.bool mu) ∧ w'.cell? ⟨w11.heap.size, 2, none⟩ = some (.int .i64 ml) ∧ w'.cell? ⟨w11.heap.size, 3, none⟩ = some (.int .i64 mh) ∧ w'.cell? ⟨w10.heap.size, 0, none⟩ = some (.bool dd) ∧ w'.cell? ⟨w10.heap.size, 1, none⟩ = some (.bool du) ∧ w'.cell? ⟨w10.heap.size, 2, none⟩ = some (.int .i64 dl) ∧ w'.cell? ⟨w10.heap.size, 3, none⟩ = some (.int .i64 dh) ∧ St w w' (EZ a) ((w11.heap.size, 0, Value.bool md) :: (w11.heap.size, 1, Value.bool mu) :: (w11.heap.size, 2, Value.int .i64 ml) :: (w11.heap.size, 3, Value.int .i64 mh) :: (w10.heap.size, 0, Value.bool dd) :: (w10.heap.size, 1, Value.bool du) :: (w10.heap.size, 2, Value.int .i64 dl) :: (w10.heap.size, 3, Value.int .i64 dh) :: [])) (first | (exact keepSt (((w11.heap.size, 0, Value.bool md) :: (w11.heap.size, 1, Value.bool mu) :: (w11.heap.size, 2, Value.int .i64 ml) :: (w11.heap.size, 3, Value.int .i64 mh) :: (w10.heap.size, 0, Value.bool dd) :: (w10.heap.size, 1, Value.bool du) :: (w10.heap.size, 2, Value.int .i64 dl) :: (w10.heap.size, 3, Value.int .i64 dh) :: [])) (by assumption) (by assumption)) | (exact keepSt (((w11.heap.size, 0, Value.bool md) :: (w11.heap.size, 1, Value.bool mu) :: (w11.heap.size, 2, Value.int .i64 ml) :: (w11.heap.size, 3, Value.int .i64 mh) :: (w10.heap.size, 0, Value.bool dd) :: (w10.heap.size, 1, Value.bool du) :: (w10.heap.size, 2, Value.int .i64 dl) :: (w10.heap.size, 3, Value.int .i64 dh) :: [])) (Below.refl _ _).drew (by assumption)) | (exact keepSt0 (((w11.heap.size, 0, Value.bool md) :: (w11.heap.size, 1, Value.bool mu) :: (w11.heap.size, 2, Value.int .i64 ml) :: (w11.heap.size, 3, Value.int .i64 mh) :: (w10.heap.size, 0, Value.bool dd) :: (w10.heap.size, 1, Value.bool du) :: (w10.heap.size, 2, Value.int .i64 dl) :: (w10.heap.size, 3, Value.int .i64 dh) :: [])) (St.drew (by assumption))) | (exact keepSt0 (((w11.heap.size, 0, Value.bool md) :: (w11.heap.size, 1, Value.bool mu) :: (w11.heap.size, 2, Value.int .i64 ml) :: (w11.heap.size, 3, Value.int .i64 mh) :: (w10.heap.size, 0, Value.bool dd) :: (w10.heap.size, 1, Value.bool du) :: (w10.heap.size, 2, Value.int .i64 dl) :: (w10.heap.size, 3, Value.int .i64 dh) :: [])) (by assumption)))
      (first
        | (go_at_call_of 21 (Value.agg #[.bool dd, .bool du, .int .i64 dl, .int .i64 dh]); refine (hH.good dd du dl dh (x.tdiv y) HD.out.ok (by have := G1.out; omega) HQ1.out _ (keepSt_st ((w11.heap.size, 0, Value.bool md) :: (w11.heap.size, 1, Value.bool mu) :: (w11.heap.size, 2, Value.int .i64 ml) :: (w11.heap.size, 3, Value.int .i64 mh) :: (w10.heap.size, 0, Value.bool dd) :: (w10.heap.size, 1, Value.bool du) :: (w10.heap.size, 2, Value.int .i64 dl) :: (w10.heap.size, 3, Value.int .i64 dh) :: []) (by assumption)).errz).mono ?_; rintro e w15 ⟨rfl, hb15⟩)
        | (go_at_call_of 21 (Value.agg #[.bool md, .bool mu, .int .i64 ml, .int .i64 mh]); refine (hH.good md mu ml mh (x.tmod y) HM.out.ok (by have := G2.out; omega) HQ2.out _ (keepSt_st ((w11.heap.size, 0, Value.bool md) :: (w11.heap.size, 1, Value.bool mu) :: (w11.heap.size, 2, Value.int .i64 ml) :: (w11.heap.size, 3, Value.int .i64 mh) :: (w10.heap.size, 0, Value.bool dd) :: (w10.heap.size, 1, Value.bool du) :: (w10.heap.size, 2, Value.int .i64 dl) :: (w10.heap.size, 3, Value.int .i64 dh) :: []) (by assumption)).errz).mono ?_; rintro e w16 ⟨rfl, hb16⟩))
    go_wp2_with fail
    go_ret
    exact ⟨ret_bool (by simp), keepSt_bel ((w11.heap.size, 0, Value.bool md) :: (w11.heap.size, 1, Value.bool mu) :: (w11.heap.size, 2, Value.int .i64 ml) :: (w11.heap.size, 3, Value.int .i64 mh) :: (w10.heap.size, 0, Value.bool dd) :: (w10.heap.size, 1, Value.bool du) :: (w10.heap.size, 2, Value.int .i64 dl) :: (w10.heap.size, 3, Value.int .i64 dh) :: []) (by assumption)⟩

theorem intervalSound_by (a : Nat → Addr) (hT : ThreeC a) (hH : HasC a) (hA : AddC a) (hB : SubC a) (hM : MulC a) (hD : DivC a) (hR : RemC a) (d u d' u' : Bool) (lo hi lo' hi' : Int) (x y : Int) (w : World) (hS : ErrS w a) :
    Calls Tryd.prog 4 #[(.agg #[.bool d, .bool u, .int .i64 lo, .int .i64 hi]), (.agg #[.bool d', .bool u', .int .i64 lo', .int .i64 hi']), .int .i64 x, .int .i64 y] w fun x w' => x = .returned (.bool true) ∧ Below w.heap.size w w' := by
  by_cases h : okI ⟨d, u, lo, hi⟩ ∧ okI ⟨d', u', lo', hi'⟩ ∧ inI ⟨d, u, lo, hi⟩ x ∧ inI ⟨d', u', lo', hi'⟩ y
  · obtain ⟨h1, h2, h3, h4⟩ := h
    by_cases k : farB x 1073741824 = true ∨ farB y 1073741824 = true
    · exact sound_far a hT d u d' u' lo hi lo' hi' x y w hS h1 h2 h3 h4 k
    · exact sound_in a hT hH hA hB hM hD hR d u d' u' lo hi lo' hi' x y w hS h1 h2 h3 h4 (by simpa using fun e => k (.inl e)) (by simpa using fun e => k (.inr e))
  · exact sound_out a hT d u d' u' lo hi lo' hi' x y w hS h

end Go.Proofs.YtegibkjopkakhaaDoor
