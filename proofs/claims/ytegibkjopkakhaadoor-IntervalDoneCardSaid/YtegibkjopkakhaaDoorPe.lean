/- The program's intervals: what is done with both, told. -/
import Derived.Test.YtegibkjopkakhaaDoorPd
namespace Go.Proofs.YtegibkjopkakhaaDoor
open Go.RowKit

/-- A function that has a body: a call enters it. -/
def Enters (f : Nat) : Prop := ∀ (args : Array Value) (W : World), (callFunc f args).run Tryd.prog W = .ok (.enter f args) W

theorem enters_of {f : Nat} {fn : Func} {c : Code} (hf : Tryd.prog.funcs[f]? = some fn) (hname : (fn.name == "runtime.NumGoroutine") = false) (hb : fn.body = some c) : Enters f := by
  intro args w
  have h1 : fn.name ≠ "runtime.NumGoroutine" := by simpa using hname
  simp [callFunc, hf, h1, hb]

/-- A function on the ends of two intervals: what it makes of these. -/
def Makes (f : Nat) (A B : Iv) (z0 z1 : Int) : Prop := ∀ W : World, Calls Tryd.prog f #[(Value.agg #[Value.int .i64 (eLo A), Value.int .i64 (eHi A)]), (Value.agg #[Value.int .i64 (eLo B), Value.int .i64 (eHi B)])] W fun e w' => e = .returned (Value.agg #[Value.int .i64 (z0), Value.int .i64 (z1)]) ∧ Below W.heap.size W w'

set_option maxRecDepth 20000 in
set_option maxHeartbeats 4000000 in
theorem tellSome_ok (f : Nat) (d u d' u' : Bool) (lo hi lo' hi' : Int) (z0 z1 : Int) (a : Nat → Addr) (w : World) (hS : ErrS w a) (hE : twoErr ⟨d, u, lo, hi⟩ ⟨d', u', lo', hi'⟩ = 0) (hF : Hid (Enters f)) (hM : Hid (Makes f ⟨d, u, lo, hi⟩ ⟨d', u', lo', hi'⟩ z0 z1)) :
    Calls Tryd.prog 30 #[(.agg #[.bool d, .bool u, .int .i64 lo, .int .i64 hi]), (.agg #[.bool d', .bool u', .int .i64 lo', .int .i64 hi']), .func (.func f) #[] #[]] w fun e w' => e = .returned (.tuple #[(if z1 < z0 then ivZ else told z0 z1).v, .bool (decide (z0 ≤ z1)), .nilIface]) ∧ Below w.heap.size w w' := by
  have hE' : ∀ (args : Array Value) (W : World), (callFunc f args).run Tryd.prog W = .ok (.enter f args) W := hF.out
  obtain ⟨x0, hx0⟩ : ∃ x, x = eLo ⟨d, u, lo, hi⟩ := ⟨_, rfl⟩
  obtain ⟨x1, hx1⟩ : ∃ x, x = eHi ⟨d, u, lo, hi⟩ := ⟨_, rfl⟩
  obtain ⟨y0, hy0⟩ : ∃ x, x = eLo ⟨d', u', lo', hi'⟩ := ⟨_, rfl⟩
  obtain ⟨y1, hy1⟩ : ∃ x, x = eHi ⟨d', u', lo', hi'⟩ := ⟨_, rfl⟩
  have hB : ∀ W : World, ErrS W a → Calls Tryd.prog 39 #[(.agg #[.bool d, .bool u, .int .i64 lo, .int .i64 hi]), (.agg #[.bool d', .bool u', .int .i64 lo', .int .i64 hi'])] W fun e w' => e = .returned (.tuple #[(Value.agg #[Value.int .i64 (x0), Value.int .i64 (x1)]), (Value.agg #[Value.int .i64 (y0), Value.int .i64 (y1)]), .nilIface]) ∧ Below W.heap.size W w' := fun W h => by rw [hx0, hx1, hy0, hy1]; exact both_ok d u d' u' lo hi lo' hi' a W h hE
  have hM1 : ∀ W : World, Calls Tryd.prog f #[(Value.agg #[Value.int .i64 (x0), Value.int .i64 (x1)]), (Value.agg #[Value.int .i64 (y0), Value.int .i64 (y1)])] W fun e w' => e = .returned (Value.agg #[Value.int .i64 (z0), Value.int .i64 (z1)]) ∧ Below W.heap.size W w' := fun W => by rw [hx0, hx1, hy0, hy1]; exact hM.out W
  have HB := hide hB
  have HM := hide hM1
  clear hx0 hx1 hy0 hy1 hB hM1 hM hF hE
  obtain ⟨⟨td, tu, tl, th⟩, ht⟩ : ∃ t, t = told z0 z1 := ⟨_, rfl⟩
  have hT : ∀ W : World, Calls Tryd.prog 45 #[(Value.agg #[Value.int .i64 (z0), Value.int .i64 (z1)])] W fun e w' => e = .returned (.agg #[.bool td, .bool tu, .int .i64 tl, .int .i64 th]) ∧ Below W.heap.size W w' := fun W => by
    have := told_any z0 z1 W
    rw [← ht] at this
    exact this
  have HT := hide hT
  rw [← ht]
  clear ht hT
  go_enter Tryd.func30, Tryd.ntmps30
  go_wp2_with fail
  have s0 := (((St.startE hS).box4 23 (.bool d) (.bool u) (.int .i64 lo) (.int .i64 hi)).box4 23 (.bool d') (.bool u') (.int .i64 lo') (.int .i64 hi')).box4 23 (.bool false) (.bool false) (.int .i64 0) (.int .i64 0)
  simp only [allocSize] at s0
  refine (HB.out _ s0.errz).mono ?_
  rintro e w1 ⟨rfl, hb1⟩
  have s1 := s0.call hb1
  have q1 := s1.hold
  simp only [Holds, and_true] at q1
  clear hb1 s0
  go_wp2_with fail
  refine (HM.out _).mono ?_
  rintro e w2 ⟨rfl, hb2⟩
  have s2 := (((s1.take 4).alloc _).alloc _).call hb2
  simp only [List.take] at s2
  clear hb2 s1 q1
  have q2 := s2.hold
  simp only [Holds, and_true] at q2
  go_wp2_with fail
  refine (isNone_any _ _ _).mono ?_
  rintro e w3 ⟨rfl, hb3⟩
  have s3 := (s2.box2 _ _ _).call hb3
  clear hb3 s2 q2
  have q3 := s3.hold
  simp only [Holds, and_true] at q3
  by_cases hz : z1 < z0
  · rw [decide_eq_true hz]
    go_wp2_with fail
    refine bodyPost_ret (v := .tuple #[ivZ.v, .bool false, .nilIface]) ?_ rfl ⟨by first | rw [if_pos (show z1 < z0 by omega), decide_eq_false (show ¬ z0 ≤ z1 by omega)] | rw [decide_eq_false (show ¬ z0 ≤ z1 by omega)], ?_⟩
    · simp [results, Tryd.results30, go_sem, q3, ivZ, Iv.v]
    · (repeat' (first | exact s4.bel | exact s3.bel | exact s2.bel | exact s1.bel | refine Below.setCell ?_ (by dsimp only; omega) _ | refine Below.alloc ?_ (by first | (simp; done) | (simp; omega)) _ | refine Below.drew ?_ | exact Below.refl _ _))
  · rw [decide_eq_false hz]
    go_wp2_with fail
    refine (HT.out _).mono ?_
    rintro e w4 ⟨rfl, hb4⟩
    have s4 := s3.call hb4
    clear hb4 q3
    have q4 := s4.hold
    simp only [Holds, and_true] at q4
    go_wp2_with fail
    refine bodyPost_ret (v := .tuple #[(.agg #[.bool td, .bool tu, .int .i64 tl, .int .i64 th]), .bool true, .nilIface]) ?_ rfl ⟨by first | (rw [if_neg (show ¬ z1 < z0 by omega), decide_eq_true (show z0 ≤ z1 by omega)]; rfl) | (rw [decide_eq_true (show z0 ≤ z1 by omega)]; rfl) | rfl, ?_⟩
    · simp [results, Tryd.results30, go_sem, q4]
    · (repeat' (first | exact s4.bel | exact s3.bel | exact s2.bel | exact s1.bel | refine Below.setCell ?_ (by dsimp only; omega) _ | refine Below.alloc ?_ (by first | (simp; done) | (simp; omega)) _ | refine Below.drew ?_ | exact Below.refl _ _))

set_option maxRecDepth 20000 in
set_option maxHeartbeats 4000000 in
theorem tellSome_err (f : Nat) (d u d' u' : Bool) (lo hi lo' hi' : Int) (a : Nat → Addr) (w : World) (hS : ErrS w a) (hE : twoErr ⟨d, u, lo, hi⟩ ⟨d', u', lo', hi'⟩ ≠ 0) :
    Calls Tryd.prog 30 #[(.agg #[.bool d, .bool u, .int .i64 lo, .int .i64 hi]), (.agg #[.bool d', .bool u', .int .i64 lo', .int .i64 hi']), .func (.func f) #[] #[]] w fun e w' => e = .returned (.tuple #[ivZ.v, .bool false, errV a (twoErr ⟨d, u, lo, hi⟩ ⟨d', u', lo', hi'⟩)]) ∧ Below w.heap.size w w' := by
  have HB := hide (fun W h => both_err d u d' u' lo hi lo' hi' a W h hE)
  obtain ⟨x, hx⟩ : ∃ x, x = twoErr ⟨d, u, lo, hi⟩ ⟨d', u', lo', hi'⟩ := ⟨_, rfl⟩
  rw [← hx] at HB hE ⊢
  clear hx
  rw [errV_some hE] at HB ⊢
  go_enter Tryd.func30, Tryd.ntmps30
  go_wp2_with fail
  have s0 := (((St.startE hS).box4 23 (.bool d) (.bool u) (.int .i64 lo) (.int .i64 hi)).box4 23 (.bool d') (.bool u') (.int .i64 lo') (.int .i64 hi')).box4 23 (.bool false) (.bool false) (.int .i64 0) (.int .i64 0)
  simp only [allocSize] at s0
  refine (HB.out _ s0.errz).mono ?_
  rintro e w1 ⟨rfl, hb1⟩
  have s1 := s0.call hb1
  have q1 := s1.hold
  simp only [Holds, and_true] at q1
  clear hb1 s0
  go_wp2_with fail
  refine bodyPost_ret (v := .tuple #[ivZ.v, .bool false, .iface 103 (.pointer (some (a (x.toNat - 1))))]) ?_ rfl ⟨rfl, ?_⟩
  · simp [results, Tryd.results30, go_sem, q1, ivZ, Iv.v]
  · (repeat' (first | exact s4.bel | exact s3.bel | exact s2.bel | exact s1.bel | refine Below.setCell ?_ (by dsimp only; omega) _ | refine Below.alloc ?_ (by first | (simp; done) | (simp; omega)) _ | refine Below.drew ?_ | exact Below.refl _ _))

set_option maxRecDepth 20000 in
set_option maxHeartbeats 4000000 in
theorem tell_ok (f : Nat) (d u d' u' : Bool) (lo hi lo' hi' : Int) (z0 z1 : Int) (a : Nat → Addr) (w : World) (hS : ErrS w a) (hE : twoErr ⟨d, u, lo, hi⟩ ⟨d', u', lo', hi'⟩ = 0) (hF : Hid (Enters f)) (hM : Hid (Makes f ⟨d, u, lo, hi⟩ ⟨d', u', lo', hi'⟩ z0 z1)) (hz : z0 ≤ z1) :
    Calls Tryd.prog 26 #[(.agg #[.bool d, .bool u, .int .i64 lo, .int .i64 hi]), (.agg #[.bool d', .bool u', .int .i64 lo', .int .i64 hi']), .func (.func f) #[] #[]] w fun e w' => e = .returned (.tuple #[(told z0 z1).v, .nilIface]) ∧ Below w.heap.size w w' := by
  obtain ⟨⟨td, tu, tl, th⟩, ht⟩ : ∃ t, t = told z0 z1 := ⟨_, rfl⟩
  have hT : ∀ W : World, ErrS W a → Calls Tryd.prog 30 #[(.agg #[.bool d, .bool u, .int .i64 lo, .int .i64 hi]), (.agg #[.bool d', .bool u', .int .i64 lo', .int .i64 hi']), .func (.func f) #[] #[]] W fun e w' => e = .returned (.tuple #[(.agg #[.bool td, .bool tu, .int .i64 tl, .int .i64 th]), .bool true, .nilIface]) ∧ Below W.heap.size W w' := fun W h => by
    have := tellSome_ok f d u d' u' lo hi lo' hi' z0 z1 a W h hE hF hM
    rw [if_neg (by omega), decide_eq_true hz, ← ht] at this
    exact this
  have HT := hide hT
  rw [← ht]
  clear ht hT hF hM hE hz
  go_enter Tryd.func26, Tryd.ntmps26
  go_wp2_with fail
  have s0 := (((St.startE hS).box4 23 (.bool d) (.bool u) (.int .i64 lo) (.int .i64 hi)).box4 23 (.bool d') (.bool u') (.int .i64 lo') (.int .i64 hi')).box4 23 (.bool false) (.bool false) (.int .i64 0) (.int .i64 0)
  simp only [allocSize] at s0
  refine (HT.out _ s0.errz).mono ?_
  rintro e w1 ⟨rfl, hb1⟩
  have s1 := s0.call hb1
  have q1 := s1.hold
  simp only [Holds, and_true] at q1
  clear hb1 s0
  go_wp2_with fail
  refine bodyPost_ret (v := .tuple #[(.agg #[.bool td, .bool tu, .int .i64 tl, .int .i64 th]), .nilIface]) ?_ rfl ⟨rfl, ?_⟩
  · simp [results, Tryd.results26, go_sem, q1]
  · (repeat' (first | exact s4.bel | exact s3.bel | exact s2.bel | exact s1.bel | refine Below.setCell ?_ (by dsimp only; omega) _ | refine Below.alloc ?_ (by first | (simp; done) | (simp; omega)) _ | refine Below.drew ?_ | exact Below.refl _ _))

set_option maxRecDepth 20000 in
set_option maxHeartbeats 4000000 in
theorem tell_err (f : Nat) (d u d' u' : Bool) (lo hi lo' hi' : Int) (a : Nat → Addr) (w : World) (hS : ErrS w a) (hE : twoErr ⟨d, u, lo, hi⟩ ⟨d', u', lo', hi'⟩ ≠ 0) :
    Calls Tryd.prog 26 #[(.agg #[.bool d, .bool u, .int .i64 lo, .int .i64 hi]), (.agg #[.bool d', .bool u', .int .i64 lo', .int .i64 hi']), .func (.func f) #[] #[]] w fun e w' => e = .returned (.tuple #[ivZ.v, errV a (twoErr ⟨d, u, lo, hi⟩ ⟨d', u', lo', hi'⟩)]) ∧ Below w.heap.size w w' := by
  have hT : ∀ W : World, ErrS W a → Calls Tryd.prog 30 #[(.agg #[.bool d, .bool u, .int .i64 lo, .int .i64 hi]), (.agg #[.bool d', .bool u', .int .i64 lo', .int .i64 hi']), .func (.func f) #[] #[]] W fun e w' => e = .returned (.tuple #[(.agg #[.bool false, .bool false, .int .i64 0, .int .i64 0]), .bool false, errV a (twoErr ⟨d, u, lo, hi⟩ ⟨d', u', lo', hi'⟩)]) ∧ Below W.heap.size W w' := fun W h => tellSome_err f d u d' u' lo hi lo' hi' a W h hE
  have HT := hide hT
  clear hT
  obtain ⟨x, hx⟩ : ∃ x, x = twoErr ⟨d, u, lo, hi⟩ ⟨d', u', lo', hi'⟩ := ⟨_, rfl⟩
  rw [← hx] at HT hE ⊢
  clear hx
  rw [errV_some hE] at HT ⊢
  go_enter Tryd.func26, Tryd.ntmps26
  go_wp2_with fail
  have s0 := (((St.startE hS).box4 23 (.bool d) (.bool u) (.int .i64 lo) (.int .i64 hi)).box4 23 (.bool d') (.bool u') (.int .i64 lo') (.int .i64 hi')).box4 23 (.bool false) (.bool false) (.int .i64 0) (.int .i64 0)
  simp only [allocSize] at s0
  refine (HT.out _ s0.errz).mono ?_
  rintro e w1 ⟨rfl, hb1⟩
  have s1 := s0.call hb1
  have q1 := s1.hold
  simp only [Holds, and_true] at q1
  clear hb1 s0
  go_wp2_with fail
  refine bodyPost_ret (v := .tuple #[ivZ.v, .iface 103 (.pointer (some (a (x.toNat - 1))))]) ?_ rfl ⟨rfl, ?_⟩
  · simp [results, Tryd.results26, go_sem, q1, ivZ, Iv.v]
  · (repeat' (first | exact s4.bel | exact s3.bel | exact s2.bel | exact s1.bel | refine Below.setCell ?_ (by dsimp only; omega) _ | refine Below.alloc ?_ (by first | (simp; done) | (simp; omega)) _ | refine Below.drew ?_ | exact Below.refl _ _))
end Go.Proofs.YtegibkjopkakhaaDoor
