/- The program's functions on two intervals: what they tell. -/
import Derived.Test.YtegibkjopkakhaaDoorPi
import Derived.Test.YtegibkjopkakhaaDoorIf
namespace Go.Proofs.YtegibkjopkakhaaDoor
open Go.RowKit
theorem join_enters : Enters 37 := enters_of Tryd.func37 (by rfl) (by rfl)

set_option maxRecDepth 20000 in
set_option maxHeartbeats 2000000 in
theorem join_tell (d u d' u' : Bool) (lo hi lo' hi' : Int) (a : Nat → Addr) (w : World) (hS : ErrS w a) (rd ru : Bool) (rl rh : Int) (v : Value) (hT : Hid (∀ W : World, ErrS W a → Calls Tryd.prog 26 #[(.agg #[.bool d, .bool u, .int .i64 lo, .int .i64 hi]), (.agg #[.bool d', .bool u', .int .i64 lo', .int .i64 hi']), .func (.func 37) #[] #[]] W fun e w' => e = .returned (.tuple #[(.agg #[.bool rd, .bool ru, .int .i64 rl, .int .i64 rh]), v]) ∧ Below W.heap.size W w')) :
    Calls Tryd.prog 23 #[(.agg #[.bool d, .bool u, .int .i64 lo, .int .i64 hi]), (.agg #[.bool d', .bool u', .int .i64 lo', .int .i64 hi'])] w fun e w' => e = .returned (.tuple #[(.agg #[.bool rd, .bool ru, .int .i64 rl, .int .i64 rh]), v]) ∧ Below w.heap.size w w' := by
  go_enter Tryd.func23, Tryd.ntmps23
  go_wp2_with fail
  have s0 := (((St.startE hS).box4 23 (.bool d) (.bool u) (.int .i64 lo) (.int .i64 hi)).box4 23 (.bool d') (.bool u') (.int .i64 lo') (.int .i64 hi')).box4 23 (.bool false) (.bool false) (.int .i64 0) (.int .i64 0)
  simp only [allocSize] at s0
  refine (hT.out _ s0.errz).mono ?_
  rintro e w1 ⟨rfl, hb1⟩
  have s1 := s0.call hb1
  have q1 := s1.hold
  simp only [Holds, and_true] at q1
  clear hb1 s0
  go_wp2_with fail
  refine bodyPost_ret (v := .tuple #[(.agg #[.bool rd, .bool ru, .int .i64 rl, .int .i64 rh]), v]) ?_ rfl ⟨rfl, ?_⟩
  · simp [results, Tryd.results23, go_sem, q1]
  · (repeat' (first | exact s1.bel | refine Below.setCell ?_ (by dsimp only; omega) _ | refine Below.alloc ?_ (by first | (simp; done) | (simp; omega)) _ | refine Below.drew ?_ | exact Below.refl _ _))

theorem meet_enters : Enters 38 := enters_of Tryd.func38 (by rfl) (by rfl)

set_option maxRecDepth 20000 in
set_option maxHeartbeats 2000000 in
theorem meet_tell (d u d' u' : Bool) (lo hi lo' hi' : Int) (a : Nat → Addr) (w : World) (hS : ErrS w a) (rd ru : Bool) (rl rh : Int) (b : Bool) (v : Value) (hT : Hid (∀ W : World, ErrS W a → Calls Tryd.prog 30 #[(.agg #[.bool d, .bool u, .int .i64 lo, .int .i64 hi]), (.agg #[.bool d', .bool u', .int .i64 lo', .int .i64 hi']), .func (.func 38) #[] #[]] W fun e w' => e = .returned (.tuple #[(.agg #[.bool rd, .bool ru, .int .i64 rl, .int .i64 rh]), .bool b, v]) ∧ Below W.heap.size W w')) :
    Calls Tryd.prog 24 #[(.agg #[.bool d, .bool u, .int .i64 lo, .int .i64 hi]), (.agg #[.bool d', .bool u', .int .i64 lo', .int .i64 hi'])] w fun e w' => e = .returned (.tuple #[(.agg #[.bool rd, .bool ru, .int .i64 rl, .int .i64 rh]), .bool b, v]) ∧ Below w.heap.size w w' := by
  go_enter Tryd.func24, Tryd.ntmps24
  go_wp2_with fail
  have s0 := (((St.startE hS).box4 23 (.bool d) (.bool u) (.int .i64 lo) (.int .i64 hi)).box4 23 (.bool d') (.bool u') (.int .i64 lo') (.int .i64 hi')).box4 23 (.bool false) (.bool false) (.int .i64 0) (.int .i64 0)
  simp only [allocSize] at s0
  refine (hT.out _ s0.errz).mono ?_
  rintro e w1 ⟨rfl, hb1⟩
  have s1 := s0.call hb1
  have q1 := s1.hold
  simp only [Holds, and_true] at q1
  clear hb1 s0
  go_wp2_with fail
  refine bodyPost_ret (v := .tuple #[(.agg #[.bool rd, .bool ru, .int .i64 rl, .int .i64 rh]), .bool b, v]) ?_ rfl ⟨rfl, ?_⟩
  · simp [results, Tryd.results24, go_sem, q1]
  · (repeat' (first | exact s1.bel | refine Below.setCell ?_ (by dsimp only; omega) _ | refine Below.alloc ?_ (by first | (simp; done) | (simp; omega)) _ | refine Below.drew ?_ | exact Below.refl _ _))

theorem add_enters : Enters 27 := enters_of Tryd.func27 (by rfl) (by rfl)

set_option maxRecDepth 20000 in
set_option maxHeartbeats 2000000 in
theorem add_tell (d u d' u' : Bool) (lo hi lo' hi' : Int) (a : Nat → Addr) (w : World) (hS : ErrS w a) (rd ru : Bool) (rl rh : Int) (v : Value) (hT : Hid (∀ W : World, ErrS W a → Calls Tryd.prog 26 #[(.agg #[.bool d, .bool u, .int .i64 lo, .int .i64 hi]), (.agg #[.bool d', .bool u', .int .i64 lo', .int .i64 hi']), .func (.func 27) #[] #[]] W fun e w' => e = .returned (.tuple #[(.agg #[.bool rd, .bool ru, .int .i64 rl, .int .i64 rh]), v]) ∧ Below W.heap.size W w')) :
    Calls Tryd.prog 9 #[(.agg #[.bool d, .bool u, .int .i64 lo, .int .i64 hi]), (.agg #[.bool d', .bool u', .int .i64 lo', .int .i64 hi'])] w fun e w' => e = .returned (.tuple #[(.agg #[.bool rd, .bool ru, .int .i64 rl, .int .i64 rh]), v]) ∧ Below w.heap.size w w' := by
  go_enter Tryd.func9, Tryd.ntmps9
  go_wp2_with fail
  have s0 := (((St.startE hS).box4 23 (.bool d) (.bool u) (.int .i64 lo) (.int .i64 hi)).box4 23 (.bool d') (.bool u') (.int .i64 lo') (.int .i64 hi')).box4 23 (.bool false) (.bool false) (.int .i64 0) (.int .i64 0)
  simp only [allocSize] at s0
  refine (hT.out _ s0.errz).mono ?_
  rintro e w1 ⟨rfl, hb1⟩
  have s1 := s0.call hb1
  have q1 := s1.hold
  simp only [Holds, and_true] at q1
  clear hb1 s0
  go_wp2_with fail
  refine bodyPost_ret (v := .tuple #[(.agg #[.bool rd, .bool ru, .int .i64 rl, .int .i64 rh]), v]) ?_ rfl ⟨rfl, ?_⟩
  · simp [results, Tryd.results9, go_sem, q1]
  · (repeat' (first | exact s1.bel | refine Below.setCell ?_ (by dsimp only; omega) _ | refine Below.alloc ?_ (by first | (simp; done) | (simp; omega)) _ | refine Below.drew ?_ | exact Below.refl _ _))

theorem sub_enters : Enters 28 := enters_of Tryd.func28 (by rfl) (by rfl)

set_option maxRecDepth 20000 in
set_option maxHeartbeats 2000000 in
theorem sub_tell (d u d' u' : Bool) (lo hi lo' hi' : Int) (a : Nat → Addr) (w : World) (hS : ErrS w a) (rd ru : Bool) (rl rh : Int) (v : Value) (hT : Hid (∀ W : World, ErrS W a → Calls Tryd.prog 26 #[(.agg #[.bool d, .bool u, .int .i64 lo, .int .i64 hi]), (.agg #[.bool d', .bool u', .int .i64 lo', .int .i64 hi']), .func (.func 28) #[] #[]] W fun e w' => e = .returned (.tuple #[(.agg #[.bool rd, .bool ru, .int .i64 rl, .int .i64 rh]), v]) ∧ Below W.heap.size W w')) :
    Calls Tryd.prog 10 #[(.agg #[.bool d, .bool u, .int .i64 lo, .int .i64 hi]), (.agg #[.bool d', .bool u', .int .i64 lo', .int .i64 hi'])] w fun e w' => e = .returned (.tuple #[(.agg #[.bool rd, .bool ru, .int .i64 rl, .int .i64 rh]), v]) ∧ Below w.heap.size w w' := by
  go_enter Tryd.func10, Tryd.ntmps10
  go_wp2_with fail
  have s0 := (((St.startE hS).box4 23 (.bool d) (.bool u) (.int .i64 lo) (.int .i64 hi)).box4 23 (.bool d') (.bool u') (.int .i64 lo') (.int .i64 hi')).box4 23 (.bool false) (.bool false) (.int .i64 0) (.int .i64 0)
  simp only [allocSize] at s0
  refine (hT.out _ s0.errz).mono ?_
  rintro e w1 ⟨rfl, hb1⟩
  have s1 := s0.call hb1
  have q1 := s1.hold
  simp only [Holds, and_true] at q1
  clear hb1 s0
  go_wp2_with fail
  refine bodyPost_ret (v := .tuple #[(.agg #[.bool rd, .bool ru, .int .i64 rl, .int .i64 rh]), v]) ?_ rfl ⟨rfl, ?_⟩
  · simp [results, Tryd.results10, go_sem, q1]
  · (repeat' (first | exact s1.bel | refine Below.setCell ?_ (by dsimp only; omega) _ | refine Below.alloc ?_ (by first | (simp; done) | (simp; omega)) _ | refine Below.drew ?_ | exact Below.refl _ _))

theorem mul_enters : Enters 29 := enters_of Tryd.func29 (by rfl) (by rfl)

set_option maxRecDepth 20000 in
set_option maxHeartbeats 2000000 in
theorem mul_tell (d u d' u' : Bool) (lo hi lo' hi' : Int) (a : Nat → Addr) (w : World) (hS : ErrS w a) (rd ru : Bool) (rl rh : Int) (v : Value) (hT : Hid (∀ W : World, ErrS W a → Calls Tryd.prog 26 #[(.agg #[.bool d, .bool u, .int .i64 lo, .int .i64 hi]), (.agg #[.bool d', .bool u', .int .i64 lo', .int .i64 hi']), .func (.func 29) #[] #[]] W fun e w' => e = .returned (.tuple #[(.agg #[.bool rd, .bool ru, .int .i64 rl, .int .i64 rh]), v]) ∧ Below W.heap.size W w')) :
    Calls Tryd.prog 11 #[(.agg #[.bool d, .bool u, .int .i64 lo, .int .i64 hi]), (.agg #[.bool d', .bool u', .int .i64 lo', .int .i64 hi'])] w fun e w' => e = .returned (.tuple #[(.agg #[.bool rd, .bool ru, .int .i64 rl, .int .i64 rh]), v]) ∧ Below w.heap.size w w' := by
  go_enter Tryd.func11, Tryd.ntmps11
  go_wp2_with fail
  have s0 := (((St.startE hS).box4 23 (.bool d) (.bool u) (.int .i64 lo) (.int .i64 hi)).box4 23 (.bool d') (.bool u') (.int .i64 lo') (.int .i64 hi')).box4 23 (.bool false) (.bool false) (.int .i64 0) (.int .i64 0)
  simp only [allocSize] at s0
  refine (hT.out _ s0.errz).mono ?_
  rintro e w1 ⟨rfl, hb1⟩
  have s1 := s0.call hb1
  have q1 := s1.hold
  simp only [Holds, and_true] at q1
  clear hb1 s0
  go_wp2_with fail
  refine bodyPost_ret (v := .tuple #[(.agg #[.bool rd, .bool ru, .int .i64 rl, .int .i64 rh]), v]) ?_ rfl ⟨rfl, ?_⟩
  · simp [results, Tryd.results11, go_sem, q1]
  · (repeat' (first | exact s1.bel | refine Below.setCell ?_ (by dsimp only; omega) _ | refine Below.alloc ?_ (by first | (simp; done) | (simp; omega)) _ | refine Below.drew ?_ | exact Below.refl _ _))

theorem div_enters : Enters 31 := enters_of Tryd.func31 (by rfl) (by rfl)

set_option maxRecDepth 20000 in
set_option maxHeartbeats 2000000 in
theorem div_tell (d u d' u' : Bool) (lo hi lo' hi' : Int) (a : Nat → Addr) (w : World) (hS : ErrS w a) (rd ru : Bool) (rl rh : Int) (b : Bool) (v : Value) (hT : Hid (∀ W : World, ErrS W a → Calls Tryd.prog 30 #[(.agg #[.bool d, .bool u, .int .i64 lo, .int .i64 hi]), (.agg #[.bool d', .bool u', .int .i64 lo', .int .i64 hi']), .func (.func 31) #[] #[]] W fun e w' => e = .returned (.tuple #[(.agg #[.bool rd, .bool ru, .int .i64 rl, .int .i64 rh]), .bool b, v]) ∧ Below W.heap.size W w')) :
    Calls Tryd.prog 12 #[(.agg #[.bool d, .bool u, .int .i64 lo, .int .i64 hi]), (.agg #[.bool d', .bool u', .int .i64 lo', .int .i64 hi'])] w fun e w' => e = .returned (.tuple #[(.agg #[.bool rd, .bool ru, .int .i64 rl, .int .i64 rh]), .bool b, v]) ∧ Below w.heap.size w w' := by
  go_enter Tryd.func12, Tryd.ntmps12
  go_wp2_with fail
  have s0 := (((St.startE hS).box4 23 (.bool d) (.bool u) (.int .i64 lo) (.int .i64 hi)).box4 23 (.bool d') (.bool u') (.int .i64 lo') (.int .i64 hi')).box4 23 (.bool false) (.bool false) (.int .i64 0) (.int .i64 0)
  simp only [allocSize] at s0
  refine (hT.out _ s0.errz).mono ?_
  rintro e w1 ⟨rfl, hb1⟩
  have s1 := s0.call hb1
  have q1 := s1.hold
  simp only [Holds, and_true] at q1
  clear hb1 s0
  go_wp2_with fail
  refine bodyPost_ret (v := .tuple #[(.agg #[.bool rd, .bool ru, .int .i64 rl, .int .i64 rh]), .bool b, v]) ?_ rfl ⟨rfl, ?_⟩
  · simp [results, Tryd.results12, go_sem, q1]
  · (repeat' (first | exact s1.bel | refine Below.setCell ?_ (by dsimp only; omega) _ | refine Below.alloc ?_ (by first | (simp; done) | (simp; omega)) _ | refine Below.drew ?_ | exact Below.refl _ _))

theorem rem_enters : Enters 32 := enters_of Tryd.func32 (by rfl) (by rfl)

set_option maxRecDepth 20000 in
set_option maxHeartbeats 2000000 in
theorem rem_tell (d u d' u' : Bool) (lo hi lo' hi' : Int) (a : Nat → Addr) (w : World) (hS : ErrS w a) (rd ru : Bool) (rl rh : Int) (b : Bool) (v : Value) (hT : Hid (∀ W : World, ErrS W a → Calls Tryd.prog 30 #[(.agg #[.bool d, .bool u, .int .i64 lo, .int .i64 hi]), (.agg #[.bool d', .bool u', .int .i64 lo', .int .i64 hi']), .func (.func 32) #[] #[]] W fun e w' => e = .returned (.tuple #[(.agg #[.bool rd, .bool ru, .int .i64 rl, .int .i64 rh]), .bool b, v]) ∧ Below W.heap.size W w')) :
    Calls Tryd.prog 13 #[(.agg #[.bool d, .bool u, .int .i64 lo, .int .i64 hi]), (.agg #[.bool d', .bool u', .int .i64 lo', .int .i64 hi'])] w fun e w' => e = .returned (.tuple #[(.agg #[.bool rd, .bool ru, .int .i64 rl, .int .i64 rh]), .bool b, v]) ∧ Below w.heap.size w w' := by
  go_enter Tryd.func13, Tryd.ntmps13
  go_wp2_with fail
  have s0 := (((St.startE hS).box4 23 (.bool d) (.bool u) (.int .i64 lo) (.int .i64 hi)).box4 23 (.bool d') (.bool u') (.int .i64 lo') (.int .i64 hi')).box4 23 (.bool false) (.bool false) (.int .i64 0) (.int .i64 0)
  simp only [allocSize] at s0
  refine (hT.out _ s0.errz).mono ?_
  rintro e w1 ⟨rfl, hb1⟩
  have s1 := s0.call hb1
  have q1 := s1.hold
  simp only [Holds, and_true] at q1
  clear hb1 s0
  go_wp2_with fail
  refine bodyPost_ret (v := .tuple #[(.agg #[.bool rd, .bool ru, .int .i64 rl, .int .i64 rh]), .bool b, v]) ?_ rfl ⟨rfl, ?_⟩
  · simp [results, Tryd.results13, go_sem, q1]
  · (repeat' (first | exact s1.bel | refine Below.setCell ?_ (by dsimp only; omega) _ | refine Below.alloc ?_ (by first | (simp; done) | (simp; omega)) _ | refine Below.drew ?_ | exact Below.refl _ _))

end Go.Proofs.YtegibkjopkakhaaDoor
