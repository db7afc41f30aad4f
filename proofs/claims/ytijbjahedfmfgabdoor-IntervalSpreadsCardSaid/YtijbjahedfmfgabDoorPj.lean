/- The program's functions on two intervals: what they tell. -/
import Derived.Test.YtijbjahedfmfgabDoorPi
namespace Go.Proofs.YtijbjahedfmfgabDoor
open Go.RowKit
theorem join_enters : Enters 35 := enters_of Tryd.func35 (by rfl) (by rfl)

set_option maxRecDepth 20000 in
set_option maxHeartbeats 2000000 in
theorem join_tell (d u d' u' : Bool) (lo hi lo' hi' : Int) (a : Nat → Addr) (w : World) (hS : ErrS w a) (rd ru : Bool) (rl rh : Int) (v : Value) (hT : Hid (∀ W : World, ErrS W a → Calls Tryd.prog 30 #[(.agg #[.bool d, .bool u, .int .i64 lo, .int .i64 hi]), (.agg #[.bool d', .bool u', .int .i64 lo', .int .i64 hi']), .func (.func 35) #[] #[]] W fun e w' => e = .returned (.tuple #[(.agg #[.bool rd, .bool ru, .int .i64 rl, .int .i64 rh]), v]) ∧ Below W.heap.size W w')) :
    Calls Tryd.prog 21 #[(.agg #[.bool d, .bool u, .int .i64 lo, .int .i64 hi]), (.agg #[.bool d', .bool u', .int .i64 lo', .int .i64 hi'])] w fun e w' => e = .returned (.tuple #[(.agg #[.bool rd, .bool ru, .int .i64 rl, .int .i64 rh]), v]) ∧ Below w.heap.size w w' := by
  go_enter Tryd.func21, Tryd.ntmps21
  go_wp2_with fail
  have s0 := (((St.startE hS).box4 23 (.bool d) (.bool u) (.int .i64 lo) (.int .i64 hi)).box4 23 (.bool d') (.bool u') (.int .i64 lo') (.int .i64 hi')).box4 23 (.bool false) (.bool false) (.int .i64 0) (.int .i64 0)
  simp only [allocSize] at s0
  refine (hT.out _ s0.errz).mono ?_
  rintro e w1 ⟨rfl, hb1⟩
  have s1 := s0.call hb1
  have q1 := s1.hold
  simp only [Holds, and_true] at q1
  clear hb1 s0
  go_wp2_with fail
  refine bodyPost_ret (v := .tuple #[(.agg #[.bool rd, .bool ru, .int .i64 rl, .int .i64 rh]), v]) ?_ rfl ⟨rfl, ?_⟩
  · simp [results, Tryd.results21, go_sem, q1]
  · (repeat' (first | exact s1.bel | refine Below.setCell ?_ (by dsimp only; omega) _ | refine Below.alloc ?_ (by first | (simp; done) | (simp; omega)) _ | refine Below.drew ?_ | exact Below.refl _ _))

theorem meet_enters : Enters 37 := enters_of Tryd.func37 (by rfl) (by rfl)

set_option maxRecDepth 20000 in
set_option maxHeartbeats 2000000 in
theorem meet_tell (d u d' u' : Bool) (lo hi lo' hi' : Int) (a : Nat → Addr) (w : World) (hS : ErrS w a) (rd ru : Bool) (rl rh : Int) (b : Bool) (v : Value) (hT : Hid (∀ W : World, ErrS W a → Calls Tryd.prog 36 #[(.agg #[.bool d, .bool u, .int .i64 lo, .int .i64 hi]), (.agg #[.bool d', .bool u', .int .i64 lo', .int .i64 hi']), .func (.func 37) #[] #[]] W fun e w' => e = .returned (.tuple #[(.agg #[.bool rd, .bool ru, .int .i64 rl, .int .i64 rh]), .bool b, v]) ∧ Below W.heap.size W w')) :
    Calls Tryd.prog 22 #[(.agg #[.bool d, .bool u, .int .i64 lo, .int .i64 hi]), (.agg #[.bool d', .bool u', .int .i64 lo', .int .i64 hi'])] w fun e w' => e = .returned (.tuple #[(.agg #[.bool rd, .bool ru, .int .i64 rl, .int .i64 rh]), .bool b, v]) ∧ Below w.heap.size w w' := by
  go_enter Tryd.func22, Tryd.ntmps22
  go_wp2_with fail
  have s0 := (((St.startE hS).box4 23 (.bool d) (.bool u) (.int .i64 lo) (.int .i64 hi)).box4 23 (.bool d') (.bool u') (.int .i64 lo') (.int .i64 hi')).box4 23 (.bool false) (.bool false) (.int .i64 0) (.int .i64 0)
  simp only [allocSize] at s0
  refine (hT.out _ s0.errz).mono ?_
  rintro e w1 ⟨rfl, hb1⟩
  have s1 := s0.call hb1
  have q1 := s1.hold
  simp only [Holds, and_true] at q1
  clear hb1 s0
  go_wp2_with fail
  refine bodyPost_ret (v := .tuple #[(.agg #[.bool rd, .bool ru, .int .i64 rl, .int .i64 rh]), .bool b, v]) ?_ rfl ⟨rfl, ?_⟩
  · simp [results, Tryd.results22, go_sem, q1]
  · (repeat' (first | exact s1.bel | refine Below.setCell ?_ (by dsimp only; omega) _ | refine Below.alloc ?_ (by first | (simp; done) | (simp; omega)) _ | refine Below.drew ?_ | exact Below.refl _ _))

theorem add_enters : Enters 31 := enters_of Tryd.func31 (by rfl) (by rfl)

set_option maxRecDepth 20000 in
set_option maxHeartbeats 2000000 in
theorem add_tell (d u d' u' : Bool) (lo hi lo' hi' : Int) (a : Nat → Addr) (w : World) (hS : ErrS w a) (rd ru : Bool) (rl rh : Int) (v : Value) (hT : Hid (∀ W : World, ErrS W a → Calls Tryd.prog 30 #[(.agg #[.bool d, .bool u, .int .i64 lo, .int .i64 hi]), (.agg #[.bool d', .bool u', .int .i64 lo', .int .i64 hi']), .func (.func 31) #[] #[]] W fun e w' => e = .returned (.tuple #[(.agg #[.bool rd, .bool ru, .int .i64 rl, .int .i64 rh]), v]) ∧ Below W.heap.size W w')) :
    Calls Tryd.prog 18 #[(.agg #[.bool d, .bool u, .int .i64 lo, .int .i64 hi]), (.agg #[.bool d', .bool u', .int .i64 lo', .int .i64 hi'])] w fun e w' => e = .returned (.tuple #[(.agg #[.bool rd, .bool ru, .int .i64 rl, .int .i64 rh]), v]) ∧ Below w.heap.size w w' := by
  go_enter Tryd.func18, Tryd.ntmps18
  go_wp2_with fail
  have s0 := (((St.startE hS).box4 23 (.bool d) (.bool u) (.int .i64 lo) (.int .i64 hi)).box4 23 (.bool d') (.bool u') (.int .i64 lo') (.int .i64 hi')).box4 23 (.bool false) (.bool false) (.int .i64 0) (.int .i64 0)
  simp only [allocSize] at s0
  refine (hT.out _ s0.errz).mono ?_
  rintro e w1 ⟨rfl, hb1⟩
  have s1 := s0.call hb1
  have q1 := s1.hold
  simp only [Holds, and_true] at q1
  clear hb1 s0
  go_wp2_with fail
  refine bodyPost_ret (v := .tuple #[(.agg #[.bool rd, .bool ru, .int .i64 rl, .int .i64 rh]), v]) ?_ rfl ⟨rfl, ?_⟩
  · simp [results, Tryd.results18, go_sem, q1]
  · (repeat' (first | exact s1.bel | refine Below.setCell ?_ (by dsimp only; omega) _ | refine Below.alloc ?_ (by first | (simp; done) | (simp; omega)) _ | refine Below.drew ?_ | exact Below.refl _ _))

theorem sub_enters : Enters 33 := enters_of Tryd.func33 (by rfl) (by rfl)

set_option maxRecDepth 20000 in
set_option maxHeartbeats 2000000 in
theorem sub_tell (d u d' u' : Bool) (lo hi lo' hi' : Int) (a : Nat → Addr) (w : World) (hS : ErrS w a) (rd ru : Bool) (rl rh : Int) (v : Value) (hT : Hid (∀ W : World, ErrS W a → Calls Tryd.prog 30 #[(.agg #[.bool d, .bool u, .int .i64 lo, .int .i64 hi]), (.agg #[.bool d', .bool u', .int .i64 lo', .int .i64 hi']), .func (.func 33) #[] #[]] W fun e w' => e = .returned (.tuple #[(.agg #[.bool rd, .bool ru, .int .i64 rl, .int .i64 rh]), v]) ∧ Below W.heap.size W w')) :
    Calls Tryd.prog 20 #[(.agg #[.bool d, .bool u, .int .i64 lo, .int .i64 hi]), (.agg #[.bool d', .bool u', .int .i64 lo', .int .i64 hi'])] w fun e w' => e = .returned (.tuple #[(.agg #[.bool rd, .bool ru, .int .i64 rl, .int .i64 rh]), v]) ∧ Below w.heap.size w w' := by
  go_enter Tryd.func20, Tryd.ntmps20
  go_wp2_with fail
  have s0 := (((St.startE hS).box4 23 (.bool d) (.bool u) (.int .i64 lo) (.int .i64 hi)).box4 23 (.bool d') (.bool u') (.int .i64 lo') (.int .i64 hi')).box4 23 (.bool false) (.bool false) (.int .i64 0) (.int .i64 0)
  simp only [allocSize] at s0
  refine (hT.out _ s0.errz).mono ?_
  rintro e w1 ⟨rfl, hb1⟩
  have s1 := s0.call hb1
  have q1 := s1.hold
  simp only [Holds, and_true] at q1
  clear hb1 s0
  go_wp2_with fail
  refine bodyPost_ret (v := .tuple #[(.agg #[.bool rd, .bool ru, .int .i64 rl, .int .i64 rh]), v]) ?_ rfl ⟨rfl, ?_⟩
  · simp [results, Tryd.results20, go_sem, q1]
  · (repeat' (first | exact s1.bel | refine Below.setCell ?_ (by dsimp only; omega) _ | refine Below.alloc ?_ (by first | (simp; done) | (simp; omega)) _ | refine Below.drew ?_ | exact Below.refl _ _))

theorem mul_enters : Enters 32 := enters_of Tryd.func32 (by rfl) (by rfl)

set_option maxRecDepth 20000 in
set_option maxHeartbeats 2000000 in
theorem mul_tell (d u d' u' : Bool) (lo hi lo' hi' : Int) (a : Nat → Addr) (w : World) (hS : ErrS w a) (rd ru : Bool) (rl rh : Int) (v : Value) (hT : Hid (∀ W : World, ErrS W a → Calls Tryd.prog 30 #[(.agg #[.bool d, .bool u, .int .i64 lo, .int .i64 hi]), (.agg #[.bool d', .bool u', .int .i64 lo', .int .i64 hi']), .func (.func 32) #[] #[]] W fun e w' => e = .returned (.tuple #[(.agg #[.bool rd, .bool ru, .int .i64 rl, .int .i64 rh]), v]) ∧ Below W.heap.size W w')) :
    Calls Tryd.prog 19 #[(.agg #[.bool d, .bool u, .int .i64 lo, .int .i64 hi]), (.agg #[.bool d', .bool u', .int .i64 lo', .int .i64 hi'])] w fun e w' => e = .returned (.tuple #[(.agg #[.bool rd, .bool ru, .int .i64 rl, .int .i64 rh]), v]) ∧ Below w.heap.size w w' := by
  go_enter Tryd.func19, Tryd.ntmps19
  go_wp2_with fail
  have s0 := (((St.startE hS).box4 23 (.bool d) (.bool u) (.int .i64 lo) (.int .i64 hi)).box4 23 (.bool d') (.bool u') (.int .i64 lo') (.int .i64 hi')).box4 23 (.bool false) (.bool false) (.int .i64 0) (.int .i64 0)
  simp only [allocSize] at s0
  refine (hT.out _ s0.errz).mono ?_
  rintro e w1 ⟨rfl, hb1⟩
  have s1 := s0.call hb1
  have q1 := s1.hold
  simp only [Holds, and_true] at q1
  clear hb1 s0
  go_wp2_with fail
  refine bodyPost_ret (v := .tuple #[(.agg #[.bool rd, .bool ru, .int .i64 rl, .int .i64 rh]), v]) ?_ rfl ⟨rfl, ?_⟩
  · simp [results, Tryd.results19, go_sem, q1]
  · (repeat' (first | exact s1.bel | refine Below.setCell ?_ (by dsimp only; omega) _ | refine Below.alloc ?_ (by first | (simp; done) | (simp; omega)) _ | refine Below.drew ?_ | exact Below.refl _ _))

end Go.Proofs.YtijbjahedfmfgabDoor
