/- The program's functions on two intervals: what they tell. -/
import Derived.Test.YtijbjahedfmfgaaDoorPi
import Derived.Test.YtijbjahedfmfgaaDoorIf
namespace Go.Proofs.YtijbjahedfmfgaaDoor
open Go.RowKit
theorem join_enters : Enters 39 := enters_of Tryd.func39 (by rfl) (by rfl)

set_option maxRecDepth 20000 in
set_option maxHeartbeats 2000000 in
theorem join_tell (d u d' u' : Bool) (lo hi lo' hi' : Int) (a : Nat → Addr) (w : World) (hS : ErrS w a) (rd ru : Bool) (rl rh : Int) (v : Value) (hT : Hid (∀ W : World, ErrS W a → Calls Tryd.prog 38 #[(.agg #[.bool d, .bool u, .int .i64 lo, .int .i64 hi]), (.agg #[.bool d', .bool u', .int .i64 lo', .int .i64 hi']), .func (.func 39) #[] #[]] W fun e w' => e = .returned (.tuple #[(.agg #[.bool rd, .bool ru, .int .i64 rl, .int .i64 rh]), v]) ∧ Below W.heap.size W w')) :
    Calls Tryd.prog 16 #[(.agg #[.bool d, .bool u, .int .i64 lo, .int .i64 hi]), (.agg #[.bool d', .bool u', .int .i64 lo', .int .i64 hi'])] w fun e w' => e = .returned (.tuple #[(.agg #[.bool rd, .bool ru, .int .i64 rl, .int .i64 rh]), v]) ∧ Below w.heap.size w w' := by
  go_enter Tryd.func16, Tryd.ntmps16
  go_wp2_with fail
  have s0 := (((St.startE hS).box4 23 (.bool d) (.bool u) (.int .i64 lo) (.int .i64 hi)).box4 23 (.bool d') (.bool u') (.int .i64 lo') (.int .i64 hi')).box4 23 (.bool false) (.bool false) (.int .i64 0) (.int .i64 0)
  simp only [allocSize] at s0
  refine (hT.out _ s0.errz).mono ?_
  rintro e w1 ⟨rfl, hb1⟩
  have s1 := s0.call hb1
  have q1 := s1.hold
  simp only [Holds, and_true] at q1
  clear hb1 s0
  go_wp2_with fail
  refine bodyPost_ret (v := .tuple #[(.agg #[.bool rd, .bool ru, .int .i64 rl, .int .i64 rh]), v]) ?_ rfl ⟨rfl, ?_⟩
  · simp [results, Tryd.results16, go_sem, q1]
  · (repeat' (first | exact s1.bel | refine Below.setCell ?_ (by dsimp only; omega) _ | refine Below.alloc ?_ (by first | (simp; done) | (simp; omega)) _ | refine Below.drew ?_ | exact Below.refl _ _))

theorem meet_enters : Enters 41 := enters_of Tryd.func41 (by rfl) (by rfl)

set_option maxRecDepth 20000 in
set_option maxHeartbeats 2000000 in
theorem meet_tell (d u d' u' : Bool) (lo hi lo' hi' : Int) (a : Nat → Addr) (w : World) (hS : ErrS w a) (rd ru : Bool) (rl rh : Int) (b : Bool) (v : Value) (hT : Hid (∀ W : World, ErrS W a → Calls Tryd.prog 40 #[(.agg #[.bool d, .bool u, .int .i64 lo, .int .i64 hi]), (.agg #[.bool d', .bool u', .int .i64 lo', .int .i64 hi']), .func (.func 41) #[] #[]] W fun e w' => e = .returned (.tuple #[(.agg #[.bool rd, .bool ru, .int .i64 rl, .int .i64 rh]), .bool b, v]) ∧ Below W.heap.size W w')) :
    Calls Tryd.prog 17 #[(.agg #[.bool d, .bool u, .int .i64 lo, .int .i64 hi]), (.agg #[.bool d', .bool u', .int .i64 lo', .int .i64 hi'])] w fun e w' => e = .returned (.tuple #[(.agg #[.bool rd, .bool ru, .int .i64 rl, .int .i64 rh]), .bool b, v]) ∧ Below w.heap.size w w' := by
  go_enter Tryd.func17, Tryd.ntmps17
  go_wp2_with fail
  have s0 := (((St.startE hS).box4 23 (.bool d) (.bool u) (.int .i64 lo) (.int .i64 hi)).box4 23 (.bool d') (.bool u') (.int .i64 lo') (.int .i64 hi')).box4 23 (.bool false) (.bool false) (.int .i64 0) (.int .i64 0)
  simp only [allocSize] at s0
  refine (hT.out _ s0.errz).mono ?_
  rintro e w1 ⟨rfl, hb1⟩
  have s1 := s0.call hb1
  have q1 := s1.hold
  simp only [Holds, and_true] at q1
  clear hb1 s0
  go_wp2_with fail
  refine bodyPost_ret (v := .tuple #[(.agg #[.bool rd, .bool ru, .int .i64 rl, .int .i64 rh]), .bool b, v]) ?_ rfl ⟨rfl, ?_⟩
  · simp [results, Tryd.results17, go_sem, q1]
  · (repeat' (first | exact s1.bel | refine Below.setCell ?_ (by dsimp only; omega) _ | refine Below.alloc ?_ (by first | (simp; done) | (simp; omega)) _ | refine Below.drew ?_ | exact Below.refl _ _))

theorem add_enters : Enters 43 := enters_of Tryd.func43 (by rfl) (by rfl)

set_option maxRecDepth 20000 in
set_option maxHeartbeats 2000000 in
theorem add_tell (d u d' u' : Bool) (lo hi lo' hi' : Int) (a : Nat → Addr) (w : World) (hS : ErrS w a) (rd ru : Bool) (rl rh : Int) (v : Value) (hT : Hid (∀ W : World, ErrS W a → Calls Tryd.prog 38 #[(.agg #[.bool d, .bool u, .int .i64 lo, .int .i64 hi]), (.agg #[.bool d', .bool u', .int .i64 lo', .int .i64 hi']), .func (.func 43) #[] #[]] W fun e w' => e = .returned (.tuple #[(.agg #[.bool rd, .bool ru, .int .i64 rl, .int .i64 rh]), v]) ∧ Below W.heap.size W w')) :
    Calls Tryd.prog 23 #[(.agg #[.bool d, .bool u, .int .i64 lo, .int .i64 hi]), (.agg #[.bool d', .bool u', .int .i64 lo', .int .i64 hi'])] w fun e w' => e = .returned (.tuple #[(.agg #[.bool rd, .bool ru, .int .i64 rl, .int .i64 rh]), v]) ∧ Below w.heap.size w w' := by
  go_enter Tryd.func23, Tryd.ntmps23
  go_wp2_with fail
  have s0 := (((St.startE hS).box4 23 (.bool d) (.bool u) (.int .i64 lo) (.int .i64 hi)).box4 23 (.bool d') (.bool u') (.int .i64 lo') (.int .i64 hi')).box4 23 (.bool false) (.bool false) (.int .i64 0) (.int .i64 0)
  simp only [allocSize] at s0
  refine (hT.out _ s0.errz).mono ?_
  rintro e w1 ⟨rfl, hb1⟩
  have s1 := s0.call hb1
  have q1 := s1.hold
  simp only [Holds, and_true] at q1
  clear hb1 s0
  go_wp2_with fail
  refine bodyPost_ret (v := .tuple #[(.agg #[.bool rd, .bool ru, .int .i64 rl, .int .i64 rh]), v]) ?_ rfl ⟨rfl, ?_⟩
  · simp [results, Tryd.results23, go_sem, q1]
  · (repeat' (first | exact s1.bel | refine Below.setCell ?_ (by dsimp only; omega) _ | refine Below.alloc ?_ (by first | (simp; done) | (simp; omega)) _ | refine Below.drew ?_ | exact Below.refl _ _))

theorem sub_enters : Enters 44 := enters_of Tryd.func44 (by rfl) (by rfl)

set_option maxRecDepth 20000 in
set_option maxHeartbeats 2000000 in
theorem sub_tell (d u d' u' : Bool) (lo hi lo' hi' : Int) (a : Nat → Addr) (w : World) (hS : ErrS w a) (rd ru : Bool) (rl rh : Int) (v : Value) (hT : Hid (∀ W : World, ErrS W a → Calls Tryd.prog 38 #[(.agg #[.bool d, .bool u, .int .i64 lo, .int .i64 hi]), (.agg #[.bool d', .bool u', .int .i64 lo', .int .i64 hi']), .func (.func 44) #[] #[]] W fun e w' => e = .returned (.tuple #[(.agg #[.bool rd, .bool ru, .int .i64 rl, .int .i64 rh]), v]) ∧ Below W.heap.size W w')) :
    Calls Tryd.prog 24 #[(.agg #[.bool d, .bool u, .int .i64 lo, .int .i64 hi]), (.agg #[.bool d', .bool u', .int .i64 lo', .int .i64 hi'])] w fun e w' => e = .returned (.tuple #[(.agg #[.bool rd, .bool ru, .int .i64 rl, .int .i64 rh]), v]) ∧ Below w.heap.size w w' := by
  go_enter Tryd.func24, Tryd.ntmps24
  go_wp2_with fail
  have s0 := (((St.startE hS).box4 23 (.bool d) (.bool u) (.int .i64 lo) (.int .i64 hi)).box4 23 (.bool d') (.bool u') (.int .i64 lo') (.int .i64 hi')).box4 23 (.bool false) (.bool false) (.int .i64 0) (.int .i64 0)
  simp only [allocSize] at s0
  refine (hT.out _ s0.errz).mono ?_
  rintro e w1 ⟨rfl, hb1⟩
  have s1 := s0.call hb1
  have q1 := s1.hold
  simp only [Holds, and_true] at q1
  clear hb1 s0
  go_wp2_with fail
  refine bodyPost_ret (v := .tuple #[(.agg #[.bool rd, .bool ru, .int .i64 rl, .int .i64 rh]), v]) ?_ rfl ⟨rfl, ?_⟩
  · simp [results, Tryd.results24, go_sem, q1]
  · (repeat' (first | exact s1.bel | refine Below.setCell ?_ (by dsimp only; omega) _ | refine Below.alloc ?_ (by first | (simp; done) | (simp; omega)) _ | refine Below.drew ?_ | exact Below.refl _ _))

theorem mul_enters : Enters 46 := enters_of Tryd.func46 (by rfl) (by rfl)

set_option maxRecDepth 20000 in
set_option maxHeartbeats 2000000 in
theorem mul_tell (d u d' u' : Bool) (lo hi lo' hi' : Int) (a : Nat → Addr) (w : World) (hS : ErrS w a) (rd ru : Bool) (rl rh : Int) (v : Value) (hT : Hid (∀ W : World, ErrS W a → Calls Tryd.prog 38 #[(.agg #[.bool d, .bool u, .int .i64 lo, .int .i64 hi]), (.agg #[.bool d', .bool u', .int .i64 lo', .int .i64 hi']), .func (.func 46) #[] #[]] W fun e w' => e = .returned (.tuple #[(.agg #[.bool rd, .bool ru, .int .i64 rl, .int .i64 rh]), v]) ∧ Below W.heap.size W w')) :
    Calls Tryd.prog 25 #[(.agg #[.bool d, .bool u, .int .i64 lo, .int .i64 hi]), (.agg #[.bool d', .bool u', .int .i64 lo', .int .i64 hi'])] w fun e w' => e = .returned (.tuple #[(.agg #[.bool rd, .bool ru, .int .i64 rl, .int .i64 rh]), v]) ∧ Below w.heap.size w w' := by
  go_enter Tryd.func25, Tryd.ntmps25
  go_wp2_with fail
  have s0 := (((St.startE hS).box4 23 (.bool d) (.bool u) (.int .i64 lo) (.int .i64 hi)).box4 23 (.bool d') (.bool u') (.int .i64 lo') (.int .i64 hi')).box4 23 (.bool false) (.bool false) (.int .i64 0) (.int .i64 0)
  simp only [allocSize] at s0
  refine (hT.out _ s0.errz).mono ?_
  rintro e w1 ⟨rfl, hb1⟩
  have s1 := s0.call hb1
  have q1 := s1.hold
  simp only [Holds, and_true] at q1
  clear hb1 s0
  go_wp2_with fail
  refine bodyPost_ret (v := .tuple #[(.agg #[.bool rd, .bool ru, .int .i64 rl, .int .i64 rh]), v]) ?_ rfl ⟨rfl, ?_⟩
  · simp [results, Tryd.results25, go_sem, q1]
  · (repeat' (first | exact s1.bel | refine Below.setCell ?_ (by dsimp only; omega) _ | refine Below.alloc ?_ (by first | (simp; done) | (simp; omega)) _ | refine Below.drew ?_ | exact Below.refl _ _))

theorem div_enters : Enters 47 := enters_of Tryd.func47 (by rfl) (by rfl)

set_option maxRecDepth 20000 in
set_option maxHeartbeats 2000000 in
theorem div_tell (d u d' u' : Bool) (lo hi lo' hi' : Int) (a : Nat → Addr) (w : World) (hS : ErrS w a) (rd ru : Bool) (rl rh : Int) (b : Bool) (v : Value) (hT : Hid (∀ W : World, ErrS W a → Calls Tryd.prog 40 #[(.agg #[.bool d, .bool u, .int .i64 lo, .int .i64 hi]), (.agg #[.bool d', .bool u', .int .i64 lo', .int .i64 hi']), .func (.func 47) #[] #[]] W fun e w' => e = .returned (.tuple #[(.agg #[.bool rd, .bool ru, .int .i64 rl, .int .i64 rh]), .bool b, v]) ∧ Below W.heap.size W w')) :
    Calls Tryd.prog 26 #[(.agg #[.bool d, .bool u, .int .i64 lo, .int .i64 hi]), (.agg #[.bool d', .bool u', .int .i64 lo', .int .i64 hi'])] w fun e w' => e = .returned (.tuple #[(.agg #[.bool rd, .bool ru, .int .i64 rl, .int .i64 rh]), .bool b, v]) ∧ Below w.heap.size w w' := by
  go_enter Tryd.func26, Tryd.ntmps26
  go_wp2_with fail
  have s0 := (((St.startE hS).box4 23 (.bool d) (.bool u) (.int .i64 lo) (.int .i64 hi)).box4 23 (.bool d') (.bool u') (.int .i64 lo') (.int .i64 hi')).box4 23 (.bool false) (.bool false) (.int .i64 0) (.int .i64 0)
  simp only [allocSize] at s0
  refine (hT.out _ s0.errz).mono ?_
  rintro e w1 ⟨rfl, hb1⟩
  have s1 := s0.call hb1
  have q1 := s1.hold
  simp only [Holds, and_true] at q1
  clear hb1 s0
  go_wp2_with fail
  refine bodyPost_ret (v := .tuple #[(.agg #[.bool rd, .bool ru, .int .i64 rl, .int .i64 rh]), .bool b, v]) ?_ rfl ⟨rfl, ?_⟩
  · simp [results, Tryd.results26, go_sem, q1]
  · (repeat' (first | exact s1.bel | refine Below.setCell ?_ (by dsimp only; omega) _ | refine Below.alloc ?_ (by first | (simp; done) | (simp; omega)) _ | refine Below.drew ?_ | exact Below.refl _ _))

theorem rem_enters : Enters 48 := enters_of Tryd.func48 (by rfl) (by rfl)

set_option maxRecDepth 20000 in
set_option maxHeartbeats 2000000 in
theorem rem_tell (d u d' u' : Bool) (lo hi lo' hi' : Int) (a : Nat → Addr) (w : World) (hS : ErrS w a) (rd ru : Bool) (rl rh : Int) (b : Bool) (v : Value) (hT : Hid (∀ W : World, ErrS W a → Calls Tryd.prog 40 #[(.agg #[.bool d, .bool u, .int .i64 lo, .int .i64 hi]), (.agg #[.bool d', .bool u', .int .i64 lo', .int .i64 hi']), .func (.func 48) #[] #[]] W fun e w' => e = .returned (.tuple #[(.agg #[.bool rd, .bool ru, .int .i64 rl, .int .i64 rh]), .bool b, v]) ∧ Below W.heap.size W w')) :
    Calls Tryd.prog 27 #[(.agg #[.bool d, .bool u, .int .i64 lo, .int .i64 hi]), (.agg #[.bool d', .bool u', .int .i64 lo', .int .i64 hi'])] w fun e w' => e = .returned (.tuple #[(.agg #[.bool rd, .bool ru, .int .i64 rl, .int .i64 rh]), .bool b, v]) ∧ Below w.heap.size w w' := by
  go_enter Tryd.func27, Tryd.ntmps27
  go_wp2_with fail
  have s0 := (((St.startE hS).box4 23 (.bool d) (.bool u) (.int .i64 lo) (.int .i64 hi)).box4 23 (.bool d') (.bool u') (.int .i64 lo') (.int .i64 hi')).box4 23 (.bool false) (.bool false) (.int .i64 0) (.int .i64 0)
  simp only [allocSize] at s0
  refine (hT.out _ s0.errz).mono ?_
  rintro e w1 ⟨rfl, hb1⟩
  have s1 := s0.call hb1
  have q1 := s1.hold
  simp only [Holds, and_true] at q1
  clear hb1 s0
  go_wp2_with fail
  refine bodyPost_ret (v := .tuple #[(.agg #[.bool rd, .bool ru, .int .i64 rl, .int .i64 rh]), .bool b, v]) ?_ rfl ⟨rfl, ?_⟩
  · simp [results, Tryd.results27, go_sem, q1]
  · (repeat' (first | exact s1.bel | refine Below.setCell ?_ (by dsimp only; omega) _ | refine Below.alloc ?_ (by first | (simp; done) | (simp; omega)) _ | refine Below.drew ?_ | exact Below.refl _ _))

end Go.Proofs.YtijbjahedfmfgaaDoor
