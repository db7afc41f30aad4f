/- Intervals: how two numbers stand to each other; what is asked of Refine. -/
import Derived.Test.YtijbjahedfmfgabDoorIu
namespace Go.Proofs.YtijbjahedfmfgabDoor
open Go.RowKit

/-- The words '<', '<=', '=', '!=', '>', '>='. -/
def howS : Nat → ByteArray
  | 1 => ⟨#[60]⟩
  | 2 => ⟨#[60, 61]⟩
  | 3 => ⟨#[61]⟩
  | 4 => ⟨#[33, 61]⟩
  | 5 => ⟨#[62]⟩
  | _ => ⟨#[62, 61]⟩

def kindOf (s : ByteArray) : Nat := if s = howS 1 then 1 else if s = howS 2 then 2 else if s = howS 3 then 3 else if s = howS 4 then 4 else if s = howS 5 then 5 else if s = howS 6 then 6 else 0

theorem kindOf_le (s : ByteArray) : kindOf s ≤ 6 := by
  unfold kindOf; repeat' split
  all_goals omega

theorem kindOf_eq {s : ByteArray} {k : Nat} (h : kindOf s = k) (hk : k ≠ 0) : s = howS k := by
  subst h
  unfold kindOf at *
  repeat' split at hk
  all_goals simp_all

def rel : Nat → Int → Int → Bool
  | 1, x, y => decide (x < y)
  | 2, x, y => decide (x ≤ y)
  | 3, x, y => decide (x = y)
  | 4, x, y => decide (x ≠ y)
  | 5, x, y => decide (y < x)
  | _, x, y => decide (y ≤ x)

def refErr (A B : Iv) (s : ByteArray) : Int := if twoErr A B = 0 then (if kindOf s = 0 then 1 else 0) else twoErr A B

def firsts (A B : Iv) (k : Nat) (n : Int) : Prop := ∃ y, inI A n ∧ inI B y ∧ rel k n y = true
def seconds (A B : Iv) (k : Nat) (n : Int) : Prop := ∃ x, inI A x ∧ inI B n ∧ rel k x n = true

structure RefS (A B : Iv) (k : Nat) (X Y : Iv) (b : Bool) : Prop where
  some : b = true ↔ ∃ x y, inI A x ∧ inI B y ∧ rel k x y = true
  none : b = false → X = ivZ ∧ Y = ivZ
  left : b = true → LeastOf (firsts A B k) X
  right : b = true → LeastOf (seconds A B k) Y

/-- The errors ErrText, ErrBound, ErrShape. -/
def ErrT (w : World) (a : Nat → Addr) : Prop := ErrS w a ∧ ErrAt w a 0
def TZ (a : Nat → Addr) (W : World) : Prop := ErrT W a
theorem ErrT.stays {w W1 W2 : World} {a : Nat → Addr} (h : ErrT w a) (k : ErrT W1 a) (hb : Below w.heap.size W1 W2) : ErrT W2 a :=
  ⟨h.1.stays k.1 hb, (hb.cell (World.block_lt_of_cell? w _ h.2)).trans k.2⟩
theorem St.startT {w : World} {a : Nat → Addr} (h : ErrT w a) : St w w (TZ a) [] := ⟨Below.refl _ _, trivial, h, fun _ _ k hb => h.stays k hb⟩
theorem St.errt {w W : World} {a : Nat → Addr} {L : List (Nat × Nat × Value)} (h : St w W (TZ a) L) : ErrT W a := h.sent
theorem Sents.errt {w : World} {a : Nat → Addr} (h : Sents w a) : ErrT w a := ⟨h.errs, h.cell 0 (by omega)⟩

def RefineC (a : Nat → Addr) : Prop := ∀ (d u d' u' : Bool) (lo hi lo' hi' : Int) (s : ByteArray) (w : World), ErrT w a → (-9223372036854775808 ≤ lo ∧ lo ≤ 9223372036854775807) ∧ (-9223372036854775808 ≤ hi ∧ hi ≤ 9223372036854775807) → (-9223372036854775808 ≤ lo' ∧ lo' ≤ 9223372036854775807) ∧ (-9223372036854775808 ≤ hi' ∧ hi' ≤ 9223372036854775807) →
  Calls Tryd.prog 9 #[(.agg #[.bool d, .bool u, .int .i64 lo, .int .i64 hi]), (.agg #[.bool d', .bool u', .int .i64 lo', .int .i64 hi']), .string s] w fun e w' => (∃ (X Y : Iv) (b : Bool), e = .returned (.tuple #[X.v, Y.v, .bool b, errV a (refErr ⟨d, u, lo, hi⟩ ⟨d', u', lo', hi'⟩ s)]) ∧ (refErr ⟨d, u, lo, hi⟩ ⟨d', u', lo', hi'⟩ s = 0 → RefS ⟨d, u, lo, hi⟩ ⟨d', u', lo', hi'⟩ (kindOf s) X Y b) ∧ (refErr ⟨d, u, lo, hi⟩ ⟨d', u', lo', hi'⟩ s ≠ 0 → X = ivZ ∧ Y = ivZ ∧ b = false)) ∧ Below w.heap.size w w'

set_option maxHeartbeats 1000000 in
theorem stands_any (k : Nat) (h1 : 1 ≤ k) (h2 : k ≤ 6) (x y : Int) (w : World) :
    Calls Tryd.prog 13 #[.int .i64 x, .string (howS k), .int .i64 y] w fun e w' => e = .returned (.bool (rel k x y)) ∧ Below w.heap.size w w' := by
  rcases (show k = 1 ∨ k = 2 ∨ k = 3 ∨ k = 4 ∨ k = 5 ∨ k = 6 by omega) with rfl | rfl | rfl | rfl | rfl | rfl
  all_goals
    simp only [howS, rel]
    go_enter Tryd.func13, Tryd.ntmps13
    go_wp2
    go_ret
    exact ⟨ret_bool (by first | rfl | (simp; done) | (by_cases h : x = y <;> simp [h])), Below.refl _ _⟩

end Go.Proofs.YtijbjahedfmfgabDoor
