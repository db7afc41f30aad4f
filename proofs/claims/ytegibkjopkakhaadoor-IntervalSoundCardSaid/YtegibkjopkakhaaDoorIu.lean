/- Intervals: what is asked of the program's functions. -/
import Derived.Test.YtegibkjopkakhaaDoorIc
import Derived.Test.YtegibkjopkakhaaDoorKu
import Derived.Test.YtegibkjopkakhaaDoorIt
namespace Go.Proofs.YtegibkjopkakhaaDoor
open Go.RowKit

def ivZ : Iv := ⟨false, false, 0, 0⟩
def insideB (a b : Iv) : Bool := decide (joined b a = b)

def JoinC (a : Nat → Addr) : Prop := ∀ (d u d' u' : Bool) (lo hi lo' hi' : Int) (w : World), ErrS w a → (-9223372036854775808 ≤ lo ∧ lo ≤ 9223372036854775807) ∧ (-9223372036854775808 ≤ hi ∧ hi ≤ 9223372036854775807) → (-9223372036854775808 ≤ lo' ∧ lo' ≤ 9223372036854775807) ∧ (-9223372036854775808 ≤ hi' ∧ hi' ≤ 9223372036854775807) →
  Calls Tryd.prog 23 #[(.agg #[.bool d, .bool u, .int .i64 lo, .int .i64 hi]), (.agg #[.bool d', .bool u', .int .i64 lo', .int .i64 hi'])] w fun e w' => e = .returned (.tuple #[(if twoErr ⟨d, u, lo, hi⟩ ⟨d', u', lo', hi'⟩ = 0 then joined ⟨d, u, lo, hi⟩ ⟨d', u', lo', hi'⟩ else ivZ).v, errV a (twoErr ⟨d, u, lo, hi⟩ ⟨d', u', lo', hi'⟩)]) ∧ Below w.heap.size w w'
def MeetC (a : Nat → Addr) : Prop := ∀ (d u d' u' : Bool) (lo hi lo' hi' : Int) (w : World), ErrS w a → (-9223372036854775808 ≤ lo ∧ lo ≤ 9223372036854775807) ∧ (-9223372036854775808 ≤ hi ∧ hi ≤ 9223372036854775807) → (-9223372036854775808 ≤ lo' ∧ lo' ≤ 9223372036854775807) ∧ (-9223372036854775808 ≤ hi' ∧ hi' ≤ 9223372036854775807) →
  Calls Tryd.prog 24 #[(.agg #[.bool d, .bool u, .int .i64 lo, .int .i64 hi]), (.agg #[.bool d', .bool u', .int .i64 lo', .int .i64 hi'])] w fun e w' => e = .returned (.tuple #[(if twoErr ⟨d, u, lo, hi⟩ ⟨d', u', lo', hi'⟩ = 0 then met ⟨d, u, lo, hi⟩ ⟨d', u', lo', hi'⟩ else ivZ).v, .bool (decide (twoErr ⟨d, u, lo, hi⟩ ⟨d', u', lo', hi'⟩ = 0) && metB ⟨d, u, lo, hi⟩ ⟨d', u', lo', hi'⟩), errV a (twoErr ⟨d, u, lo, hi⟩ ⟨d', u', lo', hi'⟩)]) ∧ Below w.heap.size w w'
def WithinC (a : Nat → Addr) : Prop := ∀ (d u d' u' : Bool) (lo hi lo' hi' : Int) (w : World), ErrS w a → (-9223372036854775808 ≤ lo ∧ lo ≤ 9223372036854775807) ∧ (-9223372036854775808 ≤ hi ∧ hi ≤ 9223372036854775807) → (-9223372036854775808 ≤ lo' ∧ lo' ≤ 9223372036854775807) ∧ (-9223372036854775808 ≤ hi' ∧ hi' ≤ 9223372036854775807) →
  Calls Tryd.prog 25 #[(.agg #[.bool d, .bool u, .int .i64 lo, .int .i64 hi]), (.agg #[.bool d', .bool u', .int .i64 lo', .int .i64 hi'])] w fun e w' => e = .returned (.tuple #[.bool (decide (twoErr ⟨d, u, lo, hi⟩ ⟨d', u', lo', hi'⟩ = 0) && insideB ⟨d, u, lo, hi⟩ ⟨d', u', lo', hi'⟩), errV a (twoErr ⟨d, u, lo, hi⟩ ⟨d', u', lo', hi'⟩)]) ∧ Below w.heap.size w w'
def ThreeC (a : Nat → Addr) : Prop := ∀ (w : World), ErrS w a → Calls Tryd.prog 7 #[] w fun e w' => e = .returned (.bool true) ∧ Below w.heap.size w w'
theorem ivErr_range (d u : Bool) (lo hi : Int) : 0 ≤ ivErr d u lo hi ∧ ivErr d u lo hi ≤ 8 := by
  unfold ivErr; split
  · omega
  · split
    · omega
    · split <;> omega

theorem twoErr_range (x y : Iv) : 0 ≤ twoErr x y ∧ twoErr x y ≤ 8 := by
  unfold twoErr; split <;> exact ivErr_range _ _ _ _

/-- A function of two intervals whose answer is the least interval of a set. -/
def OpC (F : Nat) (S : Iv → Iv → Int → Prop) (a : Nat → Addr) : Prop := ∀ (d u d' u' : Bool) (lo hi lo' hi' : Int) (w : World), ErrS w a → (-9223372036854775808 ≤ lo ∧ lo ≤ 9223372036854775807) ∧ (-9223372036854775808 ≤ hi ∧ hi ≤ 9223372036854775807) → (-9223372036854775808 ≤ lo' ∧ lo' ≤ 9223372036854775807) ∧ (-9223372036854775808 ≤ hi' ∧ hi' ≤ 9223372036854775807) →
  Calls Tryd.prog F #[(.agg #[.bool d, .bool u, .int .i64 lo, .int .i64 hi]), (.agg #[.bool d', .bool u', .int .i64 lo', .int .i64 hi'])] w fun e w' => (∃ R : Iv, e = .returned (.tuple #[R.v, errV a (twoErr ⟨d, u, lo, hi⟩ ⟨d', u', lo', hi'⟩)]) ∧ (twoErr ⟨d, u, lo, hi⟩ ⟨d', u', lo', hi'⟩ = 0 → LeastOf (S ⟨d, u, lo, hi⟩ ⟨d', u', lo', hi'⟩) R) ∧ (twoErr ⟨d, u, lo, hi⟩ ⟨d', u', lo', hi'⟩ ≠ 0 → R = ivZ)) ∧ Below w.heap.size w w'
def AddC (a : Nat → Addr) : Prop := OpC 9 sums a
def SubC (a : Nat → Addr) : Prop := OpC 10 diffs a
def MulC (a : Nat → Addr) : Prop := OpC 11 prods a
def HasC (a : Nat → Addr) : Prop := ∀ (d u : Bool) (lo hi n : Int) (w : World), ErrS w a → (-9223372036854775808 ≤ lo ∧ lo ≤ 9223372036854775807) ∧ (-9223372036854775808 ≤ hi ∧ hi ≤ 9223372036854775807) → (-9223372036854775808 ≤ n ∧ n ≤ 9223372036854775807) →
  Calls Tryd.prog 21 #[(.agg #[.bool d, .bool u, .int .i64 lo, .int .i64 hi]), .int .i64 n] w fun e w' => e = .returned (.bool (decide (ivErr d u lo hi = 0) && inB ⟨d, u, lo, hi⟩ n)) ∧ Below w.heap.size w w'
theorem okI_r {R : Iv} (h : okI R) : (-9223372036854775808 ≤ R.lo ∧ R.lo ≤ 9223372036854775807) ∧ (-9223372036854775808 ≤ R.hi ∧ R.hi ≤ 9223372036854775807) := by
  obtain ⟨_, _, _, h1, h2, h3, h4⟩ := h; omega

/-- The answer where both are right. -/
theorem OpC.good {F : Nat} {S : Iv → Iv → Int → Prop} {a : Nat → Addr} (h : OpC F S a) (d u d' u' : Bool) (lo hi lo' hi' : Int) (h1 : okI ⟨d, u, lo, hi⟩) (h2 : okI ⟨d', u', lo', hi'⟩) (w : World) (hS : ErrS w a) :
    Calls Tryd.prog F #[(.agg #[.bool d, .bool u, .int .i64 lo, .int .i64 hi]), (.agg #[.bool d', .bool u', .int .i64 lo', .int .i64 hi'])] w fun e w' => ∃ (rd ru : Bool) (rl rh : Int), e = .returned (.tuple #[(.agg #[.bool rd, .bool ru, .int .i64 rl, .int .i64 rh]), .nilIface]) ∧ LeastOf (S ⟨d, u, lo, hi⟩ ⟨d', u', lo', hi'⟩) ⟨rd, ru, rl, rh⟩ ∧ Below w.heap.size w w' := by
  refine (h d u d' u' lo hi lo' hi' w hS (okI_r h1) (okI_r h2)).mono ?_
  rintro e w' ⟨⟨R, rfl, hl, _⟩, hb⟩
  have e0 := (twoErr_ok _ _).2 ⟨h1, h2⟩
  obtain ⟨rd, ru, rl, rh⟩ := R
  exact ⟨rd, ru, rl, rh, by rw [e0]; rfl, hl e0, hb⟩

theorem HasC.good {a : Nat → Addr} (h : HasC a) (d u : Bool) (lo hi n : Int) (h1 : okI ⟨d, u, lo, hi⟩) (hn : (-9223372036854775808 ≤ n ∧ n ≤ 9223372036854775807)) (hi' : inI ⟨d, u, lo, hi⟩ n) (w : World) (hS : ErrS w a) :
    Calls Tryd.prog 21 #[(.agg #[.bool d, .bool u, .int .i64 lo, .int .i64 hi]), .int .i64 n] w fun e w' => e = .returned (.bool true) ∧ Below w.heap.size w w' := by
  refine (h d u lo hi n w hS (okI_r h1) hn).mono ?_
  rintro e w' ⟨rfl, hb⟩
  have e0 := (okI_iff ⟨d, u, lo, hi⟩).2 h1
  exact ⟨by rw [decide_eq_true e0, (inB_iff _ _).2 hi']; rfl, hb⟩
theorem JoinC.good {a : Nat → Addr} (h : JoinC a) (d u d' u' : Bool) (lo hi lo' hi' : Int) (h1 : okI ⟨d, u, lo, hi⟩) (h2 : okI ⟨d', u', lo', hi'⟩) (w : World) (hS : ErrS w a) :
    Calls Tryd.prog 23 #[(.agg #[.bool d, .bool u, .int .i64 lo, .int .i64 hi]), (.agg #[.bool d', .bool u', .int .i64 lo', .int .i64 hi'])] w fun e w' => e = .returned (.tuple #[(joined ⟨d, u, lo, hi⟩ ⟨d', u', lo', hi'⟩).v, .nilIface]) ∧ Below w.heap.size w w' := by
  refine (h d u d' u' lo hi lo' hi' w hS (okI_r h1) (okI_r h2)).mono ?_
  rintro e w' ⟨rfl, hb⟩
  have e0 := (twoErr_ok _ _).2 ⟨h1, h2⟩
  exact ⟨by rw [e0, if_pos rfl]; rfl, hb⟩
theorem MeetC.good {a : Nat → Addr} (h : MeetC a) (d u d' u' : Bool) (lo hi lo' hi' : Int) (h1 : okI ⟨d, u, lo, hi⟩) (h2 : okI ⟨d', u', lo', hi'⟩) (w : World) (hS : ErrS w a) :
    Calls Tryd.prog 24 #[(.agg #[.bool d, .bool u, .int .i64 lo, .int .i64 hi]), (.agg #[.bool d', .bool u', .int .i64 lo', .int .i64 hi'])] w fun e w' => e = .returned (.tuple #[(met ⟨d, u, lo, hi⟩ ⟨d', u', lo', hi'⟩).v, .bool (metB ⟨d, u, lo, hi⟩ ⟨d', u', lo', hi'⟩), .nilIface]) ∧ Below w.heap.size w w' := by
  refine (h d u d' u' lo hi lo' hi' w hS (okI_r h1) (okI_r h2)).mono ?_
  rintro e w' ⟨rfl, hb⟩
  have e0 := (twoErr_ok _ _).2 ⟨h1, h2⟩
  exact ⟨by rw [e0, if_pos rfl]; rfl, hb⟩
theorem WithinC.good {a : Nat → Addr} (h : WithinC a) (d u d' u' : Bool) (lo hi lo' hi' : Int) (h1 : okI ⟨d, u, lo, hi⟩) (h2 : okI ⟨d', u', lo', hi'⟩) (w : World) (hS : ErrS w a) :
    Calls Tryd.prog 25 #[(.agg #[.bool d, .bool u, .int .i64 lo, .int .i64 hi]), (.agg #[.bool d', .bool u', .int .i64 lo', .int .i64 hi'])] w fun e w' => e = .returned (.tuple #[.bool (insideB ⟨d, u, lo, hi⟩ ⟨d', u', lo', hi'⟩), .nilIface]) ∧ Below w.heap.size w w' := by
  refine (h d u d' u' lo hi lo' hi' w hS (okI_r h1) (okI_r h2)).mono ?_
  rintro e w' ⟨rfl, hb⟩
  have e0 := (twoErr_ok _ _).2 ⟨h1, h2⟩
  exact ⟨by rw [e0]; rfl, hb⟩
end Go.Proofs.YtegibkjopkakhaaDoor
