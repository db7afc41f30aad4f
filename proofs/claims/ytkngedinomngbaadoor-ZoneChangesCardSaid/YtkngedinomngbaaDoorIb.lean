/- Intervals: join, meet, order, as the reference has them. -/
import Derived.Test.YtkngedinomngbaaDoorIa
namespace Go.Proofs.YtkngedinomngbaaDoor
open Go.RowKit

def joined (a b : Iv) : Iv where
  d := if b.d || (!a.d && decide (b.lo < a.lo)) then b.d else a.d
  u := if b.u || (!a.u && decide (a.hi < b.hi)) then b.u else a.u
  lo := if b.d || (!a.d && decide (b.lo < a.lo)) then b.lo else a.lo
  hi := if b.u || (!a.u && decide (a.hi < b.hi)) then b.hi else a.hi

def metRaw (a b : Iv) : Iv where
  d := if !b.d && (a.d || decide (a.lo < b.lo)) then false else a.d
  u := if !b.u && (a.u || decide (b.hi < a.hi)) then false else a.u
  lo := if !b.d && (a.d || decide (a.lo < b.lo)) then b.lo else a.lo
  hi := if !b.u && (a.u || decide (b.hi < a.hi)) then b.hi else a.hi

def metB (a b : Iv) : Bool := !(!(metRaw a b).d && !(metRaw a b).u && decide ((metRaw a b).hi < (metRaw a b).lo))
def met (a b : Iv) : Iv := if metB a b then metRaw a b else ⟨false, false, 0, 0⟩

theorem ret_iv {d u : Bool} {lo hi : Int} {X : Iv} (h : X = ⟨d, u, lo, hi⟩) : Ending.returned (.agg #[.bool d, .bool u, .int .i64 lo, .int .i64 hi]) = .returned X.v := by rw [h]; rfl
theorem ret_ivb {d u : Bool} {lo hi : Int} {X : Iv} {b c : Bool} (h : X = ⟨d, u, lo, hi⟩) (hb : c = b) : Ending.returned (.tuple #[(.agg #[.bool d, .bool u, .int .i64 lo, .int .i64 hi]), .bool b]) = .returned (.tuple #[X.v, .bool c]) := by rw [h, hb]; rfl

def twoErr (a b : Iv) : Int := if ivErr a.d a.u a.lo a.hi = 0 then ivErr b.d b.u b.lo b.hi else ivErr a.d a.u a.lo a.hi

/-- An interval in a box. -/
def IvAt (w : World) (b : Nat) (a : Iv) : Prop := w.cell? ⟨b, 0, none⟩ = some (.bool a.d) ∧ w.cell? ⟨b, 1, none⟩ = some (.bool a.u) ∧ w.cell? ⟨b, 2, none⟩ = some (.int .i64 a.lo) ∧ w.cell? ⟨b, 3, none⟩ = some (.int .i64 a.hi)

theorem IvAt.below {w w' : World} {b : Nat} {a : Iv} {n : Nat} (h : IvAt w b a) (hb : Below n w w') (hn : b < n) : IvAt w' b a :=
  ⟨(hb.cell (p := ⟨b, 0, none⟩) hn).trans h.1, (hb.cell (p := ⟨b, 1, none⟩) hn).trans h.2.1, (hb.cell (p := ⟨b, 2, none⟩) hn).trans h.2.2.1, (hb.cell (p := ⟨b, 3, none⟩) hn).trans h.2.2.2⟩

theorem IvAt.new {w : World} {t : TypeId} {b : Nat} {d u : Bool} {lo hi : Int} (hb : b = w.heap.size) : IvAt (w.alloc (.cells #[.bool d, .bool u, .int .i64 lo, .int .i64 hi] t)) b ⟨d, u, lo, hi⟩ := by
  subst hb; exact ⟨by simp, by simp, by simp, by simp⟩

theorem IvAt.alloc {w : World} {b : Nat} {a : Iv} (h : IvAt w b a) (hb : b < w.heap.size) (x : Obj) : IvAt (w.alloc x) b a :=
  h.below ((Below.refl w.heap.size w).alloc (Nat.le_refl _) x) hb

end Go.Proofs.YtkngedinomngbaaDoor
