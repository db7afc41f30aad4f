/- Intervals: join, meet, order, as the reference has them. -/
import Derived.Test.YtofjjaabgfmnpaaDoorIa
import Derived.Test.YtofjjaabgfmnpaaDoorEc
namespace Go.Proofs.YtofjjaabgfmnpaaDoor
open Go.RowKit

def joined (a b : Iv) : Iv where
  d := if b.d || (!a.d && decide (b.lo < a.lo)) then b.d else a.d
  u := if b.u || (!a.u && decide (a.hi < b.hi)) then b.u else a.u
  lo := if b.d || (!a.d && decide (b.lo < a.lo)) then b.lo else a.lo
  hi := if b.u || (!a.u && decide (a.hi < b.hi)) then b.hi else a.hi

def metRaw (a b : Iv) : Iv where
  d := if !b.d && (a.d || decide (a.lo < b.lo)) then false else a.d
  u := if !b.u && (a.u || decide (b.hi < a.hi)) then false else a.u
  lo := if !b.d && (a.d || decide (a.lo < b.lo)) then b.lo else a.lo
  hi := if !b.u && (a.u || decide (b.hi < a.hi)) then b.hi else a.hi

def metB (a b : Iv) : Bool := !(!(metRaw a b).d && !(metRaw a b).u && decide ((metRaw a b).hi < (metRaw a b).lo))
def met (a b : Iv) : Iv := if metB a b then metRaw a b else ⟨false, false, 0, 0⟩

theorem ret_iv {d u : Bool} {lo hi : Int} {X : Iv} (h : X = ⟨d, u, lo, hi⟩) : Ending.returned (.agg #[.bool d, .bool u, .int .i64 lo, .int .i64 hi]) = .returned X.v := by rw [h]; rfl
theorem ret_ivb {d u : Bool} {lo hi : Int} {X : Iv} {b c : Bool} (h : X = ⟨d, u, lo, hi⟩) (hb : c = b) : Ending.returned (.tuple #[(.agg #[.bool d, .bool u, .int .i64 lo, .int .i64 hi]), .bool b]) = .returned (.tuple #[X.v, .bool c]) := by rw [h, hb]; rfl

def twoErr (a b : Iv) : Int := if ivErr a.d a.u a.lo a.hi = 0 then ivErr b.d b.u b.lo b.hi else ivErr a.d a.u a.lo a.hi

/-- An interval in a box. -/
def IvAt (w : World) (b : Nat) (a : Iv) : Prop := w.cell? ⟨b, 0, none⟩ = some (.bool a.d) ∧ w.cell? ⟨b, 1, none⟩ = some (.bool a.u) ∧ w.cell? ⟨b, 2, none⟩ = some (.int .i64 a.lo) ∧ w.cell? ⟨b, 3, none⟩ = some (.int .i64 a.hi)

theorem IvAt.below {w w' : World} {b : Nat} {a : Iv} {n : Nat} (h : IvAt w b a) (hb : Below n w w') (hn : b < n) : IvAt w' b a :=
  ⟨(hb.cell (p := ⟨b, 0, none⟩) hn).trans h.1, (hb.cell (p := ⟨b, 1, none⟩) hn).trans h.2.1, (hb.cell (p := ⟨b, 2, none⟩) hn).trans h.2.2.1, (hb.cell (p := ⟨b, 3, none⟩) hn).trans h.2.2.2⟩

theorem IvAt.new {w : World} {t : TypeId} {b : Nat} {d u : Bool} {lo hi : Int} (hb : b = w.heap.size) : IvAt (w.alloc (.cells #[.bool d, .bool u, .int .i64 lo, .int .i64 hi] t)) b ⟨d, u, lo, hi⟩ := by
  subst hb; exact ⟨by simp, by simp, by simp, by simp⟩

theorem IvAt.alloc {w : World} {b : Nat} {a : Iv} (h : IvAt w b a) (hb : b < w.heap.size) (x : Obj) : IvAt (w.alloc x) b a :=
  h.below ((Below.refl w.heap.size w).alloc (Nat.le_refl _) x) hb

end Go.Proofs.YtofjjaabgfmnpaaDoor

/- Intervals: order; what a statement asks of an answer. -/
namespace Go.Proofs.YtofjjaabgfmnpaaDoor
open Go.RowKit

theorem Tryd.fieldsIv : Tryd.prog.underlying 65 = some (.struct (Tryd.prog.fieldsOf 65)) := by kernel_rfl
theorem Tryd.stoodIv : Tryd.prog.stoodInHeld 65 = false := by kernel_rfl

/-- '==' of two intervals. -/
theorem eqIv (d u d' u' : Bool) (lo hi lo' hi' : Int) (W : World) : (binOp .eql 65 (.agg #[.bool d, .bool u, .int .i64 lo, .int .i64 hi]) (.agg #[.bool d', .bool u', .int .i64 lo', .int .i64 hi'])).run Tryd.prog W = .ok (.bool (decide (d = d') && (decide (u = u') && (decide (lo = lo') && decide (hi = hi'))))) W := by
  rw [run_eql_struct, run_equalIn_struct W 9999 _ _ _ Tryd.fieldsIv Tryd.stoodIv]
  simp [Program.fieldsOf, Tryd.underlying65, go_sem, Tryd.underlying4, Tryd.underlying3]
  by_cases h1 : d = d' <;> by_cases h2 : u = u' <;> by_cases h3 : lo = lo' <;> by_cases h4 : hi = hi' <;> simp [h1, h2, h3, h4]

theorem neIv (d u d' u' : Bool) (lo hi lo' hi' : Int) (W : World) : (binOp .neq 65 (.agg #[.bool d, .bool u, .int .i64 lo, .int .i64 hi]) (.agg #[.bool d', .bool u', .int .i64 lo', .int .i64 hi'])).run Tryd.prog W = .ok (.bool (!(decide (d = d') && (decide (u = u') && (decide (lo = lo') && decide (hi = hi')))))) W := by
  have h := eqIv d u d' u' lo hi lo' hi' W
  rw [run_eql_struct] at h
  rw [run_neq_struct]
  cases hh : (Op.equalIn 10000 65 (.agg #[.bool d, .bool u, .int .i64 lo, .int .i64 hi]) (.agg #[.bool d', .bool u', .int .i64 lo', .int .i64 hi'])).run Tryd.prog W with
  | ok b w' => rw [hh] at h; simp only [Result.andThen_ok, Result.ok.injEq, Value.bool.injEq] at h ⊢; exact ⟨by rw [h.1], h.2⟩
  | halt x w' => rw [hh] at h; simp [Result.andThen] at h

/-- An error as it is told: none, or the one of that number. -/
def errV (a : Nat → Addr) (e : Int) : Value := if e = 0 then .nilIface else .iface 169 (.pointer (some (a (e.toNat - 1))))

theorem coded_errV (e : Int) (h1 : 0 ≤ e) (h2 : e ≤ 8) (a : Nat → Addr) (w : World) (hS : Sents w a) :
    Calls Tryd.prog 19 #[errV a e, .int .i64 e] w fun x w' => x = .returned (.bool true) ∧ Below w.heap.size w w' := by
  by_cases h : e = 0
  · subst h
    exact coded_nil 0 w
  · rw [errV, if_neg h]
    refine (coded_sent (e.toNat - 1) (by omega) e a _ rfl w hS).mono ?_
    rintro x w' ⟨rfl, hb⟩
    exact ⟨by rw [decide_eq_true (by omega)], hb⟩

end Go.Proofs.YtofjjaabgfmnpaaDoor
