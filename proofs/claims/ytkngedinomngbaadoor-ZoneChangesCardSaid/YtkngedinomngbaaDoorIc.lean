/- Intervals: order; what a statement asks of an answer. -/
import Derived.Test.YtkngedinomngbaaDoorIb
import Derived.Test.YtkngedinomngbaaDoorEc
namespace Go.Proofs.YtkngedinomngbaaDoor
open Go.RowKit

theorem Tryd.fieldsIv : Tryd.prog.underlying 63 = some (.struct (Tryd.prog.fieldsOf 63)) := by kernel_rfl
theorem Tryd.stoodIv : Tryd.prog.stoodInHeld 63 = false := by kernel_rfl

/-- '==' of two intervals. -/
theorem eqIv (d u d' u' : Bool) (lo hi lo' hi' : Int) (W : World) : (binOp .eql 63 (.agg #[.bool d, .bool u, .int .i64 lo, .int .i64 hi]) (.agg #[.bool d', .bool u', .int .i64 lo', .int .i64 hi'])).run Tryd.prog W = .ok (.bool (decide (d = d') && (decide (u = u') && (decide (lo = lo') && decide (hi = hi'))))) W := by
  rw [run_eql_struct, run_equalIn_struct W 9999 _ _ _ Tryd.fieldsIv Tryd.stoodIv]
  simp [Program.fieldsOf, Tryd.underlying63, go_sem, Tryd.underlying4, Tryd.underlying3]
  by_cases h1 : d = d' <;> by_cases h2 : u = u' <;> by_cases h3 : lo = lo' <;> by_cases h4 : hi = hi' <;> simp [h1, h2, h3, h4]

theorem neIv (d u d' u' : Bool) (lo hi lo' hi' : Int) (W : World) : (binOp .neq 63 (.agg #[.bool d, .bool u, .int .i64 lo, .int .i64 hi]) (.agg #[.bool d', .bool u', .int .i64 lo', .int .i64 hi'])).run Tryd.prog W = .ok (.bool (!(decide (d = d') && (decide (u = u') && (decide (lo = lo') && decide (hi = hi')))))) W := by
  have h := eqIv d u d' u' lo hi lo' hi' W
  rw [run_eql_struct] at h
  rw [run_neq_struct]
  cases hh : (Op.equalIn 10000 63 (.agg #[.bool d, .bool u, .int .i64 lo, .int .i64 hi]) (.agg #[.bool d', .bool u', .int .i64 lo', .int .i64 hi'])).run Tryd.prog W with
  | ok b w' => rw [hh] at h; simp only [Result.andThen_ok, Result.ok.injEq, Value.bool.injEq] at h ⊢; exact ⟨by rw [h.1], h.2⟩
  | halt x w' => rw [hh] at h; simp [Result.andThen] at h

/-- An error as it is told: none, or the one of that number. -/
def errV (a : Nat → Addr) (e : Int) : Value := if e = 0 then .nilIface else .iface 160 (.pointer (some (a (e.toNat - 1))))

theorem coded_errV (e : Int) (h1 : 0 ≤ e) (h2 : e ≤ 8) (a : Nat → Addr) (w : World) (hS : Sents w a) :
    Calls Tryd.prog 18 #[errV a e, .int .i64 e] w fun x w' => x = .returned (.bool true) ∧ Below w.heap.size w w' := by
  by_cases h : e = 0
  · subst h
    exact coded_nil 0 w
  · rw [errV, if_neg h]
    refine (coded_sent (e.toNat - 1) (by omega) e a _ rfl w hS).mono ?_
    rintro x w' ⟨rfl, hb⟩
    exact ⟨by rw [decide_eq_true (by omega)], hb⟩

end Go.Proofs.YtkngedinomngbaaDoor
