/- Intervals: order; what a statement asks of an answer. -/
import Derived.Test.YtjimjbilmlnipaaDoorIb
import Derived.Test.YtjimjbilmlnipaaDoorEc
namespace Go.Proofs.YtjimjbilmlnipaaDoor
open Go.RowKit

theorem Tryd.fieldsIv : Tryd.prog.underlying 50 = some (.struct (Tryd.prog.fieldsOf 50)) := by kernel_rfl
theorem Tryd.stoodIv : Tryd.prog.stoodInHeld 50 = false := by kernel_rfl

/-- '==' of two intervals. -/
theorem eqIv (d u d' u' : Bool) (lo hi lo' hi' : Int) (W : World) : (binOp .eql 50 (.agg #[.bool d, .bool u, .int .i64 lo, .int .i64 hi]) (.agg #[.bool d', .bool u', .int .i64 lo', .int .i64 hi'])).run Tryd.prog W = .ok (.bool (decide (d = d') && (decide (u = u') && (decide (lo = lo') && decide (hi = hi'))))) W := by
  rw [run_eql_struct, run_equalIn_struct W 9999 _ _ _ Tryd.fieldsIv Tryd.stoodIv]
  simp [Program.fieldsOf, Tryd.underlying50, go_sem, Tryd.underlying4, Tryd.underlying3]
  by_cases h1 : d = d' <;> by_cases h2 : u = u' <;> by_cases h3 : lo = lo' <;> by_cases h4 : hi = hi' <;> simp [h1, h2, h3, h4]

theorem neIv (d u d' u' : Bool) (lo hi lo' hi' : Int) (W : World) : (binOp .neq 50 (.agg #[.bool d, .bool u, .int .i64 lo, .int .i64 hi]) (.agg #[.bool d', .bool u', .int .i64 lo', .int .i64 hi'])).run Tryd.prog W = .ok (.bool (!(decide (d = d') && (decide (u = u') && (decide (lo = lo') && decide (hi = hi')))))) W := by
  have h := eqIv d u d' u' lo hi lo' hi' W
  rw [run_eql_struct] at h
  rw [run_neq_struct]
  cases hh : (Op.equalIn 10000 50 (.agg #[.bool d, .bool u, .int .i64 lo, .int .i64 hi]) (.agg #[.bool d', .bool u', .int .i64 lo', .int .i64 hi'])).run Tryd.prog W with
  | ok b w' => rw [hh] at h; simp only [Result.andThen_ok, Result.ok.injEq, Value.bool.injEq] at h ⊢; exact ⟨by rw [h.1], h.2⟩
  | halt x w' => rw [hh] at h; simp [Result.andThen] at h

/-- An error as it is told: none, or the one of that number. -/
def errV (a : Nat → Addr) (e : Int) : Value := if e = 0 then .nilIface else .iface 107 (.pointer (some (a (e.toNat - 1))))

theorem coded_errV (e : Int) (h1 : 0 ≤ e) (h2 : e ≤ 8) (a : Nat → Addr) (w : World) (hS : Sents w a) :
    Calls Tryd.prog 12 #[errV a e, .int .i64 e] w fun x w' => x = .returned (.bool true) ∧ Below w.heap.size w w' := by
  by_cases h : e = 0
  · subst h
    exact coded_nil 0 w
  · rw [errV, if_neg h]
    refine (coded_sent (e.toNat - 1) (by omega) e a _ rfl w hS).mono ?_
    rintro x w' ⟨rfl, hb⟩
    exact ⟨by rw [decide_eq_true (by omega)], hb⟩

set_option maxHeartbeats 1000000 in
theorem isSpan_err (d u d' u' : Bool) (lo hi lo' hi' e : Int) (h1 : 0 < e) (h2 : e ≤ 8) (a : Nat → Addr) (w : World) (hS : Sents w a) (v : Value) (hv : Hid (v = errV a e)) :
    Calls Tryd.prog 30 #[(.agg #[.bool d, .bool u, .int .i64 lo, .int .i64 hi]), v, (.agg #[.bool d', .bool u', .int .i64 lo', .int .i64 hi']), .int .i64 e] w fun x w' => x = .returned (.bool (decide (d = false) && (decide (u = false) && (decide (lo = 0) && decide (hi = 0))))) ∧ Below w.heap.size w w' := by
  have hE := fun W => eqIv d u false false lo hi 0 0 W
  have hC : ∀ W : World, Sents W a → Calls Tryd.prog 12 #[v, .int .i64 e] W fun x w' => x = .returned (.bool true) ∧ Below W.heap.size W w' := by
    intro W h
    rw [hv.out]
    exact coded_errV e (by omega) h2 a W h
  have HC := hide hC
  clear hC
  go_enter Tryd.func30, Tryd.ntmps30
  go_wp2_with fail
  refine (HC.out _ (hS.below (((Below.refl _ _).alloc (Nat.le_refl _) _).alloc (by simp) _))).mono ?_
  rintro x w1 ⟨rfl, hb1⟩
  have hbw1 : Below w.heap.size w w1 := (((Below.refl _ _).alloc (Nat.le_refl _) _).alloc (by simp) _).trans (hb1.mono (by simp; omega))
  obtain ⟨q0, q1, q2, q3⟩ := ((IvAt.new (w := w) (t := 50) (b := w.heap.size) (d := d) (u := u) (lo := lo) (hi := hi) rfl).alloc (by simp) (.cells #[.bool d', .bool u', .int .i64 lo', .int .i64 hi'] 50)).below hb1 (by simp; omega)
  dsimp only at q0 q1 q2 q3
  go_wp2_with fail
  go_ret
  exact ⟨ret_bool (by simp), hbw1⟩

set_option maxHeartbeats 1000000 in
theorem isSpan_ok (d u d' u' : Bool) (lo hi lo' hi' : Int) (w : World) :
    Calls Tryd.prog 30 #[(.agg #[.bool d, .bool u, .int .i64 lo, .int .i64 hi]), .nilIface, (.agg #[.bool d', .bool u', .int .i64 lo', .int .i64 hi']), .int .i64 0] w fun x w' => x = .returned (.bool (decide (d = d') && (decide (u = u') && (decide (lo = lo') && decide (hi = hi'))))) ∧ Below w.heap.size w w' := by
  have hE := fun W => eqIv d u d' u' lo hi lo' hi' W
  go_enter Tryd.func30, Tryd.ntmps30
  go_wp2_with fail
  go_ret
  exact ⟨ret_bool (by simp), ((Below.refl _ _).alloc (Nat.le_refl _) _).alloc (by simp) _⟩

end Go.Proofs.YtjimjbilmlnipaaDoor
