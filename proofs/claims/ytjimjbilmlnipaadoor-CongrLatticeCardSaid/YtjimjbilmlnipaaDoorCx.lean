/- '==' of two congruences. -/
import Derived.Test.YtjimjbilmlnipaaDoorCa
namespace Go.Proofs.YtjimjbilmlnipaaDoor
open Go.RowKit

theorem Tryd.stoodCg : Tryd.prog.stoodInHeld 31 = false := by kernel_rfl

theorem Tryd.fieldsCg : Tryd.prog.underlying 31 = some (.struct (Tryd.prog.fieldsOf 31)) := by kernel_rfl
theorem eqCg (r m r' m' : Int) (W : World) : (binOp .eql 31 (.agg #[.int .i64 r, .int .i64 m]) (.agg #[.int .i64 r', .int .i64 m'])).run Tryd.prog W = .ok (.bool (decide (r = r') && decide (m = m'))) W := by
  rw [run_eql_struct, run_equalIn_struct W 9999 _ _ _ Tryd.fieldsCg Tryd.stoodCg]
  simp [Program.fieldsOf, Tryd.underlying31, go_sem, Tryd.underlying3]
  by_cases h1 : r = r' <;> by_cases h2 : m = m' <;> simp [h1, h2]

theorem neCg (r m r' m' : Int) (W : World) : (binOp .neq 31 (.agg #[.int .i64 r, .int .i64 m]) (.agg #[.int .i64 r', .int .i64 m'])).run Tryd.prog W = .ok (.bool (!(decide (r = r') && decide (m = m')))) W := by
  have h := eqCg r m r' m' W
  rw [run_eql_struct] at h
  rw [run_neq_struct]
  cases hh : (Op.equalIn 10000 31 (.agg #[.int .i64 r, .int .i64 m]) (.agg #[.int .i64 r', .int .i64 m'])).run Tryd.prog W with
  | ok b w' => rw [hh] at h; simp only [Result.andThen_ok, Result.ok.injEq, Value.bool.injEq] at h ⊢; exact ⟨by rw [h.1], h.2⟩
  | halt x w' => rw [hh] at h; simp [Result.andThen] at h

end Go.Proofs.YtjimjbilmlnipaaDoor
