/- Intervals: what the reference's small functions answer. -/
import Derived.Test.YtbafkjhlogkllaaGreatDoorKz
namespace Go.Proofs.YtbafkjhlogkllaaGreatDoor
open Go.RowKit

/-- An interval, as its four fields say. -/
structure Iv where
  d : Bool
  u : Bool
  lo : Int
  hi : Int
deriving DecidableEq

def Iv.v (a : Iv) : Value := (.agg #[.bool a.d, .bool a.u, .int .i64 a.lo, .int .i64 a.hi])

def farB (n m : Int) : Bool := decide (m < n ∨ n < -m)

def ivErr (d u : Bool) (lo hi : Int) : Int :=
  if (d = true ∧ lo ≠ 0) ∨ (u = true ∧ hi ≠ 0) then 3
  else if d = false ∧ u = false ∧ hi < lo then 3
  else if farB lo 1099511627776 = true ∨ farB hi 1099511627776 = true then 2 else 0

set_option maxHeartbeats 400000 in
theorem far_any (n m : Int) (w : World) (hm : 0 ≤ m) (hm2 : m ≤ 9223372036854775807) :
    Calls Tryz.prog 41 #[.int .i64 n, .int .i64 m] w fun e w' => e = .returned (.bool (farB n m)) ∧ w' = w := by
  go_enter Tryz.func41, Tryz.ntmps41
  go_wp2
  all_goals
    go_ret
    exact ⟨by simp [farB, *], rfl⟩

end Go.Proofs.YtbafkjhlogkllaaGreatDoor
