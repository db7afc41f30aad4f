/- Intervals: what the reference's small functions answer. -/
import Derived.Test.YtegibkjopkakhaaDoorKz
namespace Go.Proofs.YtegibkjopkakhaaDoor
open Go.RowKit

/-- An interval, as its four fields say. -/
structure Iv where
  d : Bool
  u : Bool
  lo : Int
  hi : Int
deriving DecidableEq

def Iv.v (a : Iv) : Value := (.agg #[.bool a.d, .bool a.u, .int .i64 a.lo, .int .i64 a.hi])

def farB (n m : Int) : Bool := decide (m < n ∨ n < -m)

def ivErr (d u : Bool) (lo hi : Int) : Int :=
  if (d = true ∧ lo ≠ 0) ∨ (u = true ∧ hi ≠ 0) then 3
  else if d = false ∧ u = false ∧ hi < lo then 3
  else if farB lo 1099511627776 = true ∨ farB hi 1099511627776 = true then 2 else 0

set_option maxHeartbeats 400000 in
theorem far_any (n m : Int) (w : World) (hm : 0 ≤ m) (hm2 : m ≤ 9223372036854775807) :
    Calls Tryd.prog 20 #[.int .i64 n, .int .i64 m] w fun e w' => e = .returned (.bool (farB n m)) ∧ w' = w := by
  go_enter Tryd.func20, Tryd.ntmps20
  go_wp2
  all_goals
    go_ret
    exact ⟨by simp [farB, *], rfl⟩

set_option maxHeartbeats 1000000 in
theorem ivErr_any (d u : Bool) (lo hi : Int) (w : World) :
    Calls Tryd.prog 22 #[(.agg #[.bool d, .bool u, .int .i64 lo, .int .i64 hi])] w fun e w' => e = .returned (.int .i64 (ivErr d u lo hi)) ∧ Below w.heap.size w w' := by
  cases d <;> cases u
  all_goals
    go_enter Tryd.func22, Tryd.ntmps22
    go_wp2_with (go_at_call 20; refine (far_any _ _ _ (by omega) (by omega)).mono ?_; rintro e w' ⟨rfl, rfl⟩)
    all_goals
      go_ret
      exact ⟨ret_int (by grind [ivErr]), (Below.refl _ _).alloc (Nat.le_refl _) _⟩

set_option maxHeartbeats 1000000 in
theorem inOf_any (d u : Bool) (lo hi n : Int) (w : World) :
    Calls Tryd.prog 19 #[(.agg #[.bool d, .bool u, .int .i64 lo, .int .i64 hi]), .int .i64 n] w fun e w' => e = .returned (.bool ((d || decide (lo ≤ n)) && (u || decide (n ≤ hi)))) ∧ Below w.heap.size w w' := by
  cases d <;> cases u
  all_goals
    go_enter Tryd.func19, Tryd.ntmps19
    go_wp2
    all_goals
      go_ret
      exact ⟨ret_bool (by grind [farB]), (Below.refl _ _).alloc (Nat.le_refl _) _⟩

end Go.Proofs.YtegibkjopkakhaaDoor
