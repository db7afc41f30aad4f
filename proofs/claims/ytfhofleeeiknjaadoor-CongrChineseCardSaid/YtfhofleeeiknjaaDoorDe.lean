/- The program's congruences: is one in another one; one so often; products. -/
import Derived.Test.YtfhofleeeiknjaaDoorDd
import Derived.Deep.RegionHeld3
namespace Go.Proofs.YtfhofleeeiknjaaDoor
open Go.RowKit
set_option linter.unusedVariables false

theorem within_two {r m r' m' : Int} (h' : okC ⟨r', m'⟩) : (decide (restI r m' = r') && decide (restI (r + m) m' = r')) = decide (m' ∣ m ∧ m' ∣ r - r') := by
  rw [inCB_rest h' r, inCB_rest h' (r + m)]
  unfold inCB
  rw [Bool.eq_iff_iff, Bool.and_eq_true, decide_eq_true_iff, decide_eq_true_iff, decide_eq_true_iff]
  dsimp only
  constructor
  · rintro ⟨h1, h2⟩
    refine ⟨?_, h1⟩
    have := Int.dvd_sub h2 h1
    rwa [show r + m - r' - (r - r') = m by omega] at this
  · rintro ⟨h1, h2⟩
    refine ⟨h2, ?_⟩
    have := Int.dvd_add h2 h1
    rwa [show r - r' + m = r + m - r' by omega] at this

theorem mul_b {n y : Int} {B C : Nat} (h1 : n.natAbs ≤ B) (h2 : y.natAbs ≤ C) : (n * y).natAbs ≤ B * C := by
  rw [Int.natAbs_mul]; exact Nat.mul_le_mul h1 h2

end Go.Proofs.YtfhofleeeiknjaaDoor
