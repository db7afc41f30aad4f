/- Remainders of the program's ends. -/
import Derived.Test.YtijbjahedfmfgabDoorPh
namespace Go.Proofs.YtijbjahedfmfgabDoor
open Go.RowKit

/-- Ends of a right interval. -/
def EndR (p q : Int) : Prop := p ≤ q ∧ (p = -9223372036854775807 ∨ (-1099511627776 ≤ p ∧ p ≤ 1099511627776)) ∧ (q = 9223372036854775807 ∨ (-1099511627776 ≤ q ∧ q ≤ 1099511627776))
theorem endR_of {A : Iv} (h : okI A) : EndR (eLo A) (eHi A) := by
  have a := eLo_r h; have b := eHi_r h; have c := e_le h
  exact ⟨c, by omega, by omega⟩
theorem EndR.neg {p q : Int} (h : EndR p q) : EndR (-q) (-p) := by unfold EndR at *; omega
theorem EndR.f {p q : Int} (h : EndR p q) : (-9223372036854775807 ≤ p ∧ p ≤ 9223372036854775807) ∧ (-9223372036854775807 ≤ q ∧ q ≤ 9223372036854775807) := by unfold EndR at h; omega

end Go.Proofs.YtijbjahedfmfgabDoor
