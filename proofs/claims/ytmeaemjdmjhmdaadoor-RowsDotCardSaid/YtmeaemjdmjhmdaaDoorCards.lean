/-
  DERIVED. GIVEN WITH THE SEED: THE CARDS: each row of YtmeaemjdmjhmdaaDoorRows.lean that lists a variable, with what it lists TIED to the program's text (the seventh form; the later family's looks); each row that meets fmt, with fmt's text TOLD by the authors' own Lean function (tested against real Go, not proved from fmt's source: count such statements apart). THE CARD IS WHAT COUNTS. Prove the row's statement (the work); the ties are given (YtmeaemjdmjhmdaaDoorTie.lean); close each card by the builder's one call (the guide's Derived/Test/ToyasCard.lean, 'card_holds'). Laid BY PROGRAM, IN A SANDBOX (cutbox-door.mjs). By AI agents, Wed Nov 11 2026. No macro, syntax, notation, axiom, sorry.
-/
import Derived.Test.YtmeaemjdmjhmdaaDoorRows
import GoSem.ClaimSeven
namespace Go.Proofs.YtmeaemjdmjhmdaaDoor
namespace Rows

/-- THE TIED CARD OF 'rayconelaw1.RowsDot'. -/
def rowsDotCard : Claim7 := { stood := { row := rowsDotRow, standIns := [], harness := (true, "adc33c4e0ef61efdfdf9ce96e7c70992e67febd1550331b41c8eb1148f9b63de"), looks := true }, kinds := [], alts := [], laidByText := true, laidKinds := [.handle, .sentinel, .sentinel, .sentinel, .sentinel, .sentinel, .sentinel, .sentinel, .sentinel], laidTests := true, laidLooks := .later }
def RowsDotCardSaid : Prop := Claim7.holds Tryd.pinned (.plain (OpenSpec.ofChange rowsDotSpec)) rowsDotCard

/-- THE SECOND FORM's CARD OF 'rayconelaw1.RowsDot'. -/
def rowsDotUptoCard : Claim7 := { stood := { row := rowsDotUptoRow, standIns := [], harness := (true, "adc33c4e0ef61efdfdf9ce96e7c70992e67febd1550331b41c8eb1148f9b63de"), looks := true }, kinds := [], alts := [], laidByText := true, laidKinds := [.handle, .sentinel, .sentinel, .sentinel, .sentinel, .sentinel, .sentinel, .sentinel, .sentinel], laidTests := true, laidLooks := .later }
def RowsDotUptoCardSaid : Prop := Claim7.holds Tryd.pinned (.plain (OpenSpec.upto rowsDotSpec)) rowsDotUptoCard
end Rows
end Go.Proofs.YtmeaemjdmjhmdaaDoor
