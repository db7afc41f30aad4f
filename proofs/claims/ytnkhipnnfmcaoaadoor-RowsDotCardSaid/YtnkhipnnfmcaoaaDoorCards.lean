/-
  DERIVED. GIVEN WITH THE SEED: THE CARDS: each row of YtnkhipnnfmcaoaaDoorRows.lean that lists a variable, with what it lists TIED to the program's text (the seventh form; the later family's looks); each row that meets fmt, with fmt's text TOLD by the authors' own Lean function (tested against real Go, not proved from fmt's source: count such statements apart). THE CARD IS WHAT COUNTS. Prove the row's statement (the work); the ties are given (YtnkhipnnfmcaoaaDoorTie.lean); close each card by the builder's one call (the guide's Derived/Test/ToyasCard.lean, 'card_holds'). Laid BY PROGRAM, IN A SANDBOX (cutbox-door.mjs). By AI agents, Wed Nov 11 2026. No macro, syntax, notation, axiom, sorry.
-/
import Derived.Test.YtnkhipnnfmcaoaaDoorRows
import GoSem.ClaimSeven
namespace Go.Proofs.YtnkhipnnfmcaoaaDoor
namespace Rows

/-- THE TIED CARD OF 'rayconelaw1.Names'. -/
def namesCard : Claim7 := { stood := { row := namesRow, standIns := [], harness := (true, "3b98eac00c724f1ee48af7214f7989c33fc585ad302d484f6fa714b3eaea34b1"), looks := true }, kinds := [], alts := [], laidByText := true, laidKinds := [.handle, .sentinel, .sentinel, .sentinel, .sentinel, .sentinel, .sentinel, .sentinel, .sentinel], laidTests := true, laidLooks := .later }
def NamesCardSaid : Prop := Claim7.holds Tryd.pinned (.plain (OpenSpec.ofChange namesSpec)) namesCard

/-- THE TIED CARD OF 'rayconelaw1.RowsDot'. -/
def rowsDotCard : Claim7 := { stood := { row := rowsDotRow, standIns := [], harness := (true, "3b98eac00c724f1ee48af7214f7989c33fc585ad302d484f6fa714b3eaea34b1"), looks := true }, kinds := [], alts := [], laidByText := true, laidKinds := [.handle, .sentinel, .sentinel, .sentinel, .sentinel, .sentinel, .sentinel, .sentinel, .sentinel], laidTests := true, laidLooks := .later }
def RowsDotCardSaid : Prop := Claim7.holds Tryd.pinned (.plain (OpenSpec.ofChange rowsDotSpec)) rowsDotCard

/-- THE TIED CARD OF 'rayconelaw1.RowsTurned'. -/
def rowsTurnedCard : Claim7 := { stood := { row := rowsTurnedRow, standIns := [], harness := (true, "3b98eac00c724f1ee48af7214f7989c33fc585ad302d484f6fa714b3eaea34b1"), looks := true }, kinds := [], alts := [], laidByText := true, laidKinds := [.sentinel, .sentinel], laidTests := true, laidLooks := .later }
def RowsTurnedCardSaid : Prop := Claim7.holds Tryd.pinned (.plain (OpenSpec.ofChange rowsTurnedSpec)) rowsTurnedCard

/-- THE SECOND FORM's CARD OF 'rayconelaw1.Names'. -/
def namesUptoCard : Claim7 := { stood := { row := namesUptoRow, standIns := [], harness := (true, "3b98eac00c724f1ee48af7214f7989c33fc585ad302d484f6fa714b3eaea34b1"), looks := true }, kinds := [], alts := [], laidByText := true, laidKinds := [.handle, .sentinel, .sentinel, .sentinel, .sentinel, .sentinel, .sentinel, .sentinel, .sentinel], laidTests := true, laidLooks := .later }
def NamesUptoCardSaid : Prop := Claim7.holds Tryd.pinned (.plain (OpenSpec.upto namesSpec)) namesUptoCard

/-- THE SECOND FORM's CARD OF 'rayconelaw1.RowsDot'. -/
def rowsDotUptoCard : Claim7 := { stood := { row := rowsDotUptoRow, standIns := [], harness := (true, "3b98eac00c724f1ee48af7214f7989c33fc585ad302d484f6fa714b3eaea34b1"), looks := true }, kinds := [], alts := [], laidByText := true, laidKinds := [.handle, .sentinel, .sentinel, .sentinel, .sentinel, .sentinel, .sentinel, .sentinel, .sentinel], laidTests := true, laidLooks := .later }
def RowsDotUptoCardSaid : Prop := Claim7.holds Tryd.pinned (.plain (OpenSpec.upto rowsDotSpec)) rowsDotUptoCard

/-- THE SECOND FORM's CARD OF 'rayconelaw1.RowsTurned'. -/
def rowsTurnedUptoCard : Claim7 := { stood := { row := rowsTurnedUptoRow, standIns := [], harness := (true, "3b98eac00c724f1ee48af7214f7989c33fc585ad302d484f6fa714b3eaea34b1"), looks := true }, kinds := [], alts := [], laidByText := true, laidKinds := [.sentinel, .sentinel], laidTests := true, laidLooks := .later }
def RowsTurnedUptoCardSaid : Prop := Claim7.holds Tryd.pinned (.plain (OpenSpec.upto rowsTurnedSpec)) rowsTurnedUptoCard
end Rows
end Go.Proofs.YtnkhipnnfmcaoaaDoor
