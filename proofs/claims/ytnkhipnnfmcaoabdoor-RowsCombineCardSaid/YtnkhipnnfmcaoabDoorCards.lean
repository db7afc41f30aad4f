/-
  DERIVED. GIVEN WITH THE SEED: THE CARDS: each row of YtnkhipnnfmcaoabDoorRows.lean that lists a variable, with what it lists TIED to the program's text (the seventh form; the later family's looks); each row that meets fmt, with fmt's text TOLD by the authors' own Lean function (tested against real Go, not proved from fmt's source: count such statements apart). THE CARD IS WHAT COUNTS. Prove the row's statement (the work); the ties are given (YtnkhipnnfmcaoabDoorTie.lean); close each card by the builder's one call (the guide's Derived/Test/ToyasCard.lean, 'card_holds'). Laid BY PROGRAM, IN A SANDBOX (cutbox-door.mjs). By AI agents, Wed Nov 11 2026. No macro, syntax, notation, axiom, sorry.
-/
import Derived.Test.YtnkhipnnfmcaoabDoorRows
import GoSem.ClaimSeven
namespace Go.Proofs.YtnkhipnnfmcaoabDoor
namespace Rows

/-- THE TIED CARD OF 'rayconelaw1.RowsCombine'. -/
def rowsCombineCard : Claim7 := { stood := { row := rowsCombineRow, standIns := [], harness := (true, "6f7b9a6091c6d3fa8fab23beb52cb590cb0ffcdff3a3a9ca2fc96604aaeac988"), looks := true }, kinds := [], alts := [], laidByText := true, laidKinds := [.handle, .sentinel, .sentinel, .sentinel, .sentinel, .sentinel, .sentinel, .sentinel, .sentinel], laidTests := true, laidLooks := .later }
def RowsCombineCardSaid : Prop := Claim7.holds Tryd.pinned (.plain (OpenSpec.ofChange rowsCombineSpec)) rowsCombineCard

/-- THE TIED CARD OF 'rayconelaw1.RowsSpan'. -/
def rowsSpanCard : Claim7 := { stood := { row := rowsSpanRow, standIns := [], harness := (true, "6f7b9a6091c6d3fa8fab23beb52cb590cb0ffcdff3a3a9ca2fc96604aaeac988"), looks := true }, kinds := [], alts := [], laidByText := true, laidKinds := [.sentinel, .sentinel], laidTests := true, laidLooks := .later }
def RowsSpanCardSaid : Prop := Claim7.holds Tryd.pinned (.plain (OpenSpec.ofChange rowsSpanSpec)) rowsSpanCard

/-- THE SECOND FORM's CARD OF 'rayconelaw1.RowsCombine'. -/
def rowsCombineUptoCard : Claim7 := { stood := { row := rowsCombineUptoRow, standIns := [], harness := (true, "6f7b9a6091c6d3fa8fab23beb52cb590cb0ffcdff3a3a9ca2fc96604aaeac988"), looks := true }, kinds := [], alts := [], laidByText := true, laidKinds := [.handle, .sentinel, .sentinel, .sentinel, .sentinel, .sentinel, .sentinel, .sentinel, .sentinel], laidTests := true, laidLooks := .later }
def RowsCombineUptoCardSaid : Prop := Claim7.holds Tryd.pinned (.plain (OpenSpec.upto rowsCombineSpec)) rowsCombineUptoCard

/-- THE SECOND FORM's CARD OF 'rayconelaw1.RowsSpan'. -/
def rowsSpanUptoCard : Claim7 := { stood := { row := rowsSpanUptoRow, standIns := [], harness := (true, "6f7b9a6091c6d3fa8fab23beb52cb590cb0ffcdff3a3a9ca2fc96604aaeac988"), looks := true }, kinds := [], alts := [], laidByText := true, laidKinds := [.sentinel, .sentinel], laidTests := true, laidLooks := .later }
def RowsSpanUptoCardSaid : Prop := Claim7.holds Tryd.pinned (.plain (OpenSpec.upto rowsSpanSpec)) rowsSpanUptoCard
end Rows
end Go.Proofs.YtnkhipnnfmcaoabDoor
