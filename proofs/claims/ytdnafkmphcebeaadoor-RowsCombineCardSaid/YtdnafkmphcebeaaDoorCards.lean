/-
  DERIVED. GIVEN WITH THE SEED: THE CARDS: each row of YtdnafkmphcebeaaDoorRows.lean that lists a variable, with what it lists TIED to the program's text (the seventh form; the later family's looks); each row that meets fmt, with fmt's text TOLD by the authors' own Lean function (tested against real Go, not proved from fmt's source: count such statements apart). THE CARD IS WHAT COUNTS. Prove the row's statement (the work); the ties are given (YtdnafkmphcebeaaDoorTie.lean); close each card by the builder's one call (the guide's Derived/Test/ToyasCard.lean, 'card_holds'). Laid BY PROGRAM, IN A SANDBOX (cutbox-door.mjs). By AI agents, Wed Nov 11 2026. No macro, syntax, notation, axiom, sorry.
-/
import Derived.Test.YtdnafkmphcebeaaDoorRows
import GoSem.ClaimSeven
namespace Go.Proofs.YtdnafkmphcebeaaDoor
namespace Rows

/-- THE TIED CARD OF 'rayconelaw1.Names'. -/
def namesCard : Claim7 := { stood := { row := namesRow, standIns := [], harness := (true, "737b95091092626a55a66a32db11420f15ab55e78f1ba66847af48fce023b988"), looks := true }, kinds := [], alts := [], laidByText := true, laidKinds := [.handle, .sentinel, .sentinel, .sentinel, .sentinel, .sentinel, .sentinel, .sentinel, .sentinel], laidTests := true, laidLooks := .later }
def NamesCardSaid : Prop := Claim7.holds Tryd.pinned (.plain (OpenSpec.ofChange namesSpec)) namesCard

/-- THE TIED CARD OF 'rayconelaw1.RowsDot'. -/
def rowsDotCard : Claim7 := { stood := { row := rowsDotRow, standIns := [], harness := (true, "737b95091092626a55a66a32db11420f15ab55e78f1ba66847af48fce023b988"), looks := true }, kinds := [], alts := [], laidByText := true, laidKinds := [.handle, .sentinel, .sentinel, .sentinel, .sentinel, .sentinel, .sentinel, .sentinel, .sentinel], laidTests := true, laidLooks := .later }
def RowsDotCardSaid : Prop := Claim7.holds Tryd.pinned (.plain (OpenSpec.ofChange rowsDotSpec)) rowsDotCard

/-- THE TIED CARD OF 'rayconelaw1.RowsCombine'. -/
def rowsCombineCard : Claim7 := { stood := { row := rowsCombineRow, standIns := [], harness := (true, "737b95091092626a55a66a32db11420f15ab55e78f1ba66847af48fce023b988"), looks := true }, kinds := [], alts := [], laidByText := true, laidKinds := [.handle, .sentinel, .sentinel, .sentinel, .sentinel, .sentinel, .sentinel, .sentinel, .sentinel], laidTests := true, laidLooks := .later }
def RowsCombineCardSaid : Prop := Claim7.holds Tryd.pinned (.plain (OpenSpec.ofChange rowsCombineSpec)) rowsCombineCard

/-- THE SECOND FORM's CARD OF 'rayconelaw1.Names'. -/
def namesUptoCard : Claim7 := { stood := { row := namesUptoRow, standIns := [], harness := (true, "737b95091092626a55a66a32db11420f15ab55e78f1ba66847af48fce023b988"), looks := true }, kinds := [], alts := [], laidByText := true, laidKinds := [.handle, .sentinel, .sentinel, .sentinel, .sentinel, .sentinel, .sentinel, .sentinel, .sentinel], laidTests := true, laidLooks := .later }
def NamesUptoCardSaid : Prop := Claim7.holds Tryd.pinned (.plain (OpenSpec.upto namesSpec)) namesUptoCard

/-- THE SECOND FORM's CARD OF 'rayconelaw1.RowsDot'. -/
def rowsDotUptoCard : Claim7 := { stood := { row := rowsDotUptoRow, standIns := [], harness := (true, "737b95091092626a55a66a32db11420f15ab55e78f1ba66847af48fce023b988"), looks := true }, kinds := [], alts := [], laidByText := true, laidKinds := [.handle, .sentinel, .sentinel, .sentinel, .sentinel, .sentinel, .sentinel, .sentinel, .sentinel], laidTests := true, laidLooks := .later }
def RowsDotUptoCardSaid : Prop := Claim7.holds Tryd.pinned (.plain (OpenSpec.upto rowsDotSpec)) rowsDotUptoCard

/-- THE SECOND FORM's CARD OF 'rayconelaw1.RowsCombine'. -/
def rowsCombineUptoCard : Claim7 := { stood := { row := rowsCombineUptoRow, standIns := [], harness := (true, "737b95091092626a55a66a32db11420f15ab55e78f1ba66847af48fce023b988"), looks := true }, kinds := [], alts := [], laidByText := true, laidKinds := [.handle, .sentinel, .sentinel, .sentinel, .sentinel, .sentinel, .sentinel, .sentinel, .sentinel], laidTests := true, laidLooks := .later }
def RowsCombineUptoCardSaid : Prop := Claim7.holds Tryd.pinned (.plain (OpenSpec.upto rowsCombineSpec)) rowsCombineUptoCard
end Rows
end Go.Proofs.YtdnafkmphcebeaaDoor
