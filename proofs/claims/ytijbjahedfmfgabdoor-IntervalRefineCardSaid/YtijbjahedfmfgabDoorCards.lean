/-
  DERIVED. GIVEN WITH THE SEED: THE CARDS: each row of YtijbjahedfmfgabDoorRows.lean that lists a variable, with what it lists TIED to the program's text (the seventh form; the later family's looks); each row that meets fmt, with fmt's text TOLD by the authors' own Lean function (tested against real Go, not proved from fmt's source: count such statements apart). THE CARD IS WHAT COUNTS. Prove the row's statement (the work); the ties are given (YtijbjahedfmfgabDoorTie.lean); close each card by the builder's one call (the guide's Derived/Test/ToyasCard.lean, 'card_holds'). Laid BY PROGRAM, IN A SANDBOX (cutbox-door.mjs). By AI agents, Wed Nov 11 2026. No macro, syntax, notation, axiom, sorry.
-/
import Derived.Test.YtijbjahedfmfgabDoorRows
import GoSem.ClaimSeven
namespace Go.Proofs.YtijbjahedfmfgabDoor
namespace Rows

/-- THE TIED CARD OF 'rayconelaw2.IntervalRefine'. -/
def intervalRefineCard : Claim7 := { stood := { row := intervalRefineRow, standIns := [], harness := (true, "482f8646a6030d58c76ffb93b5ea7ad21852c5145ffdb5bfb4497072437c4f9e"), looks := true }, kinds := [], alts := [], laidByText := true, laidKinds := [.handle, .sentinel, .sentinel, .sentinel, .sentinel, .sentinel, .sentinel, .sentinel, .sentinel], laidTests := true, laidLooks := .later }
def IntervalRefineCardSaid : Prop := Claim7.holds Tryd.pinned (.plain (OpenSpec.ofChange intervalRefineSpec)) intervalRefineCard

/-- THE TIED CARD OF 'rayconelaw2.IntervalKeeps'. -/
def intervalKeepsCard : Claim7 := { stood := { row := intervalKeepsRow, standIns := [], harness := (true, "482f8646a6030d58c76ffb93b5ea7ad21852c5145ffdb5bfb4497072437c4f9e"), looks := true }, kinds := [], alts := [], laidByText := true, laidKinds := [.sentinel, .sentinel, .sentinel], laidTests := true, laidLooks := .later }
def IntervalKeepsCardSaid : Prop := Claim7.holds Tryd.pinned (.plain (OpenSpec.ofChange intervalKeepsSpec)) intervalKeepsCard

/-- THE TIED CARD OF 'rayconelaw2.IntervalAlgebra'. -/
def intervalAlgebraCard : Claim7 := { stood := { row := intervalAlgebraRow, standIns := [], harness := (true, "482f8646a6030d58c76ffb93b5ea7ad21852c5145ffdb5bfb4497072437c4f9e"), looks := true }, kinds := [], alts := [], laidByText := true, laidKinds := [.sentinel, .sentinel], laidTests := true, laidLooks := .later }
def IntervalAlgebraCardSaid : Prop := Claim7.holds Tryd.pinned (.plain (OpenSpec.ofChange intervalAlgebraSpec)) intervalAlgebraCard

/-- THE TIED CARD OF 'rayconelaw2.IntervalSpreads'. -/
def intervalSpreadsCard : Claim7 := { stood := { row := intervalSpreadsRow, standIns := [], harness := (true, "482f8646a6030d58c76ffb93b5ea7ad21852c5145ffdb5bfb4497072437c4f9e"), looks := true }, kinds := [], alts := [], laidByText := true, laidKinds := [.sentinel, .sentinel], laidTests := true, laidLooks := .later }
def IntervalSpreadsCardSaid : Prop := Claim7.holds Tryd.pinned (.plain (OpenSpec.ofChange intervalSpreadsSpec)) intervalSpreadsCard

/-- THE SECOND FORM's CARD OF 'rayconelaw2.IntervalRefine'. -/
def intervalRefineUptoCard : Claim7 := { stood := { row := intervalRefineUptoRow, standIns := [], harness := (true, "482f8646a6030d58c76ffb93b5ea7ad21852c5145ffdb5bfb4497072437c4f9e"), looks := true }, kinds := [], alts := [], laidByText := true, laidKinds := [.handle, .sentinel, .sentinel, .sentinel, .sentinel, .sentinel, .sentinel, .sentinel, .sentinel], laidTests := true, laidLooks := .later }
def IntervalRefineUptoCardSaid : Prop := Claim7.holds Tryd.pinned (.plain (OpenSpec.upto intervalRefineSpec)) intervalRefineUptoCard

/-- THE SECOND FORM's CARD OF 'rayconelaw2.IntervalKeeps'. -/
def intervalKeepsUptoCard : Claim7 := { stood := { row := intervalKeepsUptoRow, standIns := [], harness := (true, "482f8646a6030d58c76ffb93b5ea7ad21852c5145ffdb5bfb4497072437c4f9e"), looks := true }, kinds := [], alts := [], laidByText := true, laidKinds := [.sentinel, .sentinel, .sentinel], laidTests := true, laidLooks := .later }
def IntervalKeepsUptoCardSaid : Prop := Claim7.holds Tryd.pinned (.plain (OpenSpec.upto intervalKeepsSpec)) intervalKeepsUptoCard

/-- THE SECOND FORM's CARD OF 'rayconelaw2.IntervalAlgebra'. -/
def intervalAlgebraUptoCard : Claim7 := { stood := { row := intervalAlgebraUptoRow, standIns := [], harness := (true, "482f8646a6030d58c76ffb93b5ea7ad21852c5145ffdb5bfb4497072437c4f9e"), looks := true }, kinds := [], alts := [], laidByText := true, laidKinds := [.sentinel, .sentinel], laidTests := true, laidLooks := .later }
def IntervalAlgebraUptoCardSaid : Prop := Claim7.holds Tryd.pinned (.plain (OpenSpec.upto intervalAlgebraSpec)) intervalAlgebraUptoCard

/-- THE SECOND FORM's CARD OF 'rayconelaw2.IntervalSpreads'. -/
def intervalSpreadsUptoCard : Claim7 := { stood := { row := intervalSpreadsUptoRow, standIns := [], harness := (true, "482f8646a6030d58c76ffb93b5ea7ad21852c5145ffdb5bfb4497072437c4f9e"), looks := true }, kinds := [], alts := [], laidByText := true, laidKinds := [.sentinel, .sentinel], laidTests := true, laidLooks := .later }
def IntervalSpreadsUptoCardSaid : Prop := Claim7.holds Tryd.pinned (.plain (OpenSpec.upto intervalSpreadsSpec)) intervalSpreadsUptoCard
end Rows
end Go.Proofs.YtijbjahedfmfgabDoor
