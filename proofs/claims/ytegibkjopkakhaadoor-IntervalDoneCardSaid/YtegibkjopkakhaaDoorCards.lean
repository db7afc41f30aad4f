/-
  DERIVED. GIVEN WITH THE SEED: THE CARDS: each row of YtegibkjopkakhaaDoorRows.lean that lists a variable, with what it lists TIED to the program's text (the seventh form; the later family's looks); each row that meets fmt, with fmt's text TOLD by the authors' own Lean function (tested against real Go, not proved from fmt's source: count such statements apart). THE CARD IS WHAT COUNTS. Prove the row's statement (the work); the ties are given (YtegibkjopkakhaaDoorTie.lean); close each card by the builder's one call (the guide's Derived/Test/ToyasCard.lean, 'card_holds'). Laid BY PROGRAM, IN A SANDBOX (cutbox-door.mjs). By AI agents, Wed Nov 11 2026. No macro, syntax, notation, axiom, sorry.
-/
import Derived.Test.YtegibkjopkakhaaDoorRows
import GoSem.ClaimSeven
namespace Go.Proofs.YtegibkjopkakhaaDoor
namespace Rows

/-- THE TIED CARD OF 'rayconelaw2.IntervalDone'. -/
def intervalDoneCard : Claim7 := { stood := { row := intervalDoneRow, standIns := [], harness := (true, "79ab1a09db9dcf4d5a39dcd512c88aa0e8a4179adf992ac57d01ef27eadf44e9"), looks := true }, kinds := [], alts := [], laidByText := true, laidKinds := [.handle, .sentinel, .sentinel, .sentinel, .sentinel, .sentinel, .sentinel, .sentinel, .sentinel], laidTests := true, laidLooks := .later }
def IntervalDoneCardSaid : Prop := Claim7.holds Tryd.pinned (.plain (OpenSpec.ofChange intervalDoneSpec)) intervalDoneCard

/-- THE TIED CARD OF 'rayconelaw2.IntervalSound'. -/
def intervalSoundCard : Claim7 := { stood := { row := intervalSoundRow, standIns := [], harness := (true, "79ab1a09db9dcf4d5a39dcd512c88aa0e8a4179adf992ac57d01ef27eadf44e9"), looks := true }, kinds := [], alts := [], laidByText := true, laidKinds := [.sentinel, .sentinel], laidTests := true, laidLooks := .later }
def IntervalSoundCardSaid : Prop := Claim7.holds Tryd.pinned (.plain (OpenSpec.ofChange intervalSoundSpec)) intervalSoundCard

/-- THE TIED CARD OF 'rayconelaw2.IntervalAlgebra'. -/
def intervalAlgebraCard : Claim7 := { stood := { row := intervalAlgebraRow, standIns := [], harness := (true, "79ab1a09db9dcf4d5a39dcd512c88aa0e8a4179adf992ac57d01ef27eadf44e9"), looks := true }, kinds := [], alts := [], laidByText := true, laidKinds := [.sentinel, .sentinel], laidTests := true, laidLooks := .later }
def IntervalAlgebraCardSaid : Prop := Claim7.holds Tryd.pinned (.plain (OpenSpec.ofChange intervalAlgebraSpec)) intervalAlgebraCard

/-- THE TIED CARD OF 'rayconelaw2.IntervalSpreads'. -/
def intervalSpreadsCard : Claim7 := { stood := { row := intervalSpreadsRow, standIns := [], harness := (true, "79ab1a09db9dcf4d5a39dcd512c88aa0e8a4179adf992ac57d01ef27eadf44e9"), looks := true }, kinds := [], alts := [], laidByText := true, laidKinds := [.sentinel, .sentinel], laidTests := true, laidLooks := .later }
def IntervalSpreadsCardSaid : Prop := Claim7.holds Tryd.pinned (.plain (OpenSpec.ofChange intervalSpreadsSpec)) intervalSpreadsCard

/-- THE SECOND FORM's CARD OF 'rayconelaw2.IntervalDone'. -/
def intervalDoneUptoCard : Claim7 := { stood := { row := intervalDoneUptoRow, standIns := [], harness := (true, "79ab1a09db9dcf4d5a39dcd512c88aa0e8a4179adf992ac57d01ef27eadf44e9"), looks := true }, kinds := [], alts := [], laidByText := true, laidKinds := [.handle, .sentinel, .sentinel, .sentinel, .sentinel, .sentinel, .sentinel, .sentinel, .sentinel], laidTests := true, laidLooks := .later }
def IntervalDoneUptoCardSaid : Prop := Claim7.holds Tryd.pinned (.plain (OpenSpec.upto intervalDoneSpec)) intervalDoneUptoCard

/-- THE SECOND FORM's CARD OF 'rayconelaw2.IntervalSound'. -/
def intervalSoundUptoCard : Claim7 := { stood := { row := intervalSoundUptoRow, standIns := [], harness := (true, "79ab1a09db9dcf4d5a39dcd512c88aa0e8a4179adf992ac57d01ef27eadf44e9"), looks := true }, kinds := [], alts := [], laidByText := true, laidKinds := [.sentinel, .sentinel], laidTests := true, laidLooks := .later }
def IntervalSoundUptoCardSaid : Prop := Claim7.holds Tryd.pinned (.plain (OpenSpec.upto intervalSoundSpec)) intervalSoundUptoCard

/-- THE SECOND FORM's CARD OF 'rayconelaw2.IntervalAlgebra'. -/
def intervalAlgebraUptoCard : Claim7 := { stood := { row := intervalAlgebraUptoRow, standIns := [], harness := (true, "79ab1a09db9dcf4d5a39dcd512c88aa0e8a4179adf992ac57d01ef27eadf44e9"), looks := true }, kinds := [], alts := [], laidByText := true, laidKinds := [.sentinel, .sentinel], laidTests := true, laidLooks := .later }
def IntervalAlgebraUptoCardSaid : Prop := Claim7.holds Tryd.pinned (.plain (OpenSpec.upto intervalAlgebraSpec)) intervalAlgebraUptoCard

/-- THE SECOND FORM's CARD OF 'rayconelaw2.IntervalSpreads'. -/
def intervalSpreadsUptoCard : Claim7 := { stood := { row := intervalSpreadsUptoRow, standIns := [], harness := (true, "79ab1a09db9dcf4d5a39dcd512c88aa0e8a4179adf992ac57d01ef27eadf44e9"), looks := true }, kinds := [], alts := [], laidByText := true, laidKinds := [.sentinel, .sentinel], laidTests := true, laidLooks := .later }
def IntervalSpreadsUptoCardSaid : Prop := Claim7.holds Tryd.pinned (.plain (OpenSpec.upto intervalSpreadsSpec)) intervalSpreadsUptoCard
end Rows
end Go.Proofs.YtegibkjopkakhaaDoor
