/-
  DERIVED. GIVEN WITH THE SEED: THE CARDS: each row of YtijbjahedfmfgaaDoorRows.lean that lists a variable, with what it lists TIED to the program's text (the seventh form; the later family's looks); each row that meets fmt, with fmt's text TOLD by the authors' own Lean function (tested against real Go, not proved from fmt's source: count such statements apart). THE CARD IS WHAT COUNTS. Prove the row's statement (the work); the ties are given (YtijbjahedfmfgaaDoorTie.lean); close each card by the builder's one call (the guide's Derived/Test/ToyasCard.lean, 'card_holds'). Laid BY PROGRAM, IN A SANDBOX (cutbox-door.mjs). By AI agents, Wed Nov 11 2026. No macro, syntax, notation, axiom, sorry.
-/
import Derived.Test.YtijbjahedfmfgaaDoorRows
import GoSem.ClaimSeven
namespace Go.Proofs.YtijbjahedfmfgaaDoor
namespace Rows

/-- THE TIED CARD OF 'rayconelaw2.IntervalOf'. -/
def intervalOfCard : Claim7 := { stood := { row := intervalOfRow, standIns := [], harness := (true, "23c72da752e6aea9763042e9db29dff763e831c8076c78690d0106f0efb632d7"), looks := true }, kinds := [], alts := [], laidByText := true, laidKinds := [.handle, .sentinel, .sentinel, .sentinel, .sentinel, .sentinel, .sentinel, .sentinel, .sentinel], laidTests := true, laidLooks := .later }
def IntervalOfCardSaid : Prop := Claim7.holds Tryd.pinned (.plain (OpenSpec.ofChange intervalOfSpec)) intervalOfCard

/-- THE TIED CARD OF 'rayconelaw2.IntervalLattice'. -/
def intervalLatticeCard : Claim7 := { stood := { row := intervalLatticeRow, standIns := [], harness := (true, "23c72da752e6aea9763042e9db29dff763e831c8076c78690d0106f0efb632d7"), looks := true }, kinds := [], alts := [], laidByText := true, laidKinds := [.handle, .sentinel, .sentinel, .sentinel, .sentinel, .sentinel, .sentinel, .sentinel, .sentinel], laidTests := true, laidLooks := .later }
def IntervalLatticeCardSaid : Prop := Claim7.holds Tryd.pinned (.plain (OpenSpec.ofChange intervalLatticeSpec)) intervalLatticeCard

/-- THE TIED CARD OF 'rayconelaw2.IntervalDone'. -/
def intervalDoneCard : Claim7 := { stood := { row := intervalDoneRow, standIns := [], harness := (true, "23c72da752e6aea9763042e9db29dff763e831c8076c78690d0106f0efb632d7"), looks := true }, kinds := [], alts := [], laidByText := true, laidKinds := [.handle, .sentinel, .sentinel, .sentinel, .sentinel, .sentinel, .sentinel, .sentinel, .sentinel], laidTests := true, laidLooks := .later }
def IntervalDoneCardSaid : Prop := Claim7.holds Tryd.pinned (.plain (OpenSpec.ofChange intervalDoneSpec)) intervalDoneCard

/-- THE TIED CARD OF 'rayconelaw2.IntervalSound'. -/
def intervalSoundCard : Claim7 := { stood := { row := intervalSoundRow, standIns := [], harness := (true, "23c72da752e6aea9763042e9db29dff763e831c8076c78690d0106f0efb632d7"), looks := true }, kinds := [], alts := [], laidByText := true, laidKinds := [.sentinel, .sentinel], laidTests := true, laidLooks := .later }
def IntervalSoundCardSaid : Prop := Claim7.holds Tryd.pinned (.plain (OpenSpec.ofChange intervalSoundSpec)) intervalSoundCard

/-- THE TIED CARD OF 'rayconelaw2.IntervalWiden'. -/
def intervalWidenCard : Claim7 := { stood := { row := intervalWidenRow, standIns := [], harness := (true, "23c72da752e6aea9763042e9db29dff763e831c8076c78690d0106f0efb632d7"), looks := true }, kinds := [], alts := [], laidByText := true, laidKinds := [.handle, .sentinel, .sentinel, .sentinel, .sentinel, .sentinel, .sentinel, .sentinel, .sentinel], laidTests := true, laidLooks := .later }
def IntervalWidenCardSaid : Prop := Claim7.holds Tryd.pinned (.plain (OpenSpec.ofChange intervalWidenSpec)) intervalWidenCard

/-- THE TIED CARD OF 'rayconelaw2.IntervalStays'. -/
def intervalStaysCard : Claim7 := { stood := { row := intervalStaysRow, standIns := [], harness := (true, "23c72da752e6aea9763042e9db29dff763e831c8076c78690d0106f0efb632d7"), looks := true }, kinds := [], alts := [], laidByText := true, laidKinds := [.sentinel, .sentinel], laidTests := true, laidLooks := .later }
def IntervalStaysCardSaid : Prop := Claim7.holds Tryd.pinned (.plain (OpenSpec.ofChange intervalStaysSpec)) intervalStaysCard

/-- THE SECOND FORM's CARD OF 'rayconelaw2.IntervalOf'. -/
def intervalOfUptoCard : Claim7 := { stood := { row := intervalOfUptoRow, standIns := [], harness := (true, "23c72da752e6aea9763042e9db29dff763e831c8076c78690d0106f0efb632d7"), looks := true }, kinds := [], alts := [], laidByText := true, laidKinds := [.handle, .sentinel, .sentinel, .sentinel, .sentinel, .sentinel, .sentinel, .sentinel, .sentinel], laidTests := true, laidLooks := .later }
def IntervalOfUptoCardSaid : Prop := Claim7.holds Tryd.pinned (.plain (OpenSpec.upto intervalOfSpec)) intervalOfUptoCard

/-- THE SECOND FORM's CARD OF 'rayconelaw2.IntervalLattice'. -/
def intervalLatticeUptoCard : Claim7 := { stood := { row := intervalLatticeUptoRow, standIns := [], harness := (true, "23c72da752e6aea9763042e9db29dff763e831c8076c78690d0106f0efb632d7"), looks := true }, kinds := [], alts := [], laidByText := true, laidKinds := [.handle, .sentinel, .sentinel, .sentinel, .sentinel, .sentinel, .sentinel, .sentinel, .sentinel], laidTests := true, laidLooks := .later }
def IntervalLatticeUptoCardSaid : Prop := Claim7.holds Tryd.pinned (.plain (OpenSpec.upto intervalLatticeSpec)) intervalLatticeUptoCard

/-- THE SECOND FORM's CARD OF 'rayconelaw2.IntervalDone'. -/
def intervalDoneUptoCard : Claim7 := { stood := { row := intervalDoneUptoRow, standIns := [], harness := (true, "23c72da752e6aea9763042e9db29dff763e831c8076c78690d0106f0efb632d7"), looks := true }, kinds := [], alts := [], laidByText := true, laidKinds := [.handle, .sentinel, .sentinel, .sentinel, .sentinel, .sentinel, .sentinel, .sentinel, .sentinel], laidTests := true, laidLooks := .later }
def IntervalDoneUptoCardSaid : Prop := Claim7.holds Tryd.pinned (.plain (OpenSpec.upto intervalDoneSpec)) intervalDoneUptoCard

/-- THE SECOND FORM's CARD OF 'rayconelaw2.IntervalSound'. -/
def intervalSoundUptoCard : Claim7 := { stood := { row := intervalSoundUptoRow, standIns := [], harness := (true, "23c72da752e6aea9763042e9db29dff763e831c8076c78690d0106f0efb632d7"), looks := true }, kinds := [], alts := [], laidByText := true, laidKinds := [.sentinel, .sentinel], laidTests := true, laidLooks := .later }
def IntervalSoundUptoCardSaid : Prop := Claim7.holds Tryd.pinned (.plain (OpenSpec.upto intervalSoundSpec)) intervalSoundUptoCard

/-- THE SECOND FORM's CARD OF 'rayconelaw2.IntervalWiden'. -/
def intervalWidenUptoCard : Claim7 := { stood := { row := intervalWidenUptoRow, standIns := [], harness := (true, "23c72da752e6aea9763042e9db29dff763e831c8076c78690d0106f0efb632d7"), looks := true }, kinds := [], alts := [], laidByText := true, laidKinds := [.handle, .sentinel, .sentinel, .sentinel, .sentinel, .sentinel, .sentinel, .sentinel, .sentinel], laidTests := true, laidLooks := .later }
def IntervalWidenUptoCardSaid : Prop := Claim7.holds Tryd.pinned (.plain (OpenSpec.upto intervalWidenSpec)) intervalWidenUptoCard

/-- THE SECOND FORM's CARD OF 'rayconelaw2.IntervalStays'. -/
def intervalStaysUptoCard : Claim7 := { stood := { row := intervalStaysUptoRow, standIns := [], harness := (true, "23c72da752e6aea9763042e9db29dff763e831c8076c78690d0106f0efb632d7"), looks := true }, kinds := [], alts := [], laidByText := true, laidKinds := [.sentinel, .sentinel], laidTests := true, laidLooks := .later }
def IntervalStaysUptoCardSaid : Prop := Claim7.holds Tryd.pinned (.plain (OpenSpec.upto intervalStaysSpec)) intervalStaysUptoCard
end Rows
end Go.Proofs.YtijbjahedfmfgaaDoor
