/-
  DERIVED. GIVEN WITH THE SEED: THE CARDS: each row of YtofjjaabgfmnpaaDoorRows.lean that lists a variable, with what it lists TIED to the program's text (the seventh form; the later family's looks); each row that meets fmt, with fmt's text TOLD by the authors' own Lean function (tested against real Go, not proved from fmt's source: count such statements apart). THE CARD IS WHAT COUNTS. Prove the row's statement (the work); the ties are given (YtofjjaabgfmnpaaDoorTie.lean); close each card by the builder's one call (the guide's Derived/Test/ToyasCard.lean, 'card_holds'). Laid BY PROGRAM, IN A SANDBOX (cutbox-door.mjs). By AI agents, Wed Nov 11 2026. No macro, syntax, notation, axiom, sorry.
-/
import Derived.Test.YtofjjaabgfmnpaaDoorRows
import GoSem.ClaimSeven
namespace Go.Proofs.YtofjjaabgfmnpaaDoor
namespace Rows

/-- THE TIED CARD OF 'rayconelaw2.OctClose'. -/
def octCloseCard : Claim7 := { stood := { row := octCloseRow, standIns := [], harness := (true, "4d83a4c3399050abb786c82e7f6f4497c2828ffe9e03d65b9a70c3c8a225b276"), looks := true }, kinds := [], alts := [], laidByText := true, laidKinds := [.handle, .sentinel, .sentinel, .sentinel, .sentinel, .sentinel, .sentinel, .sentinel, .sentinel], laidTests := true, laidLooks := .later }
def OctCloseCardSaid : Prop := Claim7.holds Tryd.pinned (.plain (OpenSpec.ofChange octCloseSpec)) octCloseCard

/-- THE TIED CARD OF 'rayconelaw2.OctLattice'. -/
def octLatticeCard : Claim7 := { stood := { row := octLatticeRow, standIns := [], harness := (true, "4d83a4c3399050abb786c82e7f6f4497c2828ffe9e03d65b9a70c3c8a225b276"), looks := true }, kinds := [], alts := [], laidByText := true, laidKinds := [.handle, .sentinel, .sentinel, .sentinel, .sentinel, .sentinel, .sentinel, .sentinel, .sentinel], laidTests := true, laidLooks := .later }
def OctLatticeCardSaid : Prop := Claim7.holds Tryd.pinned (.plain (OpenSpec.ofChange octLatticeSpec)) octLatticeCard

/-- THE TIED CARD OF 'rayconelaw2.OctChanges'. -/
def octChangesCard : Claim7 := { stood := { row := octChangesRow, standIns := [], harness := (true, "4d83a4c3399050abb786c82e7f6f4497c2828ffe9e03d65b9a70c3c8a225b276"), looks := true }, kinds := [], alts := [], laidByText := true, laidKinds := [.handle, .sentinel, .sentinel, .sentinel, .sentinel, .sentinel, .sentinel, .sentinel, .sentinel], laidTests := true, laidLooks := .later }
def OctChangesCardSaid : Prop := Claim7.holds Tryd.pinned (.plain (OpenSpec.ofChange octChangesSpec)) octChangesCard

/-- THE TIED CARD OF 'rayconelaw2.OctGuard'. -/
def octGuardCard : Claim7 := { stood := { row := octGuardRow, standIns := [], harness := (true, "4d83a4c3399050abb786c82e7f6f4497c2828ffe9e03d65b9a70c3c8a225b276"), looks := true }, kinds := [], alts := [], laidByText := true, laidKinds := [.handle, .sentinel, .sentinel, .sentinel, .sentinel, .sentinel, .sentinel, .sentinel, .sentinel], laidTests := true, laidLooks := .later }
def OctGuardCardSaid : Prop := Claim7.holds Tryd.pinned (.plain (OpenSpec.ofChange octGuardSpec)) octGuardCard

/-- THE TIED CARD OF 'rayconelaw2.OctWiden'. -/
def octWidenCard : Claim7 := { stood := { row := octWidenRow, standIns := [], harness := (true, "4d83a4c3399050abb786c82e7f6f4497c2828ffe9e03d65b9a70c3c8a225b276"), looks := true }, kinds := [], alts := [], laidByText := true, laidKinds := [.handle, .sentinel, .sentinel, .sentinel, .sentinel, .sentinel, .sentinel, .sentinel, .sentinel], laidTests := true, laidLooks := .later }
def OctWidenCardSaid : Prop := Claim7.holds Tryd.pinned (.plain (OpenSpec.ofChange octWidenSpec)) octWidenCard

/-- THE TIED CARD OF 'rayconelaw2.OctReached'. -/
def octReachedCard : Claim7 := { stood := { row := octReachedRow, standIns := [], harness := (true, "4d83a4c3399050abb786c82e7f6f4497c2828ffe9e03d65b9a70c3c8a225b276"), looks := true }, kinds := [], alts := [], laidByText := true, laidKinds := [.sentinel, .sentinel, .sentinel], laidTests := true, laidLooks := .later }
def OctReachedCardSaid : Prop := Claim7.holds Tryd.pinned (.plain (OpenSpec.ofChange octReachedSpec)) octReachedCard

/-- THE TIED CARD OF 'rayconelaw2.OctSound'. -/
def octSoundCard : Claim7 := { stood := { row := octSoundRow, standIns := [], harness := (true, "4d83a4c3399050abb786c82e7f6f4497c2828ffe9e03d65b9a70c3c8a225b276"), looks := true }, kinds := [], alts := [], laidByText := true, laidKinds := [.sentinel, .sentinel, .sentinel, .sentinel], laidTests := true, laidLooks := .later }
def OctSoundCardSaid : Prop := Claim7.holds Tryd.pinned (.plain (OpenSpec.ofChange octSoundSpec)) octSoundCard

/-- THE TIED CARD OF 'rayconelaw2.OctStrong'. -/
def octStrongCard : Claim7 := { stood := { row := octStrongRow, standIns := [], harness := (true, "4d83a4c3399050abb786c82e7f6f4497c2828ffe9e03d65b9a70c3c8a225b276"), looks := true }, kinds := [], alts := [], laidByText := true, laidKinds := [.sentinel, .sentinel, .sentinel, .sentinel], laidTests := true, laidLooks := .later }
def OctStrongCardSaid : Prop := Claim7.holds Tryd.pinned (.plain (OpenSpec.ofChange octStrongSpec)) octStrongCard

/-- THE TIED CARD OF 'rayconelaw2.OctTurns'. -/
def octTurnsCard : Claim7 := { stood := { row := octTurnsRow, standIns := [], harness := (true, "4d83a4c3399050abb786c82e7f6f4497c2828ffe9e03d65b9a70c3c8a225b276"), looks := true }, kinds := [], alts := [], laidByText := true, laidKinds := [.sentinel, .sentinel, .sentinel], laidTests := true, laidLooks := .later }
def OctTurnsCardSaid : Prop := Claim7.holds Tryd.pinned (.plain (OpenSpec.ofChange octTurnsSpec)) octTurnsCard

/-- THE TIED CARD OF 'rayconelaw2.OctStays'. -/
def octStaysCard : Claim7 := { stood := { row := octStaysRow, standIns := [], harness := (true, "4d83a4c3399050abb786c82e7f6f4497c2828ffe9e03d65b9a70c3c8a225b276"), looks := true }, kinds := [], alts := [], laidByText := true, laidKinds := [.sentinel, .sentinel, .sentinel], laidTests := true, laidLooks := .later }
def OctStaysCardSaid : Prop := Claim7.holds Tryd.pinned (.plain (OpenSpec.ofChange octStaysSpec)) octStaysCard

/-- THE SECOND FORM's CARD OF 'rayconelaw2.OctClose'. -/
def octCloseUptoCard : Claim7 := { stood := { row := octCloseUptoRow, standIns := [], harness := (true, "4d83a4c3399050abb786c82e7f6f4497c2828ffe9e03d65b9a70c3c8a225b276"), looks := true }, kinds := [], alts := [], laidByText := true, laidKinds := [.handle, .sentinel, .sentinel, .sentinel, .sentinel, .sentinel, .sentinel, .sentinel, .sentinel], laidTests := true, laidLooks := .later }
def OctCloseUptoCardSaid : Prop := Claim7.holds Tryd.pinned (.plain (OpenSpec.upto octCloseSpec)) octCloseUptoCard

/-- THE SECOND FORM's CARD OF 'rayconelaw2.OctLattice'. -/
def octLatticeUptoCard : Claim7 := { stood := { row := octLatticeUptoRow, standIns := [], harness := (true, "4d83a4c3399050abb786c82e7f6f4497c2828ffe9e03d65b9a70c3c8a225b276"), looks := true }, kinds := [], alts := [], laidByText := true, laidKinds := [.handle, .sentinel, .sentinel, .sentinel, .sentinel, .sentinel, .sentinel, .sentinel, .sentinel], laidTests := true, laidLooks := .later }
def OctLatticeUptoCardSaid : Prop := Claim7.holds Tryd.pinned (.plain (OpenSpec.upto octLatticeSpec)) octLatticeUptoCard

/-- THE SECOND FORM's CARD OF 'rayconelaw2.OctChanges'. -/
def octChangesUptoCard : Claim7 := { stood := { row := octChangesUptoRow, standIns := [], harness := (true, "4d83a4c3399050abb786c82e7f6f4497c2828ffe9e03d65b9a70c3c8a225b276"), looks := true }, kinds := [], alts := [], laidByText := true, laidKinds := [.handle, .sentinel, .sentinel, .sentinel, .sentinel, .sentinel, .sentinel, .sentinel, .sentinel], laidTests := true, laidLooks := .later }
def OctChangesUptoCardSaid : Prop := Claim7.holds Tryd.pinned (.plain (OpenSpec.upto octChangesSpec)) octChangesUptoCard

/-- THE SECOND FORM's CARD OF 'rayconelaw2.OctGuard'. -/
def octGuardUptoCard : Claim7 := { stood := { row := octGuardUptoRow, standIns := [], harness := (true, "4d83a4c3399050abb786c82e7f6f4497c2828ffe9e03d65b9a70c3c8a225b276"), looks := true }, kinds := [], alts := [], laidByText := true, laidKinds := [.handle, .sentinel, .sentinel, .sentinel, .sentinel, .sentinel, .sentinel, .sentinel, .sentinel], laidTests := true, laidLooks := .later }
def OctGuardUptoCardSaid : Prop := Claim7.holds Tryd.pinned (.plain (OpenSpec.upto octGuardSpec)) octGuardUptoCard

/-- THE SECOND FORM's CARD OF 'rayconelaw2.OctWiden'. -/
def octWidenUptoCard : Claim7 := { stood := { row := octWidenUptoRow, standIns := [], harness := (true, "4d83a4c3399050abb786c82e7f6f4497c2828ffe9e03d65b9a70c3c8a225b276"), looks := true }, kinds := [], alts := [], laidByText := true, laidKinds := [.handle, .sentinel, .sentinel, .sentinel, .sentinel, .sentinel, .sentinel, .sentinel, .sentinel], laidTests := true, laidLooks := .later }
def OctWidenUptoCardSaid : Prop := Claim7.holds Tryd.pinned (.plain (OpenSpec.upto octWidenSpec)) octWidenUptoCard

/-- THE SECOND FORM's CARD OF 'rayconelaw2.OctReached'. -/
def octReachedUptoCard : Claim7 := { stood := { row := octReachedUptoRow, standIns := [], harness := (true, "4d83a4c3399050abb786c82e7f6f4497c2828ffe9e03d65b9a70c3c8a225b276"), looks := true }, kinds := [], alts := [], laidByText := true, laidKinds := [.sentinel, .sentinel, .sentinel], laidTests := true, laidLooks := .later }
def OctReachedUptoCardSaid : Prop := Claim7.holds Tryd.pinned (.plain (OpenSpec.upto octReachedSpec)) octReachedUptoCard

/-- THE SECOND FORM's CARD OF 'rayconelaw2.OctSound'. -/
def octSoundUptoCard : Claim7 := { stood := { row := octSoundUptoRow, standIns := [], harness := (true, "4d83a4c3399050abb786c82e7f6f4497c2828ffe9e03d65b9a70c3c8a225b276"), looks := true }, kinds := [], alts := [], laidByText := true, laidKinds := [.sentinel, .sentinel, .sentinel, .sentinel], laidTests := true, laidLooks := .later }
def OctSoundUptoCardSaid : Prop := Claim7.holds Tryd.pinned (.plain (OpenSpec.upto octSoundSpec)) octSoundUptoCard

/-- THE SECOND FORM's CARD OF 'rayconelaw2.OctStrong'. -/
def octStrongUptoCard : Claim7 := { stood := { row := octStrongUptoRow, standIns := [], harness := (true, "4d83a4c3399050abb786c82e7f6f4497c2828ffe9e03d65b9a70c3c8a225b276"), looks := true }, kinds := [], alts := [], laidByText := true, laidKinds := [.sentinel, .sentinel, .sentinel, .sentinel], laidTests := true, laidLooks := .later }
def OctStrongUptoCardSaid : Prop := Claim7.holds Tryd.pinned (.plain (OpenSpec.upto octStrongSpec)) octStrongUptoCard

/-- THE SECOND FORM's CARD OF 'rayconelaw2.OctTurns'. -/
def octTurnsUptoCard : Claim7 := { stood := { row := octTurnsUptoRow, standIns := [], harness := (true, "4d83a4c3399050abb786c82e7f6f4497c2828ffe9e03d65b9a70c3c8a225b276"), looks := true }, kinds := [], alts := [], laidByText := true, laidKinds := [.sentinel, .sentinel, .sentinel], laidTests := true, laidLooks := .later }
def OctTurnsUptoCardSaid : Prop := Claim7.holds Tryd.pinned (.plain (OpenSpec.upto octTurnsSpec)) octTurnsUptoCard

/-- THE SECOND FORM's CARD OF 'rayconelaw2.OctStays'. -/
def octStaysUptoCard : Claim7 := { stood := { row := octStaysUptoRow, standIns := [], harness := (true, "4d83a4c3399050abb786c82e7f6f4497c2828ffe9e03d65b9a70c3c8a225b276"), looks := true }, kinds := [], alts := [], laidByText := true, laidKinds := [.sentinel, .sentinel, .sentinel], laidTests := true, laidLooks := .later }
def OctStaysUptoCardSaid : Prop := Claim7.holds Tryd.pinned (.plain (OpenSpec.upto octStaysSpec)) octStaysUptoCard
end Rows
end Go.Proofs.YtofjjaabgfmnpaaDoor
