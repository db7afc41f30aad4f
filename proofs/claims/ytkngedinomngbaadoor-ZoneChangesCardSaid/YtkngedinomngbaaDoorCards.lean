/-
  DERIVED. GIVEN WITH THE SEED: THE CARDS: each row of YtkngedinomngbaaDoorRows.lean that lists a variable, with what it lists TIED to the program's text (the seventh form; the later family's looks); each row that meets fmt, with fmt's text TOLD by the authors' own Lean function (tested against real Go, not proved from fmt's source: count such statements apart). THE CARD IS WHAT COUNTS. Prove the row's statement (the work); the ties are given (YtkngedinomngbaaDoorTie.lean); close each card by the builder's one call (the guide's Derived/Test/ToyasCard.lean, 'card_holds'). Laid BY PROGRAM, IN A SANDBOX (cutbox-door.mjs). By AI agents, Wed Nov 11 2026. No macro, syntax, notation, axiom, sorry.
-/
import Derived.Test.YtkngedinomngbaaDoorRows
import GoSem.ClaimSeven
namespace Go.Proofs.YtkngedinomngbaaDoor
namespace Rows

/-- THE TIED CARD OF 'rayconelaw2.ZoneClose'. -/
def zoneCloseCard : Claim7 := { stood := { row := zoneCloseRow, standIns := [], harness := (true, "85309b0a027cdf7bb8f4ad97bee0e48c9b93e4e6a4932c5346476f08ec915f23"), looks := true }, kinds := [], alts := [], laidByText := true, laidKinds := [.handle, .sentinel, .sentinel, .sentinel, .sentinel, .sentinel, .sentinel, .sentinel, .sentinel], laidTests := true, laidLooks := .later }
def ZoneCloseCardSaid : Prop := Claim7.holds Tryd.pinned (.plain (OpenSpec.ofChange zoneCloseSpec)) zoneCloseCard

/-- THE TIED CARD OF 'rayconelaw2.ZoneLattice'. -/
def zoneLatticeCard : Claim7 := { stood := { row := zoneLatticeRow, standIns := [], harness := (true, "85309b0a027cdf7bb8f4ad97bee0e48c9b93e4e6a4932c5346476f08ec915f23"), looks := true }, kinds := [], alts := [], laidByText := true, laidKinds := [.handle, .sentinel, .sentinel, .sentinel, .sentinel, .sentinel, .sentinel, .sentinel, .sentinel], laidTests := true, laidLooks := .later }
def ZoneLatticeCardSaid : Prop := Claim7.holds Tryd.pinned (.plain (OpenSpec.ofChange zoneLatticeSpec)) zoneLatticeCard

/-- THE TIED CARD OF 'rayconelaw2.ZoneChanges'. -/
def zoneChangesCard : Claim7 := { stood := { row := zoneChangesRow, standIns := [], harness := (true, "85309b0a027cdf7bb8f4ad97bee0e48c9b93e4e6a4932c5346476f08ec915f23"), looks := true }, kinds := [], alts := [], laidByText := true, laidKinds := [.handle, .sentinel, .sentinel, .sentinel, .sentinel, .sentinel, .sentinel, .sentinel, .sentinel], laidTests := true, laidLooks := .later }
def ZoneChangesCardSaid : Prop := Claim7.holds Tryd.pinned (.plain (OpenSpec.ofChange zoneChangesSpec)) zoneChangesCard

/-- THE TIED CARD OF 'rayconelaw2.ZoneWiden'. -/
def zoneWidenCard : Claim7 := { stood := { row := zoneWidenRow, standIns := [], harness := (true, "85309b0a027cdf7bb8f4ad97bee0e48c9b93e4e6a4932c5346476f08ec915f23"), looks := true }, kinds := [], alts := [], laidByText := true, laidKinds := [.handle, .sentinel, .sentinel, .sentinel, .sentinel, .sentinel, .sentinel, .sentinel, .sentinel], laidTests := true, laidLooks := .later }
def ZoneWidenCardSaid : Prop := Claim7.holds Tryd.pinned (.plain (OpenSpec.ofChange zoneWidenSpec)) zoneWidenCard

/-- THE TIED CARD OF 'rayconelaw2.ZoneReached'. -/
def zoneReachedCard : Claim7 := { stood := { row := zoneReachedRow, standIns := [], harness := (true, "85309b0a027cdf7bb8f4ad97bee0e48c9b93e4e6a4932c5346476f08ec915f23"), looks := true }, kinds := [], alts := [], laidByText := true, laidKinds := [.sentinel, .sentinel], laidTests := true, laidLooks := .later }
def ZoneReachedCardSaid : Prop := Claim7.holds Tryd.pinned (.plain (OpenSpec.ofChange zoneReachedSpec)) zoneReachedCard

/-- THE TIED CARD OF 'rayconelaw2.ZoneSound'. -/
def zoneSoundCard : Claim7 := { stood := { row := zoneSoundRow, standIns := [], harness := (true, "85309b0a027cdf7bb8f4ad97bee0e48c9b93e4e6a4932c5346476f08ec915f23"), looks := true }, kinds := [], alts := [], laidByText := true, laidKinds := [.sentinel, .sentinel, .sentinel], laidTests := true, laidLooks := .later }
def ZoneSoundCardSaid : Prop := Claim7.holds Tryd.pinned (.plain (OpenSpec.ofChange zoneSoundSpec)) zoneSoundCard

/-- THE TIED CARD OF 'rayconelaw2.ZoneTriangle'. -/
def zoneTriangleCard : Claim7 := { stood := { row := zoneTriangleRow, standIns := [], harness := (true, "85309b0a027cdf7bb8f4ad97bee0e48c9b93e4e6a4932c5346476f08ec915f23"), looks := true }, kinds := [], alts := [], laidByText := true, laidKinds := [.sentinel, .sentinel, .sentinel], laidTests := true, laidLooks := .later }
def ZoneTriangleCardSaid : Prop := Claim7.holds Tryd.pinned (.plain (OpenSpec.ofChange zoneTriangleSpec)) zoneTriangleCard

/-- THE TIED CARD OF 'rayconelaw2.ZoneBox'. -/
def zoneBoxCard : Claim7 := { stood := { row := zoneBoxRow, standIns := [], harness := (true, "85309b0a027cdf7bb8f4ad97bee0e48c9b93e4e6a4932c5346476f08ec915f23"), looks := true }, kinds := [], alts := [], laidByText := true, laidKinds := [.sentinel, .sentinel], laidTests := true, laidLooks := .later }
def ZoneBoxCardSaid : Prop := Claim7.holds Tryd.pinned (.plain (OpenSpec.ofChange zoneBoxSpec)) zoneBoxCard

/-- THE TIED CARD OF 'rayconelaw2.ZoneStays'. -/
def zoneStaysCard : Claim7 := { stood := { row := zoneStaysRow, standIns := [], harness := (true, "85309b0a027cdf7bb8f4ad97bee0e48c9b93e4e6a4932c5346476f08ec915f23"), looks := true }, kinds := [], alts := [], laidByText := true, laidKinds := [.sentinel, .sentinel], laidTests := true, laidLooks := .later }
def ZoneStaysCardSaid : Prop := Claim7.holds Tryd.pinned (.plain (OpenSpec.ofChange zoneStaysSpec)) zoneStaysCard

/-- THE SECOND FORM's CARD OF 'rayconelaw2.ZoneClose'. -/
def zoneCloseUptoCard : Claim7 := { stood := { row := zoneCloseUptoRow, standIns := [], harness := (true, "85309b0a027cdf7bb8f4ad97bee0e48c9b93e4e6a4932c5346476f08ec915f23"), looks := true }, kinds := [], alts := [], laidByText := true, laidKinds := [.handle, .sentinel, .sentinel, .sentinel, .sentinel, .sentinel, .sentinel, .sentinel, .sentinel], laidTests := true, laidLooks := .later }
def ZoneCloseUptoCardSaid : Prop := Claim7.holds Tryd.pinned (.plain (OpenSpec.upto zoneCloseSpec)) zoneCloseUptoCard

/-- THE SECOND FORM's CARD OF 'rayconelaw2.ZoneLattice'. -/
def zoneLatticeUptoCard : Claim7 := { stood := { row := zoneLatticeUptoRow, standIns := [], harness := (true, "85309b0a027cdf7bb8f4ad97bee0e48c9b93e4e6a4932c5346476f08ec915f23"), looks := true }, kinds := [], alts := [], laidByText := true, laidKinds := [.handle, .sentinel, .sentinel, .sentinel, .sentinel, .sentinel, .sentinel, .sentinel, .sentinel], laidTests := true, laidLooks := .later }
def ZoneLatticeUptoCardSaid : Prop := Claim7.holds Tryd.pinned (.plain (OpenSpec.upto zoneLatticeSpec)) zoneLatticeUptoCard

/-- THE SECOND FORM's CARD OF 'rayconelaw2.ZoneChanges'. -/
def zoneChangesUptoCard : Claim7 := { stood := { row := zoneChangesUptoRow, standIns := [], harness := (true, "85309b0a027cdf7bb8f4ad97bee0e48c9b93e4e6a4932c5346476f08ec915f23"), looks := true }, kinds := [], alts := [], laidByText := true, laidKinds := [.handle, .sentinel, .sentinel, .sentinel, .sentinel, .sentinel, .sentinel, .sentinel, .sentinel], laidTests := true, laidLooks := .later }
def ZoneChangesUptoCardSaid : Prop := Claim7.holds Tryd.pinned (.plain (OpenSpec.upto zoneChangesSpec)) zoneChangesUptoCard

/-- THE SECOND FORM's CARD OF 'rayconelaw2.ZoneWiden'. -/
def zoneWidenUptoCard : Claim7 := { stood := { row := zoneWidenUptoRow, standIns := [], harness := (true, "85309b0a027cdf7bb8f4ad97bee0e48c9b93e4e6a4932c5346476f08ec915f23"), looks := true }, kinds := [], alts := [], laidByText := true, laidKinds := [.handle, .sentinel, .sentinel, .sentinel, .sentinel, .sentinel, .sentinel, .sentinel, .sentinel], laidTests := true, laidLooks := .later }
def ZoneWidenUptoCardSaid : Prop := Claim7.holds Tryd.pinned (.plain (OpenSpec.upto zoneWidenSpec)) zoneWidenUptoCard

/-- THE SECOND FORM's CARD OF 'rayconelaw2.ZoneReached'. -/
def zoneReachedUptoCard : Claim7 := { stood := { row := zoneReachedUptoRow, standIns := [], harness := (true, "85309b0a027cdf7bb8f4ad97bee0e48c9b93e4e6a4932c5346476f08ec915f23"), looks := true }, kinds := [], alts := [], laidByText := true, laidKinds := [.sentinel, .sentinel], laidTests := true, laidLooks := .later }
def ZoneReachedUptoCardSaid : Prop := Claim7.holds Tryd.pinned (.plain (OpenSpec.upto zoneReachedSpec)) zoneReachedUptoCard

/-- THE SECOND FORM's CARD OF 'rayconelaw2.ZoneSound'. -/
def zoneSoundUptoCard : Claim7 := { stood := { row := zoneSoundUptoRow, standIns := [], harness := (true, "85309b0a027cdf7bb8f4ad97bee0e48c9b93e4e6a4932c5346476f08ec915f23"), looks := true }, kinds := [], alts := [], laidByText := true, laidKinds := [.sentinel, .sentinel, .sentinel], laidTests := true, laidLooks := .later }
def ZoneSoundUptoCardSaid : Prop := Claim7.holds Tryd.pinned (.plain (OpenSpec.upto zoneSoundSpec)) zoneSoundUptoCard

/-- THE SECOND FORM's CARD OF 'rayconelaw2.ZoneTriangle'. -/
def zoneTriangleUptoCard : Claim7 := { stood := { row := zoneTriangleUptoRow, standIns := [], harness := (true, "85309b0a027cdf7bb8f4ad97bee0e48c9b93e4e6a4932c5346476f08ec915f23"), looks := true }, kinds := [], alts := [], laidByText := true, laidKinds := [.sentinel, .sentinel, .sentinel], laidTests := true, laidLooks := .later }
def ZoneTriangleUptoCardSaid : Prop := Claim7.holds Tryd.pinned (.plain (OpenSpec.upto zoneTriangleSpec)) zoneTriangleUptoCard

/-- THE SECOND FORM's CARD OF 'rayconelaw2.ZoneBox'. -/
def zoneBoxUptoCard : Claim7 := { stood := { row := zoneBoxUptoRow, standIns := [], harness := (true, "85309b0a027cdf7bb8f4ad97bee0e48c9b93e4e6a4932c5346476f08ec915f23"), looks := true }, kinds := [], alts := [], laidByText := true, laidKinds := [.sentinel, .sentinel], laidTests := true, laidLooks := .later }
def ZoneBoxUptoCardSaid : Prop := Claim7.holds Tryd.pinned (.plain (OpenSpec.upto zoneBoxSpec)) zoneBoxUptoCard

/-- THE SECOND FORM's CARD OF 'rayconelaw2.ZoneStays'. -/
def zoneStaysUptoCard : Claim7 := { stood := { row := zoneStaysUptoRow, standIns := [], harness := (true, "85309b0a027cdf7bb8f4ad97bee0e48c9b93e4e6a4932c5346476f08ec915f23"), looks := true }, kinds := [], alts := [], laidByText := true, laidKinds := [.sentinel, .sentinel], laidTests := true, laidLooks := .later }
def ZoneStaysUptoCardSaid : Prop := Claim7.holds Tryd.pinned (.plain (OpenSpec.upto zoneStaysSpec)) zoneStaysUptoCard
end Rows
end Go.Proofs.YtkngedinomngbaaDoor
