/-
  DERIVED. GIVEN WITH THE SEED: THE CARDS: each row of YtmdbgmkbkmckfaaDoorRows.lean that lists a variable, with what it lists TIED to the program's text (the seventh form; the later family's looks); each row that meets fmt, with fmt's text TOLD by the authors' own Lean function (tested against real Go, not proved from fmt's source: count such statements apart). THE CARD IS WHAT COUNTS. Prove the row's statement (the work); the ties are given (YtmdbgmkbkmckfaaDoorTie.lean); close each card by the builder's one call (the guide's Derived/Test/ToyasCard.lean, 'card_holds'). Laid BY PROGRAM, IN A SANDBOX (cutbox-door.mjs). By AI agents, Wed Nov 11 2026. No macro, syntax, notation, axiom, sorry.
-/
import Derived.Test.YtmdbgmkbkmckfaaDoorRows
import GoSem.ClaimSeven
namespace Go.Proofs.YtmdbgmkbkmckfaaDoor
namespace Rows

/-- THE TIED CARD OF 'rayconelaw2.ZoneClose'. -/
def zoneCloseCard : Claim7 := { stood := { row := zoneCloseRow, standIns := [], harness := (true, "d0729ba48d4057415892b3618cda5c49fa4ab5dcbec2e264e99163b064a75706"), looks := true }, kinds := [], alts := [], laidByText := true, laidKinds := [.handle, .sentinel, .sentinel, .sentinel, .sentinel, .sentinel, .sentinel, .sentinel, .sentinel], laidTests := true, laidLooks := .later }
def ZoneCloseCardSaid : Prop := Claim7.holds Tryd.pinned (.plain (OpenSpec.ofChange zoneCloseSpec)) zoneCloseCard

/-- THE TIED CARD OF 'rayconelaw2.ZoneTriangle'. -/
def zoneTriangleCard : Claim7 := { stood := { row := zoneTriangleRow, standIns := [], harness := (true, "d0729ba48d4057415892b3618cda5c49fa4ab5dcbec2e264e99163b064a75706"), looks := true }, kinds := [], alts := [], laidByText := true, laidKinds := [.sentinel, .sentinel, .sentinel], laidTests := true, laidLooks := .later }
def ZoneTriangleCardSaid : Prop := Claim7.holds Tryd.pinned (.plain (OpenSpec.ofChange zoneTriangleSpec)) zoneTriangleCard

/-- THE TIED CARD OF 'rayconelaw2.ZoneBox'. -/
def zoneBoxCard : Claim7 := { stood := { row := zoneBoxRow, standIns := [], harness := (true, "d0729ba48d4057415892b3618cda5c49fa4ab5dcbec2e264e99163b064a75706"), looks := true }, kinds := [], alts := [], laidByText := true, laidKinds := [.sentinel, .sentinel], laidTests := true, laidLooks := .later }
def ZoneBoxCardSaid : Prop := Claim7.holds Tryd.pinned (.plain (OpenSpec.ofChange zoneBoxSpec)) zoneBoxCard

/-- THE TIED CARD OF 'rayconelaw2.ZoneStays'. -/
def zoneStaysCard : Claim7 := { stood := { row := zoneStaysRow, standIns := [], harness := (true, "d0729ba48d4057415892b3618cda5c49fa4ab5dcbec2e264e99163b064a75706"), looks := true }, kinds := [], alts := [], laidByText := true, laidKinds := [.sentinel, .sentinel], laidTests := true, laidLooks := .later }
def ZoneStaysCardSaid : Prop := Claim7.holds Tryd.pinned (.plain (OpenSpec.ofChange zoneStaysSpec)) zoneStaysCard

/-- THE SECOND FORM's CARD OF 'rayconelaw2.ZoneClose'. -/
def zoneCloseUptoCard : Claim7 := { stood := { row := zoneCloseUptoRow, standIns := [], harness := (true, "d0729ba48d4057415892b3618cda5c49fa4ab5dcbec2e264e99163b064a75706"), looks := true }, kinds := [], alts := [], laidByText := true, laidKinds := [.handle, .sentinel, .sentinel, .sentinel, .sentinel, .sentinel, .sentinel, .sentinel, .sentinel], laidTests := true, laidLooks := .later }
def ZoneCloseUptoCardSaid : Prop := Claim7.holds Tryd.pinned (.plain (OpenSpec.upto zoneCloseSpec)) zoneCloseUptoCard

/-- THE SECOND FORM's CARD OF 'rayconelaw2.ZoneTriangle'. -/
def zoneTriangleUptoCard : Claim7 := { stood := { row := zoneTriangleUptoRow, standIns := [], harness := (true, "d0729ba48d4057415892b3618cda5c49fa4ab5dcbec2e264e99163b064a75706"), looks := true }, kinds := [], alts := [], laidByText := true, laidKinds := [.sentinel, .sentinel, .sentinel], laidTests := true, laidLooks := .later }
def ZoneTriangleUptoCardSaid : Prop := Claim7.holds Tryd.pinned (.plain (OpenSpec.upto zoneTriangleSpec)) zoneTriangleUptoCard

/-- THE SECOND FORM's CARD OF 'rayconelaw2.ZoneBox'. -/
def zoneBoxUptoCard : Claim7 := { stood := { row := zoneBoxUptoRow, standIns := [], harness := (true, "d0729ba48d4057415892b3618cda5c49fa4ab5dcbec2e264e99163b064a75706"), looks := true }, kinds := [], alts := [], laidByText := true, laidKinds := [.sentinel, .sentinel], laidTests := true, laidLooks := .later }
def ZoneBoxUptoCardSaid : Prop := Claim7.holds Tryd.pinned (.plain (OpenSpec.upto zoneBoxSpec)) zoneBoxUptoCard

/-- THE SECOND FORM's CARD OF 'rayconelaw2.ZoneStays'. -/
def zoneStaysUptoCard : Claim7 := { stood := { row := zoneStaysUptoRow, standIns := [], harness := (true, "d0729ba48d4057415892b3618cda5c49fa4ab5dcbec2e264e99163b064a75706"), looks := true }, kinds := [], alts := [], laidByText := true, laidKinds := [.sentinel, .sentinel], laidTests := true, laidLooks := .later }
def ZoneStaysUptoCardSaid : Prop := Claim7.holds Tryd.pinned (.plain (OpenSpec.upto zoneStaysSpec)) zoneStaysUptoCard
end Rows
end Go.Proofs.YtmdbgmkbkmckfaaDoor
