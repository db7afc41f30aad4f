/-
  DERIVED. GIVEN WITH THE SEED: THE CARDS: each row of YtbafkjhlogkllaaGreatDoorRows.lean that lists a variable, with what it lists TIED to the program's text (the seventh form; the later family's looks); each row that meets fmt, with fmt's text TOLD by the authors' own Lean function (tested against real Go, not proved from fmt's source: count such statements apart). THE CARD IS WHAT COUNTS. Prove the row's statement (the work); the ties are given (YtbafkjhlogkllaaGreatDoorTie.lean); close each card by the builder's one call (the guide's Derived/Test/ToyasCard.lean, 'card_holds'). Laid BY PROGRAM, IN A SANDBOX (cutbox-door.mjs). By AI agents, Wed Nov 11 2026. No macro, syntax, notation, axiom, sorry.
-/
import Derived.Test.YtbafkjhlogkllaaGreatDoorRows
import GoSem.ClaimSeven
namespace Go.Proofs.YtbafkjhlogkllaaGreatDoor
namespace Rows

/-- THE TIED CARD OF 'rayconelaw2.OctZone'. -/
def octZoneCard : Claim7 := { stood := { row := octZoneRow, standIns := [], harness := (true, "be83daf2658eda7181c93a77fafacf939eae8f99f527388a69e90c8e413896e0"), looks := true }, kinds := [], alts := [], laidByText := true, laidKinds := [.handle, .sentinel, .sentinel, .sentinel, .sentinel, .sentinel, .sentinel, .sentinel, .sentinel], laidTests := true, laidLooks := .later }
def OctZoneCardSaid : Prop := Claim7.holds Tryz.pinned (.plain (OpenSpec.ofChange octZoneSpec)) octZoneCard

/-- THE SECOND FORM's CARD OF 'rayconelaw2.OctZone'. -/
def octZoneUptoCard : Claim7 := { stood := { row := octZoneUptoRow, standIns := [], harness := (true, "be83daf2658eda7181c93a77fafacf939eae8f99f527388a69e90c8e413896e0"), looks := true }, kinds := [], alts := [], laidByText := true, laidKinds := [.handle, .sentinel, .sentinel, .sentinel, .sentinel, .sentinel, .sentinel, .sentinel, .sentinel], laidTests := true, laidLooks := .later }
def OctZoneUptoCardSaid : Prop := Claim7.holds Tryz.pinned (.plain (OpenSpec.upto octZoneSpec)) octZoneUptoCard
end Rows
end Go.Proofs.YtbafkjhlogkllaaGreatDoor
