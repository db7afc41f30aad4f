/-
  DERIVED. GIVEN WITH THE SEED: THE CARDS: each row of YtjimjbilmlnipaaDoorRows.lean that lists a variable, with what it lists TIED to the program's text (the seventh form; the later family's looks); each row that meets fmt, with fmt's text TOLD by the authors' own Lean function (tested against real Go, not proved from fmt's source: count such statements apart). THE CARD IS WHAT COUNTS. Prove the row's statement (the work); the ties are given (YtjimjbilmlnipaaDoorTie.lean); close each card by the builder's one call (the guide's Derived/Test/ToyasCard.lean, 'card_holds'). Laid BY PROGRAM, IN A SANDBOX (cutbox-door.mjs). By AI agents, Wed Nov 11 2026. No macro, syntax, notation, axiom, sorry.
-/
import Derived.Test.YtjimjbilmlnipaaDoorRows
import GoSem.ClaimSeven
namespace Go.Proofs.YtjimjbilmlnipaaDoor
namespace Rows

/-- THE TIED CARD OF 'rayconelaw2.CongrOf'. -/
def congrOfCard : Claim7 := { stood := { row := congrOfRow, standIns := [], harness := (true, "5704068933a73a057e1ddcc850e4d46e2f155f13c46d570f10deefa88284c59d"), looks := true }, kinds := [], alts := [], laidByText := true, laidKinds := [.handle, .sentinel, .sentinel, .sentinel, .sentinel, .sentinel, .sentinel, .sentinel, .sentinel], laidTests := true, laidLooks := .later }
def CongrOfCardSaid : Prop := Claim7.holds Tryd.pinned (.plain (OpenSpec.ofChange congrOfSpec)) congrOfCard

/-- THE TIED CARD OF 'rayconelaw2.CongrJoin'. -/
def congrJoinCard : Claim7 := { stood := { row := congrJoinRow, standIns := [], harness := (true, "5704068933a73a057e1ddcc850e4d46e2f155f13c46d570f10deefa88284c59d"), looks := true }, kinds := [], alts := [], laidByText := true, laidKinds := [.handle, .sentinel, .sentinel, .sentinel, .sentinel, .sentinel, .sentinel, .sentinel, .sentinel], laidTests := true, laidLooks := .later }
def CongrJoinCardSaid : Prop := Claim7.holds Tryd.pinned (.plain (OpenSpec.ofChange congrJoinSpec)) congrJoinCard

/-- THE TIED CARD OF 'rayconelaw2.CongrMeet'. -/
def congrMeetCard : Claim7 := { stood := { row := congrMeetRow, standIns := [], harness := (true, "5704068933a73a057e1ddcc850e4d46e2f155f13c46d570f10deefa88284c59d"), looks := true }, kinds := [], alts := [], laidByText := true, laidKinds := [.handle, .sentinel, .sentinel, .sentinel, .sentinel, .sentinel, .sentinel, .sentinel, .sentinel], laidTests := true, laidLooks := .later }
def CongrMeetCardSaid : Prop := Claim7.holds Tryd.pinned (.plain (OpenSpec.ofChange congrMeetSpec)) congrMeetCard

/-- THE TIED CARD OF 'rayconelaw2.CongrDone'. -/
def congrDoneCard : Claim7 := { stood := { row := congrDoneRow, standIns := [], harness := (true, "5704068933a73a057e1ddcc850e4d46e2f155f13c46d570f10deefa88284c59d"), looks := true }, kinds := [], alts := [], laidByText := true, laidKinds := [.handle, .sentinel, .sentinel, .sentinel, .sentinel, .sentinel, .sentinel, .sentinel, .sentinel], laidTests := true, laidLooks := .later }
def CongrDoneCardSaid : Prop := Claim7.holds Tryd.pinned (.plain (OpenSpec.ofChange congrDoneSpec)) congrDoneCard

/-- THE TIED CARD OF 'rayconelaw2.CongrTight'. -/
def congrTightCard : Claim7 := { stood := { row := congrTightRow, standIns := [], harness := (true, "5704068933a73a057e1ddcc850e4d46e2f155f13c46d570f10deefa88284c59d"), looks := true }, kinds := [], alts := [], laidByText := true, laidKinds := [.handle, .sentinel, .sentinel, .sentinel, .sentinel, .sentinel, .sentinel, .sentinel, .sentinel], laidTests := true, laidLooks := .later }
def CongrTightCardSaid : Prop := Claim7.holds Tryd.pinned (.plain (OpenSpec.ofChange congrTightSpec)) congrTightCard

/-- THE TIED CARD OF 'rayconelaw2.CongrLattice'. -/
def congrLatticeCard : Claim7 := { stood := { row := congrLatticeRow, standIns := [], harness := (true, "5704068933a73a057e1ddcc850e4d46e2f155f13c46d570f10deefa88284c59d"), looks := true }, kinds := [], alts := [], laidByText := true, laidKinds := [.sentinel, .sentinel], laidTests := true, laidLooks := .later }
def CongrLatticeCardSaid : Prop := Claim7.holds Tryd.pinned (.plain (OpenSpec.ofChange congrLatticeSpec)) congrLatticeCard

/-- THE SECOND FORM's CARD OF 'rayconelaw2.CongrOf'. -/
def congrOfUptoCard : Claim7 := { stood := { row := congrOfUptoRow, standIns := [], harness := (true, "5704068933a73a057e1ddcc850e4d46e2f155f13c46d570f10deefa88284c59d"), looks := true }, kinds := [], alts := [], laidByText := true, laidKinds := [.handle, .sentinel, .sentinel, .sentinel, .sentinel, .sentinel, .sentinel, .sentinel, .sentinel], laidTests := true, laidLooks := .later }
def CongrOfUptoCardSaid : Prop := Claim7.holds Tryd.pinned (.plain (OpenSpec.upto congrOfSpec)) congrOfUptoCard

/-- THE SECOND FORM's CARD OF 'rayconelaw2.CongrJoin'. -/
def congrJoinUptoCard : Claim7 := { stood := { row := congrJoinUptoRow, standIns := [], harness := (true, "5704068933a73a057e1ddcc850e4d46e2f155f13c46d570f10deefa88284c59d"), looks := true }, kinds := [], alts := [], laidByText := true, laidKinds := [.handle, .sentinel, .sentinel, .sentinel, .sentinel, .sentinel, .sentinel, .sentinel, .sentinel], laidTests := true, laidLooks := .later }
def CongrJoinUptoCardSaid : Prop := Claim7.holds Tryd.pinned (.plain (OpenSpec.upto congrJoinSpec)) congrJoinUptoCard

/-- THE SECOND FORM's CARD OF 'rayconelaw2.CongrMeet'. -/
def congrMeetUptoCard : Claim7 := { stood := { row := congrMeetUptoRow, standIns := [], harness := (true, "5704068933a73a057e1ddcc850e4d46e2f155f13c46d570f10deefa88284c59d"), looks := true }, kinds := [], alts := [], laidByText := true, laidKinds := [.handle, .sentinel, .sentinel, .sentinel, .sentinel, .sentinel, .sentinel, .sentinel, .sentinel], laidTests := true, laidLooks := .later }
def CongrMeetUptoCardSaid : Prop := Claim7.holds Tryd.pinned (.plain (OpenSpec.upto congrMeetSpec)) congrMeetUptoCard

/-- THE SECOND FORM's CARD OF 'rayconelaw2.CongrDone'. -/
def congrDoneUptoCard : Claim7 := { stood := { row := congrDoneUptoRow, standIns := [], harness := (true, "5704068933a73a057e1ddcc850e4d46e2f155f13c46d570f10deefa88284c59d"), looks := true }, kinds := [], alts := [], laidByText := true, laidKinds := [.handle, .sentinel, .sentinel, .sentinel, .sentinel, .sentinel, .sentinel, .sentinel, .sentinel], laidTests := true, laidLooks := .later }
def CongrDoneUptoCardSaid : Prop := Claim7.holds Tryd.pinned (.plain (OpenSpec.upto congrDoneSpec)) congrDoneUptoCard

/-- THE SECOND FORM's CARD OF 'rayconelaw2.CongrTight'. -/
def congrTightUptoCard : Claim7 := { stood := { row := congrTightUptoRow, standIns := [], harness := (true, "5704068933a73a057e1ddcc850e4d46e2f155f13c46d570f10deefa88284c59d"), looks := true }, kinds := [], alts := [], laidByText := true, laidKinds := [.handle, .sentinel, .sentinel, .sentinel, .sentinel, .sentinel, .sentinel, .sentinel, .sentinel], laidTests := true, laidLooks := .later }
def CongrTightUptoCardSaid : Prop := Claim7.holds Tryd.pinned (.plain (OpenSpec.upto congrTightSpec)) congrTightUptoCard

/-- THE SECOND FORM's CARD OF 'rayconelaw2.CongrLattice'. -/
def congrLatticeUptoCard : Claim7 := { stood := { row := congrLatticeUptoRow, standIns := [], harness := (true, "5704068933a73a057e1ddcc850e4d46e2f155f13c46d570f10deefa88284c59d"), looks := true }, kinds := [], alts := [], laidByText := true, laidKinds := [.sentinel, .sentinel], laidTests := true, laidLooks := .later }
def CongrLatticeUptoCardSaid : Prop := Claim7.holds Tryd.pinned (.plain (OpenSpec.upto congrLatticeSpec)) congrLatticeUptoCard
end Rows
end Go.Proofs.YtjimjbilmlnipaaDoor
