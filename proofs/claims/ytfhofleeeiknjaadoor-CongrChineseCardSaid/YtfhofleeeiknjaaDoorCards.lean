/-
  DERIVED. GIVEN WITH THE SEED: THE CARDS: each row of YtfhofleeeiknjaaDoorRows.lean that lists a variable, with what it lists TIED to the program's text (the seventh form; the later family's looks); each row that meets fmt, with fmt's text TOLD by the authors' own Lean function (tested against real Go, not proved from fmt's source: count such statements apart). THE CARD IS WHAT COUNTS. Prove the row's statement (the work); the ties are given (YtfhofleeeiknjaaDoorTie.lean); close each card by the builder's one call (the guide's Derived/Test/ToyasCard.lean, 'card_holds'). Laid BY PROGRAM, IN A SANDBOX (cutbox-door.mjs). By AI agents, Wed Nov 11 2026. No macro, syntax, notation, axiom, sorry.
-/
import Derived.Test.YtfhofleeeiknjaaDoorRows
import GoSem.ClaimSeven
namespace Go.Proofs.YtfhofleeeiknjaaDoor
namespace Rows

/-- THE TIED CARD OF 'rayconelaw2.CongrTight'. -/
def congrTightCard : Claim7 := { stood := { row := congrTightRow, standIns := [], harness := (true, "f5643b37817fd28ab24cec642a554dc15d1d945dcc9de57888a2c273a560ada1"), looks := true }, kinds := [], alts := [], laidByText := true, laidKinds := [.handle, .sentinel, .sentinel, .sentinel, .sentinel, .sentinel, .sentinel, .sentinel, .sentinel], laidTests := true, laidLooks := .later }
def CongrTightCardSaid : Prop := Claim7.holds Tryd.pinned (.plain (OpenSpec.ofChange congrTightSpec)) congrTightCard

/-- THE TIED CARD OF 'rayconelaw2.CongrChinese'. -/
def congrChineseCard : Claim7 := { stood := { row := congrChineseRow, standIns := [], harness := (true, "f5643b37817fd28ab24cec642a554dc15d1d945dcc9de57888a2c273a560ada1"), looks := true }, kinds := [], alts := [], laidByText := true, laidKinds := [.sentinel, .sentinel], laidTests := true, laidLooks := .later }
def CongrChineseCardSaid : Prop := Claim7.holds Tryd.pinned (.plain (OpenSpec.ofChange congrChineseSpec)) congrChineseCard

/-- THE SECOND FORM's CARD OF 'rayconelaw2.CongrTight'. -/
def congrTightUptoCard : Claim7 := { stood := { row := congrTightUptoRow, standIns := [], harness := (true, "f5643b37817fd28ab24cec642a554dc15d1d945dcc9de57888a2c273a560ada1"), looks := true }, kinds := [], alts := [], laidByText := true, laidKinds := [.handle, .sentinel, .sentinel, .sentinel, .sentinel, .sentinel, .sentinel, .sentinel, .sentinel], laidTests := true, laidLooks := .later }
def CongrTightUptoCardSaid : Prop := Claim7.holds Tryd.pinned (.plain (OpenSpec.upto congrTightSpec)) congrTightUptoCard

/-- THE SECOND FORM's CARD OF 'rayconelaw2.CongrChinese'. -/
def congrChineseUptoCard : Claim7 := { stood := { row := congrChineseUptoRow, standIns := [], harness := (true, "f5643b37817fd28ab24cec642a554dc15d1d945dcc9de57888a2c273a560ada1"), looks := true }, kinds := [], alts := [], laidByText := true, laidKinds := [.sentinel, .sentinel], laidTests := true, laidLooks := .later }
def CongrChineseUptoCardSaid : Prop := Claim7.holds Tryd.pinned (.plain (OpenSpec.upto congrChineseSpec)) congrChineseUptoCard
end Rows
end Go.Proofs.YtfhofleeeiknjaaDoor
