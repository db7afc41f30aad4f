/-
  NARROWER THAN 'FOR EVERY INPUT', by the rows' own cells (each row's printed sentence says how): ZoneClose: laid · ZoneLattice: laid · ZoneChanges: laid · ZoneWiden: laid · ZoneReached: laid · ZoneSound: laid · ZoneTriangle: laid · ZoneBox: laid · ZoneStays: laid.
  DERIVED. THE GIVEN ROWS OF THIS SEAT. 9 by the template 'for every input the law returns true; each argument reads behind the call as it read before'; 0 by the template 'total and deterministic' (their statements: YtkngedinomngbaaDoorTotals.lean).
  GIVEN WITH THE SEED: the statements are not yours to turn. If you find one false, say at which input.
  Laid BY PROGRAM, IN A SANDBOX (cutbox-rows.mjs): the forced cells as the released guide's own fill.sh prints them over the translation b02d22c8dc4e3a45… (all of the seat's roots in one cut). By AI agents, Wed Nov 11 2026. No macro, syntax, notation, axiom, sorry.
-/
import Derived.Test.YtkngedinomngbaaDoorChecked
import GoSem.Claim
import GoSem.ClaimJoined
import GoSem.ClaimMapViews
import Derived.JoinedTies
import Derived.KernelRfl
namespace Go.Proofs.YtkngedinomngbaaDoor
/- THE CELL 'sum', in the pinned program and in every row, IS THE sha256 OF THE DUMP (.gsa) THAT YtkngedinomngbaaDoorProg.lean LOADS. Nothing in Lean hashes anything: it is a label: what it is worth is what the hold of that sum in a sandbox is worth. -/
noncomputable def Tryd.pinned : Pinned := { name := "ytkngedinomngbaadoor", sum := "b02d22c8dc4e3a4528d3351a036cfd3f2d99c8c3c207f313388b468fd00bb6bd", checked := Tryd.checked }
namespace Rows
def none {H : Type} : Left H := { results := [], args := [] }

/- WHAT THE LISTED PACKAGE-LEVEL VARIABLES READ AS WHEN THE CALL BEGINS. Each datum BY PROGRAM (the guide's laid-datum.mjs) off the statement by which the dump's own 'gosem.cut.vars' lays the variable. In a bare row this is a premise. The card (YtkngedinomngbaaDoorCards.lean) ties it to the program's text. -/
def laid_errors_errorType {H : Type} : DataW H := .iface "internal/reflectlite.rtype" (.agg [.ptr (.lit (.string [101, 114, 114, 111, 114]))])
def laid_raycone_api_ErrText {H : Type} : DataW H := .iface "*errors.errorString" (.ptr (.agg [.lit (.string [114, 97, 121, 99, 111, 110, 101, 58, 32, 116, 101, 120, 116])]))
def laid_raycone_api_ErrBound {H : Type} : DataW H := .iface "*errors.errorString" (.ptr (.agg [.lit (.string [114, 97, 121, 99, 111, 110, 101, 58, 32, 98, 111, 117, 110, 100])]))
def laid_raycone_api_ErrShape {H : Type} : DataW H := .iface "*errors.errorString" (.ptr (.agg [.lit (.string [114, 97, 121, 99, 111, 110, 101, 58, 32, 115, 104, 97, 112, 101])]))
def laid_raycone_api_ErrEmpty {H : Type} : DataW H := .iface "*errors.errorString" (.ptr (.agg [.lit (.string [114, 97, 121, 99, 111, 110, 101, 58, 32, 101, 109, 112, 116, 121])]))
def laid_raycone_api_ErrName {H : Type} : DataW H := .iface "*errors.errorString" (.ptr (.agg [.lit (.string [114, 97, 121, 99, 111, 110, 101, 58, 32, 110, 97, 109, 101])]))
def laid_raycone_api_ErrNone {H : Type} : DataW H := .iface "*errors.errorString" (.ptr (.agg [.lit (.string [114, 97, 121, 99, 111, 110, 101, 58, 32, 110, 111, 110, 101])]))
def laid_raycone_api_ErrOrder {H : Type} : DataW H := .iface "*errors.errorString" (.ptr (.agg [.lit (.string [114, 97, 121, 99, 111, 110, 101, 58, 32, 111, 114, 100, 101, 114])]))
def laid_raycone_api_ErrProof {H : Type} : DataW H := .iface "*errors.errorString" (.ptr (.agg [.lit (.string [114, 97, 121, 99, 111, 110, 101, 58, 32, 112, 114, 111, 111, 102])]))

/-- 'rayconelaw2.ZoneClose': WHATEVER THE INPUT: true; the input reads as it did. -/
def zoneCloseSpec : ChangeSpec := { name := "zoneClose", fn := fun _ => fun
  | [d1, d2] => { results := [.lit (.bool true)], args := [d1, d2] }
  | _ => none }
def zoneCloseRow : OpenClaim := { program := "ytkngedinomngbaadoor", sum := "b02d22c8dc4e3a4528d3351a036cfd3f2d99c8c3c207f313388b468fd00bb6bd", func := "raycone/rayconelaw2.ZoneClose", spec := "zoneClose", inPlace := ["internal/reflectlite.ValueOf", "(internal/reflectlite.Value).Type", "(internal/reflectlite.Value).IsNil", "internal/reflectlite.TypeOf", "(internal/reflectlite.Value).Elem", "(internal/reflectlite.Value).Set"], unfollowed := true, recurses := true, named := ["raycone/api.ErrBound", "raycone/api.ErrShape", "raycone/api.ErrText", "raycone/api.ErrEmpty", "raycone/api.ErrName", "raycone/api.ErrNone", "raycone/api.ErrOrder", "raycone/api.ErrProof", "errors.errorType"], apart := false, laid := [("errors.errorType", laid_errors_errorType), ("raycone/api.ErrText", laid_raycone_api_ErrText), ("raycone/api.ErrBound", laid_raycone_api_ErrBound), ("raycone/api.ErrShape", laid_raycone_api_ErrShape), ("raycone/api.ErrEmpty", laid_raycone_api_ErrEmpty), ("raycone/api.ErrName", laid_raycone_api_ErrName), ("raycone/api.ErrNone", laid_raycone_api_ErrNone), ("raycone/api.ErrOrder", laid_raycone_api_ErrOrder), ("raycone/api.ErrProof", laid_raycone_api_ErrProof)] }
def ZoneCloseSaid : Prop := zoneCloseRow.holds Tryd.pinned (OpenSpec.ofChange zoneCloseSpec)

/-- ITS FALSE NEIGHBOUR: 'it returns false'. Refute it at one input. -/
def zoneCloseWrong : ChangeSpec := { name := "zoneClose", fn := fun _ => fun
  | [d1, d2] => { results := [.lit (.bool false)], args := [d1, d2] }
  | _ => none }
def ZoneCloseWrongFalsely : Prop := zoneCloseRow.holds Tryd.pinned (OpenSpec.ofChange zoneCloseWrong)

/-- 'rayconelaw2.ZoneLattice': WHATEVER THE INPUT: true; the input reads as it did. -/
def zoneLatticeSpec : ChangeSpec := { name := "zoneLattice", fn := fun _ => fun
  | [d1, d2] => { results := [.lit (.bool true)], args := [d1, d2] }
  | _ => none }
def zoneLatticeRow : OpenClaim := { program := "ytkngedinomngbaadoor", sum := "b02d22c8dc4e3a4528d3351a036cfd3f2d99c8c3c207f313388b468fd00bb6bd", func := "raycone/rayconelaw2.ZoneLattice", spec := "zoneLattice", inPlace := ["internal/reflectlite.ValueOf", "(internal/reflectlite.Value).Type", "(internal/reflectlite.Value).IsNil", "internal/reflectlite.TypeOf", "(internal/reflectlite.Value).Elem", "(internal/reflectlite.Value).Set"], unfollowed := true, recurses := true, named := ["raycone/api.ErrBound", "raycone/api.ErrShape", "raycone/api.ErrEmpty", "raycone/api.ErrText", "raycone/api.ErrName", "raycone/api.ErrNone", "raycone/api.ErrOrder", "raycone/api.ErrProof", "errors.errorType"], apart := false, laid := [("errors.errorType", laid_errors_errorType), ("raycone/api.ErrText", laid_raycone_api_ErrText), ("raycone/api.ErrBound", laid_raycone_api_ErrBound), ("raycone/api.ErrShape", laid_raycone_api_ErrShape), ("raycone/api.ErrEmpty", laid_raycone_api_ErrEmpty), ("raycone/api.ErrName", laid_raycone_api_ErrName), ("raycone/api.ErrNone", laid_raycone_api_ErrNone), ("raycone/api.ErrOrder", laid_raycone_api_ErrOrder), ("raycone/api.ErrProof", laid_raycone_api_ErrProof)] }
def ZoneLatticeSaid : Prop := zoneLatticeRow.holds Tryd.pinned (OpenSpec.ofChange zoneLatticeSpec)

/-- ITS FALSE NEIGHBOUR: 'it returns false'. Refute it at one input. -/
def zoneLatticeWrong : ChangeSpec := { name := "zoneLattice", fn := fun _ => fun
  | [d1, d2] => { results := [.lit (.bool false)], args := [d1, d2] }
  | _ => none }
def ZoneLatticeWrongFalsely : Prop := zoneLatticeRow.holds Tryd.pinned (OpenSpec.ofChange zoneLatticeWrong)

/-- 'rayconelaw2.ZoneChanges': WHATEVER THE INPUT: true; the input reads as it did. -/
def zoneChangesSpec : ChangeSpec := { name := "zoneChanges", fn := fun _ => fun
  | [d1, d2, d3, d4] => { results := [.lit (.bool true)], args := [d1, d2, d3, d4] }
  | _ => none }
def zoneChangesRow : OpenClaim := { program := "ytkngedinomngbaadoor", sum := "b02d22c8dc4e3a4528d3351a036cfd3f2d99c8c3c207f313388b468fd00bb6bd", func := "raycone/rayconelaw2.ZoneChanges", spec := "zoneChanges", inPlace := ["internal/reflectlite.ValueOf", "(internal/reflectlite.Value).Type", "(internal/reflectlite.Value).IsNil", "internal/reflectlite.TypeOf", "(internal/reflectlite.Value).Elem", "(internal/reflectlite.Value).Set"], unfollowed := true, recurses := true, named := ["raycone/api.ErrBound", "raycone/api.ErrShape", "raycone/api.ErrText", "raycone/api.ErrEmpty", "raycone/api.ErrName", "raycone/api.ErrNone", "raycone/api.ErrOrder", "raycone/api.ErrProof", "errors.errorType"], apart := false, laid := [("errors.errorType", laid_errors_errorType), ("raycone/api.ErrText", laid_raycone_api_ErrText), ("raycone/api.ErrBound", laid_raycone_api_ErrBound), ("raycone/api.ErrShape", laid_raycone_api_ErrShape), ("raycone/api.ErrEmpty", laid_raycone_api_ErrEmpty), ("raycone/api.ErrName", laid_raycone_api_ErrName), ("raycone/api.ErrNone", laid_raycone_api_ErrNone), ("raycone/api.ErrOrder", laid_raycone_api_ErrOrder), ("raycone/api.ErrProof", laid_raycone_api_ErrProof)] }
def ZoneChangesSaid : Prop := zoneChangesRow.holds Tryd.pinned (OpenSpec.ofChange zoneChangesSpec)

/-- ITS FALSE NEIGHBOUR: 'it returns false'. Refute it at one input. -/
def zoneChangesWrong : ChangeSpec := { name := "zoneChanges", fn := fun _ => fun
  | [d1, d2, d3, d4] => { results := [.lit (.bool false)], args := [d1, d2, d3, d4] }
  | _ => none }
def ZoneChangesWrongFalsely : Prop := zoneChangesRow.holds Tryd.pinned (OpenSpec.ofChange zoneChangesWrong)

/-- 'rayconelaw2.ZoneWiden': WHATEVER THE INPUT: true; the input reads as it did. -/
def zoneWidenSpec : ChangeSpec := { name := "zoneWiden", fn := fun _ => fun
  | [d1, d2, d3] => { results := [.lit (.bool true)], args := [d1, d2, d3] }
  | _ => none }
def zoneWidenRow : OpenClaim := { program := "ytkngedinomngbaadoor", sum := "b02d22c8dc4e3a4528d3351a036cfd3f2d99c8c3c207f313388b468fd00bb6bd", func := "raycone/rayconelaw2.ZoneWiden", spec := "zoneWiden", inPlace := ["internal/reflectlite.ValueOf", "(internal/reflectlite.Value).Type", "(internal/reflectlite.Value).IsNil", "internal/reflectlite.TypeOf", "(internal/reflectlite.Value).Elem", "(internal/reflectlite.Value).Set"], unfollowed := true, recurses := true, named := ["raycone/api.ErrBound", "raycone/api.ErrShape", "raycone/api.ErrText", "raycone/api.ErrEmpty", "raycone/api.ErrName", "raycone/api.ErrNone", "raycone/api.ErrOrder", "raycone/api.ErrProof", "errors.errorType"], apart := false, laid := [("errors.errorType", laid_errors_errorType), ("raycone/api.ErrText", laid_raycone_api_ErrText), ("raycone/api.ErrBound", laid_raycone_api_ErrBound), ("raycone/api.ErrShape", laid_raycone_api_ErrShape), ("raycone/api.ErrEmpty", laid_raycone_api_ErrEmpty), ("raycone/api.ErrName", laid_raycone_api_ErrName), ("raycone/api.ErrNone", laid_raycone_api_ErrNone), ("raycone/api.ErrOrder", laid_raycone_api_ErrOrder), ("raycone/api.ErrProof", laid_raycone_api_ErrProof)] }
def ZoneWidenSaid : Prop := zoneWidenRow.holds Tryd.pinned (OpenSpec.ofChange zoneWidenSpec)

/-- ITS FALSE NEIGHBOUR: 'it returns false'. Refute it at one input. -/
def zoneWidenWrong : ChangeSpec := { name := "zoneWiden", fn := fun _ => fun
  | [d1, d2, d3] => { results := [.lit (.bool false)], args := [d1, d2, d3] }
  | _ => none }
def ZoneWidenWrongFalsely : Prop := zoneWidenRow.holds Tryd.pinned (OpenSpec.ofChange zoneWidenWrong)

/-- 'rayconelaw2.ZoneReached': WHATEVER THE INPUT: true; the input reads as it did. -/
def zoneReachedSpec : ChangeSpec := { name := "zoneReached", fn := fun _ => fun
  | [d1, d2, d3] => { results := [.lit (.bool true)], args := [d1, d2, d3] }
  | _ => none }
def zoneReachedRow : OpenClaim := { program := "ytkngedinomngbaadoor", sum := "b02d22c8dc4e3a4528d3351a036cfd3f2d99c8c3c207f313388b468fd00bb6bd", func := "raycone/rayconelaw2.ZoneReached", spec := "zoneReached", unfollowed := true, recurses := true, named := ["raycone/api.ErrBound", "raycone/api.ErrShape"], apart := false, laid := [("raycone/api.ErrBound", laid_raycone_api_ErrBound), ("raycone/api.ErrShape", laid_raycone_api_ErrShape)] }
def ZoneReachedSaid : Prop := zoneReachedRow.holds Tryd.pinned (OpenSpec.ofChange zoneReachedSpec)

/-- ITS FALSE NEIGHBOUR: 'it returns false'. Refute it at one input. -/
def zoneReachedWrong : ChangeSpec := { name := "zoneReached", fn := fun _ => fun
  | [d1, d2, d3] => { results := [.lit (.bool false)], args := [d1, d2, d3] }
  | _ => none }
def ZoneReachedWrongFalsely : Prop := zoneReachedRow.holds Tryd.pinned (OpenSpec.ofChange zoneReachedWrong)

/-- 'rayconelaw2.ZoneSound': WHATEVER THE INPUT: true; the input reads as it did. -/
def zoneSoundSpec : ChangeSpec := { name := "zoneSound", fn := fun _ => fun
  | [d1, d2, d3, d4, d5, d6] => { results := [.lit (.bool true)], args := [d1, d2, d3, d4, d5, d6] }
  | _ => none }
def zoneSoundRow : OpenClaim := { program := "ytkngedinomngbaadoor", sum := "b02d22c8dc4e3a4528d3351a036cfd3f2d99c8c3c207f313388b468fd00bb6bd", func := "raycone/rayconelaw2.ZoneSound", spec := "zoneSound", unfollowed := true, recurses := true, named := ["raycone/api.ErrBound", "raycone/api.ErrShape", "raycone/api.ErrEmpty"], apart := false, laid := [("raycone/api.ErrBound", laid_raycone_api_ErrBound), ("raycone/api.ErrShape", laid_raycone_api_ErrShape), ("raycone/api.ErrEmpty", laid_raycone_api_ErrEmpty)] }
def ZoneSoundSaid : Prop := zoneSoundRow.holds Tryd.pinned (OpenSpec.ofChange zoneSoundSpec)

/-- ITS FALSE NEIGHBOUR: 'it returns false'. Refute it at one input. -/
def zoneSoundWrong : ChangeSpec := { name := "zoneSound", fn := fun _ => fun
  | [d1, d2, d3, d4, d5, d6] => { results := [.lit (.bool false)], args := [d1, d2, d3, d4, d5, d6] }
  | _ => none }
def ZoneSoundWrongFalsely : Prop := zoneSoundRow.holds Tryd.pinned (OpenSpec.ofChange zoneSoundWrong)

/-- 'rayconelaw2.ZoneTriangle': WHATEVER THE INPUT: true; the input reads as it did. -/
def zoneTriangleSpec : ChangeSpec := { name := "zoneTriangle", fn := fun _ => fun
  | [d] => { results := [.lit (.bool true)], args := [d] }
  | _ => none }
def zoneTriangleRow : OpenClaim := { program := "ytkngedinomngbaadoor", sum := "b02d22c8dc4e3a4528d3351a036cfd3f2d99c8c3c207f313388b468fd00bb6bd", func := "raycone/rayconelaw2.ZoneTriangle", spec := "zoneTriangle", unfollowed := true, recurses := true, named := ["raycone/api.ErrBound", "raycone/api.ErrShape", "raycone/api.ErrEmpty"], apart := false, laid := [("raycone/api.ErrBound", laid_raycone_api_ErrBound), ("raycone/api.ErrShape", laid_raycone_api_ErrShape), ("raycone/api.ErrEmpty", laid_raycone_api_ErrEmpty)] }
def ZoneTriangleSaid : Prop := zoneTriangleRow.holds Tryd.pinned (OpenSpec.ofChange zoneTriangleSpec)

/-- ITS FALSE NEIGHBOUR: 'it returns false'. Refute it at one input. -/
def zoneTriangleWrong : ChangeSpec := { name := "zoneTriangle", fn := fun _ => fun
  | [d] => { results := [.lit (.bool false)], args := [d] }
  | _ => none }
def ZoneTriangleWrongFalsely : Prop := zoneTriangleRow.holds Tryd.pinned (OpenSpec.ofChange zoneTriangleWrong)

/-- 'rayconelaw2.ZoneBox': WHATEVER THE INPUT: true; the input reads as it did. -/
def zoneBoxSpec : ChangeSpec := { name := "zoneBox", fn := fun _ => fun
  | [d1, d2] => { results := [.lit (.bool true)], args := [d1, d2] }
  | _ => none }
def zoneBoxRow : OpenClaim := { program := "ytkngedinomngbaadoor", sum := "b02d22c8dc4e3a4528d3351a036cfd3f2d99c8c3c207f313388b468fd00bb6bd", func := "raycone/rayconelaw2.ZoneBox", spec := "zoneBox", unfollowed := true, recurses := true, named := ["raycone/api.ErrBound", "raycone/api.ErrShape"], apart := false, laid := [("raycone/api.ErrBound", laid_raycone_api_ErrBound), ("raycone/api.ErrShape", laid_raycone_api_ErrShape)] }
def ZoneBoxSaid : Prop := zoneBoxRow.holds Tryd.pinned (OpenSpec.ofChange zoneBoxSpec)

/-- ITS FALSE NEIGHBOUR: 'it returns false'. Refute it at one input. -/
def zoneBoxWrong : ChangeSpec := { name := "zoneBox", fn := fun _ => fun
  | [d1, d2] => { results := [.lit (.bool false)], args := [d1, d2] }
  | _ => none }
def ZoneBoxWrongFalsely : Prop := zoneBoxRow.holds Tryd.pinned (OpenSpec.ofChange zoneBoxWrong)

/-- 'rayconelaw2.ZoneStays': WHATEVER THE INPUT: true; the input reads as it did. -/
def zoneStaysSpec : ChangeSpec := { name := "zoneStays", fn := fun _ => fun
  | [d1, d2] => { results := [.lit (.bool true)], args := [d1, d2] }
  | _ => none }
def zoneStaysRow : OpenClaim := { program := "ytkngedinomngbaadoor", sum := "b02d22c8dc4e3a4528d3351a036cfd3f2d99c8c3c207f313388b468fd00bb6bd", func := "raycone/rayconelaw2.ZoneStays", spec := "zoneStays", unfollowed := true, recurses := true, named := ["raycone/api.ErrBound", "raycone/api.ErrShape"], apart := false, laid := [("raycone/api.ErrBound", laid_raycone_api_ErrBound), ("raycone/api.ErrShape", laid_raycone_api_ErrShape)] }
def ZoneStaysSaid : Prop := zoneStaysRow.holds Tryd.pinned (OpenSpec.ofChange zoneStaysSpec)

/-- ITS FALSE NEIGHBOUR: 'it returns false'. Refute it at one input. -/
def zoneStaysWrong : ChangeSpec := { name := "zoneStays", fn := fun _ => fun
  | [d1, d2] => { results := [.lit (.bool false)], args := [d1, d2] }
  | _ => none }
def ZoneStaysWrongFalsely : Prop := zoneStaysRow.holds Tryd.pinned (OpenSpec.ofChange zoneStaysWrong)

/- THE SECOND FORM. 'bulk': how many values and letters a reading holds, each counted each time it is reached (what is shared counts as often as it is met; a slice's spare places count too). A statement '..UptoSaid' is the law's where the arguments, and the package variables that the reading takes, are together of bulk at most 1048576: NARROWER than '..Said'. Prove '..Said' where nothing that the law and all that it calls make is longer than what came in: it says more and counts as full. Else prove '..UptoSaid'. A law counts once. -/
mutual
def uptoBulk {H : Type} : DataW H → Nat
  | .lit (.string bytes) => bytes.length + 1
  | .lit _ => 1
  | .nil => 1
  | .ptr d => uptoBulk d + 1
  | .slice elems spare => uptoBulkAll elems + uptoBulkAll spare + 1
  | .agg parts => uptoBulkAll parts + 1
  | .iface _ d => uptoBulk d + 1
  | .map entries => uptoBulkEntries entries + 1
  | .held _ => 1
def uptoBulkAll {H : Type} : List (DataW H) → Nat
  | [] => 0
  | d :: r => uptoBulk d + uptoBulkAll r
def uptoBulkEntries {H : Type} : List (Lit × DataW H) → Nat
  | [] => 0
  | x :: r => uptoBulkEntry x + uptoBulkEntries r
def uptoBulkEntry {H : Type} : Lit × DataW H → Nat
  | (.string bytes, d) => bytes.length + uptoBulk d + 1
  | (_, d) => uptoBulk d + 1
 end
def uptoSmall : (H : Type) → List (DataW H) → Bool := fun _ ds => decide (uptoBulkAll ds ≤ 1048576)
def OpenSpec.upto (s : _root_.Go.ChangeSpec) : _root_.Go.OpenSpec := { _root_.Go.OpenSpec.ofChange s with cond := some uptoSmall }

/-- 'rayconelaw2.ZoneClose', WHERE WHAT IT READS IS OF BULK AT MOST 1048576: true; the input reads as it did. -/
def zoneCloseUptoRow : OpenClaim := { program := "ytkngedinomngbaadoor", sum := "b02d22c8dc4e3a4528d3351a036cfd3f2d99c8c3c207f313388b468fd00bb6bd", func := "raycone/rayconelaw2.ZoneClose", spec := "zoneClose", inPlace := ["internal/reflectlite.ValueOf", "(internal/reflectlite.Value).Type", "(internal/reflectlite.Value).IsNil", "internal/reflectlite.TypeOf", "(internal/reflectlite.Value).Elem", "(internal/reflectlite.Value).Set"], unfollowed := true, recurses := true, named := ["raycone/api.ErrBound", "raycone/api.ErrShape", "raycone/api.ErrText", "raycone/api.ErrEmpty", "raycone/api.ErrName", "raycone/api.ErrNone", "raycone/api.ErrOrder", "raycone/api.ErrProof", "errors.errorType"], apart := false, laid := [("errors.errorType", laid_errors_errorType), ("raycone/api.ErrText", laid_raycone_api_ErrText), ("raycone/api.ErrBound", laid_raycone_api_ErrBound), ("raycone/api.ErrShape", laid_raycone_api_ErrShape), ("raycone/api.ErrEmpty", laid_raycone_api_ErrEmpty), ("raycone/api.ErrName", laid_raycone_api_ErrName), ("raycone/api.ErrNone", laid_raycone_api_ErrNone), ("raycone/api.ErrOrder", laid_raycone_api_ErrOrder), ("raycone/api.ErrProof", laid_raycone_api_ErrProof)], narrowed := true }
def ZoneCloseUptoSaid : Prop := zoneCloseUptoRow.holds Tryd.pinned (OpenSpec.upto zoneCloseSpec)

/-- 'rayconelaw2.ZoneLattice', WHERE WHAT IT READS IS OF BULK AT MOST 1048576: true; the input reads as it did. -/
def zoneLatticeUptoRow : OpenClaim := { program := "ytkngedinomngbaadoor", sum := "b02d22c8dc4e3a4528d3351a036cfd3f2d99c8c3c207f313388b468fd00bb6bd", func := "raycone/rayconelaw2.ZoneLattice", spec := "zoneLattice", inPlace := ["internal/reflectlite.ValueOf", "(internal/reflectlite.Value).Type", "(internal/reflectlite.Value).IsNil", "internal/reflectlite.TypeOf", "(internal/reflectlite.Value).Elem", "(internal/reflectlite.Value).Set"], unfollowed := true, recurses := true, named := ["raycone/api.ErrBound", "raycone/api.ErrShape", "raycone/api.ErrEmpty", "raycone/api.ErrText", "raycone/api.ErrName", "raycone/api.ErrNone", "raycone/api.ErrOrder", "raycone/api.ErrProof", "errors.errorType"], apart := false, laid := [("errors.errorType", laid_errors_errorType), ("raycone/api.ErrText", laid_raycone_api_ErrText), ("raycone/api.ErrBound", laid_raycone_api_ErrBound), ("raycone/api.ErrShape", laid_raycone_api_ErrShape), ("raycone/api.ErrEmpty", laid_raycone_api_ErrEmpty), ("raycone/api.ErrName", laid_raycone_api_ErrName), ("raycone/api.ErrNone", laid_raycone_api_ErrNone), ("raycone/api.ErrOrder", laid_raycone_api_ErrOrder), ("raycone/api.ErrProof", laid_raycone_api_ErrProof)], narrowed := true }
def ZoneLatticeUptoSaid : Prop := zoneLatticeUptoRow.holds Tryd.pinned (OpenSpec.upto zoneLatticeSpec)

/-- 'rayconelaw2.ZoneChanges', WHERE WHAT IT READS IS OF BULK AT MOST 1048576: true; the input reads as it did. -/
def zoneChangesUptoRow : OpenClaim := { program := "ytkngedinomngbaadoor", sum := "b02d22c8dc4e3a4528d3351a036cfd3f2d99c8c3c207f313388b468fd00bb6bd", func := "raycone/rayconelaw2.ZoneChanges", spec := "zoneChanges", inPlace := ["internal/reflectlite.ValueOf", "(internal/reflectlite.Value).Type", "(internal/reflectlite.Value).IsNil", "internal/reflectlite.TypeOf", "(internal/reflectlite.Value).Elem", "(internal/reflectlite.Value).Set"], unfollowed := true, recurses := true, named := ["raycone/api.ErrBound", "raycone/api.ErrShape", "raycone/api.ErrText", "raycone/api.ErrEmpty", "raycone/api.ErrName", "raycone/api.ErrNone", "raycone/api.ErrOrder", "raycone/api.ErrProof", "errors.errorType"], apart := false, laid := [("errors.errorType", laid_errors_errorType), ("raycone/api.ErrText", laid_raycone_api_ErrText), ("raycone/api.ErrBound", laid_raycone_api_ErrBound), ("raycone/api.ErrShape", laid_raycone_api_ErrShape), ("raycone/api.ErrEmpty", laid_raycone_api_ErrEmpty), ("raycone/api.ErrName", laid_raycone_api_ErrName), ("raycone/api.ErrNone", laid_raycone_api_ErrNone), ("raycone/api.ErrOrder", laid_raycone_api_ErrOrder), ("raycone/api.ErrProof", laid_raycone_api_ErrProof)], narrowed := true }
def ZoneChangesUptoSaid : Prop := zoneChangesUptoRow.holds Tryd.pinned (OpenSpec.upto zoneChangesSpec)

/-- 'rayconelaw2.ZoneWiden', WHERE WHAT IT READS IS OF BULK AT MOST 1048576: true; the input reads as it did. -/
def zoneWidenUptoRow : OpenClaim := { program := "ytkngedinomngbaadoor", sum := "b02d22c8dc4e3a4528d3351a036cfd3f2d99c8c3c207f313388b468fd00bb6bd", func := "raycone/rayconelaw2.ZoneWiden", spec := "zoneWiden", inPlace := ["internal/reflectlite.ValueOf", "(internal/reflectlite.Value).Type", "(internal/reflectlite.Value).IsNil", "internal/reflectlite.TypeOf", "(internal/reflectlite.Value).Elem", "(internal/reflectlite.Value).Set"], unfollowed := true, recurses := true, named := ["raycone/api.ErrBound", "raycone/api.ErrShape", "raycone/api.ErrText", "raycone/api.ErrEmpty", "raycone/api.ErrName", "raycone/api.ErrNone", "raycone/api.ErrOrder", "raycone/api.ErrProof", "errors.errorType"], apart := false, laid := [("errors.errorType", laid_errors_errorType), ("raycone/api.ErrText", laid_raycone_api_ErrText), ("raycone/api.ErrBound", laid_raycone_api_ErrBound), ("raycone/api.ErrShape", laid_raycone_api_ErrShape), ("raycone/api.ErrEmpty", laid_raycone_api_ErrEmpty), ("raycone/api.ErrName", laid_raycone_api_ErrName), ("raycone/api.ErrNone", laid_raycone_api_ErrNone), ("raycone/api.ErrOrder", laid_raycone_api_ErrOrder), ("raycone/api.ErrProof", laid_raycone_api_ErrProof)], narrowed := true }
def ZoneWidenUptoSaid : Prop := zoneWidenUptoRow.holds Tryd.pinned (OpenSpec.upto zoneWidenSpec)

/-- 'rayconelaw2.ZoneReached', WHERE WHAT IT READS IS OF BULK AT MOST 1048576: true; the input reads as it did. -/
def zoneReachedUptoRow : OpenClaim := { program := "ytkngedinomngbaadoor", sum := "b02d22c8dc4e3a4528d3351a036cfd3f2d99c8c3c207f313388b468fd00bb6bd", func := "raycone/rayconelaw2.ZoneReached", spec := "zoneReached", unfollowed := true, recurses := true, named := ["raycone/api.ErrBound", "raycone/api.ErrShape"], apart := false, laid := [("raycone/api.ErrBound", laid_raycone_api_ErrBound), ("raycone/api.ErrShape", laid_raycone_api_ErrShape)], narrowed := true }
def ZoneReachedUptoSaid : Prop := zoneReachedUptoRow.holds Tryd.pinned (OpenSpec.upto zoneReachedSpec)

/-- 'rayconelaw2.ZoneSound', WHERE WHAT IT READS IS OF BULK AT MOST 1048576: true; the input reads as it did. -/
def zoneSoundUptoRow : OpenClaim := { program := "ytkngedinomngbaadoor", sum := "b02d22c8dc4e3a4528d3351a036cfd3f2d99c8c3c207f313388b468fd00bb6bd", func := "raycone/rayconelaw2.ZoneSound", spec := "zoneSound", unfollowed := true, recurses := true, named := ["raycone/api.ErrBound", "raycone/api.ErrShape", "raycone/api.ErrEmpty"], apart := false, laid := [("raycone/api.ErrBound", laid_raycone_api_ErrBound), ("raycone/api.ErrShape", laid_raycone_api_ErrShape), ("raycone/api.ErrEmpty", laid_raycone_api_ErrEmpty)], narrowed := true }
def ZoneSoundUptoSaid : Prop := zoneSoundUptoRow.holds Tryd.pinned (OpenSpec.upto zoneSoundSpec)

/-- 'rayconelaw2.ZoneTriangle', WHERE WHAT IT READS IS OF BULK AT MOST 1048576: true; the input reads as it did. -/
def zoneTriangleUptoRow : OpenClaim := { program := "ytkngedinomngbaadoor", sum := "b02d22c8dc4e3a4528d3351a036cfd3f2d99c8c3c207f313388b468fd00bb6bd", func := "raycone/rayconelaw2.ZoneTriangle", spec := "zoneTriangle", unfollowed := true, recurses := true, named := ["raycone/api.ErrBound", "raycone/api.ErrShape", "raycone/api.ErrEmpty"], apart := false, laid := [("raycone/api.ErrBound", laid_raycone_api_ErrBound), ("raycone/api.ErrShape", laid_raycone_api_ErrShape), ("raycone/api.ErrEmpty", laid_raycone_api_ErrEmpty)], narrowed := true }
def ZoneTriangleUptoSaid : Prop := zoneTriangleUptoRow.holds Tryd.pinned (OpenSpec.upto zoneTriangleSpec)

/-- 'rayconelaw2.ZoneBox', WHERE WHAT IT READS IS OF BULK AT MOST 1048576: true; the input reads as it did. -/
def zoneBoxUptoRow : OpenClaim := { program := "ytkngedinomngbaadoor", sum := "b02d22c8dc4e3a4528d3351a036cfd3f2d99c8c3c207f313388b468fd00bb6bd", func := "raycone/rayconelaw2.ZoneBox", spec := "zoneBox", unfollowed := true, recurses := true, named := ["raycone/api.ErrBound", "raycone/api.ErrShape"], apart := false, laid := [("raycone/api.ErrBound", laid_raycone_api_ErrBound), ("raycone/api.ErrShape", laid_raycone_api_ErrShape)], narrowed := true }
def ZoneBoxUptoSaid : Prop := zoneBoxUptoRow.holds Tryd.pinned (OpenSpec.upto zoneBoxSpec)

/-- 'rayconelaw2.ZoneStays', WHERE WHAT IT READS IS OF BULK AT MOST 1048576: true; the input reads as it did. -/
def zoneStaysUptoRow : OpenClaim := { program := "ytkngedinomngbaadoor", sum := "b02d22c8dc4e3a4528d3351a036cfd3f2d99c8c3c207f313388b468fd00bb6bd", func := "raycone/rayconelaw2.ZoneStays", spec := "zoneStays", unfollowed := true, recurses := true, named := ["raycone/api.ErrBound", "raycone/api.ErrShape"], apart := false, laid := [("raycone/api.ErrBound", laid_raycone_api_ErrBound), ("raycone/api.ErrShape", laid_raycone_api_ErrShape)], narrowed := true }
def ZoneStaysUptoSaid : Prop := zoneStaysUptoRow.holds Tryd.pinned (OpenSpec.upto zoneStaysSpec)

end Rows
end Go.Proofs.YtkngedinomngbaaDoor
