/-
  NARROWER THAN 'FOR EVERY INPUT', by the rows' own cells (each row's printed sentence says how): OctClose: laid · OctLattice: laid · OctChanges: laid · OctGuard: laid · OctWiden: laid · OctReached: laid · OctSound: laid · OctStrong: laid · OctTurns: laid · OctStays: laid.
  DERIVED. THE GIVEN ROWS OF THIS SEAT. 10 by the template 'for every input the law returns true; each argument reads behind the call as it read before'; 0 by the template 'total and deterministic' (their statements: YtofjjaabgfmnpaaDoorTotals.lean).
  GIVEN WITH THE SEED: the statements are not yours to turn. If you find one false, say at which input.
  Laid BY PROGRAM, IN A SANDBOX (cutbox-rows.mjs): the forced cells as the released guide's own fill.sh prints them over the translation 67249a057891841e… (all of the seat's roots in one cut). By AI agents, Wed Nov 11 2026. No macro, syntax, notation, axiom, sorry.
-/
import Derived.Test.YtofjjaabgfmnpaaDoorChecked
import GoSem.Claim
import GoSem.ClaimJoined
import GoSem.ClaimMapViews
import Derived.JoinedTies
import Derived.KernelRfl
namespace Go.Proofs.YtofjjaabgfmnpaaDoor
/- THE CELL 'sum', in the pinned program and in every row, IS THE sha256 OF THE DUMP (.gsa) THAT YtofjjaabgfmnpaaDoorProg.lean LOADS. Nothing in Lean hashes anything: it is a label: what it is worth is what the hold of that sum in a sandbox is worth. -/
noncomputable def Tryd.pinned : Pinned := { name := "ytofjjaabgfmnpaadoor", sum := "67249a057891841e8d18711d07e227c78fc3c481165436620fb94068128ec6da", checked := Tryd.checked }
namespace Rows
def none {H : Type} : Left H := { results := [], args := [] }

/- WHAT THE LISTED PACKAGE-LEVEL VARIABLES READ AS WHEN THE CALL BEGINS. Each datum BY PROGRAM (the guide's laid-datum.mjs) off the statement by which the dump's own 'gosem.cut.vars' lays the variable. In a bare row this is a premise. The card (YtofjjaabgfmnpaaDoorCards.lean) ties it to the program's text. -/
def laid_errors_errorType {H : Type} : DataW H := .iface "internal/reflectlite.rtype" (.agg [.ptr (.lit (.string [101, 114, 114, 111, 114]))])
def laid_raycone_api_ErrText {H : Type} : DataW H := .iface "*errors.errorString" (.ptr (.agg [.lit (.string [114, 97, 121, 99, 111, 110, 101, 58, 32, 116, 101, 120, 116])]))
def laid_raycone_api_ErrBound {H : Type} : DataW H := .iface "*errors.errorString" (.ptr (.agg [.lit (.string [114, 97, 121, 99, 111, 110, 101, 58, 32, 98, 111, 117, 110, 100])]))
def laid_raycone_api_ErrShape {H : Type} : DataW H := .iface "*errors.errorString" (.ptr (.agg [.lit (.string [114, 97, 121, 99, 111, 110, 101, 58, 32, 115, 104, 97, 112, 101])]))
def laid_raycone_api_ErrEmpty {H : Type} : DataW H := .iface "*errors.errorString" (.ptr (.agg [.lit (.string [114, 97, 121, 99, 111, 110, 101, 58, 32, 101, 109, 112, 116, 121])]))
def laid_raycone_api_ErrName {H : Type} : DataW H := .iface "*errors.errorString" (.ptr (.agg [.lit (.string [114, 97, 121, 99, 111, 110, 101, 58, 32, 110, 97, 109, 101])]))
def laid_raycone_api_ErrNone {H : Type} : DataW H := .iface "*errors.errorString" (.ptr (.agg [.lit (.string [114, 97, 121, 99, 111, 110, 101, 58, 32, 110, 111, 110, 101])]))
def laid_raycone_api_ErrOrder {H : Type} : DataW H := .iface "*errors.errorString" (.ptr (.agg [.lit (.string [114, 97, 121, 99, 111, 110, 101, 58, 32, 111, 114, 100, 101, 114])]))
def laid_raycone_api_ErrProof {H : Type} : DataW H := .iface "*errors.errorString" (.ptr (.agg [.lit (.string [114, 97, 121, 99, 111, 110, 101, 58, 32, 112, 114, 111, 111, 102])]))

/-- 'rayconelaw2.OctClose': WHATEVER THE INPUT: true; the input reads as it did. -/
def octCloseSpec : ChangeSpec := { name := "octClose", fn := fun _ => fun
  | [d1, d2] => { results := [.lit (.bool true)], args := [d1, d2] }
  | _ => none }
def octCloseRow : OpenClaim := { program := "ytofjjaabgfmnpaadoor", sum := "67249a057891841e8d18711d07e227c78fc3c481165436620fb94068128ec6da", func := "raycone/rayconelaw2.OctClose", spec := "octClose", inPlace := ["internal/reflectlite.ValueOf", "(internal/reflectlite.Value).Type", "(internal/reflectlite.Value).IsNil", "internal/reflectlite.TypeOf", "(internal/reflectlite.Value).Elem", "(internal/reflectlite.Value).Set"], unfollowed := true, recurses := true, named := ["raycone/api.ErrBound", "raycone/api.ErrShape", "raycone/api.ErrOrder", "raycone/api.ErrText", "raycone/api.ErrEmpty", "raycone/api.ErrName", "raycone/api.ErrNone", "raycone/api.ErrProof", "errors.errorType"], apart := false, laid := [("errors.errorType", laid_errors_errorType), ("raycone/api.ErrText", laid_raycone_api_ErrText), ("raycone/api.ErrBound", laid_raycone_api_ErrBound), ("raycone/api.ErrShape", laid_raycone_api_ErrShape), ("raycone/api.ErrEmpty", laid_raycone_api_ErrEmpty), ("raycone/api.ErrName", laid_raycone_api_ErrName), ("raycone/api.ErrNone", laid_raycone_api_ErrNone), ("raycone/api.ErrOrder", laid_raycone_api_ErrOrder), ("raycone/api.ErrProof", laid_raycone_api_ErrProof)] }
def OctCloseSaid : Prop := octCloseRow.holds Tryd.pinned (OpenSpec.ofChange octCloseSpec)

/-- ITS FALSE NEIGHBOUR: 'it returns false'. Refute it at one input. -/
def octCloseWrong : ChangeSpec := { name := "octClose", fn := fun _ => fun
  | [d1, d2] => { results := [.lit (.bool false)], args := [d1, d2] }
  | _ => none }
def OctCloseWrongFalsely : Prop := octCloseRow.holds Tryd.pinned (OpenSpec.ofChange octCloseWrong)

/-- 'rayconelaw2.OctLattice': WHATEVER THE INPUT: true; the input reads as it did. -/
def octLatticeSpec : ChangeSpec := { name := "octLattice", fn := fun _ => fun
  | [d1, d2] => { results := [.lit (.bool true)], args := [d1, d2] }
  | _ => none }
def octLatticeRow : OpenClaim := { program := "ytofjjaabgfmnpaadoor", sum := "67249a057891841e8d18711d07e227c78fc3c481165436620fb94068128ec6da", func := "raycone/rayconelaw2.OctLattice", spec := "octLattice", inPlace := ["internal/reflectlite.ValueOf", "(internal/reflectlite.Value).Type", "(internal/reflectlite.Value).IsNil", "internal/reflectlite.TypeOf", "(internal/reflectlite.Value).Elem", "(internal/reflectlite.Value).Set"], unfollowed := true, recurses := true, named := ["raycone/api.ErrBound", "raycone/api.ErrShape", "raycone/api.ErrOrder", "raycone/api.ErrEmpty", "raycone/api.ErrText", "raycone/api.ErrName", "raycone/api.ErrNone", "raycone/api.ErrProof", "errors.errorType"], apart := false, laid := [("errors.errorType", laid_errors_errorType), ("raycone/api.ErrText", laid_raycone_api_ErrText), ("raycone/api.ErrBound", laid_raycone_api_ErrBound), ("raycone/api.ErrShape", laid_raycone_api_ErrShape), ("raycone/api.ErrEmpty", laid_raycone_api_ErrEmpty), ("raycone/api.ErrName", laid_raycone_api_ErrName), ("raycone/api.ErrNone", laid_raycone_api_ErrNone), ("raycone/api.ErrOrder", laid_raycone_api_ErrOrder), ("raycone/api.ErrProof", laid_raycone_api_ErrProof)] }
def OctLatticeSaid : Prop := octLatticeRow.holds Tryd.pinned (OpenSpec.ofChange octLatticeSpec)

/-- ITS FALSE NEIGHBOUR: 'it returns false'. Refute it at one input. -/
def octLatticeWrong : ChangeSpec := { name := "octLattice", fn := fun _ => fun
  | [d1, d2] => { results := [.lit (.bool false)], args := [d1, d2] }
  | _ => none }
def OctLatticeWrongFalsely : Prop := octLatticeRow.holds Tryd.pinned (OpenSpec.ofChange octLatticeWrong)

/-- 'rayconelaw2.OctChanges': WHATEVER THE INPUT: true; the input reads as it did. -/
def octChangesSpec : ChangeSpec := { name := "octChanges", fn := fun _ => fun
  | [d1, d2, d3, d4, d5] => { results := [.lit (.bool true)], args := [d1, d2, d3, d4, d5] }
  | _ => none }
def octChangesRow : OpenClaim := { program := "ytofjjaabgfmnpaadoor", sum := "67249a057891841e8d18711d07e227c78fc3c481165436620fb94068128ec6da", func := "raycone/rayconelaw2.OctChanges", spec := "octChanges", inPlace := ["internal/reflectlite.ValueOf", "(internal/reflectlite.Value).Type", "(internal/reflectlite.Value).IsNil", "internal/reflectlite.TypeOf", "(internal/reflectlite.Value).Elem", "(internal/reflectlite.Value).Set"], unfollowed := true, recurses := true, named := ["raycone/api.ErrBound", "raycone/api.ErrShape", "raycone/api.ErrOrder", "raycone/api.ErrText", "raycone/api.ErrEmpty", "raycone/api.ErrName", "raycone/api.ErrNone", "raycone/api.ErrProof", "errors.errorType"], apart := false, laid := [("errors.errorType", laid_errors_errorType), ("raycone/api.ErrText", laid_raycone_api_ErrText), ("raycone/api.ErrBound", laid_raycone_api_ErrBound), ("raycone/api.ErrShape", laid_raycone_api_ErrShape), ("raycone/api.ErrEmpty", laid_raycone_api_ErrEmpty), ("raycone/api.ErrName", laid_raycone_api_ErrName), ("raycone/api.ErrNone", laid_raycone_api_ErrNone), ("raycone/api.ErrOrder", laid_raycone_api_ErrOrder), ("raycone/api.ErrProof", laid_raycone_api_ErrProof)] }
def OctChangesSaid : Prop := octChangesRow.holds Tryd.pinned (OpenSpec.ofChange octChangesSpec)

/-- ITS FALSE NEIGHBOUR: 'it returns false'. Refute it at one input. -/
def octChangesWrong : ChangeSpec := { name := "octChanges", fn := fun _ => fun
  | [d1, d2, d3, d4, d5] => { results := [.lit (.bool false)], args := [d1, d2, d3, d4, d5] }
  | _ => none }
def OctChangesWrongFalsely : Prop := octChangesRow.holds Tryd.pinned (OpenSpec.ofChange octChangesWrong)

/-- 'rayconelaw2.OctGuard': WHATEVER THE INPUT: true; the input reads as it did. -/
def octGuardSpec : ChangeSpec := { name := "octGuard", fn := fun _ => fun
  | [d1, d2, d3, d4, d5, d6] => { results := [.lit (.bool true)], args := [d1, d2, d3, d4, d5, d6] }
  | _ => none }
def octGuardRow : OpenClaim := { program := "ytofjjaabgfmnpaadoor", sum := "67249a057891841e8d18711d07e227c78fc3c481165436620fb94068128ec6da", func := "raycone/rayconelaw2.OctGuard", spec := "octGuard", inPlace := ["internal/reflectlite.ValueOf", "(internal/reflectlite.Value).Type", "(internal/reflectlite.Value).IsNil", "internal/reflectlite.TypeOf", "(internal/reflectlite.Value).Elem", "(internal/reflectlite.Value).Set"], unfollowed := true, recurses := true, named := ["raycone/api.ErrBound", "raycone/api.ErrShape", "raycone/api.ErrOrder", "raycone/api.ErrText", "raycone/api.ErrEmpty", "raycone/api.ErrName", "raycone/api.ErrNone", "raycone/api.ErrProof", "errors.errorType"], apart := false, laid := [("errors.errorType", laid_errors_errorType), ("raycone/api.ErrText", laid_raycone_api_ErrText), ("raycone/api.ErrBound", laid_raycone_api_ErrBound), ("raycone/api.ErrShape", laid_raycone_api_ErrShape), ("raycone/api.ErrEmpty", laid_raycone_api_ErrEmpty), ("raycone/api.ErrName", laid_raycone_api_ErrName), ("raycone/api.ErrNone", laid_raycone_api_ErrNone), ("raycone/api.ErrOrder", laid_raycone_api_ErrOrder), ("raycone/api.ErrProof", laid_raycone_api_ErrProof)] }
def OctGuardSaid : Prop := octGuardRow.holds Tryd.pinned (OpenSpec.ofChange octGuardSpec)

/-- ITS FALSE NEIGHBOUR: 'it returns false'. Refute it at one input. -/
def octGuardWrong : ChangeSpec := { name := "octGuard", fn := fun _ => fun
  | [d1, d2, d3, d4, d5, d6] => { results := [.lit (.bool false)], args := [d1, d2, d3, d4, d5, d6] }
  | _ => none }
def OctGuardWrongFalsely : Prop := octGuardRow.holds Tryd.pinned (OpenSpec.ofChange octGuardWrong)

/-- 'rayconelaw2.OctWiden': WHATEVER THE INPUT: true; the input reads as it did. -/
def octWidenSpec : ChangeSpec := { name := "octWiden", fn := fun _ => fun
  | [d1, d2, d3] => { results := [.lit (.bool true)], args := [d1, d2, d3] }
  | _ => none }
def octWidenRow : OpenClaim := { program := "ytofjjaabgfmnpaadoor", sum := "67249a057891841e8d18711d07e227c78fc3c481165436620fb94068128ec6da", func := "raycone/rayconelaw2.OctWiden", spec := "octWiden", inPlace := ["internal/reflectlite.ValueOf", "(internal/reflectlite.Value).Type", "(internal/reflectlite.Value).IsNil", "internal/reflectlite.TypeOf", "(internal/reflectlite.Value).Elem", "(internal/reflectlite.Value).Set"], unfollowed := true, recurses := true, named := ["raycone/api.ErrBound", "raycone/api.ErrShape", "raycone/api.ErrOrder", "raycone/api.ErrText", "raycone/api.ErrEmpty", "raycone/api.ErrName", "raycone/api.ErrNone", "raycone/api.ErrProof", "errors.errorType"], apart := false, laid := [("errors.errorType", laid_errors_errorType), ("raycone/api.ErrText", laid_raycone_api_ErrText), ("raycone/api.ErrBound", laid_raycone_api_ErrBound), ("raycone/api.ErrShape", laid_raycone_api_ErrShape), ("raycone/api.ErrEmpty", laid_raycone_api_ErrEmpty), ("raycone/api.ErrName", laid_raycone_api_ErrName), ("raycone/api.ErrNone", laid_raycone_api_ErrNone), ("raycone/api.ErrOrder", laid_raycone_api_ErrOrder), ("raycone/api.ErrProof", laid_raycone_api_ErrProof)] }
def OctWidenSaid : Prop := octWidenRow.holds Tryd.pinned (OpenSpec.ofChange octWidenSpec)

/-- ITS FALSE NEIGHBOUR: 'it returns false'. Refute it at one input. -/
def octWidenWrong : ChangeSpec := { name := "octWiden", fn := fun _ => fun
  | [d1, d2, d3] => { results := [.lit (.bool false)], args := [d1, d2, d3] }
  | _ => none }
def OctWidenWrongFalsely : Prop := octWidenRow.holds Tryd.pinned (OpenSpec.ofChange octWidenWrong)

/-- 'rayconelaw2.OctReached': WHATEVER THE INPUT: true; the input reads as it did. -/
def octReachedSpec : ChangeSpec := { name := "octReached", fn := fun _ => fun
  | [d1, d2, d3, d4, d5] => { results := [.lit (.bool true)], args := [d1, d2, d3, d4, d5] }
  | _ => none }
def octReachedRow : OpenClaim := { program := "ytofjjaabgfmnpaadoor", sum := "67249a057891841e8d18711d07e227c78fc3c481165436620fb94068128ec6da", func := "raycone/rayconelaw2.OctReached", spec := "octReached", unfollowed := true, recurses := true, named := ["raycone/api.ErrBound", "raycone/api.ErrShape", "raycone/api.ErrOrder"], apart := false, laid := [("raycone/api.ErrBound", laid_raycone_api_ErrBound), ("raycone/api.ErrShape", laid_raycone_api_ErrShape), ("raycone/api.ErrOrder", laid_raycone_api_ErrOrder)] }
def OctReachedSaid : Prop := octReachedRow.holds Tryd.pinned (OpenSpec.ofChange octReachedSpec)

/-- ITS FALSE NEIGHBOUR: 'it returns false'. Refute it at one input. -/
def octReachedWrong : ChangeSpec := { name := "octReached", fn := fun _ => fun
  | [d1, d2, d3, d4, d5] => { results := [.lit (.bool false)], args := [d1, d2, d3, d4, d5] }
  | _ => none }
def OctReachedWrongFalsely : Prop := octReachedRow.holds Tryd.pinned (OpenSpec.ofChange octReachedWrong)

/-- 'rayconelaw2.OctSound': WHATEVER THE INPUT: true; the input reads as it did. -/
def octSoundSpec : ChangeSpec := { name := "octSound", fn := fun _ => fun
  | [d1, d2, d3, d4, d5, d6, d7] => { results := [.lit (.bool true)], args := [d1, d2, d3, d4, d5, d6, d7] }
  | _ => none }
def octSoundRow : OpenClaim := { program := "ytofjjaabgfmnpaadoor", sum := "67249a057891841e8d18711d07e227c78fc3c481165436620fb94068128ec6da", func := "raycone/rayconelaw2.OctSound", spec := "octSound", unfollowed := true, recurses := true, named := ["raycone/api.ErrBound", "raycone/api.ErrShape", "raycone/api.ErrOrder", "raycone/api.ErrEmpty"], apart := false, laid := [("raycone/api.ErrBound", laid_raycone_api_ErrBound), ("raycone/api.ErrShape", laid_raycone_api_ErrShape), ("raycone/api.ErrEmpty", laid_raycone_api_ErrEmpty), ("raycone/api.ErrOrder", laid_raycone_api_ErrOrder)] }
def OctSoundSaid : Prop := octSoundRow.holds Tryd.pinned (OpenSpec.ofChange octSoundSpec)

/-- ITS FALSE NEIGHBOUR: 'it returns false'. Refute it at one input. -/
def octSoundWrong : ChangeSpec := { name := "octSound", fn := fun _ => fun
  | [d1, d2, d3, d4, d5, d6, d7] => { results := [.lit (.bool false)], args := [d1, d2, d3, d4, d5, d6, d7] }
  | _ => none }
def OctSoundWrongFalsely : Prop := octSoundRow.holds Tryd.pinned (OpenSpec.ofChange octSoundWrong)

/-- 'rayconelaw2.OctStrong': WHATEVER THE INPUT: true; the input reads as it did. -/
def octStrongSpec : ChangeSpec := { name := "octStrong", fn := fun _ => fun
  | [d] => { results := [.lit (.bool true)], args := [d] }
  | _ => none }
def octStrongRow : OpenClaim := { program := "ytofjjaabgfmnpaadoor", sum := "67249a057891841e8d18711d07e227c78fc3c481165436620fb94068128ec6da", func := "raycone/rayconelaw2.OctStrong", spec := "octStrong", unfollowed := true, recurses := true, named := ["raycone/api.ErrBound", "raycone/api.ErrShape", "raycone/api.ErrOrder", "raycone/api.ErrEmpty"], apart := false, laid := [("raycone/api.ErrBound", laid_raycone_api_ErrBound), ("raycone/api.ErrShape", laid_raycone_api_ErrShape), ("raycone/api.ErrEmpty", laid_raycone_api_ErrEmpty), ("raycone/api.ErrOrder", laid_raycone_api_ErrOrder)] }
def OctStrongSaid : Prop := octStrongRow.holds Tryd.pinned (OpenSpec.ofChange octStrongSpec)

/-- ITS FALSE NEIGHBOUR: 'it returns false'. Refute it at one input. -/
def octStrongWrong : ChangeSpec := { name := "octStrong", fn := fun _ => fun
  | [d] => { results := [.lit (.bool false)], args := [d] }
  | _ => none }
def OctStrongWrongFalsely : Prop := octStrongRow.holds Tryd.pinned (OpenSpec.ofChange octStrongWrong)

/-- 'rayconelaw2.OctTurns': WHATEVER THE INPUT: true; the input reads as it did. -/
def octTurnsSpec : ChangeSpec := { name := "octTurns", fn := fun _ => fun
  | [d1, d2, d3] => { results := [.lit (.bool true)], args := [d1, d2, d3] }
  | _ => none }
def octTurnsRow : OpenClaim := { program := "ytofjjaabgfmnpaadoor", sum := "67249a057891841e8d18711d07e227c78fc3c481165436620fb94068128ec6da", func := "raycone/rayconelaw2.OctTurns", spec := "octTurns", unfollowed := true, recurses := true, named := ["raycone/api.ErrBound", "raycone/api.ErrShape", "raycone/api.ErrOrder"], apart := false, laid := [("raycone/api.ErrBound", laid_raycone_api_ErrBound), ("raycone/api.ErrShape", laid_raycone_api_ErrShape), ("raycone/api.ErrOrder", laid_raycone_api_ErrOrder)] }
def OctTurnsSaid : Prop := octTurnsRow.holds Tryd.pinned (OpenSpec.ofChange octTurnsSpec)

/-- ITS FALSE NEIGHBOUR: 'it returns false'. Refute it at one input. -/
def octTurnsWrong : ChangeSpec := { name := "octTurns", fn := fun _ => fun
  | [d1, d2, d3] => { results := [.lit (.bool false)], args := [d1, d2, d3] }
  | _ => none }
def OctTurnsWrongFalsely : Prop := octTurnsRow.holds Tryd.pinned (OpenSpec.ofChange octTurnsWrong)

/-- 'rayconelaw2.OctStays': WHATEVER THE INPUT: true; the input reads as it did. -/
def octStaysSpec : ChangeSpec := { name := "octStays", fn := fun _ => fun
  | [d1, d2] => { results := [.lit (.bool true)], args := [d1, d2] }
  | _ => none }
def octStaysRow : OpenClaim := { program := "ytofjjaabgfmnpaadoor", sum := "67249a057891841e8d18711d07e227c78fc3c481165436620fb94068128ec6da", func := "raycone/rayconelaw2.OctStays", spec := "octStays", unfollowed := true, recurses := true, named := ["raycone/api.ErrBound", "raycone/api.ErrShape", "raycone/api.ErrOrder"], apart := false, laid := [("raycone/api.ErrBound", laid_raycone_api_ErrBound), ("raycone/api.ErrShape", laid_raycone_api_ErrShape), ("raycone/api.ErrOrder", laid_raycone_api_ErrOrder)] }
def OctStaysSaid : Prop := octStaysRow.holds Tryd.pinned (OpenSpec.ofChange octStaysSpec)

/-- ITS FALSE NEIGHBOUR: 'it returns false'. Refute it at one input. -/
def octStaysWrong : ChangeSpec := { name := "octStays", fn := fun _ => fun
  | [d1, d2] => { results := [.lit (.bool false)], args := [d1, d2] }
  | _ => none }
def OctStaysWrongFalsely : Prop := octStaysRow.holds Tryd.pinned (OpenSpec.ofChange octStaysWrong)

/- THE SECOND FORM. 'bulk': how many values and letters a reading holds, each counted each time it is reached (what is shared counts as often as it is met; a slice's spare places count too). A statement '..UptoSaid' is the law's where the arguments, and the package variables that the reading takes, are together of bulk at most 1048576: NARROWER than '..Said'. Prove '..Said' where nothing that the law and all that it calls make is longer than what came in: it says more and counts as full. Else prove '..UptoSaid'. A law counts once. -/
mutual
def uptoBulk {H : Type} : DataW H → Nat
  | .lit (.string bytes) => bytes.length + 1
  | .lit _ => 1
  | .nil => 1
  | .ptr d => uptoBulk d + 1
  | .slice elems spare => uptoBulkAll elems + uptoBulkAll spare + 1
  | .agg parts => uptoBulkAll parts + 1
  | .iface _ d => uptoBulk d + 1
  | .map entries => uptoBulkEntries entries + 1
  | .held _ => 1
def uptoBulkAll {H : Type} : List (DataW H) → Nat
  | [] => 0
  | d :: r => uptoBulk d + uptoBulkAll r
def uptoBulkEntries {H : Type} : List (Lit × DataW H) → Nat
  | [] => 0
  | x :: r => uptoBulkEntry x + uptoBulkEntries r
def uptoBulkEntry {H : Type} : Lit × DataW H → Nat
  | (.string bytes, d) => bytes.length + uptoBulk d + 1
  | (_, d) => uptoBulk d + 1
 end
def uptoSmall : (H : Type) → List (DataW H) → Bool := fun _ ds => decide (uptoBulkAll ds ≤ 1048576)
def OpenSpec.upto (s : _root_.Go.ChangeSpec) : _root_.Go.OpenSpec := { _root_.Go.OpenSpec.ofChange s with cond := some uptoSmall }

/-- 'rayconelaw2.OctClose', WHERE WHAT IT READS IS OF BULK AT MOST 1048576: true; the input reads as it did. -/
def octCloseUptoRow : OpenClaim := { program := "ytofjjaabgfmnpaadoor", sum := "67249a057891841e8d18711d07e227c78fc3c481165436620fb94068128ec6da", func := "raycone/rayconelaw2.OctClose", spec := "octClose", inPlace := ["internal/reflectlite.ValueOf", "(internal/reflectlite.Value).Type", "(internal/reflectlite.Value).IsNil", "internal/reflectlite.TypeOf", "(internal/reflectlite.Value).Elem", "(internal/reflectlite.Value).Set"], unfollowed := true, recurses := true, named := ["raycone/api.ErrBound", "raycone/api.ErrShape", "raycone/api.ErrOrder", "raycone/api.ErrText", "raycone/api.ErrEmpty", "raycone/api.ErrName", "raycone/api.ErrNone", "raycone/api.ErrProof", "errors.errorType"], apart := false, laid := [("errors.errorType", laid_errors_errorType), ("raycone/api.ErrText", laid_raycone_api_ErrText), ("raycone/api.ErrBound", laid_raycone_api_ErrBound), ("raycone/api.ErrShape", laid_raycone_api_ErrShape), ("raycone/api.ErrEmpty", laid_raycone_api_ErrEmpty), ("raycone/api.ErrName", laid_raycone_api_ErrName), ("raycone/api.ErrNone", laid_raycone_api_ErrNone), ("raycone/api.ErrOrder", laid_raycone_api_ErrOrder), ("raycone/api.ErrProof", laid_raycone_api_ErrProof)], narrowed := true }
def OctCloseUptoSaid : Prop := octCloseUptoRow.holds Tryd.pinned (OpenSpec.upto octCloseSpec)

/-- 'rayconelaw2.OctLattice', WHERE WHAT IT READS IS OF BULK AT MOST 1048576: true; the input reads as it did. -/
def octLatticeUptoRow : OpenClaim := { program := "ytofjjaabgfmnpaadoor", sum := "67249a057891841e8d18711d07e227c78fc3c481165436620fb94068128ec6da", func := "raycone/rayconelaw2.OctLattice", spec := "octLattice", inPlace := ["internal/reflectlite.ValueOf", "(internal/reflectlite.Value).Type", "(internal/reflectlite.Value).IsNil", "internal/reflectlite.TypeOf", "(internal/reflectlite.Value).Elem", "(internal/reflectlite.Value).Set"], unfollowed := true, recurses := true, named := ["raycone/api.ErrBound", "raycone/api.ErrShape", "raycone/api.ErrOrder", "raycone/api.ErrEmpty", "raycone/api.ErrText", "raycone/api.ErrName", "raycone/api.ErrNone", "raycone/api.ErrProof", "errors.errorType"], apart := false, laid := [("errors.errorType", laid_errors_errorType), ("raycone/api.ErrText", laid_raycone_api_ErrText), ("raycone/api.ErrBound", laid_raycone_api_ErrBound), ("raycone/api.ErrShape", laid_raycone_api_ErrShape), ("raycone/api.ErrEmpty", laid_raycone_api_ErrEmpty), ("raycone/api.ErrName", laid_raycone_api_ErrName), ("raycone/api.ErrNone", laid_raycone_api_ErrNone), ("raycone/api.ErrOrder", laid_raycone_api_ErrOrder), ("raycone/api.ErrProof", laid_raycone_api_ErrProof)], narrowed := true }
def OctLatticeUptoSaid : Prop := octLatticeUptoRow.holds Tryd.pinned (OpenSpec.upto octLatticeSpec)

/-- 'rayconelaw2.OctChanges', WHERE WHAT IT READS IS OF BULK AT MOST 1048576: true; the input reads as it did. -/
def octChangesUptoRow : OpenClaim := { program := "ytofjjaabgfmnpaadoor", sum := "67249a057891841e8d18711d07e227c78fc3c481165436620fb94068128ec6da", func := "raycone/rayconelaw2.OctChanges", spec := "octChanges", inPlace := ["internal/reflectlite.ValueOf", "(internal/reflectlite.Value).Type", "(internal/reflectlite.Value).IsNil", "internal/reflectlite.TypeOf", "(internal/reflectlite.Value).Elem", "(internal/reflectlite.Value).Set"], unfollowed := true, recurses := true, named := ["raycone/api.ErrBound", "raycone/api.ErrShape", "raycone/api.ErrOrder", "raycone/api.ErrText", "raycone/api.ErrEmpty", "raycone/api.ErrName", "raycone/api.ErrNone", "raycone/api.ErrProof", "errors.errorType"], apart := false, laid := [("errors.errorType", laid_errors_errorType), ("raycone/api.ErrText", laid_raycone_api_ErrText), ("raycone/api.ErrBound", laid_raycone_api_ErrBound), ("raycone/api.ErrShape", laid_raycone_api_ErrShape), ("raycone/api.ErrEmpty", laid_raycone_api_ErrEmpty), ("raycone/api.ErrName", laid_raycone_api_ErrName), ("raycone/api.ErrNone", laid_raycone_api_ErrNone), ("raycone/api.ErrOrder", laid_raycone_api_ErrOrder), ("raycone/api.ErrProof", laid_raycone_api_ErrProof)], narrowed := true }
def OctChangesUptoSaid : Prop := octChangesUptoRow.holds Tryd.pinned (OpenSpec.upto octChangesSpec)

/-- 'rayconelaw2.OctGuard', WHERE WHAT IT READS IS OF BULK AT MOST 1048576: true; the input reads as it did. -/
def octGuardUptoRow : OpenClaim := { program := "ytofjjaabgfmnpaadoor", sum := "67249a057891841e8d18711d07e227c78fc3c481165436620fb94068128ec6da", func := "raycone/rayconelaw2.OctGuard", spec := "octGuard", inPlace := ["internal/reflectlite.ValueOf", "(internal/reflectlite.Value).Type", "(internal/reflectlite.Value).IsNil", "internal/reflectlite.TypeOf", "(internal/reflectlite.Value).Elem", "(internal/reflectlite.Value).Set"], unfollowed := true, recurses := true, named := ["raycone/api.ErrBound", "raycone/api.ErrShape", "raycone/api.ErrOrder", "raycone/api.ErrText", "raycone/api.ErrEmpty", "raycone/api.ErrName", "raycone/api.ErrNone", "raycone/api.ErrProof", "errors.errorType"], apart := false, laid := [("errors.errorType", laid_errors_errorType), ("raycone/api.ErrText", laid_raycone_api_ErrText), ("raycone/api.ErrBound", laid_raycone_api_ErrBound), ("raycone/api.ErrShape", laid_raycone_api_ErrShape), ("raycone/api.ErrEmpty", laid_raycone_api_ErrEmpty), ("raycone/api.ErrName", laid_raycone_api_ErrName), ("raycone/api.ErrNone", laid_raycone_api_ErrNone), ("raycone/api.ErrOrder", laid_raycone_api_ErrOrder), ("raycone/api.ErrProof", laid_raycone_api_ErrProof)], narrowed := true }
def OctGuardUptoSaid : Prop := octGuardUptoRow.holds Tryd.pinned (OpenSpec.upto octGuardSpec)

/-- 'rayconelaw2.OctWiden', WHERE WHAT IT READS IS OF BULK AT MOST 1048576: true; the input reads as it did. -/
def octWidenUptoRow : OpenClaim := { program := "ytofjjaabgfmnpaadoor", sum := "67249a057891841e8d18711d07e227c78fc3c481165436620fb94068128ec6da", func := "raycone/rayconelaw2.OctWiden", spec := "octWiden", inPlace := ["internal/reflectlite.ValueOf", "(internal/reflectlite.Value).Type", "(internal/reflectlite.Value).IsNil", "internal/reflectlite.TypeOf", "(internal/reflectlite.Value).Elem", "(internal/reflectlite.Value).Set"], unfollowed := true, recurses := true, named := ["raycone/api.ErrBound", "raycone/api.ErrShape", "raycone/api.ErrOrder", "raycone/api.ErrText", "raycone/api.ErrEmpty", "raycone/api.ErrName", "raycone/api.ErrNone", "raycone/api.ErrProof", "errors.errorType"], apart := false, laid := [("errors.errorType", laid_errors_errorType), ("raycone/api.ErrText", laid_raycone_api_ErrText), ("raycone/api.ErrBound", laid_raycone_api_ErrBound), ("raycone/api.ErrShape", laid_raycone_api_ErrShape), ("raycone/api.ErrEmpty", laid_raycone_api_ErrEmpty), ("raycone/api.ErrName", laid_raycone_api_ErrName), ("raycone/api.ErrNone", laid_raycone_api_ErrNone), ("raycone/api.ErrOrder", laid_raycone_api_ErrOrder), ("raycone/api.ErrProof", laid_raycone_api_ErrProof)], narrowed := true }
def OctWidenUptoSaid : Prop := octWidenUptoRow.holds Tryd.pinned (OpenSpec.upto octWidenSpec)

/-- 'rayconelaw2.OctReached', WHERE WHAT IT READS IS OF BULK AT MOST 1048576: true; the input reads as it did. -/
def octReachedUptoRow : OpenClaim := { program := "ytofjjaabgfmnpaadoor", sum := "67249a057891841e8d18711d07e227c78fc3c481165436620fb94068128ec6da", func := "raycone/rayconelaw2.OctReached", spec := "octReached", unfollowed := true, recurses := true, named := ["raycone/api.ErrBound", "raycone/api.ErrShape", "raycone/api.ErrOrder"], apart := false, laid := [("raycone/api.ErrBound", laid_raycone_api_ErrBound), ("raycone/api.ErrShape", laid_raycone_api_ErrShape), ("raycone/api.ErrOrder", laid_raycone_api_ErrOrder)], narrowed := true }
def OctReachedUptoSaid : Prop := octReachedUptoRow.holds Tryd.pinned (OpenSpec.upto octReachedSpec)

/-- 'rayconelaw2.OctSound', WHERE WHAT IT READS IS OF BULK AT MOST 1048576: true; the input reads as it did. -/
def octSoundUptoRow : OpenClaim := { program := "ytofjjaabgfmnpaadoor", sum := "67249a057891841e8d18711d07e227c78fc3c481165436620fb94068128ec6da", func := "raycone/rayconelaw2.OctSound", spec := "octSound", unfollowed := true, recurses := true, named := ["raycone/api.ErrBound", "raycone/api.ErrShape", "raycone/api.ErrOrder", "raycone/api.ErrEmpty"], apart := false, laid := [("raycone/api.ErrBound", laid_raycone_api_ErrBound), ("raycone/api.ErrShape", laid_raycone_api_ErrShape), ("raycone/api.ErrEmpty", laid_raycone_api_ErrEmpty), ("raycone/api.ErrOrder", laid_raycone_api_ErrOrder)], narrowed := true }
def OctSoundUptoSaid : Prop := octSoundUptoRow.holds Tryd.pinned (OpenSpec.upto octSoundSpec)

/-- 'rayconelaw2.OctStrong', WHERE WHAT IT READS IS OF BULK AT MOST 1048576: true; the input reads as it did. -/
def octStrongUptoRow : OpenClaim := { program := "ytofjjaabgfmnpaadoor", sum := "67249a057891841e8d18711d07e227c78fc3c481165436620fb94068128ec6da", func := "raycone/rayconelaw2.OctStrong", spec := "octStrong", unfollowed := true, recurses := true, named := ["raycone/api.ErrBound", "raycone/api.ErrShape", "raycone/api.ErrOrder", "raycone/api.ErrEmpty"], apart := false, laid := [("raycone/api.ErrBound", laid_raycone_api_ErrBound), ("raycone/api.ErrShape", laid_raycone_api_ErrShape), ("raycone/api.ErrEmpty", laid_raycone_api_ErrEmpty), ("raycone/api.ErrOrder", laid_raycone_api_ErrOrder)], narrowed := true }
def OctStrongUptoSaid : Prop := octStrongUptoRow.holds Tryd.pinned (OpenSpec.upto octStrongSpec)

/-- 'rayconelaw2.OctTurns', WHERE WHAT IT READS IS OF BULK AT MOST 1048576: true; the input reads as it did. -/
def octTurnsUptoRow : OpenClaim := { program := "ytofjjaabgfmnpaadoor", sum := "67249a057891841e8d18711d07e227c78fc3c481165436620fb94068128ec6da", func := "raycone/rayconelaw2.OctTurns", spec := "octTurns", unfollowed := true, recurses := true, named := ["raycone/api.ErrBound", "raycone/api.ErrShape", "raycone/api.ErrOrder"], apart := false, laid := [("raycone/api.ErrBound", laid_raycone_api_ErrBound), ("raycone/api.ErrShape", laid_raycone_api_ErrShape), ("raycone/api.ErrOrder", laid_raycone_api_ErrOrder)], narrowed := true }
def OctTurnsUptoSaid : Prop := octTurnsUptoRow.holds Tryd.pinned (OpenSpec.upto octTurnsSpec)

/-- 'rayconelaw2.OctStays', WHERE WHAT IT READS IS OF BULK AT MOST 1048576: true; the input reads as it did. -/
def octStaysUptoRow : OpenClaim := { program := "ytofjjaabgfmnpaadoor", sum := "67249a057891841e8d18711d07e227c78fc3c481165436620fb94068128ec6da", func := "raycone/rayconelaw2.OctStays", spec := "octStays", unfollowed := true, recurses := true, named := ["raycone/api.ErrBound", "raycone/api.ErrShape", "raycone/api.ErrOrder"], apart := false, laid := [("raycone/api.ErrBound", laid_raycone_api_ErrBound), ("raycone/api.ErrShape", laid_raycone_api_ErrShape), ("raycone/api.ErrOrder", laid_raycone_api_ErrOrder)], narrowed := true }
def OctStaysUptoSaid : Prop := octStaysUptoRow.holds Tryd.pinned (OpenSpec.upto octStaysSpec)

end Rows
end Go.Proofs.YtofjjaabgfmnpaaDoor
