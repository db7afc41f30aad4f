/- IntervalRefine of the program. -/
import Derived.Test.YtijbjahedfmfgabDoorPp
import Derived.Test.YtijbjahedfmfgabDoorJe
namespace Go.Proofs.YtijbjahedfmfgabDoor
open Go.RowKit
set_option linter.unusedVariables false
theorem intervalRefine_true (d0 u0 : Bool) (l0 h0 : Int) (d1 u1 : Bool) (l1 h1 : Int) (s : ByteArray) (a : Nat → Addr) (W : World) (hS : Sents W a) (b0 : ((-9223372036854775808 ≤ l0 ∧ l0 ≤ 9223372036854775807) ∧ (-9223372036854775808 ≤ h0 ∧ h0 ≤ 9223372036854775807))) (b1 : ((-9223372036854775808 ≤ l1 ∧ l1 ≤ 9223372036854775807) ∧ (-9223372036854775808 ≤ h1 ∧ h1 ≤ 9223372036854775807))) :
    Calls Tryd.prog 3 #[(.agg #[.bool d0, .bool u0, .int .i64 l0, .int .i64 h0]), (.agg #[.bool d1, .bool u1, .int .i64 l1, .int .i64 h1]), .string s] W fun e w' => e = .returned (.bool true) ∧ Below W.heap.size W w' :=
  intervalRefine_by a (three_is a) (refine_is a) d0 u0 d1 u1 l0 h0 l1 h1 s W hS b0 b1

end Go.Proofs.YtijbjahedfmfgabDoor
