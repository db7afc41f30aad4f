/- IntervalOf of the program. -/
import Derived.Test.YtijbjahedfmfgaaDoorPl
import Derived.Test.YtijbjahedfmfgaaDoorIe
namespace Go.Proofs.YtijbjahedfmfgaaDoor
open Go.RowKit
set_option linter.unusedVariables false
theorem intervalOf_true (d0 u0 : Bool) (l0 h0 : Int) (n : Int) (a : Nat → Addr) (W : World) (hS : Sents W a) (b0 : ((-9223372036854775808 ≤ l0 ∧ l0 ≤ 9223372036854775807) ∧ (-9223372036854775808 ≤ h0 ∧ h0 ≤ 9223372036854775807))) (b1 : (-9223372036854775808 ≤ n ∧ n ≤ 9223372036854775807)) :
    Calls Tryd.prog 3 #[(.agg #[.bool d0, .bool u0, .int .i64 l0, .int .i64 h0]), .int .i64 n] W fun e w' => e = .returned (.bool true) ∧ Below W.heap.size W w' :=
  intervalOf_by a (three_is a) (fun d u lo hi w h _ => valid_is a d u lo hi w h) (has_is a) d0 u0 l0 h0 n W hS b0 b1

end Go.Proofs.YtijbjahedfmfgaaDoor
