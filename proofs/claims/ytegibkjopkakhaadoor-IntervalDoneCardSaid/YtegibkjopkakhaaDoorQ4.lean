/- IntervalDone of the program. -/
import Derived.Test.YtegibkjopkakhaaDoorPl
import Derived.Test.YtegibkjopkakhaaDoorJb
namespace Go.Proofs.YtegibkjopkakhaaDoor
open Go.RowKit
set_option linter.unusedVariables false
theorem intervalDone_true (d0 u0 : Bool) (l0 h0 : Int) (d1 u1 : Bool) (l1 h1 : Int) (a : Nat → Addr) (W : World) (hS : Sents W a) (b0 : ((-9223372036854775808 ≤ l0 ∧ l0 ≤ 9223372036854775807) ∧ (-9223372036854775808 ≤ h0 ∧ h0 ≤ 9223372036854775807))) (b1 : ((-9223372036854775808 ≤ l1 ∧ l1 ≤ 9223372036854775807) ∧ (-9223372036854775808 ≤ h1 ∧ h1 ≤ 9223372036854775807))) :
    Calls Tryd.prog 3 #[(.agg #[.bool d0, .bool u0, .int .i64 l0, .int .i64 h0]), (.agg #[.bool d1, .bool u1, .int .i64 l1, .int .i64 h1])] W fun e w' => e = .returned (.bool true) ∧ Below W.heap.size W w' :=
  intervalDone_by a (three_is a) (add_is a) (sub_is a) (mul_is a) (div_is a) (rem_is a) d0 u0 d1 u1 l0 h0 l1 h1 W hS b0 b1

end Go.Proofs.YtegibkjopkakhaaDoor
