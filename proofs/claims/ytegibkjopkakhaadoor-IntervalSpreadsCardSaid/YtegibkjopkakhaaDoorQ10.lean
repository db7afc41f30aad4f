/- IntervalSpreads of the program. -/
import Derived.Test.YtegibkjopkakhaaDoorPl
import Derived.Test.YtegibkjopkakhaaDoorIg
namespace Go.Proofs.YtegibkjopkakhaaDoor
open Go.RowKit
set_option linter.unusedVariables false
theorem intervalSpreads_true (d0 u0 : Bool) (l0 h0 : Int) (d1 u1 : Bool) (l1 h1 : Int) (d2 u2 : Bool) (l2 h2 : Int) (a : Nat → Addr) (W : World) (hS : ErrS W a) (b0 : ((-9223372036854775808 ≤ l0 ∧ l0 ≤ 9223372036854775807) ∧ (-9223372036854775808 ≤ h0 ∧ h0 ≤ 9223372036854775807))) (b1 : ((-9223372036854775808 ≤ l1 ∧ l1 ≤ 9223372036854775807) ∧ (-9223372036854775808 ≤ h1 ∧ h1 ≤ 9223372036854775807))) (b2 : ((-9223372036854775808 ≤ l2 ∧ l2 ≤ 9223372036854775807) ∧ (-9223372036854775808 ≤ h2 ∧ h2 ≤ 9223372036854775807))) :
    Calls Tryd.prog 6 #[(.agg #[.bool d0, .bool u0, .int .i64 l0, .int .i64 h0]), (.agg #[.bool d1, .bool u1, .int .i64 l1, .int .i64 h1]), (.agg #[.bool d2, .bool u2, .int .i64 l2, .int .i64 h2])] W fun e w' => e = .returned (.bool true) ∧ Below W.heap.size W w' :=
  intervalSpreads_by a (three_is a) (join_is a) (within_is a) (add_is a) (sub_is a) (mul_is a) d0 u0 d1 u1 d2 u2 l0 h0 l1 h1 l2 h2 W hS

end Go.Proofs.YtegibkjopkakhaaDoor
