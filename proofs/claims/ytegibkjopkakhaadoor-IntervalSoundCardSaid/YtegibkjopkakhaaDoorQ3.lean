/- IntervalSound of the program. -/
import Derived.Test.YtegibkjopkakhaaDoorPl
import Derived.Test.YtegibkjopkakhaaDoorIf
namespace Go.Proofs.YtegibkjopkakhaaDoor
open Go.RowKit
set_option linter.unusedVariables false
theorem intervalSound_true (d0 u0 : Bool) (l0 h0 : Int) (d1 u1 : Bool) (l1 h1 : Int) (x y : Int) (a : Nat → Addr) (W : World) (hS : ErrS W a) (b0 : ((-9223372036854775808 ≤ l0 ∧ l0 ≤ 9223372036854775807) ∧ (-9223372036854775808 ≤ h0 ∧ h0 ≤ 9223372036854775807))) (b1 : ((-9223372036854775808 ≤ l1 ∧ l1 ≤ 9223372036854775807) ∧ (-9223372036854775808 ≤ h1 ∧ h1 ≤ 9223372036854775807))) (_ : (-9223372036854775808 ≤ x ∧ x ≤ 9223372036854775807)) (_ : (-9223372036854775808 ≤ y ∧ y ≤ 9223372036854775807)) :
    Calls Tryd.prog 4 #[(.agg #[.bool d0, .bool u0, .int .i64 l0, .int .i64 h0]), (.agg #[.bool d1, .bool u1, .int .i64 l1, .int .i64 h1]), .int .i64 x, .int .i64 y] W fun e w' => e = .returned (.bool true) ∧ Below W.heap.size W w' :=
  intervalSound_by a (three_is a) (has_is a) (add_is a) (sub_is a) (mul_is a) (div_is a) (rem_is a) d0 u0 d1 u1 l0 h0 l1 h1 x y W hS

end Go.Proofs.YtegibkjopkakhaaDoor
