/- CongrTight of the program. -/
import Derived.Test.YtjimjbilmlnipaaDoorDh
import Derived.Test.YtjimjbilmlnipaaDoorDk
import Derived.Test.YtjimjbilmlnipaaDoorCs
namespace Go.Proofs.YtjimjbilmlnipaaDoor
open Go.RowKit
set_option linter.unusedVariables false
theorem congrTight_true (r0 m0 : Int) (d1 u1 : Bool) (l1 h1 : Int) (a : Nat → Addr) (W : World) (hS : Sents W a) (b0 : ((-9223372036854775808 ≤ r0 ∧ r0 ≤ 9223372036854775807) ∧ (-9223372036854775808 ≤ m0 ∧ m0 ≤ 9223372036854775807))) (b1 : ((-9223372036854775808 ≤ l1 ∧ l1 ≤ 9223372036854775807) ∧ (-9223372036854775808 ≤ h1 ∧ h1 ≤ 9223372036854775807))) :
    Calls Tryd.prog 7 #[(.agg #[.int .i64 r0, .int .i64 m0]), (.agg #[.bool d1, .bool u1, .int .i64 l1, .int .i64 h1])] W fun e w' => e = .returned (.bool true) ∧ Below W.heap.size W w' :=
  congrTight_by a (sixth_is a) (ctight_is a) r0 m0 d1 u1 l1 h1 W hS b0 b1

end Go.Proofs.YtjimjbilmlnipaaDoor
