/- CongrLattice of the program. -/
import Derived.Test.YtjimjbilmlnipaaDoorDh
import Derived.Test.YtjimjbilmlnipaaDoorCk
namespace Go.Proofs.YtjimjbilmlnipaaDoor
open Go.RowKit
set_option linter.unusedVariables false
theorem congrLattice_true (r0 m0 : Int) (r1 m1 : Int) (a : Nat → Addr) (W : World) (hS : ErrS W a) (b0 : ((-9223372036854775808 ≤ r0 ∧ r0 ≤ 9223372036854775807) ∧ (-9223372036854775808 ≤ m0 ∧ m0 ≤ 9223372036854775807))) (b1 : ((-9223372036854775808 ≤ r1 ∧ r1 ≤ 9223372036854775807) ∧ (-9223372036854775808 ≤ m1 ∧ m1 ≤ 9223372036854775807))) :
    Calls Tryd.prog 8 #[(.agg #[.int .i64 r0, .int .i64 m0]), (.agg #[.int .i64 r1, .int .i64 m1])] W fun e w' => e = .returned (.bool true) ∧ Below W.heap.size W w' :=
  congrLattice_by a (sixth_is a) (cjoin_is a) (cmeet_is a) (cwithin_is a) (cadd_is a) (cmul_is a) (csub_is a) (chas_is a) r0 m0 r1 m1 W hS b0 b1

end Go.Proofs.YtjimjbilmlnipaaDoor
