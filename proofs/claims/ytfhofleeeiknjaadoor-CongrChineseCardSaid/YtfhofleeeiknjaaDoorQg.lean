/- CongrChinese of the program. -/
import Derived.Test.YtfhofleeeiknjaaDoorDh
import Derived.Test.YtfhofleeeiknjaaDoorCe
namespace Go.Proofs.YtfhofleeeiknjaaDoor
open Go.RowKit
set_option linter.unusedVariables false
theorem congrChinese_true (m : Int) (n : Int) (x : Int) (a : Nat → Addr) (W : World) (hS : ErrS W a) (b0 : (-9223372036854775808 ≤ m ∧ m ≤ 9223372036854775807)) (b1 : (-9223372036854775808 ≤ n ∧ n ≤ 9223372036854775807)) (b2 : (-9223372036854775808 ≤ x ∧ x ≤ 9223372036854775807)) :
    Calls Tryd.prog 4 #[.int .i64 m, .int .i64 n, .int .i64 x] W fun e w' => e = .returned (.bool true) ∧ Below W.heap.size W w' :=
  congrChinese_by a (sixth_is a) (cmeet_is a) (chas_is a) m n x W hS

end Go.Proofs.YtfhofleeeiknjaaDoor
