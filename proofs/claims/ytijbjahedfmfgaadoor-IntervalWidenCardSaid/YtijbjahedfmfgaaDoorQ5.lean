/- IntervalWiden of the program. -/
import Derived.Test.YtijbjahedfmfgaaDoorPm
import Derived.Test.YtijbjahedfmfgaaDoorIn
namespace Go.Proofs.YtijbjahedfmfgaaDoor
open Go.RowKit
set_option linter.unusedVariables false
theorem intervalWiden_true (d0 u0 : Bool) (l0 h0 : Int) (d1 u1 : Bool) (l1 h1 : Int) (x2 : Option Addr) (c2 n2 : Nat) (s2 : List Int) (a : Nat → Addr) (W : World) (hS : Sents W a) (b0 : ((-9223372036854775808 ≤ l0 ∧ l0 ≤ 9223372036854775807) ∧ (-9223372036854775808 ≤ h0 ∧ h0 ≤ 9223372036854775807))) (b1 : ((-9223372036854775808 ≤ l1 ∧ l1 ≤ 9223372036854775807) ∧ (-9223372036854775808 ≤ h1 ∧ h1 ≤ 9223372036854775807))) (i2 : IntsAt W x2 s2) (hl2 : n2 = s2.length) (hn2 : n2 ≤ 9223372036854775807) (hr2 : ∀ s ∈ s2, (-9223372036854775808 ≤ s ∧ s ≤ 9223372036854775807)) :
    Calls Tryd.prog 7 #[(.agg #[.bool d0, .bool u0, .int .i64 l0, .int .i64 h0]), (.agg #[.bool d1, .bool u1, .int .i64 l1, .int .i64 h1]), .slice x2 n2 c2] W fun e w' => e = .returned (.bool true) ∧ Below W.heap.size W w' :=
  intervalWiden_by a (three_is a) (widen_is a) (narrow_is a) d0 u0 d1 u1 l0 h0 l1 h1 x2 n2 c2 s2 W hS b0 b1 i2 hl2 hr2

end Go.Proofs.YtijbjahedfmfgaaDoor
