/- IntervalStays of the program. -/
import Derived.Test.YtijbjahedfmfgaaDoorPm
import Derived.Test.YtijbjahedfmfgaaDoorIp
namespace Go.Proofs.YtijbjahedfmfgaaDoor
open Go.RowKit
set_option linter.unusedVariables false
theorem intervalStays_true (d0 u0 : Bool) (l0 h0 : Int) (z1 : Option Addr) (k1 m1 : Nat) (M1 : List Iv) (x2 : Option Addr) (c2 n2 : Nat) (s2 : List Int) (a : Nat → Addr) (W : World) (hS : ErrS W a) (b0 : ((-9223372036854775808 ≤ l0 ∧ l0 ≤ 9223372036854775807) ∧ (-9223372036854775808 ≤ h0 ∧ h0 ≤ 9223372036854775807))) (i1 : IvsAt W z1 M1) (hl1 : m1 = M1.length) (hn1 : m1 ≤ 9223372036854775807) (hr1 : ∀ A ∈ M1, ((-9223372036854775808 ≤ A.lo ∧ A.lo ≤ 9223372036854775807) ∧ (-9223372036854775808 ≤ A.hi ∧ A.hi ≤ 9223372036854775807))) (i2 : IntsAt W x2 s2) (hl2 : n2 = s2.length) (hn2 : n2 ≤ 9223372036854775807) (hr2 : ∀ s ∈ s2, (-9223372036854775808 ≤ s ∧ s ≤ 9223372036854775807)) :
    Calls Tryd.prog 8 #[(.agg #[.bool d0, .bool u0, .int .i64 l0, .int .i64 h0]), .slice z1 m1 k1, .slice x2 n2 c2] W fun e w' => e = .returned (.bool true) ∧ Below W.heap.size W w' :=
  intervalStays_by a (three_is a) (join_is a) (widen_is a) (within_is a) d0 u0 l0 h0 z1 m1 k1 M1 x2 n2 c2 s2 W hS b0 i1 hl1 hr1 i2 hl2 hr2

end Go.Proofs.YtijbjahedfmfgaaDoor
