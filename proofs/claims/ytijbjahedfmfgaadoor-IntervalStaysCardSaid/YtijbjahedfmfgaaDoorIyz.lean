/- Intervals widened: the reference, at any two. -/
import Derived.Test.YtijbjahedfmfgaaDoorIy1
import Derived.Test.YtijbjahedfmfgaaDoorIy2
import Derived.Test.YtijbjahedfmfgaaDoorIy3
import Derived.Test.YtijbjahedfmfgaaDoorIy4
import Derived.Test.YtijbjahedfmfgaaDoorIy5
namespace Go.Proofs.YtijbjahedfmfgaaDoor
open Go.RowKit
set_option linter.unusedVariables false

theorem widened_any (d u d' u' : Bool) (lo hi lo' hi' : Int) (x : Option Addr) (n c : Nat) (l : List Int) (w : World) (hA : IntsAt w x l) (hl : Hid (n = l.length)) (hn : n ≤ 1000000) :
    Calls Tryd.prog 35 #[(.agg #[.bool d, .bool u, .int .i64 lo, .int .i64 hi]), (.agg #[.bool d', .bool u', .int .i64 lo', .int .i64 hi']), .slice x n c] w fun e w' => WidPost ⟨d, u, lo, hi⟩ ⟨d', u', lo', hi'⟩ l e ∧ Below w.heap.size w w' := by
  by_cases h1 : lo' < lo <;> by_cases h2 : hi < hi' <;> cases d <;> cases d' <;> cases u <;> cases u'
  all_goals first
    | exact widened_11 _ _ lo hi lo' hi' x n c l w hA hl hn
    | exact widened_12 _ lo hi lo' hi' x n c l w hA hl hn
    | exact widened_13 _ lo hi lo' hi' x n c l w hA hl hn h2
    | exact widened_14 _ lo hi lo' hi' x n c l w hA hl hn h2
    | exact widened_21 _ lo hi lo' hi' x n c l w hA hl hn
    | exact widened_22 lo hi lo' hi' x n c l w hA hl hn
    | exact widened_23 lo hi lo' hi' x n c l w hA hl hn h2
    | exact widened_24 lo hi lo' hi' x n c l w hA hl hn h2
    | exact widened_31 _ lo hi lo' hi' x n c l w hA hl hn h1
    | exact widened_32 lo hi lo' hi' x n c l w hA hl hn h1
    | exact widened_33 lo hi lo' hi' x n c l w hA hl hn h1 h2
    | exact widened_34 lo hi lo' hi' x n c l w hA hl hn h1 h2
    | exact widened_41 _ lo hi lo' hi' x n c l w hA hl hn h1
    | exact widened_42 lo hi lo' hi' x n c l w hA hl hn h1
    | exact widened_43 lo hi lo' hi' x n c l w hA hl hn h1 h2
    | exact widened_44 lo hi lo' hi' x n c l w hA hl hn h1 h2

end Go.Proofs.YtijbjahedfmfgaaDoor
