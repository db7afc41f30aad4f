/- Zones: the first error of two: the reference. -/
import Derived.Test.YtmdbgmkbkmckfaaDoorZn
import Derived.Test.YtmdbgmkbkmckfaaDoorKu
namespace Go.Proofs.YtmdbgmkbkmckfaaDoor
open Go.RowKit
set_option linter.unusedVariables false

def twoZ (N : Int) (l : List Ce) (M : Int) (m : List Ce) : Int := if zoErr N l = 0 then (if zoErr M m = 0 then (if N = M then 0 else 3) else zoErr M m) else zoErr N l
theorem twoZ_range (N : Int) (l : List Ce) (M : Int) (m : List Ce) : 0 ≤ twoZ N l M m ∧ twoZ N l M m ≤ 8 := by
  have h1 := zoErr_range N l
  have h2 := zoErr_range M m
  unfold twoZ
  split
  · split
    · split <;> omega
    · omega
  · omega

/-- Two slices of cells are kept. -/
def ZZ (x : Option Addr) (l : List Ce) (y : Option Addr) (m : List Ce) (W : World) : Prop := CsAt W x l ∧ CsAt W y m
theorem St.startZ {w : World} {x y : Option Addr} {l m : List Ce} (h : CsAt w x l) (k : CsAt w y m) : St w w (ZZ x l y m) [] :=
  ⟨Below.refl _ _, trivial, ⟨h, k⟩, fun _ _ q hb => ⟨h.stays q.1 hb, k.stays q.2 hb⟩⟩

end Go.Proofs.YtmdbgmkbkmckfaaDoor
