/- Zones: one bound more, told (zone.Guard). -/
import Derived.Test.YtofjjaabgfmnpaaDoorYj
import Derived.Test.YtofjjaabgfmnpaaDoorYh
import Derived.Test.YtofjjaabgfmnpaaDoorYk
namespace Go.Proofs.YtofjjaabgfmnpaaDoor
open Go.RowKit
set_option linter.unusedVariables false

theorem keepEC1 {w W : World} {a : Nat → Addr} {x : Option Addr} {l : List Ce} (L : List (Nat × Nat × Value)) (h : CellsAnd W L (St w W (EC a x l) L)) : ErrS W a := h.last.sent.1
theorem keepEC2 {w W : World} {a : Nat → Addr} {x : Option Addr} {l : List Ce} (L : List (Nat × Nat × Value)) (h : CellsAnd W L (St w W (EC a x l) L)) : CsAt W x l := h.last.sent.2

theorem firstE_0 {e : Int} {l : List Int} : firstE (e :: l) = 0 ↔ e = 0 ∧ firstE l = 0 := by
  by_cases h : e = 0
  · subst h; simp [firstE]
  · simp [firstE, h]

def guErr (N : Int) (l : List Ce) (i j c : Int) : Int := firstE [zErr N l, varErr N 0 i, varErr N 0 j, numErr c]
theorem varErr_0 {N first x : Int} (h : varErr N first x = 0) : first ≤ x ∧ x ≤ N := by
  unfold varErr at h
  by_cases k : x < first ∨ N < x
  · rw [if_pos k] at h; omega
  · omega
theorem numErr_0 {c : Int} (h : numErr c = 0) : c.natAbs ≤ 1099511627776 := by
  unfold numErr at h
  by_cases k : farB c 1099511627776 = true
  · rw [if_pos k] at h; omega
  · simp [farB] at k; omega

end Go.Proofs.YtofjjaabgfmnpaaDoor
