/- Zones: which are right, closed, and has it a point: the law's walk. -/
import Derived.Test.YtofjjaabgfmnpaaDoorYs
import Derived.Test.YtofjjaabgfmnpaaDoorZq
import Derived.Test.YtofjjaabgfmnpaaDoorYe
namespace Go.Proofs.YtofjjaabgfmnpaaDoor
open Go.RowKit
set_option linter.unusedVariables false

theorem coded_er (e : Int) (h1 : 0 ≤ e) (h2 : e ≤ 8) (a : Nat → Addr) (w : World) (hS : Sents w a) :
    Calls Tryd.prog 19 #[erV a e, .int .i64 e] w fun x w' => x = .returned (.bool true) ∧ Below w.heap.size w w' := by
  by_cases h : e = 0
  · subst h
    rw [erV_0]
    refine (coded_nil 0 w).mono ?_
    rintro x w' ⟨rfl, hb⟩
    exact ⟨by simp, hb⟩
  · rw [erV_ne h]
    refine (coded_sent (e.toNat - 1) (by omega) e a (a (e.toNat - 1)) rfl w hS).mono ?_
    rintro x w' ⟨rfl, hb⟩
    refine ⟨?_, hb⟩
    have : ((e.toNat - 1 : Nat) : Int) + 1 = e := by omega
    rw [decide_eq_true this]
/-- All errors, a slice of cells, numbers. -/
def SCI (a : Nat → Addr) (x : Option Addr) (l : List Ce) (y : Option Addr) (p : List Int) (W : World) : Prop := Sents W a ∧ CsAt W x l ∧ IntsAt W y p
theorem St.startSCI {w : World} {a : Nat → Addr} {x y : Option Addr} {l : List Ce} {p : List Int} (h : Sents w a) (k : CsAt w x l) (k' : IntsAt w y p) : St w w (SCI a x l y p) [] :=
  ⟨Below.refl _ _, trivial, ⟨h, k, k'⟩, fun _ _ q hb => ⟨h.stays q.1 hb, k.stays q.2.1 hb, k'.stays q.2.2 hb⟩⟩

theorem near_size' {l : List Ce} {B : Int} (h : nearL l B = true) : ∀ i, i < l.length → (l.getD i ceZ).m.natAbs ≤ B.natAbs := by
  intro i hi
  have e : l.getD i ceZ = l[i] := by simp [hi]
  rw [e]
  unfold nearL at h
  simp only [Bool.not_eq_true', List.any_eq_false] at h
  have := h l[i] (List.getElem_mem hi)
  simp [farC, farB] at this
  omega
end Go.Proofs.YtofjjaabgfmnpaaDoor
