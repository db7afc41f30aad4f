/- Zones: has a right zone a point: the reference. -/
import Derived.Test.YtofjjaabgfmnpaaDoorYu
import Derived.Test.YtofjjaabgfmnpaaDoorZo
import Derived.Deep.Cut
import Derived.Deep.DeepCutAuto
namespace Go.Proofs.YtofjjaabgfmnpaaDoor
open Go.RowKit
set_option linter.unusedVariables false

/-- Cells and numbers kept. -/
def RP (b off : Nat) (l : List Ce) (x : Option Addr) (p : List Int) (W : World) : Prop := RowC W b off l ∧ IntsAt W x p
theorem St.startRP {w : World} {b off : Nat} {l : List Ce} {x : Option Addr} {p : List Int} (h : RowC w b off l) (k : IntsAt w x p) : St w w (RP b off l x p) [] :=
  ⟨Below.refl _ _, trivial, ⟨h, k⟩, fun _ _ q hb => ⟨RowC.stays h.lt q.1 hb, k.stays q.2 hb⟩⟩

theorem St.name' {w W : World} {Z : World → Prop} {L : List (Nat × Nat × Value)} (h : St w W Z L) : ∃ V, V = W ∧ St w V Z L := ⟨W, rfl, h⟩
theorem St.grownZ {w W W' : World} {Z : World → Prop} {L : List (Nat × Nat × Value)} {b : Nat} (h : St w W Z L) (hg : W.grownBy W' (some b)) (ap : Apart b L) (hb : w.heap.size ≤ b) : St w W' Z L := by
  have bel : Below w.heap.size W W' := (Below.refl _ _).grown hg h.bel.size (fun k e => by simp at e; omega)
  exact ⟨h.bel.trans bel, h.hold.grown hg ap, h.cl _ _ h.sent bel, h.cl⟩
theorem own_form {W : World} {base e m : Nat} {v : Value} {l : List Int} (h : W.ownsRow base e 1 v m (l.map (Value.int .i64))) (hm : 0 < m) : ∃ g cp, v = .slice (some ⟨g, 0, none⟩) m cp ∧ base ≤ g ∧ IntsAt W (some ⟨g, 0, none⟩) l := by
  have h1 := h.1
  obtain ⟨h2, h3⟩ := h
  rcases h3 with ⟨_, h0⟩ | ⟨g, cap, cur, rfl, hb, r⟩
  · omega
  · exact ⟨g, cap, rfl, hb, IntsAt_of_owns ⟨h2, .inr ⟨g, cap, cur, rfl, hb, r⟩⟩ (by simpa using h1.symm)⟩
theorem news_ints {w : World} {b off : Nat} {l : List Int} (hc : ∀ i, i < l.length → w.cell? ⟨b, off + i, none⟩ = some (.int .i64 (l.getD i 0))) : ∀ j u, (l.map (Value.int .i64))[j]? = some u → w.cell? ((⟨b, off, none⟩ : Addr).add j) = some u := by
  intro j u hj
  have hjl : j < l.length := by
    rcases Nat.lt_or_ge j l.length with h | h
    · exact h
    · rw [List.getElem?_eq_none (by simpa using h)] at hj; cases hj
  have := hc j hjl
  have hu : u = .int .i64 (l.getD j 0) := by simp [hjl] at hj; rw [← hj]; simp [hjl]
  rw [hu, ← this]
  unfold Addr.add
  split
  · rename_i h0; subst h0; simp
  · rfl

end Go.Proofs.YtofjjaabgfmnpaaDoor
