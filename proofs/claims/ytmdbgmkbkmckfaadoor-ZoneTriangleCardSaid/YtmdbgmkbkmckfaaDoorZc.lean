/- Rows of cells (a bound, if there is one) in memory. -/
import Derived.Test.YtmdbgmkbkmckfaaDoorKt
import Derived.Test.YtmdbgmkbkmckfaaDoorIa
import Derived.Test.YtmdbgmkbkmckfaaDoorZb
namespace Go.Proofs.YtmdbgmkbkmckfaaDoor
open Go.RowKit
set_option linter.unusedVariables false

/-- A cell, as its two fields say. -/
structure Ce where
  h : Bool
  m : Int
deriving DecidableEq
def ceZ : Ce := ⟨false, 0⟩
def Ce.bd (c : Ce) : Bd := if c.h then some c.m else none
def ceOf : Bd → Ce
  | some m => ⟨true, m⟩
  | none => ⟨false, 0⟩

theorem bd_ceOf (b : Bd) : (ceOf b).bd = b := by cases b <;> simp [ceOf, Ce.bd]

/-- Cells that can be read. -/
structure RowC (w : World) (b off : Nat) (l : List Ce) : Prop where
  lt : b < w.heap.size
  has : ∀ i, i < l.length → w.cell? ⟨b, off + i * 2, none⟩ = some (.bool (l.getD i ceZ).h)
  most : ∀ i, i < l.length → w.cell? ⟨b, off + i * 2 + 1, none⟩ = some (.int .i64 (l.getD i ceZ).m)

theorem RowC.below {w w' : World} {b off : Nat} {l : List Ce} (h : RowC w b off l) (hb : Below w.heap.size w w') : RowC w' b off l :=
  ⟨Nat.lt_of_lt_of_le h.lt hb.size, fun i hi => (hb.cell (p := ⟨b, off + i * 2, none⟩) h.lt).trans (h.has i hi), fun i hi => (hb.cell (p := ⟨b, off + i * 2 + 1, none⟩) h.lt).trans (h.most i hi)⟩
theorem RowC.stays {w W1 W2 : World} {b off : Nat} {l : List Ce} (h : b < w.heap.size) (k : RowC W1 b off l) (hb : Below w.heap.size W1 W2) : RowC W2 b off l :=
  ⟨Nat.lt_of_lt_of_le k.lt hb.size, fun i hi => (hb.cell (p := ⟨b, off + i * 2, none⟩) h).trans (k.has i hi), fun i hi => (hb.cell (p := ⟨b, off + i * 2 + 1, none⟩) h).trans (k.most i hi)⟩

/-- A store into another block. -/
theorem RowC.other {w : World} {b off : Nat} {l : List Ce} (h : RowC w b off l) {p : Addr} (hp : p.block ≠ b) (v : Value) : RowC (w.setCell p v) b off l := by
  have e : ∀ o, (w.setCell p v).cell? ⟨b, o, none⟩ = w.cell? ⟨b, o, none⟩ := fun o => World.cell?_of_block (Below.heap_setCell w p v b (fun e => hp e.symm))
  exact ⟨by simpa [World.setCell] using h.lt, fun i hi => (e _).trans (h.has i hi), fun i hi => (e _).trans (h.most i hi)⟩

theorem getD_set {l : List Ce} {k i : Nat} (hk : k < l.length) (c : Ce) : (l.set k c).getD i ceZ = if i = k then c else l.getD i ceZ := by
  by_cases e : i = k
  · subst e; simp [hk]
  · rw [if_neg e]; simp only [List.getD_eq_getElem?_getD]; rw [List.getElem?_set_ne (fun h => e h.symm)]

/-- One cell stored anew. -/
theorem RowC.set {w : World} {b off : Nat} {l : List Ce} (h : RowC w b off l) {k : Nat} (hk : k < l.length) (c : Ce) :
    RowC ((w.setCell ⟨b, off + k * 2, none⟩ (.bool c.h)).setCell ⟨b, off + k * 2 + 1, none⟩ (.int .i64 c.m)) b off (l.set k c) := by
  have ne : ∀ {o o' : Nat}, o ≠ o' → (⟨b, o, none⟩ : Addr) ≠ ⟨b, o', none⟩ := fun h e => h (by cases e; rfl)
  have oth : ∀ (W : World) (o o' : Nat) (v : Value), o ≠ o' → (W.setCell ⟨b, o, none⟩ v).cell? ⟨b, o', none⟩ = W.cell? ⟨b, o', none⟩ := by
    intro W o o' v hne
    apply World.cell?_setCell_other
    exact ne hne
  have sam : ∀ (W : World) (o : Nat) (v u : Value), W.cell? ⟨b, o, none⟩ = some u → (W.setCell ⟨b, o, none⟩ v).cell? ⟨b, o, none⟩ = some v := by
    intro W o v u hu
    apply World.cell?_setCell_same
    exact hu
  refine ⟨by simpa [World.setCell] using h.lt, fun i hi => ?_, fun i hi => ?_⟩
  · rw [List.length_set] at hi
    rw [getD_set hk]
    rw [oth _ _ _ _ (by omega)]
    by_cases e : i = k
    · subst e; rw [if_pos rfl]; exact sam _ _ _ _ (h.has i hi)
    · rw [if_neg e, oth _ _ _ _ (by omega)]; exact h.has i hi
  · rw [List.length_set] at hi
    rw [getD_set hk]
    by_cases e : i = k
    · subst e; rw [if_pos rfl]; exact sam _ _ _ _ ((oth _ _ _ _ (by omega)).trans (h.most i hi))
    · rw [if_neg e, oth _ _ _ _ (by omega), oth _ _ _ _ (by omega)]; exact h.most i hi

/-- A slice of cells. -/
def CsAt (w : World) (x : Option Addr) (l : List Ce) : Prop := l = [] ∨ ∃ b off, x = some ⟨b, off, none⟩ ∧ RowC w b off l
theorem CsAt.below {w w' : World} {x : Option Addr} {l : List Ce} (h : CsAt w x l) (hb : Below w.heap.size w w') : CsAt w' x l := by
  rcases h with h | ⟨b, off, e, h⟩
  · exact .inl h
  · exact .inr ⟨b, off, e, h.below hb⟩
theorem CsAt.stays {w W1 W2 : World} {x : Option Addr} {l : List Ce} (h : CsAt w x l) (k : CsAt W1 x l) (hb : Below w.heap.size W1 W2) : CsAt W2 x l := by
  rcases h with h | ⟨b, off, e, h⟩
  · exact .inl h
  · rcases k with k | ⟨b', off', e', k⟩
    · exact .inl k
    · obtain ⟨rfl, rfl⟩ : b = b' ∧ off = off' := by rw [e] at e'; simpa using e'
      exact .inr ⟨b, off, e, RowC.stays h.lt k hb⟩

end Go.Proofs.YtmdbgmkbkmckfaaDoor
