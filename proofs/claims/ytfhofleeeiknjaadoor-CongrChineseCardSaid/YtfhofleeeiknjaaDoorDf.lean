/- The program's congruences: products; a region that draws its order, with boxes that are read and one into which is stored. -/
import Derived.Test.YtfhofleeeiknjaaDoorDe
namespace Go.Proofs.YtfhofleeeiknjaaDoor
open Go.RowKit
set_option linter.unusedVariables false

/-- The number in a cell. -/
def numC (w : World) (b o : Nat) : Int := match w.cell? ⟨b, o, none⟩ with
  | some (.int _ n) => n
  | _ => 0
theorem numC_of {w : World} {b o : Nat} {n : Int} (h : w.cell? ⟨b, o, none⟩ = some (.int .i64 n)) : w.cell? ⟨b, o, none⟩ = some (.int .i64 (numC w b o)) := by
  unfold numC; rw [h]

structure Kv (w W : World) (Z : World → Prop) (L : List (Nat × Nat × Value)) (r : Nat) : Prop where
  st : St w W Z L
  ap : Apart r L
  ge : w.heap.size ≤ r
  r0 : ∃ n, W.cell? ⟨r, 0, none⟩ = some (.int .i64 n)
  r1 : ∃ n, W.cell? ⟨r, 1, none⟩ = some (.int .i64 n)
  f0 : W.frozen? ⟨r, 0, none⟩ = false
  f1 : W.frozen? ⟨r, 1, none⟩ = false
  lt : r < W.heap.size

theorem Kv.all {w W : World} {a : Nat → Addr} {L : List (Nat × Nat × Value)} {r : Nat} (h : Kv w W (EZ a) L r) : CellsAnd W L (W.cell? ⟨r, 0, none⟩ = some (.int .i64 (numC W (r) 0)) ∧ W.cell? ⟨r, 1, none⟩ = some (.int .i64 (numC W (r) 1)) ∧ W.frozen? ⟨r, 0, none⟩ = false ∧ W.frozen? ⟨r, 1, none⟩ = false ∧ Kv w W (EZ a) L (r)) := by
  obtain ⟨n0, r0⟩ := h.r0
  obtain ⟨n1, r1⟩ := h.r1
  exact CellsAnd.mk h.st.hold ⟨numC_of r0, numC_of r1, h.f0, h.f1, h⟩

theorem Kv.of {w W : World} {Z : World → Prop} {L : List (Nat × Nat × Value)} {r : Nat} {x y : Int} (h : St w W Z ((r, 0, .int .i64 x) :: (r, 1, .int .i64 y) :: L)) (ap : Apart r L) (ge : w.heap.size ≤ r) : Kv w W Z L r := by
  have k := h.hold
  exact ⟨h.drop 2, ap, ge, ⟨x, k.1.1⟩, ⟨y, k.2.1.1⟩, k.1.2.2, k.2.1.2.2, k.1.2.1⟩

theorem Kv.call {w W W' : World} {Z : World → Prop} {L : List (Nat × Nat × Value)} {r : Nat} (h : Kv w W Z L r) (hb : Below W.heap.size W W') : Kv w W' Z L r := by
  have lt := h.lt
  obtain ⟨n0, r0⟩ := h.r0
  obtain ⟨n1, r1⟩ := h.r1
  exact ⟨h.st.call hb, h.ap, h.ge, ⟨n0, (hb.cell (p := ⟨_, _, none⟩) lt).trans r0⟩, ⟨n1, (hb.cell (p := ⟨_, _, none⟩) lt).trans r1⟩, (hb.frozen (p := ⟨_, _, none⟩) lt).trans h.f0, (hb.frozen (p := ⟨_, _, none⟩) lt).trans h.f1, Nat.lt_of_lt_of_le lt hb.size⟩

theorem Kv.drew {w W : World} {Z : World → Prop} {L : List (Nat × Nat × Value)} {r : Nat} (h : Kv w W Z L r) : Kv w W.drew Z L r := h.call (Below.refl _ _).drew
theorem Kv.alloc {w W : World} {Z : World → Prop} {L : List (Nat × Nat × Value)} {r : Nat} (h : Kv w W Z L r) (o : Obj) : Kv w (W.alloc o) Z L r := h.call ((Below.refl _ _).alloc (Nat.le_refl _) _)

theorem Kv.store {w W : World} {Z : World → Prop} {L : List (Nat × Nat × Value)} {r : Nat} (h : Kv w W Z L r) (x y : Int) : Kv w ((W.setCell ⟨r, 0, none⟩ (.int .i64 x)).setCell ⟨r, 1, none⟩ (.int .i64 y)) Z L r := by
  obtain ⟨n0, r0⟩ := h.r0
  obtain ⟨n1, r1⟩ := h.r1
  have s0 : St w W Z ((r, 0, .int .i64 n0) :: (r, 1, .int .i64 n1) :: L) := h.st.add (L' := [(r, 0, .int .i64 n0), (r, 1, .int .i64 n1)]) ⟨⟨r0, h.lt, h.f0⟩, ⟨r1, h.lt, h.f1⟩, trivial⟩
  exact Kv.of ((s0.put20 h.ge h.ap (.int .i64 x)).put21 h.ge h.ap (.int .i64 y)) h.ap h.ge

theorem keepV {w W W' : World} {a : Nat → Addr} (L : List (Nat × Nat × Value)) (r : Nat) (hb : Below W.heap.size W W') (h : CellsAnd W L (W.cell? ⟨r, 0, none⟩ = some (.int .i64 (numC W (r) 0)) ∧ W.cell? ⟨r, 1, none⟩ = some (.int .i64 (numC W (r) 1)) ∧ W.frozen? ⟨r, 0, none⟩ = false ∧ W.frozen? ⟨r, 1, none⟩ = false ∧ Kv w W (EZ a) L (r))) : CellsAnd W' L (W'.cell? ⟨r, 0, none⟩ = some (.int .i64 (numC W' (r) 0)) ∧ W'.cell? ⟨r, 1, none⟩ = some (.int .i64 (numC W' (r) 1)) ∧ W'.frozen? ⟨r, 0, none⟩ = false ∧ W'.frozen? ⟨r, 1, none⟩ = false ∧ Kv w W' (EZ a) L (r)) := (h.last.2.2.2.2.call hb).all
theorem keepVd {w W : World} {a : Nat → Addr} (L : List (Nat × Nat × Value)) (r : Nat) (h : CellsAnd W L (W.cell? ⟨r, 0, none⟩ = some (.int .i64 (numC W (r) 0)) ∧ W.cell? ⟨r, 1, none⟩ = some (.int .i64 (numC W (r) 1)) ∧ W.frozen? ⟨r, 0, none⟩ = false ∧ W.frozen? ⟨r, 1, none⟩ = false ∧ Kv w W (EZ a) L (r))) : CellsAnd W.drew L (W.drew.cell? ⟨r, 0, none⟩ = some (.int .i64 (numC W.drew (r) 0)) ∧ W.drew.cell? ⟨r, 1, none⟩ = some (.int .i64 (numC W.drew (r) 1)) ∧ W.drew.frozen? ⟨r, 0, none⟩ = false ∧ W.drew.frozen? ⟨r, 1, none⟩ = false ∧ Kv w W.drew (EZ a) L (r)) := h.last.2.2.2.2.drew.all
theorem keepVa {w W : World} {a : Nat → Addr} {o : Obj} (L : List (Nat × Nat × Value)) (r : Nat) (h : CellsAnd W L (W.cell? ⟨r, 0, none⟩ = some (.int .i64 (numC W (r) 0)) ∧ W.cell? ⟨r, 1, none⟩ = some (.int .i64 (numC W (r) 1)) ∧ W.frozen? ⟨r, 0, none⟩ = false ∧ W.frozen? ⟨r, 1, none⟩ = false ∧ Kv w W (EZ a) L (r))) : CellsAnd (W.alloc o) L ((W.alloc o).cell? ⟨r, 0, none⟩ = some (.int .i64 (numC (W.alloc o) (r) 0)) ∧ (W.alloc o).cell? ⟨r, 1, none⟩ = some (.int .i64 (numC (W.alloc o) (r) 1)) ∧ (W.alloc o).frozen? ⟨r, 0, none⟩ = false ∧ (W.alloc o).frozen? ⟨r, 1, none⟩ = false ∧ Kv w (W.alloc o) (EZ a) L (r)) := (h.last.2.2.2.2.alloc o).all
theorem keepVs {w W W1 : World} {a : Nat → Addr} (L : List (Nat × Nat × Value)) (r : Nat) {x y : Int} (e : W1 = (W.setCell ⟨r, 0, none⟩ (.int .i64 x)).setCell ⟨r, 1, none⟩ (.int .i64 y)) (h : CellsAnd W L (W.cell? ⟨r, 0, none⟩ = some (.int .i64 (numC W (r) 0)) ∧ W.cell? ⟨r, 1, none⟩ = some (.int .i64 (numC W (r) 1)) ∧ W.frozen? ⟨r, 0, none⟩ = false ∧ W.frozen? ⟨r, 1, none⟩ = false ∧ Kv w W (EZ a) L (r))) : CellsAnd W1 L (W1.cell? ⟨r, 0, none⟩ = some (.int .i64 (numC W1 (r) 0)) ∧ W1.cell? ⟨r, 1, none⟩ = some (.int .i64 (numC W1 (r) 1)) ∧ W1.frozen? ⟨r, 0, none⟩ = false ∧ W1.frozen? ⟨r, 1, none⟩ = false ∧ Kv w W1 (EZ a) L (r)) := by
  subst e; exact (h.last.2.2.2.2.store x y).all
theorem keepV_k {w W : World} {a : Nat → Addr} (L : List (Nat × Nat × Value)) (r : Nat) (h : CellsAnd W L (W.cell? ⟨r, 0, none⟩ = some (.int .i64 (numC W (r) 0)) ∧ W.cell? ⟨r, 1, none⟩ = some (.int .i64 (numC W (r) 1)) ∧ W.frozen? ⟨r, 0, none⟩ = false ∧ W.frozen? ⟨r, 1, none⟩ = false ∧ Kv w W (EZ a) L (r))) : Kv w W (EZ a) L r := h.last.2.2.2.2


end Go.Proofs.YtfhofleeeiknjaaDoor
