/- The statements' helpers: programs copied: statements (StmtsOf). -/
import Derived.Test.YtbfhaabpfkopdaaGreatDoorN2
import Derived.Deep.Cut
import Derived.Deep.DeepCutAuto
namespace Go.Proofs.YtbfhaabpfkopdaaGreatDoor
open Go.RowKit
set_option linter.unusedVariables false
theorem wpAnyH_two {P : Program} {md : Region.Mode} {ops : Array Oper} {Q : Exit → Act → World → Prop} {S : World → Prop} {j k : Nat} {fuel : Nat} {listed : Array Bool} {a : Act} {w : World} (hr : Region.ready md ops listed = [j, k])
    (h1 : wpOp P ops Q j (fun a' w' => S w' ∧ wpAnyH P md ops Q S fuel (listed.setIfInBounds j true) a' w') a w) (h2 : wpOp P ops Q k (fun a' w' => S w' ∧ wpAnyH P md ops Q S fuel (listed.setIfInBounds k true) a' w') a w) : wpAnyH P md ops Q S (fuel + 1) listed a w :=
  wpAnyH_all hr (by simp) (fun i hi => by
    rcases (show i = j ∨ i = k by simpa using hi) with rfl | rfl
    · exact h1
    · exact h2)
theorem wpTill_one {P : Program} {md : Region.Mode} {ops : Array Oper} {Q : Exit → Act → World → Prop} {S : World → Prop} {E : Nat} {k : Nat} {fuel : Nat} {listed : Array Bool} {a : Act} {w : World} (hr : Region.ready md ops listed = [k])
    (h : wpOp P ops Q k (fun a' w' => ((listed.setIfInBounds k true).getD E true = false → S w') ∧ wpTill P md ops Q S E fuel (listed.setIfInBounds k true) a' w') a w) : wpTill P md ops Q S E (fuel + 1) listed a w :=
  wpTill_all hr (by simp) (fun i hi => by obtain rfl : i = k := by simpa using hi
                                          exact h)
/-- A statement that is being copied: its box, and what lies behind it. -/
structure StBx (wr W : World) (q M : Nat) (e : Stm) (x3 : Option Addr) (c3 : Nat) (cv : Value) (x4 : Option Addr) (c4 : Nat) (x5 : Option Addr) (c5 : Nat) : Prop where
  box : BoxN W q [.string (bs e.kind), .string (bs e.name), .string (bs e.proc), .slice x3 e.args.length c3, cv, .slice x4 e.body.length c4, .slice x5 e.els.length c5]
  ge : wr.heap.size ≤ q
  lt : q < M
  mM : M ≤ W.heap.size
  ta : RowAt exVals 4 W (fun b => wr.heap.size ≤ b ∧ b < M ∧ b ≠ q) x3 e.args
  tb : RowAt stVals 7 W (fun b => wr.heap.size ≤ b ∧ b < M ∧ b ≠ q) x4 e.body
  te : RowAt stVals 7 W (fun b => wr.heap.size ≤ b ∧ b < M ∧ b ≠ q) x5 e.els
  bel : Below wr.heap.size wr W
theorem StBx.below {wr W W' : World} {q M : Nat} {e : Stm} {x3 : Option Addr} {c3 : Nat} {cv : Value} {x4 : Option Addr} {c4 : Nat} {x5 : Option Addr} {c5 : Nat} (h : StBx wr W q M e x3 c3 cv x4 c4 x5 c5) (hb : Below W.heap.size W W') : StBx wr W' q M e x3 c3 cv x4 c4 x5 c5 :=
  ⟨h.box.bel hb, h.ge, h.lt, Nat.le_trans h.mM hb.size, h.ta.keep exVals_keeps hb.size (fun b _ hlt => hb.block b hlt) (fun b k _ => k), h.tb.keep stVals_keeps hb.size (fun b _ hlt => hb.block b hlt) (fun b k _ => k), h.te.keep stVals_keeps hb.size (fun b _ hlt => hb.block b hlt) (fun b k _ => k), h.bel.trans (hb.mono h.bel.size)⟩
/-- The row of its conditions has grown, and is stored into the box. -/
theorem StBx.more {wr W W' : World} {q M : Nat} {e : Stm} {x3 : Option Addr} {c3 : Nat} {cv : Value} {x4 : Option Addr} {c4 : Nat} {x5 : Option Addr} {c5 : Nat} (h : StBx wr W q M e x3 c3 cv x4 c4 x5 c5) {row : Option Nat} (hg : W.grownBy W' row) (hr : ∀ k, row = some k → M ≤ k) (u : Value) : StBx wr (W'.setCell ⟨q, 4, none⟩ u) q M e x3 c3 u x4 c4 x5 c5 := by
  have hq := h.lt
  have hge := h.ge
  have hM := h.mM
  have sz : W.heap.size ≤ (W'.setCell ⟨q, 4, none⟩ u).heap.size := by simpa [World.setCell] using hg.size
  have kp : ∀ b, (wr.heap.size ≤ b ∧ b < M ∧ b ≠ q) → b < W.heap.size → (W'.setCell ⟨q, 4, none⟩ u).heap[b]? = W.heap[b]? := fun b k hlt => (Below.heap_setCell W' ⟨q, 4, none⟩ u b (fun e => k.2.2 e)).trans (hg.block b hlt (fun e => by have := hr b e.symm; omega))
  have hB : BoxN W' q [.string (bs e.kind), .string (bs e.name), .string (bs e.proc), .slice x3 e.args.length c3, cv, .slice x4 e.body.length c4, .slice x5 e.els.length c5] := ⟨Nat.lt_of_lt_of_le h.box.lt hg.size, fun j v k => (World.grownBy.cell_far hg ⟨q, j, none⟩ h.box.lt (fun e => by have := hr q e.symm; omega)).trans (h.box.cell j v k), fun j => (World.grownBy.frozen_far hg ⟨q, j, none⟩ h.box.lt (fun e => by have := hr q e.symm; omega)).trans (h.box.fr j)⟩
  exact ⟨by simpa using hB.put 4 (by simp) u, hge, hq, by omega, h.ta.keep exVals_keeps sz kp (fun b k _ => k), h.tb.keep stVals_keeps sz kp (fun b k _ => k), h.te.keep stVals_keeps sz kp (fun b k _ => k), (h.bel.grown hg h.bel.size (fun k e => by have := hr k e; omega)).setCell (p := ⟨q, 4, none⟩) hge u⟩
end Go.Proofs.YtbfhaabpfkopdaaGreatDoor
