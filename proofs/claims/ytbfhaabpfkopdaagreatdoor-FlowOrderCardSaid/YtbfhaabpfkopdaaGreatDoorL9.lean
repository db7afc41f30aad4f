/- The language: a writer: its block; the bytes that it has (strings.Builder). -/
import Derived.Test.YtbfhaabpfkopdaaGreatDoorL3
import Derived.Test.YtbfhaabpfkopdaaGreatDoorL8
import Derived.Lib.Builder
import Derived.Lib.AppendStr
import Derived.Lib.UnsafeStr
import Derived.Lib.OthersKept
import Derived.Lib.BufferMore
import Derived.Laws.Externs
namespace Go.Proofs.YtbfhaabpfkopdaaGreatDoor
open Go.RowKit
set_option linter.unusedVariables false

/-- The bytes as cells. -/
def bc (l : Bs) : List Value := l.map fun b => Value.int .u8 b.toNat
theorem strCells_bs (l : Bs) : Lib.strCells (bs l) = bc l := by simp [Lib.strCells, bs, bc]
/-- All blocks but the writer's and rows of bytes stand. -/
structure Fr (q : Nat) (W W' : World) : Prop where
  size : W.heap.size ≤ W'.heap.size
  kept : Lib.OthersKept 5 (some q) W W'
theorem Fr.refl (q : Nat) (W : World) : Fr q W W := ⟨Nat.le_refl _, Lib.OthersKept.refl _ _ _⟩
theorem Fr.trans {q : Nat} {W W' W2 : World} (h : Fr q W W') (k : Fr q W' W2) : Fr q W W2 := ⟨Nat.le_trans h.size k.size, h.kept.trans k.kept⟩
theorem Fr.of {q : Nat} {W W' : World} (h : Below W.heap.size W W') : Fr q W W' := ⟨h.size, fun k o hk _ _ => (h.block k (Array.getElem?_eq_some_iff.1 hk).1).trans hk⟩
theorem Fr.alloc {q : Nat} {W W' : World} (h : Fr q W W') (o : Obj) : Fr q W (W'.alloc o) := h.trans (Fr.of ((Below.refl _ _).alloc (Nat.le_refl _) o))
/-- A box: its block whole. -/
def BoxT (W : World) (b : Nat) (T : TypeId) (vs : List Value) : Prop := W.heap[b]? = some (.cells vs.toArray T (0, 0))
theorem BoxT.fr {q b : Nat} {T : TypeId} {vs : List Value} {W W' : World} (h : BoxT W b T vs) (hf : Fr q W W') (hb : b ≠ q) (hT : T ≠ 5) : BoxT W' b T vs :=
  hf.kept b _ h (fun e => hb (by cases e; rfl)) (fun c fz e => by cases e; exact hT rfl)
theorem BoxT.new (W : World) (T : TypeId) (vs : List Value) : BoxT (W.alloc (.cells vs.toArray T)) W.heap.size T vs := heap_alloc_new W _
theorem BoxT.lt {W : World} {b : Nat} {T : TypeId} {vs : List Value} (h : BoxT W b T vs) : b < W.heap.size := (Array.getElem?_eq_some_iff.1 h).1
theorem BoxT.cell {W : World} {b : Nat} {T : TypeId} {vs : List Value} (h : BoxT W b T vs) (j : Nat) (v : Value) (hj : vs[j]? = some v) : W.cell? ⟨b, j, none⟩ = some v := by
  rw [Lib.cell_of_heap h]; simpa using hj
theorem BoxT.bel {W W' : World} {b : Nat} {T : TypeId} {vs : List Value} (h : BoxT W b T vs) (hb : Below W.heap.size W W') : BoxT W' b T vs := (hb.block b h.lt).trans h

/-- A writer in its block q, over what was there in w0. -/
structure Wr (w0 W : World) (q r : Nat) (st : Wst) : Prop where
  roles : RolesAt w0 r
  lg : LgW w0
  bel : Below w0.heap.size w0 W
  ge : w0.heap.size ≤ q
  blk : ∃ ad v, W.heap[q]? = some (Obj.cells #[ad, v, .map (some r), .int .i64 st.2] 243 (0, 0)) ∧ (ad = .pointer none ∨ ad = .pointer (some ⟨q, 0, none⟩)) ∧ W.ownsRow w0.heap.size 5 1 v st.1.length (bc st.1) ∧ v.ownBlock ≠ some q
  len : st.1.length ≤ 4000
  cnt : st.2 ≤ 4000
theorem Wr.lt {w0 W : World} {q r : Nat} {st : Wst} (h : Wr w0 W q r st) : q < W.heap.size := by
  obtain ⟨ad, v, hq, _⟩ := h.blk
  exact (Array.getElem?_eq_some_iff.1 hq).1
/-- New memory does not turn it. -/
theorem Wr.below {w0 W W' : World} {q r : Nat} {st : Wst} (h : Wr w0 W q r st) (hb : Below W.heap.size W W') : Wr w0 W' q r st := by
  obtain ⟨ad, v, hq, ha, hown, hne⟩ := h.blk
  have hg : W.grownBy W' none := ⟨hb.os, hb.tape, hb.output, hb.size, fun i hi _ => hb.block i hi⟩
  exact ⟨h.roles, h.lg, h.bel.trans (hb.mono h.bel.size), h.ge, ⟨ad, v, (hb.block q h.lt).trans hq, ha, hown.kept hg (by
    cases hv : v.ownBlock with
    | none => exact .inl rfl
    | some k => exact .inr (fun e => by cases e)), hne⟩, h.len, h.cnt⟩
theorem Wr.alloc {w0 W : World} {q r : Nat} {st : Wst} (h : Wr w0 W q r st) (o : Obj) : Wr w0 (W.alloc o) q r st := h.below ((Below.refl _ _).alloc (Nat.le_refl _) o)
theorem Wr.rolesAt {w0 W : World} {q r : Nat} {st : Wst} (h : Wr w0 W q r st) : RolesAt W r := h.roles.below h.bel
theorem Wr.lgW {w0 W : World} {q r : Nat} {st : Wst} (h : Wr w0 W q r st) : LgW W := h.lg.below h.bel
/-- The thing that a writer throws. -/
abbrev noT : Value := .iface 235 (.agg #[])
/-- What a writing function does. -/
def WPost (w0 : World) (q r : Nat) (res : Option Wst) (W : World) (e : Ending) (W' : World) : Prop := Fr q W W' ∧ match res with
  | some st => e = .returned (.tuple #[]) ∧ Wr w0 W' q r st
  | none => e = .panicked [{ v := noT, recovered := false }] ∧ Below w0.heap.size w0 W'

set_option maxRecDepth 20000 in
set_option maxHeartbeats 2000000 in
/-- copyCheck: the writer's own address is stored. -/
theorem copyCheck_any (w0 : World) (q r : Nat) (st : Wst) (w : World) (h : Wr w0 w q r st) : Calls Tryz.prog 247 #[.pointer (some ⟨q, 0, none⟩)] w fun e w' => e = .returned (.tuple #[]) ∧ Fr q w w' ∧ Below w0.heap.size w0 w' ∧ w'.heap.size = w.heap.size ∧
    ∃ v, w'.heap[q]? = some (Obj.cells #[.pointer (some ⟨q, 0, none⟩), v, .map (some r), .int .i64 st.2] 243 (0, 0)) ∧ w'.ownsRow w0.heap.size 5 1 v st.1.length (bc st.1) ∧ v.ownBlock ≠ some q := by
  obtain ⟨ad, v, hq, ha, hown, hne⟩ := h.blk
  have c0 : w.cell? ⟨q, 0, none⟩ = some ad := by rw [Lib.cell_of_heap hq]; rfl
  have f0 : w.frozen? ⟨q, 0, none⟩ = false := Lib.frozen_of_heap hq 0
  have hsh : w.shape? q = some (243, 4) := by simp [World.shape?, hq]
  obtain ⟨j, hj, hjs⟩ : ∃ j, Tryz.prog.info? 241 = some j ∧ j.size = 2 := by
    have : (Tryz.prog.info? 241).map (fun i => i.size) = some 2 := by kernel_rfl
    exact Option.map_eq_some_iff.1 this
  rcases ha with rfl | rfl
  · go_enter Tryz.func247, Tryz.ntmps247
    go_wp2
    rw [Lib.run_to_unsafe w ⟨q, 0, none⟩ Tryz.underlying238 Tryz.underlying265 hj (by rw [hjs]; decide) hsh (by show 0 < 4; omega)]
    simp only [Result.andThen]
    rw [Oper.upon_value]
    go_wp2
    rw [run_callFunc_extern Tryz.func275 (by kernel_rfl) (by kernel_rfl) (by kernel_rfl) (e := Extern.AbiNoEscape.same) (by kernel_rfl)]
    rw [Lib.run_noEscape]
    simp only [Result.andThen]
    rw [Oper.upon_value]
    go_wp2
    rw [Lib.run_from_unsafe w ⟨q, 0, none⟩ Tryz.underlying265 Tryz.underlying238 hj hsh (by kernel_rfl)]
    simp only [Result.andThen]
    rw [Oper.upon_value]
    go_wp2
    go_end0
    have hbl : ∀ i, i ≠ q → (w.setCell ⟨q, 0, none⟩ (.pointer (some ⟨q, 0, none⟩))).heap[i]? = w.heap[i]? := fun i hi => Below.heap_setCell w ⟨q, 0, none⟩ _ i (fun e => hi e)
    refine ⟨rfl, ⟨by simp [World.setCell], (Lib.OthersKept.refl _ _ w).setCell ⟨q, 0, none⟩ rfl _⟩, h.bel.setCell (p := ⟨q, 0, none⟩) h.ge _, by simp [World.setCell], v, ?_, ?_, hne⟩
    · simp [World.setCell, Array.getElem?_modify, hq]
    · exact hown.kept (row := some q) ⟨rfl, rfl, rfl, by simp [World.setCell], fun i hi hr => hbl i (fun e => hr (by rw [e]))⟩ (.inr (fun e => hne e))
  · go_enter Tryz.func247, Tryz.ntmps247
    go_wp2
    rw [Lib.run_neq_ptr_same w _ Tryz.underlying238 hj]
    go_wp2
    go_end0
    exact ⟨rfl, Fr.refl _ _, h.bel, rfl, v, hq, hown, hne⟩

set_option maxRecDepth 20000 in
set_option maxHeartbeats 2000000 in
theorem len_any (w0 : World) (q r : Nat) (st : Wst) (w : World) (h : Wr w0 w q r st) : Calls Tryz.prog 207 #[.pointer (some ⟨q, 0, none⟩)] w fun e w' => e = .returned (.int .i64 st.1.length) ∧ w' = w := by
  obtain ⟨ad, v, hq, ha, hown, hne⟩ := h.blk
  obtain ⟨ao, cap, rfl⟩ : ∃ ao cap, v = .slice ao st.1.length cap := by
    rcases hown.2 with ⟨hv, h0⟩ | ⟨g, cap, cur, hv, _⟩
    · exact ⟨none, 0, by rw [hv, h0]⟩
    · exact ⟨_, _, hv⟩
  have c1 : w.cell? ⟨q, 1, none⟩ = some (.slice ao st.1.length cap) := by rw [Lib.cell_of_heap hq]; rfl
  go_enter Tryz.func207, Tryz.ntmps207
  go_wp2
  go_ret
  exact ⟨rfl, rfl⟩
theorem Tryz.infoByte : (Tryz.prog.info? 5).map (fun i => (i.zero, i.size, i.bytes)) = some (some (.int .u8 0), 1, 1) := by kernel_rfl
set_option maxRecDepth 20000 in
set_option maxHeartbeats 4000000 in
theorem writeString_any (w0 : World) (q r : Nat) (st : Wst) (t : Bs) (w : World) (h : Wr w0 w q r st) (ht : st.1.length + t.length ≤ 4000) : Calls Tryz.prog 208 #[.pointer (some ⟨q, 0, none⟩), .string (bs t)] w fun e w' => e = .returned (.tuple #[.int .i64 t.length, .nilIface]) ∧ Fr q w w' ∧ Wr w0 w' q r (st.1 ++ t, st.2) := by
  obtain ⟨i0, hi, hz0, hz1, hz2⟩ := info_parts Tryz.infoByte
  have H1 := hide (copyCheck_any w0 q r st w h)
  have esz : ((bs t).size : Int) = (t.length : Int) := by rw [bs_size]
  have hq0 := h.lt
  have hge := h.ge
  go_enter Tryz.func208, Tryz.ntmps208
  go_wp2_with fail
  refine H1.out.mono ?_
  rintro e w1 ⟨rfl, hf1, hb1, hs1, v, hbk, hown, hne⟩
  have c1 : w1.cell? ⟨q, 1, none⟩ = some v := by rw [Lib.cell_of_heap hbk]; rfl
  have hs1' := hide hs1
  clear hs1
  go_wp2_with (at_builtin; refine Lib.wpList_append_own_string _ rfl _ _ 239 9 rfl w0.heap.size 5 i0 Tryz.underlying239 Tryz.underlying9 hi hz0 hz1 hz2 _ _ _ rfl hown (bs t) rfl ?c3 ?c4 ?c5 ?_)
  case c3 => rw [bs_size]; unfold maxLen; omega
  case c4 => rw [bs_size]; omega
  case c5 => exact hb1.size
  intro v' w2 hown' hgrow _
  have hlt : q < w1.heap.size := by rw [hs1'.out]; exact hq0
  have hb2 : w2.heap[q]? = some (Obj.cells #[.pointer (some ⟨q, 0, none⟩), v, .map (some r), .int .i64 st.2] 243 (0, 0)) := by
    rw [hgrow.block q hlt (fun e => hne e.symm)]
    exact hbk
  have d1 : w2.cell? ⟨q, 1, none⟩ = some v := by rw [Lib.cell_of_heap hb2]; rfl
  have f1 : w2.frozen? ⟨q, 1, none⟩ = false := Lib.frozen_of_heap hb2 1
  have hrow : ∀ g, v.ownBlock = some g → ∃ c fz, w1.heap[g]? = some (.cells c 5 fz) := fun g hg => by
    rcases hown.2 with ⟨hv, _⟩ | ⟨g', cap, cur, hv, _, hgg, _⟩
    · rw [hv] at hg; cases hg
    · rw [hv] at hg
      have hg : some g' = some g := hg
      cases hg
      exact ⟨_, _, hgg⟩
  obtain ⟨ao, n', cap, rfl⟩ : ∃ ao n' cap, v' = .slice ao n' cap := by
    rcases hown'.2 with ⟨hv, _⟩ | ⟨g, cap, cur, hv, _⟩
    · exact ⟨_, _, _, hv⟩
    · exact ⟨_, _, _, hv⟩
  go_wp2
  go_ret2
  have hlo : ∀ k, v.ownBlock = some k → w0.heap.size ≤ k := fun k hk => (hown.lt k hk).1
  have hF2 : Fr q w (w2.setCell ⟨q, 1, none⟩ (.slice ao n' cap)) := ⟨by have := hgrow.size; have := hf1.size; simp [World.setCell]; omega, (hf1.kept.grown hgrow hrow).setCell ⟨q, 1, none⟩ rfl _⟩
  refine ⟨rfl, hF2, h.roles, h.lg, (hb1.grown hgrow hb1.size hlo).setCell (p := ⟨q, 1, none⟩) hge _, hge, ⟨_, .slice ao n' cap, ?_, .inr rfl, ?_, ?_⟩, by simpa using ht, h.cnt⟩
  · rw [Lib.heap_setCell_same hb2]; rfl
  · have hne' : (Value.slice ao n' cap).ownBlock ≠ some q := fun e => by
      rcases hown'.2 with ⟨hv, _⟩ | ⟨g, cap', cur, hv, _, hgg, _⟩
      · rw [hv] at e; cases e
      · rw [hv] at e
        have e : some g = some q := e
        cases e
        rw [hb2] at hgg; cases hgg
    have := hown'.kept (row := some q) (w' := w2.setCell ⟨q, 1, none⟩ (.slice ao n' cap)) ⟨rfl, rfl, rfl, by simp [World.setCell], fun i hi hr => Below.heap_setCell w2 ⟨q, 1, none⟩ _ i (fun e => hr (by have e : i = q := e; rw [e]))⟩ (.inr (fun e => hne' e))
    simpa [strCells_bs, bc, bs_size] using this
  · intro e
    rcases hown'.2 with ⟨hv, _⟩ | ⟨g, cap', cur, hv, _, hgg, _⟩
    · rw [hv] at e; cases e
    · rw [hv] at e
      have e : some g = some q := e
      cases e
      rw [hb2] at hgg; cases hgg
end Go.Proofs.YtbfhaabpfkopdaaGreatDoor
