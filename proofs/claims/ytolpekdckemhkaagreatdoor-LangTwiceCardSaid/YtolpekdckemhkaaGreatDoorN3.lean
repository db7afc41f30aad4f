/- The statements' helpers: programs copied: statements (StmtsOf). -/
import Derived.Test.YtolpekdckemhkaaGreatDoorN2
import Derived.Deep.Cut
import Derived.Deep.DeepCutAuto
namespace Go.Proofs.YtolpekdckemhkaaGreatDoor
open Go.RowKit
set_option linter.unusedVariables false
theorem Tryz.infoRefS : (Tryz.prog.info? 126).map (fun i => (i.zero, i.size, i.bytes)) = some (some (.agg #[.string ⟨#[]⟩, .string ⟨#[]⟩, .string ⟨#[]⟩, .slice none 0 0, .slice none 0 0, .slice none 0 0, .slice none 0 0]), 7, 144) := by kernel_rfl
theorem Tryz.infoRefR : (Tryz.prog.info? 180).map (fun i => (i.zero, i.size, i.bytes)) = some (some (.slice none 0 0), 1, 24) := by kernel_rfl
theorem wpAnyH_two {P : Program} {md : Region.Mode} {ops : Array Oper} {Q : Exit → Act → World → Prop} {S : World → Prop} {j k : Nat} {fuel : Nat} {listed : Array Bool} {a : Act} {w : World} (hr : Region.ready md ops listed = [j, k])
    (h1 : wpOp P ops Q j (fun a' w' => S w' ∧ wpAnyH P md ops Q S fuel (listed.setIfInBounds j true) a' w') a w) (h2 : wpOp P ops Q k (fun a' w' => S w' ∧ wpAnyH P md ops Q S fuel (listed.setIfInBounds k true) a' w') a w) : wpAnyH P md ops Q S (fuel + 1) listed a w :=
  wpAnyH_all hr (by simp) (fun i hi => by
    rcases (show i = j ∨ i = k by simpa using hi) with rfl | rfl
    · exact h1
    · exact h2)
theorem wpTill_one {P : Program} {md : Region.Mode} {ops : Array Oper} {Q : Exit → Act → World → Prop} {S : World → Prop} {E : Nat} {k : Nat} {fuel : Nat} {listed : Array Bool} {a : Act} {w : World} (hr : Region.ready md ops listed = [k])
    (h : wpOp P ops Q k (fun a' w' => ((listed.setIfInBounds k true).getD E true = false → S w') ∧ wpTill P md ops Q S E fuel (listed.setIfInBounds k true) a' w') a w) : wpTill P md ops Q S E (fuel + 1) listed a w :=
  wpTill_all hr (by simp) (fun i hi => by obtain rfl : i = k := by simpa using hi
                                          exact h)
/-- A statement that is being copied: its box, and what lies behind it. -/
structure StBx (wr W : World) (q M : Nat) (e : Stm) (x3 : Option Addr) (c3 : Nat) (cv : Value) (x4 : Option Addr) (c4 : Nat) (x5 : Option Addr) (c5 : Nat) : Prop where
  box : BoxN W q [.string (bs e.kind), .string (bs e.name), .string (bs e.proc), .slice x3 e.args.length c3, cv, .slice x4 e.body.length c4, .slice x5 e.els.length c5]
  ge : wr.heap.size ≤ q
  lt : q < M
  mM : M ≤ W.heap.size
  ta : RowAt exVals 4 W (fun b => wr.heap.size ≤ b ∧ b < M ∧ b ≠ q) x3 e.args
  tb : RowAt stVals 7 W (fun b => wr.heap.size ≤ b ∧ b < M ∧ b ≠ q) x4 e.body
  te : RowAt stVals 7 W (fun b => wr.heap.size ≤ b ∧ b < M ∧ b ≠ q) x5 e.els
  bel : Below wr.heap.size wr W
theorem StBx.below {wr W W' : World} {q M : Nat} {e : Stm} {x3 : Option Addr} {c3 : Nat} {cv : Value} {x4 : Option Addr} {c4 : Nat} {x5 : Option Addr} {c5 : Nat} (h : StBx wr W q M e x3 c3 cv x4 c4 x5 c5) (hb : Below W.heap.size W W') : StBx wr W' q M e x3 c3 cv x4 c4 x5 c5 :=
  ⟨h.box.bel hb, h.ge, h.lt, Nat.le_trans h.mM hb.size, h.ta.keep exVals_keeps hb.size (fun b _ hlt => hb.block b hlt) (fun b k _ => k), h.tb.keep stVals_keeps hb.size (fun b _ hlt => hb.block b hlt) (fun b k _ => k), h.te.keep stVals_keeps hb.size (fun b _ hlt => hb.block b hlt) (fun b k _ => k), h.bel.trans (hb.mono h.bel.size)⟩
/-- The row of its conditions has grown, and is stored into the box. -/
theorem StBx.more {wr W W' : World} {q M : Nat} {e : Stm} {x3 : Option Addr} {c3 : Nat} {cv : Value} {x4 : Option Addr} {c4 : Nat} {x5 : Option Addr} {c5 : Nat} (h : StBx wr W q M e x3 c3 cv x4 c4 x5 c5) {row : Option Nat} (hg : W.grownBy W' row) (hr : ∀ k, row = some k → M ≤ k) (u : Value) : StBx wr (W'.setCell ⟨q, 4, none⟩ u) q M e x3 c3 u x4 c4 x5 c5 := by
  have hq := h.lt
  have hge := h.ge
  have hM := h.mM
  have sz : W.heap.size ≤ (W'.setCell ⟨q, 4, none⟩ u).heap.size := by simpa [World.setCell] using hg.size
  have kp : ∀ b, (wr.heap.size ≤ b ∧ b < M ∧ b ≠ q) → b < W.heap.size → (W'.setCell ⟨q, 4, none⟩ u).heap[b]? = W.heap[b]? := fun b k hlt => (Below.heap_setCell W' ⟨q, 4, none⟩ u b (fun e => k.2.2 e)).trans (hg.block b hlt (fun e => by have := hr b e.symm; omega))
  have hB : BoxN W' q [.string (bs e.kind), .string (bs e.name), .string (bs e.proc), .slice x3 e.args.length c3, cv, .slice x4 e.body.length c4, .slice x5 e.els.length c5] := ⟨Nat.lt_of_lt_of_le h.box.lt hg.size, fun j v k => (World.grownBy.cell_far hg ⟨q, j, none⟩ h.box.lt (fun e => by have := hr q e.symm; omega)).trans (h.box.cell j v k), fun j => (World.grownBy.frozen_far hg ⟨q, j, none⟩ h.box.lt (fun e => by have := hr q e.symm; omega)).trans (h.box.fr j)⟩
  exact ⟨by simpa using hB.put 4 (by simp) u, hge, hq, by omega, h.ta.keep exVals_keeps sz kp (fun b k _ => k), h.tb.keep stVals_keeps sz kp (fun b k _ => k), h.te.keep stVals_keeps sz kp (fun b k _ => k), (h.bel.grown hg h.bel.size (fun k e => by have := hr k e; omega)).setCell (p := ⟨q, 4, none⟩) hge u⟩
/-- The box, filled. -/
theorem StBx.mk' {wr W : World} {q : Nat} {e : Stm} {x3 : Option Addr} {c3 : Nat} {x4 : Option Addr} {c4 : Nat} {x5 : Option Addr} {c5 : Nat} (hB : BoxN W q [.string ⟨#[]⟩, .string ⟨#[]⟩, .string ⟨#[]⟩, .slice none 0 0, .slice none 0 0, .slice none 0 0, .slice none 0 0]) (hge : wr.heap.size ≤ q) (a : RowAt exVals 4 W (fun b => wr.heap.size ≤ b ∧ b ≠ q) x3 e.args) (b : RowAt stVals 7 W (fun b => wr.heap.size ≤ b ∧ b ≠ q) x4 e.body) (c : RowAt stVals 7 W (fun b => wr.heap.size ≤ b ∧ b ≠ q) x5 e.els) (hb : Below wr.heap.size wr W) :
    StBx wr (putAll W q [(0, .string (bs e.kind)), (1, .string (bs e.name)), (2, .string (bs e.proc)), (3, .slice x3 e.args.length c3), (4, .slice none 0 0), (5, .slice x4 e.body.length c4), (6, .slice x5 e.els.length c5)]) q W.heap.size e x3 c3 (.slice none 0 0) x4 c4 x5 c5 := by
  obtain ⟨p1, p2⟩ := putAll_block q [(0, .string (bs e.kind)), (1, .string (bs e.name)), (2, .string (bs e.proc)), (3, .slice x3 e.args.length c3), (4, .slice none 0 0), (5, .slice x4 e.body.length c4), (6, .slice x5 e.els.length c5)] W
  have B9 := ((((((hB.put 0 (by simp) (.string (bs e.kind))).put 1 (by simp) (.string (bs e.name))).put 2 (by simp) (.string (bs e.proc))).put 3 (by simp) (.slice x3 e.args.length c3)).put 4 (by simp) (.slice none 0 0)).put 5 (by simp) (.slice x4 e.body.length c4)).put 6 (by simp) (.slice x5 e.els.length c5)
  refine ⟨B9, hge, hB.lt, Nat.le_of_eq p1.symm, a.keep exVals_keeps (Nat.le_of_eq p1.symm) (fun b k _ => p2 b k.2) (fun b k hlt => ⟨k.1, hlt, k.2⟩), b.keep stVals_keeps (Nat.le_of_eq p1.symm) (fun b k _ => p2 b k.2) (fun b k hlt => ⟨k.1, hlt, k.2⟩), c.keep stVals_keeps (Nat.le_of_eq p1.symm) (fun b k _ => p2 b k.2) (fun b k hlt => ⟨k.1, hlt, k.2⟩), ?_⟩
  exact ((((((hb.setCell (p := ⟨q, 0, none⟩) hge _).setCell (p := ⟨q, 1, none⟩) hge _).setCell (p := ⟨q, 2, none⟩) hge _).setCell (p := ⟨q, 3, none⟩) hge _).setCell (p := ⟨q, 4, none⟩) hge _).setCell (p := ⟨q, 5, none⟩) hge _).setCell (p := ⟨q, 6, none⟩) hge _
/-- A row of tests copied. -/
def rowsC (G : Nat) (row : List Te) : Prop := ∀ (W : World) (x : Option Addr) (cap : Nat), RowAt teVals 9 W Any x row → Calls Tryz.prog G #[.slice x row.length cap] W fun e W' => CpPost teVals 9 row W e W'
/-- Statements copied. -/
def stmtsOfC (l : List Stm) : Prop := ∀ (W : World) (x : Option Addr) (cap : Nat), StmsAt W Any x l → Calls Tryz.prog 36 #[.slice x l.length cap] W fun e W' => CpPost stVals 7 l W e W'
structure stmtsOfH (e : Stm) : Prop where
  a : exprsOfC e.args
  c : e.cond.length * 24 ≤ 140737488355328
  r : ∀ (k : Nat) (row : List Te), e.cond[k]? = some row → rowsC 95 row
  b : stmtsOfC e.body
  e : stmtsOfC e.els
set_option maxRecDepth 20000 in
set_option maxHeartbeats 16000000 in
theorem stmtsOf_step (l : List Stm) (n : Nat) (hn : Hid (n = l.length)) (hl : n * 144 ≤ 140737488355328) (HC : Hid (∀ (i : Nat) (e : Stm), l[i]? = some e → stmtsOfH e)) (w : World) (x : Option Addr) (cap : Nat) (hx : StmsAt w Any x l) : Calls Tryz.prog 36 #[.slice x n cap] w fun e w' => CpPost stVals 7 l w e w' := by
  obtain ⟨i0, hi0, hz0, hz1, hz2⟩ := info_parts Tryz.infoStmt
  obtain ⟨r0, ri0, rz0, rz1, rz2⟩ := info_parts Tryz.infoRow
  go_enter Tryz.func36, Tryz.ntmps36
  go_wp2_with fail
  go_loopg [3, 4] n (fun gh t iv wx => ∃ (v : Value) (i : Nat) (xss : List (List Value)), v = t ∧ iv = .int .i64 i ∧ i + gh = n ∧ GRow stVals 177 7 wx w.heap.size v (l.take i) xss ∧ Below w.heap.size w wx)
  case atStart => exact ⟨_, 0, [], rfl, rfl, by omega, GRow.nil _ _ _ _ _, Below.refl _ _⟩
  case round =>
    obtain ⟨v, i, xss, rfl, rfl, hig, g, hB⟩ := hrel
    rename World => wo
    have htl := hide (take_len hn.out (show i ≤ n by omega))
    by_cases hi : i < n
    case neg =>
      have hi' : ¬ (i : Int) < (n : Int) := by omega
      have hin : l.take i = l := List.take_of_length_le (by rw [← hn.out]; omega)
      rw [hin] at g
      go_wp2_with fail
      go_ret
      obtain ⟨x', cap', rfl, hrow⟩ := g.row stVals_keeps (by omega)
      exact ⟨hB, x', cap', rfl, hrow⟩
    have hi' : (i : Int) < (n : Int) := by omega
    obtain ⟨e, he⟩ : ∃ e, l[i]? = some e := ⟨_, List.getElem?_eq_getElem (by rw [← hn.out]; exact hi)⟩
    have hH := HC.out i e he
    obtain ⟨b, off, xa, ca, xc, cc, xb, cb, xe, ce, rfl, hlt, k0, k1, k2, k3, k4, k5, k6, ha, hc, hbd, hel⟩ := hx.elem he
    have hbw : Below wo.heap.size wo wo.drew := (Below.refl _ _).drew
    have Bd := hB.trans (hbw.mono hB.size)
    have Rd0 := hbw
    have szw : b < wo.heap.size := Nat.lt_of_lt_of_le hlt hB.size
    have szb := hB.size
    obtain ⟨vx, vc, rfl⟩ := g.form
    rw [htl.out] at g ⊢
    have htk := hide (take_more he)
    obtain ⟨mc, hmc⟩ : ∃ mc, Hid (mc = e.cond.length) := ⟨_, rfl⟩
    rw [← hmc.out] at k4
    have hmc2 : mc * 24 ≤ 140737488355328 := by rw [hmc.out]; exact hH.c
    clear he
    go_upto_region 5 with fail
    go_cut [5] (fun t5 wx => ∃ (q : Nat) (x3 : Option Addr) (c3 : Nat) (x4 : Option Addr) (c4 : Nat) (x5 : Option Addr) (c5 M : Nat), t5 = .pointer (some ⟨q, 0, none⟩) ∧ StBx wo wx q M e x3 c3 (.slice none 0 0) x4 c4 x5 c5)
    case first J K1 hRJ hMK =>
        have HRJ := hide hRJ
        have HMK := hide hMK
        clear hRJ hMK
        rename_i jj kc ad ac kb ab ka aa
        clear aa ab ac ad HC hx k4 hmc2 hc htk hi0 hz0 hz1 hz2 ri0 rz0 rz1 rz2
        refine wp_region_held (S := fun w' => w'.cell? ⟨b, off + i * 7, none⟩ = some (.string (bs e.kind)) ∧ w'.cell? ⟨b, off + i * 7 + 1, none⟩ = some (.string (bs e.name)) ∧ w'.cell? ⟨b, off + i * 7 + 2, none⟩ = some (.string (bs e.proc)) ∧ w'.cell? ⟨b, off + i * 7 + 3, none⟩ = some (.slice xa e.args.length ca) ∧ w'.cell? ⟨b, off + i * 7 + 5, none⟩ = some (.slice xb e.body.length cb) ∧ w'.cell? ⟨b, off + i * 7 + 6, none⟩ = some (.slice xe e.els.length ce)) (by kernel_rfl) ?_
        obtain ⟨wd, hwd⟩ : ∃ X, X = wo.drew := ⟨_, rfl⟩
        change wpAnyH _ _ _ _ _ _ _ _ wo.drew
        rw [← hwd] at Bd Rd0 ⊢
        clear hwd hbw
        have hS9 : wd.cell? ⟨b, off + i * 7, none⟩ = some (.string (bs e.kind)) ∧ wd.cell? ⟨b, off + i * 7 + 1, none⟩ = some (.string (bs e.name)) ∧ wd.cell? ⟨b, off + i * 7 + 2, none⟩ = some (.string (bs e.proc)) ∧ wd.cell? ⟨b, off + i * 7 + 3, none⟩ = some (.slice xa e.args.length ca) ∧ wd.cell? ⟨b, off + i * 7 + 5, none⟩ = some (.slice xb e.body.length cb) ∧ wd.cell? ⟨b, off + i * 7 + 6, none⟩ = some (.slice xe e.els.length ce) := ⟨(Bd.cell hlt).trans k0, (Bd.cell hlt).trans k1, (Bd.cell hlt).trans k2, (Bd.cell hlt).trans k3, (Bd.cell hlt).trans k5, (Bd.cell hlt).trans k6⟩
        (refine tk 0 (v := ?_) ?_ hS9 ?_; rotate_left 1; (intro w' hSw; (try dsimp only at hSw); go_simp; (try rw [if_pos (by omega)])); (try rfl); (try dsimp only [Act.put]))
        (refine tk 1 (v := ?_) ?_ hS9 ?_; rotate_left 1; (intro w' hSw; (try dsimp only at hSw); go_simp; (try rw [if_pos (by omega)])); (try rfl); (try dsimp only [Act.put]))
        (refine tk 2 (v := ?_) ?_ hS9 ?_; rotate_left 1; (intro w' hSw; (try dsimp only at hSw); go_simp; (try rw [if_pos (by omega)])); (try rfl); (try dsimp only [Act.put]))
        (refine tk 3 (v := ?_) ?_ hS9 ?_; rotate_left 1; (intro w' hSw; (try dsimp only at hSw); go_simp; (try rw [if_pos (by omega)])); (try rfl); (try dsimp only [Act.put]))
        (refine tk 4 (v := ?_) ?_ hS9 ?_; rotate_left 1; (intro w' hSw; (try dsimp only at hSw); go_simp; (try rw [if_pos (by omega)])); (try rfl); (try dsimp only [Act.put]))
        (refine tk 5 (v := ?_) ?_ hS9 ?_; rotate_left 1; (intro w' hSw; (try dsimp only at hSw); go_simp; (try rw [if_pos (by omega)])); (try rfl); (try dsimp only [Act.put]))
        (refine tk 6 (v := ?_) ?_ hS9 ?_; rotate_left 1; (intro w' hSw; (try dsimp only at hSw); go_simp; (try rw [if_pos (by omega)])); (try rfl); (try dsimp only [Act.put]))
        (refine tk 7 (v := ?_) ?_ hS9 ?_; rotate_left 1; (intro w' hSw; (try dsimp only at hSw); go_simp; (try rw [if_pos (by omega)])); (try rfl); (try dsimp only [Act.put]))
        (refine tk 8 (v := ?_) ?_ hS9 ?_; rotate_left 1; (intro w' hSw; (try dsimp only at hSw); go_simp; (try rw [if_pos (by omega)])); (try rfl); (try dsimp only [Act.put]))
        (refine tk 9 (v := ?_) ?_ hS9 ?_; rotate_left 1; (intro w' hSw; (try dsimp only at hSw); go_simp; (try rw [if_pos (by omega)])); (try rfl); (try dsimp only [Act.put]))
        (refine tk 10 (v := ?_) ?_ hS9 ?_; rotate_left 1; (intro w' hSw; (try dsimp only at hSw); go_simp; (try rw [if_pos (by omega)])); (try rfl); (try dsimp only [Act.put]))
        (refine tk 11 (v := ?_) ?_ hS9 ?_; rotate_left 1; (intro w' hSw; (try dsimp only at hSw); go_simp; (try rw [if_pos (by omega)])); (try rfl); (try dsimp only [Act.put]))
        (refine tk 12 (v := ?_) ?_ hS9 ?_; rotate_left 1; (intro w' hSw; (try dsimp only at hSw); go_simp; (try rw [if_pos (by omega)])); (try rfl); (try dsimp only [Act.put]))
        (refine tk 13 (v := ?_) ?_ hS9 ?_; rotate_left 1; (intro w' hSw; (try dsimp only at hSw); go_simp; (try rw [if_pos (by omega)])); (try rfl); (try dsimp only [Act.put]))
        (refine tk 14 (v := ?_) ?_ hS9 ?_; rotate_left 1; (intro w' hSw; (try dsimp only at hSw); go_simp; (try rw [if_pos (by omega)])); (try rfl); (try dsimp only [Act.put]))
        (refine tk 15 (v := ?_) ?_ hS9 ?_; rotate_left 1; (intro w' hSw; (try dsimp only at hSw); go_simp; (try rw [if_pos (by omega)])); (try rfl); (try dsimp only [Act.put]))
        (refine tk 16 (v := ?_) ?_ hS9 ?_; rotate_left 1; (intro w' hSw; (try dsimp only at hSw); go_simp; (try rw [if_pos (by omega)])); (try rfl); (try dsimp only [Act.put]))
        (refine tk 17 (v := ?_) ?_ hS9 ?_; rotate_left 1; (intro w' hSw; (try dsimp only at hSw); go_simp; (try rw [if_pos (by omega)])); (try rfl); (try dsimp only [Act.put]))
        (refine tk 18 (v := ?_) ?_ hS9 ?_; rotate_left 1; (intro w' hSw; (try dsimp only at hSw); go_simp; (try rw [if_pos (by omega)])); (try rfl); (try dsimp only [Act.put]))
        (refine tk 19 (v := ?_) ?_ hS9 ?_; rotate_left 1; (intro w' hSw; (try dsimp only at hSw); go_simp; (try rw [if_pos (by omega)])); (try rfl); (try dsimp only [Act.put]))
        (refine tk 21 (v := ?_) ?_ hS9 ?_; rotate_left 1; (intro w' hSw; (try dsimp only at hSw); go_simp; (try rw [if_pos (by omega)])); (try rfl); (try dsimp only [Act.put]))
        (refine tk 22 (v := ?_) ?_ hS9 ?_; rotate_left 1; (intro w' hSw; (try dsimp only at hSw); go_simp; (try rw [if_pos (by omega)])); (try rfl); (try dsimp only [Act.put]))
        (refine tk 23 (v := ?_) ?_ hS9 ?_; rotate_left 1; (intro w' hSw; (try dsimp only at hSw); go_simp; (try rw [if_pos (by omega)])); (try rfl); (try dsimp only [Act.put]))
        (refine tk 24 (v := ?_) ?_ hS9 ?_; rotate_left 1; (intro w' hSw; (try dsimp only at hSw); go_simp; (try rw [if_pos (by omega)])); (try rfl); (try dsimp only [Act.put]))
        (refine tk 25 (v := ?_) ?_ hS9 ?_; rotate_left 1; (intro w' hSw; (try dsimp only at hSw); go_simp; (try rw [if_pos (by omega)])); (try rfl); (try dsimp only [Act.put]))
        (refine tk 27 (v := ?_) ?_ hS9 ?_; rotate_left 1; (intro w' hSw; (try dsimp only at hSw); go_simp; (try rw [if_pos (by omega)])); (try rfl); (try dsimp only [Act.put]))
        (refine tk 28 (v := ?_) ?_ hS9 ?_; rotate_left 1; (intro w' hSw; (try dsimp only at hSw); go_simp; (try rw [if_pos (by omega)])); (try rfl); (try dsimp only [Act.put]))
        (refine tk 29 (v := ?_) ?_ hS9 ?_; rotate_left 1; (intro w' hSw; (try dsimp only at hSw); go_simp; (try rw [if_pos (by omega)])); (try rfl); (try dsimp only [Act.put]))
        (refine tk 30 (v := ?_) ?_ hS9 ?_; rotate_left 1; (intro w' hSw; (try dsimp only at hSw); go_simp; (try rw [if_pos (by omega)])); (try rfl); (try dsimp only [Act.put]))
        (refine tk 31 (v := ?_) ?_ hS9 ?_; rotate_left 1; (intro w' hSw; (try dsimp only at hSw); go_simp; (try rw [if_pos (by omega)])); (try rfl); (try dsimp only [Act.put]))
        refine wpAnyH_two (j := 20) (k := 34) (by kernel_rfl) ?_ ?_
        · skip
          have HC0 := hide (hH.a wd xa ca (ha.bel Bd))
          skip
          unfold wpOp
          go_simp
          refine Or.inl (HC0.out.mono ?_)
          rintro e' w3 ⟨hb3, x3, c3, rfl, hr3⟩
          have R3 := Rd0.trans (hb3.mono Rd0.size)
          have B3 := hB.trans (R3.mono hB.size)
          have hS9 : w3.cell? ⟨b, off + i * 7, none⟩ = some (.string (bs e.kind)) ∧ w3.cell? ⟨b, off + i * 7 + 1, none⟩ = some (.string (bs e.name)) ∧ w3.cell? ⟨b, off + i * 7 + 2, none⟩ = some (.string (bs e.proc)) ∧ w3.cell? ⟨b, off + i * 7 + 3, none⟩ = some (.slice xa e.args.length ca) ∧ w3.cell? ⟨b, off + i * 7 + 5, none⟩ = some (.slice xb e.body.length cb) ∧ w3.cell? ⟨b, off + i * 7 + 6, none⟩ = some (.slice xe e.els.length ce) := ⟨(B3.cell hlt).trans k0, (B3.cell hlt).trans k1, (B3.cell hlt).trans k2, (B3.cell hlt).trans k3, (B3.cell hlt).trans k5, (B3.cell hlt).trans k6⟩
          clear HC0
          have hr3 : RowAt exVals 4 w3 (fun b => wo.heap.size ≤ b) x3 _ := hr3.keep exVals_keeps (Nat.le_refl _) (fun _ _ _ => rfl) (fun b k _ => by have k : wd.heap.size ≤ b := k; have := Rd0.size; show wo.heap.size ≤ b; omega)
          refine ⟨hS9, ?_⟩
          refine wpAnyH_two (j := 26) (k := 34) (by kernel_rfl) ?_ ?_
          · skip
            have HC1 := hide (hH.b w3 xb cb (hbd.keep B3.size (fun b _ hlt => B3.block b hlt) (fun _ _ _ => trivial)))
            skip
            unfold wpOp
            go_simp
            refine Or.inl (HC1.out.mono ?_)
            rintro e' w4 ⟨hb4, x4, c4, rfl, hr4⟩
            have R4 := R3.trans (hb4.mono R3.size)
            have B4 := hB.trans (R4.mono hB.size)
            have hS9 : w4.cell? ⟨b, off + i * 7, none⟩ = some (.string (bs e.kind)) ∧ w4.cell? ⟨b, off + i * 7 + 1, none⟩ = some (.string (bs e.name)) ∧ w4.cell? ⟨b, off + i * 7 + 2, none⟩ = some (.string (bs e.proc)) ∧ w4.cell? ⟨b, off + i * 7 + 3, none⟩ = some (.slice xa e.args.length ca) ∧ w4.cell? ⟨b, off + i * 7 + 5, none⟩ = some (.slice xb e.body.length cb) ∧ w4.cell? ⟨b, off + i * 7 + 6, none⟩ = some (.slice xe e.els.length ce) := ⟨(B4.cell hlt).trans k0, (B4.cell hlt).trans k1, (B4.cell hlt).trans k2, (B4.cell hlt).trans k3, (B4.cell hlt).trans k5, (B4.cell hlt).trans k6⟩
            clear HC1
            have hr3 := hr3.keep exVals_keeps hb4.size (fun b _ hlt => hb4.block b hlt) (fun b k _ => k)
            have hr4 : RowAt stVals 7 w4 (fun b => wo.heap.size ≤ b) x4 _ := hr4.keep stVals_keeps (Nat.le_refl _) (fun _ _ _ => rfl) (fun b k _ => by have k : w3.heap.size ≤ b := k; have := R3.size; show wo.heap.size ≤ b; omega)
            refine ⟨hS9, ?_⟩
            refine wpAnyH_two (j := 32) (k := 34) (by kernel_rfl) ?_ ?_
            · skip
              have HC2 := hide (hH.e w4 xe ce (hel.keep B4.size (fun b _ hlt => B4.block b hlt) (fun _ _ _ => trivial)))
              skip
              unfold wpOp
              go_simp
              refine Or.inl (HC2.out.mono ?_)
              rintro e' w5 ⟨hb5, x5, c5, rfl, hr5⟩
              have R5 := R4.trans (hb5.mono R4.size)
              have B5 := hB.trans (R5.mono hB.size)
              have hS9 : w5.cell? ⟨b, off + i * 7, none⟩ = some (.string (bs e.kind)) ∧ w5.cell? ⟨b, off + i * 7 + 1, none⟩ = some (.string (bs e.name)) ∧ w5.cell? ⟨b, off + i * 7 + 2, none⟩ = some (.string (bs e.proc)) ∧ w5.cell? ⟨b, off + i * 7 + 3, none⟩ = some (.slice xa e.args.length ca) ∧ w5.cell? ⟨b, off + i * 7 + 5, none⟩ = some (.slice xb e.body.length cb) ∧ w5.cell? ⟨b, off + i * 7 + 6, none⟩ = some (.slice xe e.els.length ce) := ⟨(B5.cell hlt).trans k0, (B5.cell hlt).trans k1, (B5.cell hlt).trans k2, (B5.cell hlt).trans k3, (B5.cell hlt).trans k5, (B5.cell hlt).trans k6⟩
              clear HC2
              have hr3 := hr3.keep exVals_keeps hb5.size (fun b _ hlt => hb5.block b hlt) (fun b k _ => k)
              have hr4 := hr4.keep stVals_keeps hb5.size (fun b _ hlt => hb5.block b hlt) (fun b k _ => k)
              have hr5 : RowAt stVals 7 w5 (fun b => wo.heap.size ≤ b) x5 _ := hr5.keep stVals_keeps (Nat.le_refl _) (fun _ _ _ => rfl) (fun b k _ => by have k : w4.heap.size ≤ b := k; have := R4.size; show wo.heap.size ≤ b; omega)
              refine ⟨hS9, ?_⟩
              (refine tk 33 (v := ?_) ?_ hS9 ?_; rotate_left 1; (intro w' hSw; (try dsimp only at hSw); go_simp; (try rw [if_pos (by omega)])); (try rfl); (try dsimp only [Act.put]))
              refine wpAnyH_one (k := 34) (by kernel_rfl) ?_
              unfold wpOp
              go_simp
              have hbA := (Below.refl w5.heap.size w5).alloc (Nat.le_refl _) (.cells #[.string ⟨#[]⟩, .string ⟨#[]⟩, .string ⟨#[]⟩, .slice none 0 0, .slice none 0 0, .slice none 0 0, .slice none 0 0] 177)
              have Bq : BoxN (w5.alloc (.cells #[.string ⟨#[]⟩, .string ⟨#[]⟩, .string ⟨#[]⟩, .slice none 0 0, .slice none 0 0, .slice none 0 0, .slice none 0 0] 177)) w5.heap.size [.string ⟨#[]⟩, .string ⟨#[]⟩, .string ⟨#[]⟩, .slice none 0 0, .slice none 0 0, .slice none 0 0, .slice none 0 0] := BoxN.new w5 177 [.string ⟨#[]⟩, .string ⟨#[]⟩, .string ⟨#[]⟩, .slice none 0 0, .slice none 0 0, .slice none 0 0, .slice none 0 0]
              have RA := R5.trans (hbA.mono R5.size)
              have hr3 : RowAt exVals 4 (w5.alloc (.cells #[.string ⟨#[]⟩, .string ⟨#[]⟩, .string ⟨#[]⟩, .slice none 0 0, .slice none 0 0, .slice none 0 0, .slice none 0 0] 177)) (fun b => wo.heap.size ≤ b ∧ b ≠ w5.heap.size) x3 _ := hr3.keep exVals_keeps hbA.size (fun b _ hlt => hbA.block b hlt) (fun b k hlt => ⟨k, by omega⟩)
              have hr4 : RowAt stVals 7 (w5.alloc (.cells #[.string ⟨#[]⟩, .string ⟨#[]⟩, .string ⟨#[]⟩, .slice none 0 0, .slice none 0 0, .slice none 0 0, .slice none 0 0] 177)) (fun b => wo.heap.size ≤ b ∧ b ≠ w5.heap.size) x4 _ := hr4.keep stVals_keeps hbA.size (fun b _ hlt => hbA.block b hlt) (fun b k hlt => ⟨k, by omega⟩)
              have hr5 : RowAt stVals 7 (w5.alloc (.cells #[.string ⟨#[]⟩, .string ⟨#[]⟩, .string ⟨#[]⟩, .slice none 0 0, .slice none 0 0, .slice none 0 0, .slice none 0 0] 177)) (fun b => wo.heap.size ≤ b ∧ b ≠ w5.heap.size) x5 _ := hr5.keep stVals_keeps hbA.size (fun b _ hlt => hbA.block b hlt) (fun b k hlt => ⟨k, by omega⟩)
              have hqg : wo.heap.size ≤ w5.heap.size := R5.size
              obtain ⟨WA, hWA⟩ : ∃ X, X = w5.alloc (.cells #[.string ⟨#[]⟩, .string ⟨#[]⟩, .string ⟨#[]⟩, .slice none 0 0, .slice none 0 0, .slice none 0 0, .slice none 0 0] 177) := ⟨_, rfl⟩
              rw [← hWA] at hbA Bq RA hr3 hr4 hr5 ⊢
              clear hWA
              have BA := hB.trans (RA.mono hB.size)
              have hS9 : WA.cell? ⟨b, off + i * 7, none⟩ = some (.string (bs e.kind)) ∧ WA.cell? ⟨b, off + i * 7 + 1, none⟩ = some (.string (bs e.name)) ∧ WA.cell? ⟨b, off + i * 7 + 2, none⟩ = some (.string (bs e.proc)) ∧ WA.cell? ⟨b, off + i * 7 + 3, none⟩ = some (.slice xa e.args.length ca) ∧ WA.cell? ⟨b, off + i * 7 + 5, none⟩ = some (.slice xb e.body.length cb) ∧ WA.cell? ⟨b, off + i * 7 + 6, none⟩ = some (.slice xe e.els.length ce) := ⟨(BA.cell hlt).trans k0, (BA.cell hlt).trans k1, (BA.cell hlt).trans k2, (BA.cell hlt).trans k3, (BA.cell hlt).trans k5, (BA.cell hlt).trans k6⟩
              refine Or.inl ⟨hS9, ?_⟩
              obtain ⟨q, hq⟩ : ∃ q, q = w5.heap.size := ⟨_, rfl⟩
              rw [← hq] at Bq hqg hr3 hr4 hr5 ⊢
              clear hq
              have fin := StBx.mk' (c3 := c3) (c4 := c4) (c5 := c5) Bq hqg hr3 hr4 hr5 RA
              have p0 := Bq.cell 0 _ rfl
              have p1 := Bq.cell 1 _ rfl
              have p2 := Bq.cell 2 _ rfl
              have p3 := Bq.cell 3 _ rfl
              have p4 := Bq.cell 4 _ rfl
              have p5 := Bq.cell 5 _ rfl
              have p6 := Bq.cell 6 _ rfl
              have f0 := Bq.fr 0
              have f1 := Bq.fr 1
              have f2 := Bq.fr 2
              have f3 := Bq.fr 3
              have f4 := Bq.fr 4
              have f5 := Bq.fr 5
              have f6 := Bq.fr 6
              have hbq : b ≠ q := fun e => by have := szw; omega
              refine wpAnyH_one (k := 35) (by kernel_rfl) ?_
              unfold wpOp
              go_simp
              refine Or.inl ⟨by kernel_rfl, ?_⟩
              refine HMK.out _ _ (Met.intro (HRJ.out _ _ ?_))
              (repeat apply Exists.intro)
              refine ⟨?rel, rfl⟩
              case rel => exact ⟨q, x3, c3, x4, c4, x5, c5, _, rfl, fin⟩
            · skip
              skip
              unfold wpOp
              go_simp
              have hbA := (Below.refl w4.heap.size w4).alloc (Nat.le_refl _) (.cells #[.string ⟨#[]⟩, .string ⟨#[]⟩, .string ⟨#[]⟩, .slice none 0 0, .slice none 0 0, .slice none 0 0, .slice none 0 0] 177)
              have Bq : BoxN (w4.alloc (.cells #[.string ⟨#[]⟩, .string ⟨#[]⟩, .string ⟨#[]⟩, .slice none 0 0, .slice none 0 0, .slice none 0 0, .slice none 0 0] 177)) w4.heap.size [.string ⟨#[]⟩, .string ⟨#[]⟩, .string ⟨#[]⟩, .slice none 0 0, .slice none 0 0, .slice none 0 0, .slice none 0 0] := BoxN.new w4 177 [.string ⟨#[]⟩, .string ⟨#[]⟩, .string ⟨#[]⟩, .slice none 0 0, .slice none 0 0, .slice none 0 0, .slice none 0 0]
              have RA := R4.trans (hbA.mono R4.size)
              have hr3 : RowAt exVals 4 (w4.alloc (.cells #[.string ⟨#[]⟩, .string ⟨#[]⟩, .string ⟨#[]⟩, .slice none 0 0, .slice none 0 0, .slice none 0 0, .slice none 0 0] 177)) (fun b => wo.heap.size ≤ b ∧ b ≠ w4.heap.size) x3 _ := hr3.keep exVals_keeps hbA.size (fun b _ hlt => hbA.block b hlt) (fun b k hlt => ⟨k, by omega⟩)
              have hr4 : RowAt stVals 7 (w4.alloc (.cells #[.string ⟨#[]⟩, .string ⟨#[]⟩, .string ⟨#[]⟩, .slice none 0 0, .slice none 0 0, .slice none 0 0, .slice none 0 0] 177)) (fun b => wo.heap.size ≤ b ∧ b ≠ w4.heap.size) x4 _ := hr4.keep stVals_keeps hbA.size (fun b _ hlt => hbA.block b hlt) (fun b k hlt => ⟨k, by omega⟩)
              have hqg : wo.heap.size ≤ w4.heap.size := R4.size
              obtain ⟨WA, hWA⟩ : ∃ X, X = w4.alloc (.cells #[.string ⟨#[]⟩, .string ⟨#[]⟩, .string ⟨#[]⟩, .slice none 0 0, .slice none 0 0, .slice none 0 0, .slice none 0 0] 177) := ⟨_, rfl⟩
              rw [← hWA] at hbA Bq RA hr3 hr4 ⊢
              clear hWA
              have BA := hB.trans (RA.mono hB.size)
              have hS9 : WA.cell? ⟨b, off + i * 7, none⟩ = some (.string (bs e.kind)) ∧ WA.cell? ⟨b, off + i * 7 + 1, none⟩ = some (.string (bs e.name)) ∧ WA.cell? ⟨b, off + i * 7 + 2, none⟩ = some (.string (bs e.proc)) ∧ WA.cell? ⟨b, off + i * 7 + 3, none⟩ = some (.slice xa e.args.length ca) ∧ WA.cell? ⟨b, off + i * 7 + 5, none⟩ = some (.slice xb e.body.length cb) ∧ WA.cell? ⟨b, off + i * 7 + 6, none⟩ = some (.slice xe e.els.length ce) := ⟨(BA.cell hlt).trans k0, (BA.cell hlt).trans k1, (BA.cell hlt).trans k2, (BA.cell hlt).trans k3, (BA.cell hlt).trans k5, (BA.cell hlt).trans k6⟩
              refine Or.inl ⟨hS9, ?_⟩
              obtain ⟨q, hq⟩ : ∃ q, q = w4.heap.size := ⟨_, rfl⟩
              rw [← hq] at Bq hqg hr3 hr4 ⊢
              clear hq
              have HC2 := hide (hH.e WA xe ce (hel.keep BA.size (fun b _ hlt => BA.block b hlt) (fun _ _ _ => trivial)))
              refine wpAnyH_one (k := 32) (by kernel_rfl) ?_
              unfold wpOp
              go_simp
              refine Or.inl (HC2.out.mono ?_)
              rintro e' w5 ⟨hb5, x5, c5, rfl, hr5⟩
              have R5 := RA.trans (hb5.mono RA.size)
              have B5 := hB.trans (R5.mono hB.size)
              have hS9 : w5.cell? ⟨b, off + i * 7, none⟩ = some (.string (bs e.kind)) ∧ w5.cell? ⟨b, off + i * 7 + 1, none⟩ = some (.string (bs e.name)) ∧ w5.cell? ⟨b, off + i * 7 + 2, none⟩ = some (.string (bs e.proc)) ∧ w5.cell? ⟨b, off + i * 7 + 3, none⟩ = some (.slice xa e.args.length ca) ∧ w5.cell? ⟨b, off + i * 7 + 5, none⟩ = some (.slice xb e.body.length cb) ∧ w5.cell? ⟨b, off + i * 7 + 6, none⟩ = some (.slice xe e.els.length ce) := ⟨(B5.cell hlt).trans k0, (B5.cell hlt).trans k1, (B5.cell hlt).trans k2, (B5.cell hlt).trans k3, (B5.cell hlt).trans k5, (B5.cell hlt).trans k6⟩
              clear HC2
              have hr3 := hr3.keep exVals_keeps hb5.size (fun b _ hlt => hb5.block b hlt) (fun b k _ => k)
              have hr4 := hr4.keep stVals_keeps hb5.size (fun b _ hlt => hb5.block b hlt) (fun b k _ => k)
              have hr5 : RowAt stVals 7 w5 (fun b => wo.heap.size ≤ b ∧ b ≠ q) x5 _ := hr5.keep stVals_keeps (Nat.le_refl _) (fun _ _ _ => rfl) (fun b k _ => by have k : WA.heap.size ≤ b := k; have := RA.size; have := Bq.lt; exact ⟨by omega, by omega⟩)
              have Bq := Bq.bel hb5
              refine ⟨hS9, ?_⟩
              (refine tk 33 (v := ?_) ?_ hS9 ?_; rotate_left 1; (intro w' hSw; (try dsimp only at hSw); go_simp; (try rw [if_pos (by omega)])); (try rfl); (try dsimp only [Act.put]))
              have fin := StBx.mk' (c3 := c3) (c4 := c4) (c5 := c5) Bq hqg hr3 hr4 hr5 R5
              have p0 := Bq.cell 0 _ rfl
              have p1 := Bq.cell 1 _ rfl
              have p2 := Bq.cell 2 _ rfl
              have p3 := Bq.cell 3 _ rfl
              have p4 := Bq.cell 4 _ rfl
              have p5 := Bq.cell 5 _ rfl
              have p6 := Bq.cell 6 _ rfl
              have f0 := Bq.fr 0
              have f1 := Bq.fr 1
              have f2 := Bq.fr 2
              have f3 := Bq.fr 3
              have f4 := Bq.fr 4
              have f5 := Bq.fr 5
              have f6 := Bq.fr 6
              have hbq : b ≠ q := fun e => by have := szw; omega
              refine wpAnyH_one (k := 35) (by kernel_rfl) ?_
              unfold wpOp
              go_simp
              refine Or.inl ⟨by kernel_rfl, ?_⟩
              refine HMK.out _ _ (Met.intro (HRJ.out _ _ ?_))
              (repeat apply Exists.intro)
              refine ⟨?rel, rfl⟩
              case rel => exact ⟨q, x3, c3, x4, c4, x5, c5, _, rfl, fin⟩
          · skip
            skip
            unfold wpOp
            go_simp
            have hbA := (Below.refl w3.heap.size w3).alloc (Nat.le_refl _) (.cells #[.string ⟨#[]⟩, .string ⟨#[]⟩, .string ⟨#[]⟩, .slice none 0 0, .slice none 0 0, .slice none 0 0, .slice none 0 0] 177)
            have Bq : BoxN (w3.alloc (.cells #[.string ⟨#[]⟩, .string ⟨#[]⟩, .string ⟨#[]⟩, .slice none 0 0, .slice none 0 0, .slice none 0 0, .slice none 0 0] 177)) w3.heap.size [.string ⟨#[]⟩, .string ⟨#[]⟩, .string ⟨#[]⟩, .slice none 0 0, .slice none 0 0, .slice none 0 0, .slice none 0 0] := BoxN.new w3 177 [.string ⟨#[]⟩, .string ⟨#[]⟩, .string ⟨#[]⟩, .slice none 0 0, .slice none 0 0, .slice none 0 0, .slice none 0 0]
            have RA := R3.trans (hbA.mono R3.size)
            have hr3 : RowAt exVals 4 (w3.alloc (.cells #[.string ⟨#[]⟩, .string ⟨#[]⟩, .string ⟨#[]⟩, .slice none 0 0, .slice none 0 0, .slice none 0 0, .slice none 0 0] 177)) (fun b => wo.heap.size ≤ b ∧ b ≠ w3.heap.size) x3 _ := hr3.keep exVals_keeps hbA.size (fun b _ hlt => hbA.block b hlt) (fun b k hlt => ⟨k, by omega⟩)
            have hqg : wo.heap.size ≤ w3.heap.size := R3.size
            obtain ⟨WA, hWA⟩ : ∃ X, X = w3.alloc (.cells #[.string ⟨#[]⟩, .string ⟨#[]⟩, .string ⟨#[]⟩, .slice none 0 0, .slice none 0 0, .slice none 0 0, .slice none 0 0] 177) := ⟨_, rfl⟩
            rw [← hWA] at hbA Bq RA hr3 ⊢
            clear hWA
            have BA := hB.trans (RA.mono hB.size)
            have hS9 : WA.cell? ⟨b, off + i * 7, none⟩ = some (.string (bs e.kind)) ∧ WA.cell? ⟨b, off + i * 7 + 1, none⟩ = some (.string (bs e.name)) ∧ WA.cell? ⟨b, off + i * 7 + 2, none⟩ = some (.string (bs e.proc)) ∧ WA.cell? ⟨b, off + i * 7 + 3, none⟩ = some (.slice xa e.args.length ca) ∧ WA.cell? ⟨b, off + i * 7 + 5, none⟩ = some (.slice xb e.body.length cb) ∧ WA.cell? ⟨b, off + i * 7 + 6, none⟩ = some (.slice xe e.els.length ce) := ⟨(BA.cell hlt).trans k0, (BA.cell hlt).trans k1, (BA.cell hlt).trans k2, (BA.cell hlt).trans k3, (BA.cell hlt).trans k5, (BA.cell hlt).trans k6⟩
            refine Or.inl ⟨hS9, ?_⟩
            obtain ⟨q, hq⟩ : ∃ q, q = w3.heap.size := ⟨_, rfl⟩
            rw [← hq] at Bq hqg hr3 ⊢
            clear hq
            have HC1 := hide (hH.b WA xb cb (hbd.keep BA.size (fun b _ hlt => BA.block b hlt) (fun _ _ _ => trivial)))
            refine wpAnyH_one (k := 26) (by kernel_rfl) ?_
            unfold wpOp
            go_simp
            refine Or.inl (HC1.out.mono ?_)
            rintro e' w4 ⟨hb4, x4, c4, rfl, hr4⟩
            have R4 := RA.trans (hb4.mono RA.size)
            have B4 := hB.trans (R4.mono hB.size)
            have hS9 : w4.cell? ⟨b, off + i * 7, none⟩ = some (.string (bs e.kind)) ∧ w4.cell? ⟨b, off + i * 7 + 1, none⟩ = some (.string (bs e.name)) ∧ w4.cell? ⟨b, off + i * 7 + 2, none⟩ = some (.string (bs e.proc)) ∧ w4.cell? ⟨b, off + i * 7 + 3, none⟩ = some (.slice xa e.args.length ca) ∧ w4.cell? ⟨b, off + i * 7 + 5, none⟩ = some (.slice xb e.body.length cb) ∧ w4.cell? ⟨b, off + i * 7 + 6, none⟩ = some (.slice xe e.els.length ce) := ⟨(B4.cell hlt).trans k0, (B4.cell hlt).trans k1, (B4.cell hlt).trans k2, (B4.cell hlt).trans k3, (B4.cell hlt).trans k5, (B4.cell hlt).trans k6⟩
            clear HC1
            have hr3 := hr3.keep exVals_keeps hb4.size (fun b _ hlt => hb4.block b hlt) (fun b k _ => k)
            have hr4 : RowAt stVals 7 w4 (fun b => wo.heap.size ≤ b ∧ b ≠ q) x4 _ := hr4.keep stVals_keeps (Nat.le_refl _) (fun _ _ _ => rfl) (fun b k _ => by have k : WA.heap.size ≤ b := k; have := RA.size; have := Bq.lt; exact ⟨by omega, by omega⟩)
            have Bq := Bq.bel hb4
            refine ⟨hS9, ?_⟩
            have HC2 := hide (hH.e w4 xe ce (hel.keep B4.size (fun b _ hlt => B4.block b hlt) (fun _ _ _ => trivial)))
            refine wpAnyH_one (k := 32) (by kernel_rfl) ?_
            unfold wpOp
            go_simp
            refine Or.inl (HC2.out.mono ?_)
            rintro e' w5 ⟨hb5, x5, c5, rfl, hr5⟩
            have R5 := R4.trans (hb5.mono R4.size)
            have B5 := hB.trans (R5.mono hB.size)
            have hS9 : w5.cell? ⟨b, off + i * 7, none⟩ = some (.string (bs e.kind)) ∧ w5.cell? ⟨b, off + i * 7 + 1, none⟩ = some (.string (bs e.name)) ∧ w5.cell? ⟨b, off + i * 7 + 2, none⟩ = some (.string (bs e.proc)) ∧ w5.cell? ⟨b, off + i * 7 + 3, none⟩ = some (.slice xa e.args.length ca) ∧ w5.cell? ⟨b, off + i * 7 + 5, none⟩ = some (.slice xb e.body.length cb) ∧ w5.cell? ⟨b, off + i * 7 + 6, none⟩ = some (.slice xe e.els.length ce) := ⟨(B5.cell hlt).trans k0, (B5.cell hlt).trans k1, (B5.cell hlt).trans k2, (B5.cell hlt).trans k3, (B5.cell hlt).trans k5, (B5.cell hlt).trans k6⟩
            clear HC2
            have hr3 := hr3.keep exVals_keeps hb5.size (fun b _ hlt => hb5.block b hlt) (fun b k _ => k)
            have hr4 := hr4.keep stVals_keeps hb5.size (fun b _ hlt => hb5.block b hlt) (fun b k _ => k)
            have hr5 : RowAt stVals 7 w5 (fun b => wo.heap.size ≤ b ∧ b ≠ q) x5 _ := hr5.keep stVals_keeps (Nat.le_refl _) (fun _ _ _ => rfl) (fun b k _ => by have k : w4.heap.size ≤ b := k; have := R4.size; have := Bq.lt; exact ⟨by omega, by omega⟩)
            have Bq := Bq.bel hb5
            refine ⟨hS9, ?_⟩
            (refine tk 33 (v := ?_) ?_ hS9 ?_; rotate_left 1; (intro w' hSw; (try dsimp only at hSw); go_simp; (try rw [if_pos (by omega)])); (try rfl); (try dsimp only [Act.put]))
            have fin := StBx.mk' (c3 := c3) (c4 := c4) (c5 := c5) Bq hqg hr3 hr4 hr5 R5
            have p0 := Bq.cell 0 _ rfl
            have p1 := Bq.cell 1 _ rfl
            have p2 := Bq.cell 2 _ rfl
            have p3 := Bq.cell 3 _ rfl
            have p4 := Bq.cell 4 _ rfl
            have p5 := Bq.cell 5 _ rfl
            have p6 := Bq.cell 6 _ rfl
            have f0 := Bq.fr 0
            have f1 := Bq.fr 1
            have f2 := Bq.fr 2
            have f3 := Bq.fr 3
            have f4 := Bq.fr 4
            have f5 := Bq.fr 5
            have f6 := Bq.fr 6
            have hbq : b ≠ q := fun e => by have := szw; omega
            refine wpAnyH_one (k := 35) (by kernel_rfl) ?_
            unfold wpOp
            go_simp
            refine Or.inl ⟨by kernel_rfl, ?_⟩
            refine HMK.out _ _ (Met.intro (HRJ.out _ _ ?_))
            (repeat apply Exists.intro)
            refine ⟨?rel, rfl⟩
            case rel => exact ⟨q, x3, c3, x4, c4, x5, c5, _, rfl, fin⟩
        · skip
          skip
          unfold wpOp
          go_simp
          have hbA := (Below.refl wd.heap.size wd).alloc (Nat.le_refl _) (.cells #[.string ⟨#[]⟩, .string ⟨#[]⟩, .string ⟨#[]⟩, .slice none 0 0, .slice none 0 0, .slice none 0 0, .slice none 0 0] 177)
          have Bq : BoxN (wd.alloc (.cells #[.string ⟨#[]⟩, .string ⟨#[]⟩, .string ⟨#[]⟩, .slice none 0 0, .slice none 0 0, .slice none 0 0, .slice none 0 0] 177)) wd.heap.size [.string ⟨#[]⟩, .string ⟨#[]⟩, .string ⟨#[]⟩, .slice none 0 0, .slice none 0 0, .slice none 0 0, .slice none 0 0] := BoxN.new wd 177 [.string ⟨#[]⟩, .string ⟨#[]⟩, .string ⟨#[]⟩, .slice none 0 0, .slice none 0 0, .slice none 0 0, .slice none 0 0]
          have RA := Rd0.trans (hbA.mono Rd0.size)
          have hqg : wo.heap.size ≤ wd.heap.size := Rd0.size
          obtain ⟨WA, hWA⟩ : ∃ X, X = wd.alloc (.cells #[.string ⟨#[]⟩, .string ⟨#[]⟩, .string ⟨#[]⟩, .slice none 0 0, .slice none 0 0, .slice none 0 0, .slice none 0 0] 177) := ⟨_, rfl⟩
          rw [← hWA] at hbA Bq RA  ⊢
          clear hWA
          have BA := hB.trans (RA.mono hB.size)
          have hS9 : WA.cell? ⟨b, off + i * 7, none⟩ = some (.string (bs e.kind)) ∧ WA.cell? ⟨b, off + i * 7 + 1, none⟩ = some (.string (bs e.name)) ∧ WA.cell? ⟨b, off + i * 7 + 2, none⟩ = some (.string (bs e.proc)) ∧ WA.cell? ⟨b, off + i * 7 + 3, none⟩ = some (.slice xa e.args.length ca) ∧ WA.cell? ⟨b, off + i * 7 + 5, none⟩ = some (.slice xb e.body.length cb) ∧ WA.cell? ⟨b, off + i * 7 + 6, none⟩ = some (.slice xe e.els.length ce) := ⟨(BA.cell hlt).trans k0, (BA.cell hlt).trans k1, (BA.cell hlt).trans k2, (BA.cell hlt).trans k3, (BA.cell hlt).trans k5, (BA.cell hlt).trans k6⟩
          refine Or.inl ⟨hS9, ?_⟩
          obtain ⟨q, hq⟩ : ∃ q, q = wd.heap.size := ⟨_, rfl⟩
          rw [← hq] at Bq hqg  ⊢
          clear hq
          have HC0 := hide (hH.a WA xa ca (ha.bel BA))
          refine wpAnyH_one (k := 20) (by kernel_rfl) ?_
          unfold wpOp
          go_simp
          refine Or.inl (HC0.out.mono ?_)
          rintro e' w3 ⟨hb3, x3, c3, rfl, hr3⟩
          have R3 := RA.trans (hb3.mono RA.size)
          have B3 := hB.trans (R3.mono hB.size)
          have hS9 : w3.cell? ⟨b, off + i * 7, none⟩ = some (.string (bs e.kind)) ∧ w3.cell? ⟨b, off + i * 7 + 1, none⟩ = some (.string (bs e.name)) ∧ w3.cell? ⟨b, off + i * 7 + 2, none⟩ = some (.string (bs e.proc)) ∧ w3.cell? ⟨b, off + i * 7 + 3, none⟩ = some (.slice xa e.args.length ca) ∧ w3.cell? ⟨b, off + i * 7 + 5, none⟩ = some (.slice xb e.body.length cb) ∧ w3.cell? ⟨b, off + i * 7 + 6, none⟩ = some (.slice xe e.els.length ce) := ⟨(B3.cell hlt).trans k0, (B3.cell hlt).trans k1, (B3.cell hlt).trans k2, (B3.cell hlt).trans k3, (B3.cell hlt).trans k5, (B3.cell hlt).trans k6⟩
          clear HC0
          have hr3 : RowAt exVals 4 w3 (fun b => wo.heap.size ≤ b ∧ b ≠ q) x3 _ := hr3.keep exVals_keeps (Nat.le_refl _) (fun _ _ _ => rfl) (fun b k _ => by have k : WA.heap.size ≤ b := k; have := RA.size; have := Bq.lt; exact ⟨by omega, by omega⟩)
          have Bq := Bq.bel hb3
          refine ⟨hS9, ?_⟩
          have HC1 := hide (hH.b w3 xb cb (hbd.keep B3.size (fun b _ hlt => B3.block b hlt) (fun _ _ _ => trivial)))
          refine wpAnyH_one (k := 26) (by kernel_rfl) ?_
          unfold wpOp
          go_simp
          refine Or.inl (HC1.out.mono ?_)
          rintro e' w4 ⟨hb4, x4, c4, rfl, hr4⟩
          have R4 := R3.trans (hb4.mono R3.size)
          have B4 := hB.trans (R4.mono hB.size)
          have hS9 : w4.cell? ⟨b, off + i * 7, none⟩ = some (.string (bs e.kind)) ∧ w4.cell? ⟨b, off + i * 7 + 1, none⟩ = some (.string (bs e.name)) ∧ w4.cell? ⟨b, off + i * 7 + 2, none⟩ = some (.string (bs e.proc)) ∧ w4.cell? ⟨b, off + i * 7 + 3, none⟩ = some (.slice xa e.args.length ca) ∧ w4.cell? ⟨b, off + i * 7 + 5, none⟩ = some (.slice xb e.body.length cb) ∧ w4.cell? ⟨b, off + i * 7 + 6, none⟩ = some (.slice xe e.els.length ce) := ⟨(B4.cell hlt).trans k0, (B4.cell hlt).trans k1, (B4.cell hlt).trans k2, (B4.cell hlt).trans k3, (B4.cell hlt).trans k5, (B4.cell hlt).trans k6⟩
          clear HC1
          have hr3 := hr3.keep exVals_keeps hb4.size (fun b _ hlt => hb4.block b hlt) (fun b k _ => k)
          have hr4 : RowAt stVals 7 w4 (fun b => wo.heap.size ≤ b ∧ b ≠ q) x4 _ := hr4.keep stVals_keeps (Nat.le_refl _) (fun _ _ _ => rfl) (fun b k _ => by have k : w3.heap.size ≤ b := k; have := R3.size; have := Bq.lt; exact ⟨by omega, by omega⟩)
          have Bq := Bq.bel hb4
          refine ⟨hS9, ?_⟩
          have HC2 := hide (hH.e w4 xe ce (hel.keep B4.size (fun b _ hlt => B4.block b hlt) (fun _ _ _ => trivial)))
          refine wpAnyH_one (k := 32) (by kernel_rfl) ?_
          unfold wpOp
          go_simp
          refine Or.inl (HC2.out.mono ?_)
          rintro e' w5 ⟨hb5, x5, c5, rfl, hr5⟩
          have R5 := R4.trans (hb5.mono R4.size)
          have B5 := hB.trans (R5.mono hB.size)
          have hS9 : w5.cell? ⟨b, off + i * 7, none⟩ = some (.string (bs e.kind)) ∧ w5.cell? ⟨b, off + i * 7 + 1, none⟩ = some (.string (bs e.name)) ∧ w5.cell? ⟨b, off + i * 7 + 2, none⟩ = some (.string (bs e.proc)) ∧ w5.cell? ⟨b, off + i * 7 + 3, none⟩ = some (.slice xa e.args.length ca) ∧ w5.cell? ⟨b, off + i * 7 + 5, none⟩ = some (.slice xb e.body.length cb) ∧ w5.cell? ⟨b, off + i * 7 + 6, none⟩ = some (.slice xe e.els.length ce) := ⟨(B5.cell hlt).trans k0, (B5.cell hlt).trans k1, (B5.cell hlt).trans k2, (B5.cell hlt).trans k3, (B5.cell hlt).trans k5, (B5.cell hlt).trans k6⟩
          clear HC2
          have hr3 := hr3.keep exVals_keeps hb5.size (fun b _ hlt => hb5.block b hlt) (fun b k _ => k)
          have hr4 := hr4.keep stVals_keeps hb5.size (fun b _ hlt => hb5.block b hlt) (fun b k _ => k)
          have hr5 : RowAt stVals 7 w5 (fun b => wo.heap.size ≤ b ∧ b ≠ q) x5 _ := hr5.keep stVals_keeps (Nat.le_refl _) (fun _ _ _ => rfl) (fun b k _ => by have k : w4.heap.size ≤ b := k; have := R4.size; have := Bq.lt; exact ⟨by omega, by omega⟩)
          have Bq := Bq.bel hb5
          refine ⟨hS9, ?_⟩
          (refine tk 33 (v := ?_) ?_ hS9 ?_; rotate_left 1; (intro w' hSw; (try dsimp only at hSw); go_simp; (try rw [if_pos (by omega)])); (try rfl); (try dsimp only [Act.put]))
          have fin := StBx.mk' (c3 := c3) (c4 := c4) (c5 := c5) Bq hqg hr3 hr4 hr5 R5
          have p0 := Bq.cell 0 _ rfl
          have p1 := Bq.cell 1 _ rfl
          have p2 := Bq.cell 2 _ rfl
          have p3 := Bq.cell 3 _ rfl
          have p4 := Bq.cell 4 _ rfl
          have p5 := Bq.cell 5 _ rfl
          have p6 := Bq.cell 6 _ rfl
          have f0 := Bq.fr 0
          have f1 := Bq.fr 1
          have f2 := Bq.fr 2
          have f3 := Bq.fr 3
          have f4 := Bq.fr 4
          have f5 := Bq.fr 5
          have f6 := Bq.fr 6
          have hbq : b ≠ q := fun e => by have := szw; omega
          refine wpAnyH_one (k := 35) (by kernel_rfl) ?_
          unfold wpOp
          go_simp
          refine Or.inl ⟨by kernel_rfl, ?_⟩
          refine HMK.out _ _ (Met.intro (HRJ.out _ _ ?_))
          (repeat apply Exists.intro)
          refine ⟨?rel, rfl⟩
          case rel => exact ⟨q, x3, c3, x4, c4, x5, c5, _, rfl, fin⟩
    case rest =>
    obtain ⟨q, x3, c3, x4, c4, x5, c5, M, rfl, X0⟩ := hcut
    have hM0 := X0.mM
    have hB0 := hB.trans (X0.bel.mono hB.size)
    have s4 := (hB0.cell hlt).trans k4
    go_wp2_with fail
    clear s4 hB0
    go_loopg [6] mc (fun gh iv wx => ∃ (k : Nat) (v : Value) (yss : List (List Value)), iv = .int .i64 k ∧ k + gh = mc ∧ GRow coVals 178 1 wx M v (e.cond.take k) yss ∧ StBx wo wx q M e x3 c3 v x4 c4 x5 c5)
    case atStart => exact ⟨0, .slice none 0 0, [], rfl, by omega, GRow.nil _ _ _ _ _, X0⟩
    case round =>
      clear X0 hM0
      obtain ⟨k, v, yss, rfl, hkg, g2, X⟩ := hrel
      have hB1 := hB.trans (X.bel.mono hB.size)
      have s4 := (hB1.cell hlt).trans k4
      have hkl := hide (take_len hmc.out (show k ≤ mc by omega))
      by_cases hk : k < mc
      · have hk' : (k : Int) < (mc : Int) := by omega
        obtain ⟨row, hrow⟩ : ∃ row, e.cond[k]? = some row := ⟨_, List.getElem?_eq_getElem (by rw [← hmc.out]; exact hk)⟩
        have HR := hide (hH.r k row hrow)
        obtain ⟨br, offr, rfl, hltr, vs, hvl, hvk, xr, cr, rfl, hxr⟩ := hc.elem hrow
        have kr := hvk 0 _ rfl
        simp only [Nat.add_zero, Nat.mul_one] at kr
        have hrk := hide (take_more hrow)
        clear hvk hrow
        obtain ⟨vx, vc, rfl⟩ := g2.form
        rw [hkl.out] at g2 X
        go_upto_region 9 with fail
        have hbx := (Below.refl wr.heap.size wr).drew
        have X1 := X.below hbx
        have g3 := g2.bel coVals_keeps hbx
        have B1 := hB.trans (X1.bel.mono hB.size)
        have HR1 := hide (HR.out wr.drew xr cr (hxr.keep teVals_keeps B1.size (fun b _ hlt => B1.block b hlt) (fun _ _ _ => trivial)))
        refine wp_region_any (by kernel_rfl) (wpTill_any (S := fun w' => w'.cell? ⟨q, 4, none⟩ = some (.slice vx k vc) ∧ w'.cell? ⟨b, off + i * 7 + 4, none⟩ = some (.slice (some ⟨br, offr, none⟩) mc cc) ∧ w'.cell? ⟨br, offr + k, none⟩ = some (.slice xr row.length cr)) (E := 14) _ _ _ _ ?_)
        have hS9 : wr.drew.cell? ⟨q, 4, none⟩ = some (.slice vx k vc) ∧ wr.drew.cell? ⟨b, off + i * 7 + 4, none⟩ = some (.slice (some ⟨br, offr, none⟩) mc cc) ∧ wr.drew.cell? ⟨br, offr + k, none⟩ = some (.slice xr row.length cr) := ⟨X1.box.cell 4 _ rfl, (B1.cell hlt).trans k4, (B1.cell hltr).trans kr⟩
        (refine tkT 0 (v := ?_) ?_ hS9 ?_; rotate_left 1; (intro w' hSw; (try dsimp only at hSw); go_simp; (try rw [if_pos (by omega)])); (try rfl); (try dsimp only [Act.put]))
        (refine tkT 1 (v := ?_) ?_ hS9 ?_; rotate_left 1; (intro w' hSw; (try dsimp only at hSw); go_simp; (try rw [if_pos (by omega)])); (try rfl); (try dsimp only [Act.put]))
        (refine tkT 2 (v := ?_) ?_ hS9 ?_; rotate_left 1; (intro w' hSw; (try dsimp only at hSw); go_simp; (try rw [if_pos (by omega)])); (try rfl); (try dsimp only [Act.put]))
        (refine tkT 3 (v := ?_) ?_ hS9 ?_; rotate_left 1; (intro w' hSw; (try dsimp only at hSw); go_simp; (try rw [if_pos (by omega)])); (try rfl); (try dsimp only [Act.put]))
        (refine tkT 4 (v := ?_) ?_ hS9 ?_; rotate_left 1; (intro w' hSw; (try dsimp only at hSw); go_simp; (try rw [if_pos (by omega)])); (try rfl); (try dsimp only [Act.put]))
        (refine tkT 5 (v := ?_) ?_ hS9 ?_; rotate_left 1; (intro w' hSw; (try dsimp only at hSw); go_simp; (try rw [if_pos (by omega)])); (try rfl); (try dsimp only [Act.put]))
        (refine tkT 6 (v := ?_) ?_ hS9 ?_; rotate_left 1; (intro w' hSw; (try dsimp only at hSw); go_simp; (try rw [if_pos (by omega)])); (try rfl); (try dsimp only [Act.put]))
        (refine tkT 7 (v := ?_) ?_ hS9 ?_; rotate_left 1; (intro w' hSw; (try dsimp only at hSw); go_simp; (try rw [if_pos (by omega)])); (try rfl); (try dsimp only [Act.put]))
        (refine tkT 8 (v := ?_) ?_ hS9 ?_; rotate_left 1; (intro w' hSw; (try dsimp only at hSw); go_simp; (try rw [if_pos (by omega)])); (try rfl); (try dsimp only [Act.put]))
        (refine tkT 9 (v := ?_) ?_ hS9 ?_; rotate_left 1; (intro w' hSw; (try dsimp only at hSw); go_simp; (try rw [if_pos (by omega)])); (try rfl); (try dsimp only [Act.put]))
        refine wpTill_one (k := 10) (by kernel_rfl) ?_
        unfold wpOp
        go_simp
        refine Or.inl (HR1.out.mono ?_)
        rintro e' w3 ⟨hb3, x6, c6, rfl, hr6⟩
        have X3 := X1.below hb3
        have g4 := g3.bel coVals_keeps hb3
        have B3 := hB.trans (X3.bel.mono hB.size)
        have hS9 : w3.cell? ⟨q, 4, none⟩ = some (.slice vx k vc) ∧ w3.cell? ⟨b, off + i * 7 + 4, none⟩ = some (.slice (some ⟨br, offr, none⟩) mc cc) ∧ w3.cell? ⟨br, offr + k, none⟩ = some (.slice xr row.length cr) := ⟨X3.box.cell 4 _ rfl, (B3.cell hlt).trans k4, (B3.cell hltr).trans kr⟩
        refine ⟨hS9, ?_⟩
        refine wpTill_one (k := 11) (by kernel_rfl) ?_
        unfold wpOp
        go_simp
        have hbL := (Below.refl w3.heap.size w3).alloc (Nat.le_refl _) (.cells #[.slice x6 row.length c6] 178)
        have XL := X3.below hbL
        have gL := g4.bel coVals_keeps hbL
        have BL := hB.trans (XL.bel.mono hB.size)
        refine Or.inl ⟨⟨XL.box.cell 4 _ rfl, (BL.cell hlt).trans k4, (BL.cell hltr).trans kr⟩, ?_⟩
        refine wpTill_one (k := 12) (by kernel_rfl) ?_
        have hlo : ∀ q', (Value.slice vx k vc).ownBlock = some q' → M ≤ q' ∧ q' < wr.heap.size := fun q' e => g2.own.lt q' e
        have hxM := X.mM
        have szx := hbx.size
        have sz3 := hb3.size
        have hVL : coVals (w3.alloc (.cells #[.slice x6 row.length c6] 178)) (fun b => M ≤ b ∧ (Value.slice vx k vc).ownBlock ≠ some b) [.slice x6 row.length c6] row := ⟨x6, c6, rfl, hr6.keep teVals_keeps hbL.size (fun b _ hlt => hbL.block b hlt) (fun b p _ => ⟨by have p : wr.heap.size ≤ b := p; omega, fun e => by have := (hlo b e).2; have p : wr.heap.size ≤ b := p; omega⟩)⟩
        refine wpOp_step rfl (fun K' hK => ?_)
        refine step_append_lies _ (by rfl) _ _ 175 (by rfl) M 178 r0 _ 1 24 Tryz.underlying175 ri0 rz0 rz1 rz2 rfl (by decide) (.slice vx k vc) k yss.flatten (by first | rfl | simp [Act.eval, Act.put]) (by have := gL.own; rw [hkl.out] at this; exact this) ⟨w3.heap.size, 0, none⟩ 1 1 [.slice x6 row.length c6] (by first | rfl | simp [Act.eval, Act.put]) rfl (cells_new _ _ _) (by intro u hu; simp at hu; rw [hu]; rfl) (by omega) (by unfold maxLen; omega) (by omega) (by have := XL.mM; omega) (w3.heap.size + 1) (by simp) ?_
        intro gB cap6 w6 own6 hg6 hat6 hlt6
        have g6 := gL.app coVals_keeps (n := k) rfl hkl.out.symm hVL own6 hg6 (hat6.imp id (fun e => by rw [e]; simp))
        rw [hrk.out] at g6
        have g7 := g6.set coVals_keeps (q := ⟨q, 4, none⟩) X.lt (.slice (some ⟨gB, 0, none⟩) (k + 1) cap6)
        have X7 := XL.more hg6 (fun j e => (hlo j e).1) (.slice (some ⟨gB, 0, none⟩) (k + 1) cap6)
        have q6 : w6.cell? ⟨q, 4, none⟩ = some (.slice vx k vc) := (World.grownBy.cell_far hg6 ⟨q, 4, none⟩ XL.box.lt (fun e => by have := (hlo q e.symm).1; have := X.lt; omega)).trans (XL.box.cell 4 _ rfl)
        have f6 : w6.frozen? ⟨q, 4, none⟩ = false := (World.grownBy.frozen_far hg6 ⟨q, 4, none⟩ XL.box.lt (fun e => by have := (hlo q e.symm).1; have := X.lt; omega)).trans (XL.box.fr 4)
        have hx7 := X7.mM
        have BG := Below.ofGrow BL hg6 (by have := BL.size; omega) (fun j e => by have := (hlo j e).1; have := X.ge; have := X.lt; omega)
        have hS9 : w6.cell? ⟨q, 4, none⟩ = some (.slice vx k vc) ∧ w6.cell? ⟨b, off + i * 7 + 4, none⟩ = some (.slice (some ⟨br, offr, none⟩) mc cc) ∧ w6.cell? ⟨br, offr + k, none⟩ = some (.slice xr row.length cr) := ⟨q6, (BG.cell hlt).trans k4, (BG.cell hltr).trans kr⟩
        refine hK _ _ ⟨fun _ => hS9, ?_⟩
        change wpTill _ _ _ _ _ _ _ _ (Act.put _ (some 69) _) _
        dsimp only [Act.put]
        (refine tkT 13 (v := ?_) ?_ hS9 ?_; rotate_left 1; (intro w' hSw; (try dsimp only at hSw); go_simp; (try rw [if_pos (by omega)])); (try rfl); (try dsimp only [Act.put]))
        refine wpTill_one (k := 14) (by kernel_rfl) ?_
        unfold wpOp
        go_simp
        refine Or.inl ⟨by kernel_rfl, ?_⟩
        obtain ⟨W7, hW7⟩ : ∃ X, X = w6.setCell ⟨q, 4, none⟩ (.slice (some ⟨gB, 0, none⟩) (k + 1) cap6) := ⟨_, rfl⟩
        rw [← hW7] at g7 X7 ⊢
        have B7 := hB.trans (X7.bel.mono hB.size)
        clear hW7 own6 hg6 hat6 hlt6 hS9 BG q6 f6 hK hVL gL XL BL g4 X3 B3 g3 X1 B1 HR1 HR s4 hB1 g6
        have s4 := (B7.cell hlt).trans k4
        go_wp2_with fail
        go_roundg (mc - (k + 1))
        case measure => omega
        case rel => exact ⟨k + 1, _, _, by go_num, by omega, g7, X7⟩
      · have hk' : ¬ (k : Int) < (mc : Int) := by omega
        have hin : e.cond.take k = e.cond := List.take_of_length_le (by rw [← hmc.out]; omega)
        rw [hin] at g2
        obtain ⟨xc', cc', rfl, hrowc⟩ := g2.row coVals_keeps (by omega)
        have m0 := X.box.cell 0 _ rfl
        have m1 := X.box.cell 1 _ rfl
        have m2 := X.box.cell 2 _ rfl
        have m3 := X.box.cell 3 _ rfl
        have m4 := X.box.cell 4 _ rfl
        have m5 := X.box.cell 5 _ rfl
        have m6 := X.box.cell 6 _ rfl
        have gW := g.bel stVals_keeps X.bel
        have hXM := X.mM
        have hXl := X.lt
        have hXg := X.ge
        have hlo : ∀ q', (Value.slice vx i vc).ownBlock = some q' → q' < wo.heap.size := fun q' e => (g.own.lt q' e).2
        have hbL := (Below.refl wr.heap.size wr).alloc (Nat.le_refl _) (.cells #[.string (bs e.kind), .string (bs e.name), .string (bs e.proc), .slice x3 e.args.length c3, .slice xc' e.cond.length cc', .slice x4 e.body.length c4, .slice x5 e.els.length c5] 177)
        have gL := gW.bel stVals_keeps hbL
        have XL := X.below hbL
        have BL := hB.trans (XL.bel.mono hB.size)
        have szx := X.bel.size
        have hVL : stVals (wr.alloc (.cells #[.string (bs e.kind), .string (bs e.name), .string (bs e.proc), .slice x3 e.args.length c3, .slice xc' e.cond.length cc', .slice x4 e.body.length c4, .slice x5 e.els.length c5] 177)) (fun b => w.heap.size ≤ b ∧ (Value.slice vx i vc).ownBlock ≠ some b) [.string (bs e.kind), .string (bs e.name), .string (bs e.proc), .slice x3 e.args.length c3, .slice xc' e.cond.length cc', .slice x4 e.body.length c4, .slice x5 e.els.length c5] e := by
          refine ⟨x3, c3, xc', cc', x4, c4, x5, c5, rfl, exs_of_row (XL.ta.keep exVals_keeps (Nat.le_refl _) (fun _ _ _ => rfl) (fun b p _ => ⟨by have := p.1; omega, fun e => by have := hlo b e; have := p.1; omega⟩)), ?_, stms_of_row (XL.tb.keep stVals_keeps (Nat.le_refl _) (fun _ _ _ => rfl) (fun b p _ => ⟨by have := p.1; omega, fun e => by have := hlo b e; have := p.1; omega⟩)), stms_of_row (XL.te.keep stVals_keeps (Nat.le_refl _) (fun _ _ _ => rfl) (fun b p _ => ⟨by have := p.1; omega, fun e => by have := hlo b e; have := p.1; omega⟩))⟩
          exact hrowc.keep coVals_keeps hbL.size (fun b _ hlt => hbL.block b hlt) (fun b p _ => ⟨by have p : M ≤ b := p; omega, fun e => by have := hlo b e; have p : M ≤ b := p; omega⟩)
        clear g2 hrowc
        go_wp2_with (at_builtin; refine wpList_append_lies _ rfl _ _ 35 rfl w.heap.size 177 i0 _ 7 144 Tryz.underlying35 hi0 hz0 hz1 hz2 rfl (by decide) (.slice vx i vc) i xss.flatten rfl (by have := gL.own; rw [htl.out] at this; exact this) ⟨wr.heap.size, 0, none⟩ 1 1 [.string (bs e.kind), .string (bs e.name), .string (bs e.proc), .slice x3 e.args.length c3, .slice xc' e.cond.length cc', .slice x4 e.body.length c4, .slice x5 e.els.length c5] rfl rfl (cells_new _ _ _) (by intro u hu; simp at hu; rcases hu with rfl | rfl | rfl | rfl | rfl | rfl | rfl <;> rfl) (by omega) (by unfold maxLen; omega) (by omega) (by simp; omega) (wr.heap.size + 1) (by simp) ?_)
        intro gB cap6 w6 own6 hg6 hat6 hlt6
        have g6 := gL.app stVals_keeps (n := i) rfl htl.out.symm hVL own6 hg6 (hat6.imp id (fun e => by rw [e]; simp))
        have B6 := Below.ofGrow BL hg6 (by have := BL.size; omega) (fun k e => (g.own.lt k e).1)
        rw [htk.out] at g6
        go_wp2_with fail
        go_roundg (n - (i + 1))
        case measure => omega
        case rel => exact ⟨_, i + 1, _, rfl, by go_num, by omega, g6, B6⟩
end Go.Proofs.YtolpekdckemhkaaGreatDoor
