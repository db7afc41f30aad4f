/- The statements' helpers: programs copied: terms, tests, arrays (ExprsOf, TestsOf and back). -/
import Derived.Test.YtbfhaabpfkopdaaGreatDoorVf
import Derived.Test.YtbfhaabpfkopdaaGreatDoorR2
namespace Go.Proofs.YtbfhaabpfkopdaaGreatDoor
open Go.RowKit
set_option linter.unusedVariables false
/-- Takes, with all that is closed laid by itself. -/
theorem tk {P : Program} {md : Region.Mode} {ops : Array Oper} {Q : Exit → Act → World → Prop} {S : World → Prop} (i : Nat) {oi : Oper} {v : Value} {fuel : Nat} {listed : Array Bool} {a : Act} {w : World} (hy : ∀ w, S w → (execOp a.eval oi).run P w = .ok (.value v) w) (hS : S w) (h : wpAnyH P md ops Q S fuel (listed.setIfInBounds i true) (a.put oi.dst v) w)
    (hi : ops[i]? = some oi := by rfl) (hs : Region.noSelect ops = true := by kernel_rfl) (hf : Region.free md ops listed i = true := by kernel_rfl) (hr : (Region.ready md ops listed).contains i = true := by kernel_rfl) (hQ : ∀ c a w, Q (.panic c) (a.put oi.dst v) w → Q (.panic c) a w := by exact fun _ _ _ h => h) (hw : Region.wanted oi (yielded ops a.tmps) = true := by rfl) : wpAnyH P md ops Q S (fuel + 1) listed a w :=
  wpAnyH_take hi hs hf hr hQ (Or.inl ⟨hw, hy⟩) hS h
theorem tkT {P : Program} {md : Region.Mode} {ops : Array Oper} {Q : Exit → Act → World → Prop} {S : World → Prop} {E : Nat} (i : Nat) {oi oE : Oper} {v : Value} {fuel : Nat} {listed : Array Bool} {a : Act} {w : World} (hy : ∀ w, S w → (execOp a.eval oi).run P w = .ok (.value v) w) (hS : S w) (h : wpTill P md ops Q S E fuel (listed.setIfInBounds i true) (a.put oi.dst v) w)
    (hi : ops[i]? = some oi := by rfl) (hE : ops[E]? = some oE := by rfl) (hEi : i ≠ E := by decide) (hn : (oE.after.any fun e => Region.binds md e && e.on == i) = true := by kernel_rfl) (hl : listed.getD E true = false := by kernel_rfl) (hs : Region.noSelect ops = true := by kernel_rfl) (hf : Region.free md ops listed i = true := by kernel_rfl) (hr : (Region.ready md ops listed).contains i = true := by kernel_rfl) (hQ : ∀ c a w, Q (.panic c) (a.put oi.dst v) w → Q (.panic c) a w := by exact fun _ _ _ h => h) (hw : Region.wanted oi (yielded ops a.tmps) = true := by rfl) : wpTill P md ops Q S E (fuel + 1) listed a w :=
  wpTill_take hi hE hEi hn hl hs hf hr hQ (Or.inl ⟨hw, hy⟩) hS h
theorem wpAnyH_one {P : Program} {md : Region.Mode} {ops : Array Oper} {Q : Exit → Act → World → Prop} {S : World → Prop} {k : Nat} {fuel : Nat} {listed : Array Bool} {a : Act} {w : World} (hr : Region.ready md ops listed = [k])
    (h : wpOp P ops Q k (fun a' w' => S w' ∧ wpAnyH P md ops Q S fuel (listed.setIfInBounds k true) a' w') a w) : wpAnyH P md ops Q S (fuel + 1) listed a w :=
  wpAnyH_all hr (by simp) (fun i hi => by obtain rfl : i = k := by simpa using hi
                                          exact h)
/-- What a copy of a list is. -/
def CpPost {α : Type} (V : Rds α) (size : Nat) (l : List α) (W : World) (e : Ending) (W' : World) : Prop := Below W.heap.size W W' ∧ ∃ x cap, e = .returned (.slice x l.length cap) ∧ RowAt V size W' (fun b => W.heap.size ≤ b) x l
theorem take_len {α : Type} {l : List α} {i n : Nat} (hn : n = l.length) (h : i ≤ n) : (l.take i).length = i := by simp; omega
theorem take_more {α : Type} {l : List α} {i : Nat} {e : α} (h : l[i]? = some e) : l.take i ++ [e] = l.take (i + 1) := by
  have hi := some_lt h
  rw [List.take_add_one, h]
  rfl
theorem Below.ofGrow {base : Nat} {w W W' : World} (h : Below base w W) {row : Option Nat} (hg : W.grownBy W' row) (hb : base ≤ W.heap.size) (hr : ∀ k, row = some k → base ≤ k) : Below base w W' := h.grown hg hb hr
/-- Terms copied. -/
def exprsOfC (l : List Ex) : Prop := ∀ (W : World) (x : Option Addr) (cap : Nat), ExsAt W Any x l → Calls Tryz.prog 82 #[.slice x l.length cap] W fun e W' => CpPost exVals 4 l W e W'
set_option maxRecDepth 20000 in
set_option maxHeartbeats 8000000 in
theorem exprsOf_step (l : List Ex) (n : Nat) (hn : Hid (n = l.length)) (hl : n * 64 ≤ 140737488355328) (HC : Hid (∀ (i : Nat) (e : Ex), l[i]? = some e → exprsOfC e.l)) (w : World) (x : Option Addr) (cap : Nat) (hx : ExsAt w Any x l) : Calls Tryz.prog 82 #[.slice x n cap] w fun e w' => CpPost exVals 4 l w e w' := by
  obtain ⟨i0, hi0, hz0, hz1, hz2⟩ := info_parts Tryz.infoExpr
  go_enter Tryz.func82, Tryz.ntmps82
  go_wp2_with fail
  go_loopg [3, 4] n (fun gh t iv wx => ∃ (v : Value) (i : Nat) (xss : List (List Value)), v = t ∧ iv = .int .i64 i ∧ i + gh = n ∧ GRow exVals 121 4 wx w.heap.size v (l.take i) xss ∧ Below w.heap.size w wx)
  case atStart => exact ⟨_, 0, [], rfl, rfl, by omega, GRow.nil _ _ _ _ _, Below.refl _ _⟩
  case round =>
    obtain ⟨v, i, xss, rfl, rfl, hig, g, hB⟩ := hrel
    have htl := hide (take_len hn.out (show i ≤ n by omega))
    by_cases hi : i < n
    · have hi' : (i : Int) < (n : Int) := by omega
      obtain ⟨e, he⟩ : ∃ e, l[i]? = some e := ⟨_, List.getElem?_eq_getElem (by rw [← hn.out]; exact hi)⟩
      obtain ⟨b, off, xa, ca, rfl, hlt, k0, k1, k2, k3, hX⟩ := hx.elem he
      have hbd : Below wr.heap.size wr wr.drew := (Below.refl _ _).drew
      have gd := g.bel exVals_keeps hbd
      have Bd := hB.trans (hbd.mono hB.size)
      have szw := hB.size
      have HC1 := hide (HC.out i e he wr.drew xa ca (hX.bel Bd))
      obtain ⟨vx, vc, rfl⟩ := g.form
      rw [htl.out] at gd ⊢
      have htk := hide (take_more he)
      clear he
      go_upto_region 5 with fail
      refine wp_region_held (S := fun w' => w'.cell? ⟨b, off + i * 4, none⟩ = some (.string (bs e.op)) ∧ w'.cell? ⟨b, off + i * 4 + 1, none⟩ = some (.int .i64 e.n) ∧ w'.cell? ⟨b, off + i * 4 + 2, none⟩ = some (.string (bs e.name)) ∧ w'.cell? ⟨b, off + i * 4 + 3, none⟩ = some (.slice xa e.l.length ca)) (by kernel_rfl) ?_
      have hS9 : wr.drew.cell? ⟨b, off + i * 4, none⟩ = some (.string (bs e.op)) ∧ wr.drew.cell? ⟨b, off + i * 4 + 1, none⟩ = some (.int .i64 e.n) ∧ wr.drew.cell? ⟨b, off + i * 4 + 2, none⟩ = some (.string (bs e.name)) ∧ wr.drew.cell? ⟨b, off + i * 4 + 3, none⟩ = some (.slice xa e.l.length ca) := ⟨(Bd.cell hlt).trans k0, (Bd.cell hlt).trans k1, (Bd.cell hlt).trans k2, (Bd.cell hlt).trans k3⟩
      (refine tk 0 (v := ?_) ?_ hS9 ?_; rotate_left 1; (intro w' hSw; (try dsimp only at hSw); go_simp; (try rw [if_pos (by omega)])); (try rfl); (try dsimp only [Act.put]))
      (refine tk 1 (v := ?_) ?_ hS9 ?_; rotate_left 1; (intro w' hSw; (try dsimp only at hSw); go_simp; (try rw [if_pos (by omega)])); (try rfl); (try dsimp only [Act.put]))
      (refine tk 2 (v := ?_) ?_ hS9 ?_; rotate_left 1; (intro w' hSw; (try dsimp only at hSw); go_simp; (try rw [if_pos (by omega)])); (try rfl); (try dsimp only [Act.put]))
      (refine tk 3 (v := ?_) ?_ hS9 ?_; rotate_left 1; (intro w' hSw; (try dsimp only at hSw); go_simp; (try rw [if_pos (by omega)])); (try rfl); (try dsimp only [Act.put]))
      (refine tk 4 (v := ?_) ?_ hS9 ?_; rotate_left 1; (intro w' hSw; (try dsimp only at hSw); go_simp; (try rw [if_pos (by omega)])); (try rfl); (try dsimp only [Act.put]))
      (refine tk 5 (v := ?_) ?_ hS9 ?_; rotate_left 1; (intro w' hSw; (try dsimp only at hSw); go_simp; (try rw [if_pos (by omega)])); (try rfl); (try dsimp only [Act.put]))
      (refine tk 6 (v := ?_) ?_ hS9 ?_; rotate_left 1; (intro w' hSw; (try dsimp only at hSw); go_simp; (try rw [if_pos (by omega)])); (try rfl); (try dsimp only [Act.put]))
      (refine tk 7 (v := ?_) ?_ hS9 ?_; rotate_left 1; (intro w' hSw; (try dsimp only at hSw); go_simp; (try rw [if_pos (by omega)])); (try rfl); (try dsimp only [Act.put]))
      (refine tk 8 (v := ?_) ?_ hS9 ?_; rotate_left 1; (intro w' hSw; (try dsimp only at hSw); go_simp; (try rw [if_pos (by omega)])); (try rfl); (try dsimp only [Act.put]))
      (refine tk 9 (v := ?_) ?_ hS9 ?_; rotate_left 1; (intro w' hSw; (try dsimp only at hSw); go_simp; (try rw [if_pos (by omega)])); (try rfl); (try dsimp only [Act.put]))
      (refine tk 10 (v := ?_) ?_ hS9 ?_; rotate_left 1; (intro w' hSw; (try dsimp only at hSw); go_simp; (try rw [if_pos (by omega)])); (try rfl); (try dsimp only [Act.put]))
      (refine tk 11 (v := ?_) ?_ hS9 ?_; rotate_left 1; (intro w' hSw; (try dsimp only at hSw); go_simp; (try rw [if_pos (by omega)])); (try rfl); (try dsimp only [Act.put]))
      (refine tk 12 (v := ?_) ?_ hS9 ?_; rotate_left 1; (intro w' hSw; (try dsimp only at hSw); go_simp; (try rw [if_pos (by omega)])); (try rfl); (try dsimp only [Act.put]))
      (refine tk 13 (v := ?_) ?_ hS9 ?_; rotate_left 1; (intro w' hSw; (try dsimp only at hSw); go_simp; (try rw [if_pos (by omega)])); (try rfl); (try dsimp only [Act.put]))
      (refine tk 14 (v := ?_) ?_ hS9 ?_; rotate_left 1; (intro w' hSw; (try dsimp only at hSw); go_simp; (try rw [if_pos (by omega)])); (try rfl); (try dsimp only [Act.put]))
      (refine tk 15 (v := ?_) ?_ hS9 ?_; rotate_left 1; (intro w' hSw; (try dsimp only at hSw); go_simp; (try rw [if_pos (by omega)])); (try rfl); (try dsimp only [Act.put]))
      (refine tk 16 (v := ?_) ?_ hS9 ?_; rotate_left 1; (intro w' hSw; (try dsimp only at hSw); go_simp; (try rw [if_pos (by omega)])); (try rfl); (try dsimp only [Act.put]))
      (refine tk 17 (v := ?_) ?_ hS9 ?_; rotate_left 1; (intro w' hSw; (try dsimp only at hSw); go_simp; (try rw [if_pos (by omega)])); (try rfl); (try dsimp only [Act.put]))
      (refine tk 18 (v := ?_) ?_ hS9 ?_; rotate_left 1; (intro w' hSw; (try dsimp only at hSw); go_simp; (try rw [if_pos (by omega)])); (try rfl); (try dsimp only [Act.put]))
      (refine tk 19 (v := ?_) ?_ hS9 ?_; rotate_left 1; (intro w' hSw; (try dsimp only at hSw); go_simp; (try rw [if_pos (by omega)])); (try rfl); (try dsimp only [Act.put]))
      (refine tk 20 (v := ?_) ?_ hS9 ?_; rotate_left 1; (intro w' hSw; (try dsimp only at hSw); go_simp; (try rw [if_pos (by omega)])); (try rfl); (try dsimp only [Act.put]))
      refine wpAnyH_one (k := 21) (by kernel_rfl) ?_
      unfold wpOp
      go_simp
      refine Or.inl (HC1.out.mono ?_)
      rintro e' w3 ⟨hb3, x3, c3, rfl, hr3⟩
      have B3 := Bd.trans (hb3.mono Bd.size)
      have g3 := gd.bel exVals_keeps hb3
      have hS9 : w3.cell? ⟨b, off + i * 4, none⟩ = some (.string (bs e.op)) ∧ w3.cell? ⟨b, off + i * 4 + 1, none⟩ = some (.int .i64 e.n) ∧ w3.cell? ⟨b, off + i * 4 + 2, none⟩ = some (.string (bs e.name)) ∧ w3.cell? ⟨b, off + i * 4 + 3, none⟩ = some (.slice xa e.l.length ca) := ⟨(B3.cell hlt).trans k0, (B3.cell hlt).trans k1, (B3.cell hlt).trans k2, (B3.cell hlt).trans k3⟩
      refine ⟨hS9, ?_⟩
      (refine tk 22 (v := ?_) ?_ hS9 ?_; rotate_left 1; (intro w' hSw; (try dsimp only at hSw); go_simp; (try rw [if_pos (by omega)])); (try rfl); (try dsimp only [Act.put]))
      refine wpAnyH_one (k := 23) (by kernel_rfl) ?_
      unfold wpOp
      go_simp
      have hb4 := (Below.refl w3.heap.size w3).alloc (Nat.le_refl _) (.cells #[.string (bs e.op), .int .i64 e.n, .string (bs e.name), .slice x3 e.l.length c3] 121)
      have B4 := B3.trans (hb4.mono B3.size)
      have g4 := g3.bel exVals_keeps hb4
      refine Or.inl ⟨⟨(B4.cell hlt).trans k0, (B4.cell hlt).trans k1, (B4.cell hlt).trans k2, (B4.cell hlt).trans k3⟩, ?_⟩
      refine wpAnyH_one (k := 24) (by kernel_rfl) ?_
      have hlo : ∀ q, (Value.slice vx i vc).ownBlock = some q → q < wr.heap.size := fun q e => by have := (g.own.lt q (by rw [htl.out]; exact e)).2; exact this
      have hV4 : exVals (w3.alloc (.cells #[.string (bs e.op), .int .i64 e.n, .string (bs e.name), .slice x3 e.l.length c3] 121)) (fun b => w.heap.size ≤ b ∧ (Value.slice vx i vc).ownBlock ≠ some b) [.string (bs e.op), .int .i64 e.n, .string (bs e.name), .slice x3 e.l.length c3] e := ⟨x3, c3, rfl, ((exs_of_row hr3).bel hb4).mono (fun b q _ => ⟨by have : wr.heap.size ≤ b := q; omega, fun e => by have := hlo b e; have : wr.heap.size ≤ b := q; omega⟩)⟩
      have sz3 := B3.size
      refine wpOp_step rfl (fun K' hK => ?_)
      refine step_append_lies _ (by rfl) _ _ 64 (by rfl) w.heap.size 121 i0 _ 4 64 Tryz.underlying64 hi0 hz0 hz1 hz2 rfl (by decide) (.slice vx i vc) i xss.flatten (by first | rfl | simp [Act.eval, Act.put]) (by have := g4.own; rw [htl.out] at this; exact this) ⟨w3.heap.size, 0, none⟩ 1 1 [.string (bs e.op), .int .i64 e.n, .string (bs e.name), .slice x3 e.l.length c3] (by first | rfl | simp [Act.eval, Act.put]) rfl (cells_new _ _ _) (by intro u hu; simp at hu; rcases hu with rfl | rfl | rfl | rfl <;> rfl) (by omega) (by unfold maxLen; omega) (by omega) (by simp; omega) (w3.heap.size + 1) (by simp) ?_
      intro gB cap6 w6 own6 hg6 hat6 hlt6
      have g6 := g4.app exVals_keeps (n := i) rfl htl.out.symm hV4 own6 hg6 (hat6.imp id (fun e => by rw [e]; simp))
      have B6 := Below.ofGrow B4 hg6 (by have := hb4.size; omega) (fun k e => (g.own.lt k (by rw [htl.out]; exact e)).1)
      rw [htk.out] at g6
      refine hK _ _ ⟨⟨(B6.cell hlt).trans k0, (B6.cell hlt).trans k1, (B6.cell hlt).trans k2, (B6.cell hlt).trans k3⟩, ?_⟩
      refine wpAnyH_one (k := 25) (by kernel_rfl) ?_
      unfold wpOp
      go_simp
      refine Or.inl ⟨⟨(B6.cell hlt).trans k0, (B6.cell hlt).trans k1, (B6.cell hlt).trans k2, (B6.cell hlt).trans k3⟩, by kernel_rfl, ?_⟩
      clear hS9 HC1 hr3 gd g3 g4 hV4
      go_wp2_with fail
      go_roundg (n - (i + 1))
      case measure => omega
      case rel => exact ⟨_, i + 1, _, rfl, by go_num, by omega, g6, B6⟩
    · have hi' : ¬ (i : Int) < (n : Int) := by omega
      have hin : l.take i = l := List.take_of_length_le (by rw [← hn.out]; omega)
      rw [hin] at g
      go_wp2_with fail
      go_ret
      obtain ⟨x', cap', rfl, hrow⟩ := g.row exVals_keeps (by omega)
      exact ⟨hB, x', cap', rfl, hrow⟩
theorem exprsOf_ex {e : Ex} (h : ExFit e) : exprsOfC e.l := by
  induction h with
  | mk e ho hn hl h ih => exact fun W x cap hx => exprsOf_step e.l _ rfl hl (hide ih) W x cap hx
theorem exprsOf_any {l : List Ex} (h : LsFit 64 ExFit l) : exprsOfC l := fun W x cap hx => exprsOf_step l _ rfl h.len (hide fun i e he => exprsOf_ex (h.el i e he)) W x cap hx
end Go.Proofs.YtbfhaabpfkopdaaGreatDoor
