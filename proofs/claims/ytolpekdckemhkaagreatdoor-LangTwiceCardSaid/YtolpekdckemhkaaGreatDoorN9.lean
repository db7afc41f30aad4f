/- The reference's SameProgram: of one and the same program, copied, it is true: terms, tests, statements. -/
import Derived.Test.YtolpekdckemhkaaGreatDoorN3
import Derived.BigQuiet
namespace Go.Proofs.YtolpekdckemhkaaGreatDoor
open Go.RowKit
set_option linter.unusedVariables false

theorem Below.drewN' {B : Nat} {w w' : World} (h : Below B w w') (n : Nat) : Below B w (w'.drewN n) := by
  induction n with
  | zero => exact h
  | succ n ih => exact ih.drew
/-- Terms of one list, at two places. -/
def SameE (w0 : World) (l : List Ex) : Prop := ∀ (W : World) (x y : Option Addr) (cx cy : Nat), Below w0.heap.size w0 W → ExsAt w0 Any x l → ExsAt w0 Any y l → Calls Tryz.prog 71 #[.slice x l.length cx, .slice y l.length cy] W fun e W' => e = .returned (.bool true) ∧ Below W.heap.size W W'
set_option maxRecDepth 20000 in
set_option maxHeartbeats 8000000 in
theorem sameE_step (w0 : World) (l : List Ex) (n : Nat) (hn : Hid (n = l.length)) (hl : n ≤ maxLen) (HC : Hid (∀ (i : Nat) (e : Ex), l[i]? = some e → SameE w0 e.l)) (w : World) (x y : Option Addr) (cx cy : Nat) (hb : Below w0.heap.size w0 w) (hx : ExsAt w0 Any x l) (hy : ExsAt w0 Any y l) : Calls Tryz.prog 71 #[.slice x n cx, .slice y n cy] w fun e w' => e = .returned (.bool true) ∧ Below w.heap.size w w' := by
  unfold maxLen at hl
  go_enter Tryz.func71, Tryz.ntmps71
  go_wp2_with fail
  go_loopg [5] n (fun gh iv wx => ∃ i : Nat, iv = .int .i64 i ∧ i + gh = n ∧ Below w.heap.size w wx)
  case atStart => exact ⟨0, rfl, by omega, Below.refl _ _⟩
  case round =>
    obtain ⟨i, rfl, hig, hB⟩ := hrel
    by_cases hi : i < n
    case neg =>
      have hi' : ¬ (i : Int) < (n : Int) := by omega
      go_wp2_with fail
      go_ret
      exact ⟨rfl, hB⟩
    have hi' : (i : Int) < (n : Int) := by omega
    obtain ⟨e, he⟩ : ∃ e, l[i]? = some e := ⟨_, List.getElem?_eq_getElem (by rw [← hn.out]; exact hi)⟩
    obtain ⟨b1, off1, xa1, ca1, rfl, hlt1, k10, k11, k12, k13, hX1⟩ := hx.elem he
    obtain ⟨b2, off2, xa2, ca2, rfl, hlt2, k20, k21, k22, k23, hX2⟩ := hy.elem he
    have hbd : Below wr.heap.size wr wr.drew := (Below.refl _ _).drew
    have B0 := hb.trans (hB.mono hb.size)
    have Bd := B0.trans (hbd.mono B0.size)
    have HC1 := hide (HC.out i e he wr.drew xa1 xa2 ca1 ca2 Bd hX1 hX2)
    clear he
    go_upto_region 6 with fail
    refine wp_region_held (S := fun w' => w'.cell? ⟨b1, off1 + i * 4 + 3, none⟩ = some (.slice xa1 e.l.length ca1) ∧ w'.cell? ⟨b2, off2 + i * 4 + 3, none⟩ = some (.slice xa2 e.l.length ca2)) (by kernel_rfl) ?_
    have hS9 : wr.drew.cell? ⟨b1, off1 + i * 4 + 3, none⟩ = some (.slice xa1 e.l.length ca1) ∧ wr.drew.cell? ⟨b2, off2 + i * 4 + 3, none⟩ = some (.slice xa2 e.l.length ca2) := ⟨(Bd.cell hlt1).trans k13, (Bd.cell hlt2).trans k23⟩
    (refine tk 0 (v := ?_) ?_ hS9 ?_; rotate_left 1; (intro w' hSw; (try dsimp only at hSw); go_simp; (try rw [if_pos (by omega)])); (try rfl); (try dsimp only [Act.put]))
    (refine tk 1 (v := ?_) ?_ hS9 ?_; rotate_left 1; (intro w' hSw; (try dsimp only at hSw); go_simp; (try rw [if_pos (by omega)])); (try rfl); (try dsimp only [Act.put]))
    (refine tk 2 (v := ?_) ?_ hS9 ?_; rotate_left 1; (intro w' hSw; (try dsimp only at hSw); go_simp; (try rw [if_pos (by omega)])); (try rfl); (try dsimp only [Act.put]))
    (refine tk 3 (v := ?_) ?_ hS9 ?_; rotate_left 1; (intro w' hSw; (try dsimp only at hSw); go_simp; (try rw [if_pos (by omega)])); (try rfl); (try dsimp only [Act.put]))
    (refine tk 4 (v := ?_) ?_ hS9 ?_; rotate_left 1; (intro w' hSw; (try dsimp only at hSw); go_simp; (try rw [if_pos (by omega)])); (try rfl); (try dsimp only [Act.put]))
    (refine tk 5 (v := ?_) ?_ hS9 ?_; rotate_left 1; (intro w' hSw; (try dsimp only at hSw); go_simp; (try rw [if_pos (by omega)])); (try rfl); (try dsimp only [Act.put]))
    (refine tk 6 (v := ?_) ?_ hS9 ?_; rotate_left 1; (intro w' hSw; (try dsimp only at hSw); go_simp; (try rw [if_pos (by omega)])); (try rfl); (try dsimp only [Act.put]))
    (refine tk 7 (v := ?_) ?_ hS9 ?_; rotate_left 1; (intro w' hSw; (try dsimp only at hSw); go_simp; (try rw [if_pos (by omega)])); (try rfl); (try dsimp only [Act.put]))
    (refine tk 8 (v := ?_) ?_ hS9 ?_; rotate_left 1; (intro w' hSw; (try dsimp only at hSw); go_simp; (try rw [if_pos (by omega)])); (try rfl); (try dsimp only [Act.put]))
    (refine tk 9 (v := ?_) ?_ hS9 ?_; rotate_left 1; (intro w' hSw; (try dsimp only at hSw); go_simp; (try rw [if_pos (by omega)])); (try rfl); (try dsimp only [Act.put]))
    refine wpAnyH_one (k := 10) (by kernel_rfl) ?_
    unfold wpOp
    go_simp
    refine Or.inl (HC1.out.mono ?_)
    rintro e' w3 ⟨rfl, hb3⟩
    have B3 := Bd.trans (hb3.mono Bd.size)
    have hB3 := (hB.trans (hbd.mono hB.size)).trans (hb3.mono (hB.trans (hbd.mono hB.size)).size)
    have hS9 : w3.cell? ⟨b1, off1 + i * 4 + 3, none⟩ = some (.slice xa1 e.l.length ca1) ∧ w3.cell? ⟨b2, off2 + i * 4 + 3, none⟩ = some (.slice xa2 e.l.length ca2) := ⟨(B3.cell hlt1).trans k13, (B3.cell hlt2).trans k23⟩
    refine ⟨hS9, ?_⟩
    refine wpAnyH_one (k := 11) (by kernel_rfl) ?_
    unfold wpOp
    go_simp
    refine Or.inl ⟨by kernel_rfl, ?_⟩
    clear hS9 HC1
    have q0 := (B3.cell hlt1).trans k10
    have q1 := (B3.cell hlt1).trans k11
    have q2 := (B3.cell hlt1).trans k12
    have r0 := (B3.cell hlt2).trans k20
    have r1 := (B3.cell hlt2).trans k21
    have r2 := (B3.cell hlt2).trans k22
    have e0 : (e.op == e.op) = true := by simp
    have e1 : (e.n == e.n) = true := by simp
    have e2 : (e.name == e.name) = true := by simp
    clear k10 k11 k12 k20 k21 k22 k13 k23
    go_wp2_with fail
    go_quiet (fail)
    go_wp2_with fail
    go_roundg (n - (i + 1))
    case measure => omega
    case rel => exact ⟨i + 1, by go_num, by omega, Below.drewN' hB3 _⟩
theorem sameE_ex (w0 : World) {e : Ex} (h : ExSm e) : SameE w0 e.l := by
  induction h with
  | mk e ho hn hl h ih => exact fun W x y cx cy hb hx hy => sameE_step w0 e.l _ rfl hl (hide ih) W x y cx cy hb hx hy
theorem sameE_any (w0 : World) {l : List Ex} (hl : l.length ≤ maxLen) (h : ∀ (i : Nat) (e : Ex), l[i]? = some e → ExSm e) : SameE w0 l := fun W x y cx cy hb hx hy => sameE_step w0 l _ rfl hl (hide fun i e he => sameE_ex w0 (h i e he)) W x y cx cy hb hx hy

/-- Two terms side by side in a row of their own. -/
theorem exs_pair (W : World) (T : TypeId) (e : Te) (y : Option Addr) (d : Nat) (z : Option Addr) (f : Nat) (hy : ExsAt W Any y e.a.l) (hz : ExsAt W Any z e.b.l) : ExsAt (W.alloc (.cells #[.string (bs e.a.op), .int .i64 e.a.n, .string (bs e.a.name), .slice y e.a.l.length d, .string (bs e.b.op), .int .i64 e.b.n, .string (bs e.b.name), .slice z e.b.l.length f] T)) Any (some ⟨W.heap.size, 0, none⟩) [e.a, e.b] := by
  have hb := (Below.refl W.heap.size W).alloc (Nat.le_refl _) (.cells #[.string (bs e.a.op), .int .i64 e.a.n, .string (bs e.a.name), .slice y e.a.l.length d, .string (bs e.b.op), .int .i64 e.b.n, .string (bs e.b.name), .slice z e.b.l.length f] T)
  have B := BoxN.new W T [.string (bs e.a.op), .int .i64 e.a.n, .string (bs e.a.name), .slice y e.a.l.length d, .string (bs e.b.op), .int .i64 e.b.n, .string (bs e.b.name), .slice z e.b.l.length f]
  refine exs_of_row (.inr ⟨W.heap.size, 0, rfl, trivial, by simp, fun i x hi => ?_⟩)
  rcases i with _ | _ | i
  · cases hi
    refine ⟨[.string (bs e.a.op), .int .i64 e.a.n, .string (bs e.a.name), .slice y e.a.l.length d], rfl, fun j u hj => ?_, y, d, rfl, hy.bel hb⟩
    match j, hj with
    | 0, hj => cases hj; exact B.cell 0 _ rfl
    | 1, hj => cases hj; exact B.cell 1 _ rfl
    | 2, hj => cases hj; exact B.cell 2 _ rfl
    | 3, hj => cases hj; exact B.cell 3 _ rfl
    | j + 4, hj => simp at hj
  · cases hi
    refine ⟨[.string (bs e.b.op), .int .i64 e.b.n, .string (bs e.b.name), .slice z e.b.l.length f], rfl, fun j u hj => ?_, z, f, rfl, hz.bel hb⟩
    match j, hj with
    | 0, hj => cases hj; exact B.cell 4 _ rfl
    | 1, hj => cases hj; exact B.cell 5 _ rfl
    | 2, hj => cases hj; exact B.cell 6 _ rfl
    | 3, hj => cases hj; exact B.cell 7 _ rfl
    | j + 4, hj => simp at hj
  · simp at hi
/-- Tests of one row, at two places. -/
def SameT (w0 : World) (l : List Te) : Prop := ∀ (W : World) (x y : Option Addr) (cx cy : Nat), Below w0.heap.size w0 W → RowAt teVals 9 w0 Any x l → RowAt teVals 9 w0 Any y l → Calls Tryz.prog 118 #[.slice x l.length cx, .slice y l.length cy] W fun e W' => e = .returned (.bool true) ∧ Below W.heap.size W W'
theorem pair_sm {e : Te} (h : TeSm e) : ∀ (i : Nat) (x : Ex), [e.a, e.b][i]? = some x → ExSm x := by
  intro i x hi
  rcases i with _ | _ | i
  · cases hi; exact h.a
  · cases hi; exact h.b
  · simp at hi
set_option maxRecDepth 20000 in
set_option maxHeartbeats 8000000 in
theorem sameT_step (w0 : World) (l : List Te) (n : Nat) (hn : Hid (n = l.length)) (hl : n ≤ maxLen) (HS : Hid (∀ (i : Nat) (e : Te), l[i]? = some e → TeSm e)) (w : World) (x y : Option Addr) (cx cy : Nat) (hb : Below w0.heap.size w0 w) (hx : RowAt teVals 9 w0 Any x l) (hy : RowAt teVals 9 w0 Any y l) : Calls Tryz.prog 118 #[.slice x n cx, .slice y n cy] w fun e w' => e = .returned (.bool true) ∧ Below w.heap.size w w' := by
  unfold maxLen at hl
  go_enter Tryz.func118, Tryz.ntmps118
  go_wp2_with fail
  go_loopg [5] n (fun gh iv wx => ∃ i : Nat, iv = .int .i64 i ∧ i + gh = n ∧ Below w.heap.size w wx)
  case atStart => exact ⟨0, rfl, by omega, Below.refl _ _⟩
  case round =>
    obtain ⟨i, rfl, hig, hB⟩ := hrel
    by_cases hi : i < n
    case neg =>
      have hi' : ¬ (i : Int) < (n : Int) := by omega
      go_wp2_with fail
      go_ret
      exact ⟨rfl, hB⟩
    have hi' : (i : Int) < (n : Int) := by omega
    obtain ⟨e, he⟩ : ∃ e, l[i]? = some e := ⟨_, List.getElem?_eq_getElem (by rw [← hn.out]; exact hi)⟩
    have hsm := HS.out i e he
    obtain ⟨b1, off1, rfl, hlt1, vs1, hvl1, vk1, y1, d1, z1, f1, rfl, hX1, hY1⟩ := hx.elem he
    obtain ⟨b2, off2, rfl, hlt2, vs2, hvl2, vk2, y2, d2, z2, f2, rfl, hX2, hY2⟩ := hy.elem he
    have k10 := vk1 0 _ rfl
    have k11 := vk1 1 _ rfl
    have k12 := vk1 2 _ rfl
    have k13 := vk1 3 _ rfl
    have k14 := vk1 4 _ rfl
    have k15 := vk1 5 _ rfl
    have k16 := vk1 6 _ rfl
    have k17 := vk1 7 _ rfl
    have k18 := vk1 8 _ rfl
    have k20 := vk2 0 _ rfl
    have k21 := vk2 1 _ rfl
    have k22 := vk2 2 _ rfl
    have k23 := vk2 3 _ rfl
    have k24 := vk2 4 _ rfl
    have k25 := vk2 5 _ rfl
    have k26 := vk2 6 _ rfl
    have k27 := vk2 7 _ rfl
    have k28 := vk2 8 _ rfl
    simp only [Nat.add_zero] at k10 k20
    clear vk1 vk2
    have hbd : Below wr.heap.size wr wr.drew := (Below.refl _ _).drew
    have hBd := hB.trans (hbd.mono hB.size)
    have Bd := hb.trans (hBd.mono hb.size)
    clear he
    go_upto_region 6 with fail
    refine wp_region_held (S := fun w' => w'.cell? ⟨b1, off1 + i * 9, none⟩ = some (.string (bs e.a.op)) ∧ w'.cell? ⟨b1, off1 + i * 9 + 1, none⟩ = some (.int .i64 e.a.n) ∧ w'.cell? ⟨b1, off1 + i * 9 + 2, none⟩ = some (.string (bs e.a.name)) ∧ w'.cell? ⟨b1, off1 + i * 9 + 3, none⟩ = some (.slice y1 e.a.l.length d1) ∧ w'.cell? ⟨b1, off1 + i * 9 + 5, none⟩ = some (.string (bs e.b.op)) ∧ w'.cell? ⟨b1, off1 + i * 9 + 6, none⟩ = some (.int .i64 e.b.n) ∧ w'.cell? ⟨b1, off1 + i * 9 + 7, none⟩ = some (.string (bs e.b.name)) ∧ w'.cell? ⟨b1, off1 + i * 9 + 8, none⟩ = some (.slice z1 e.b.l.length f1) ∧ w'.cell? ⟨b2, off2 + i * 9, none⟩ = some (.string (bs e.a.op)) ∧ w'.cell? ⟨b2, off2 + i * 9 + 1, none⟩ = some (.int .i64 e.a.n) ∧ w'.cell? ⟨b2, off2 + i * 9 + 2, none⟩ = some (.string (bs e.a.name)) ∧ w'.cell? ⟨b2, off2 + i * 9 + 3, none⟩ = some (.slice y2 e.a.l.length d2) ∧ w'.cell? ⟨b2, off2 + i * 9 + 5, none⟩ = some (.string (bs e.b.op)) ∧ w'.cell? ⟨b2, off2 + i * 9 + 6, none⟩ = some (.int .i64 e.b.n) ∧ w'.cell? ⟨b2, off2 + i * 9 + 7, none⟩ = some (.string (bs e.b.name)) ∧ w'.cell? ⟨b2, off2 + i * 9 + 8, none⟩ = some (.slice z2 e.b.l.length f2)) (by kernel_rfl) ?_
    obtain ⟨wd, hwd⟩ : ∃ X, X = wr.drew := ⟨_, rfl⟩
    change wpAnyH _ _ _ _ _ _ _ _ wr.drew
    rw [← hwd] at Bd hBd ⊢
    clear hwd hbd
    have hS9 : wd.cell? ⟨b1, off1 + i * 9, none⟩ = some (.string (bs e.a.op)) ∧ wd.cell? ⟨b1, off1 + i * 9 + 1, none⟩ = some (.int .i64 e.a.n) ∧ wd.cell? ⟨b1, off1 + i * 9 + 2, none⟩ = some (.string (bs e.a.name)) ∧ wd.cell? ⟨b1, off1 + i * 9 + 3, none⟩ = some (.slice y1 e.a.l.length d1) ∧ wd.cell? ⟨b1, off1 + i * 9 + 5, none⟩ = some (.string (bs e.b.op)) ∧ wd.cell? ⟨b1, off1 + i * 9 + 6, none⟩ = some (.int .i64 e.b.n) ∧ wd.cell? ⟨b1, off1 + i * 9 + 7, none⟩ = some (.string (bs e.b.name)) ∧ wd.cell? ⟨b1, off1 + i * 9 + 8, none⟩ = some (.slice z1 e.b.l.length f1) ∧ wd.cell? ⟨b2, off2 + i * 9, none⟩ = some (.string (bs e.a.op)) ∧ wd.cell? ⟨b2, off2 + i * 9 + 1, none⟩ = some (.int .i64 e.a.n) ∧ wd.cell? ⟨b2, off2 + i * 9 + 2, none⟩ = some (.string (bs e.a.name)) ∧ wd.cell? ⟨b2, off2 + i * 9 + 3, none⟩ = some (.slice y2 e.a.l.length d2) ∧ wd.cell? ⟨b2, off2 + i * 9 + 5, none⟩ = some (.string (bs e.b.op)) ∧ wd.cell? ⟨b2, off2 + i * 9 + 6, none⟩ = some (.int .i64 e.b.n) ∧ wd.cell? ⟨b2, off2 + i * 9 + 7, none⟩ = some (.string (bs e.b.name)) ∧ wd.cell? ⟨b2, off2 + i * 9 + 8, none⟩ = some (.slice z2 e.b.l.length f2) := ⟨(Bd.cell hlt1).trans k10, (Bd.cell hlt1).trans k11, (Bd.cell hlt1).trans k12, (Bd.cell hlt1).trans k13, (Bd.cell hlt1).trans k15, (Bd.cell hlt1).trans k16, (Bd.cell hlt1).trans k17, (Bd.cell hlt1).trans k18, (Bd.cell hlt2).trans k20, (Bd.cell hlt2).trans k21, (Bd.cell hlt2).trans k22, (Bd.cell hlt2).trans k23, (Bd.cell hlt2).trans k25, (Bd.cell hlt2).trans k26, (Bd.cell hlt2).trans k27, (Bd.cell hlt2).trans k28⟩
    (refine tk 0 (v := ?_) ?_ hS9 ?_; rotate_left 1; (intro w' hSw; (try dsimp only at hSw); go_simp; (try rw [if_pos (by omega)])); (try rfl); (try dsimp only [Act.put]))
    (refine tk 1 (v := ?_) ?_ hS9 ?_; rotate_left 1; (intro w' hSw; (try dsimp only at hSw); go_simp; (try rw [if_pos (by omega)])); (try rfl); (try dsimp only [Act.put]))
    (refine tk 2 (v := ?_) ?_ hS9 ?_; rotate_left 1; (intro w' hSw; (try dsimp only at hSw); go_simp; (try rw [if_pos (by omega)])); (try rfl); (try dsimp only [Act.put]))
    (refine tk 3 (v := ?_) ?_ hS9 ?_; rotate_left 1; (intro w' hSw; (try dsimp only at hSw); go_simp; (try rw [if_pos (by omega)])); (try rfl); (try dsimp only [Act.put]))
    (refine tk 4 (v := ?_) ?_ hS9 ?_; rotate_left 1; (intro w' hSw; (try dsimp only at hSw); go_simp; (try rw [if_pos (by omega)])); (try rfl); (try dsimp only [Act.put]))
    (refine tk 5 (v := ?_) ?_ hS9 ?_; rotate_left 1; (intro w' hSw; (try dsimp only at hSw); go_simp; (try rw [if_pos (by omega)])); (try rfl); (try dsimp only [Act.put]))
    (refine tk 6 (v := ?_) ?_ hS9 ?_; rotate_left 1; (intro w' hSw; (try dsimp only at hSw); go_simp; (try rw [if_pos (by omega)])); (try rfl); (try dsimp only [Act.put]))
    (refine tk 7 (v := ?_) ?_ hS9 ?_; rotate_left 1; (intro w' hSw; (try dsimp only at hSw); go_simp; (try rw [if_pos (by omega)])); (try rfl); (try dsimp only [Act.put]))
    (refine tk 8 (v := ?_) ?_ hS9 ?_; rotate_left 1; (intro w' hSw; (try dsimp only at hSw); go_simp; (try rw [if_pos (by omega)])); (try rfl); (try dsimp only [Act.put]))
    (refine tk 9 (v := ?_) ?_ hS9 ?_; rotate_left 1; (intro w' hSw; (try dsimp only at hSw); go_simp; (try rw [if_pos (by omega)])); (try rfl); (try dsimp only [Act.put]))
    (refine tk 11 (v := ?_) ?_ hS9 ?_; rotate_left 1; (intro w' hSw; (try dsimp only at hSw); go_simp; (try rw [if_pos (by omega)])); (try rfl); (try dsimp only [Act.put]))
    (refine tk 12 (v := ?_) ?_ hS9 ?_; rotate_left 1; (intro w' hSw; (try dsimp only at hSw); go_simp; (try rw [if_pos (by omega)])); (try rfl); (try dsimp only [Act.put]))
    (refine tk 13 (v := ?_) ?_ hS9 ?_; rotate_left 1; (intro w' hSw; (try dsimp only at hSw); go_simp; (try rw [if_pos (by omega)])); (try rfl); (try dsimp only [Act.put]))
    (refine tk 14 (v := ?_) ?_ hS9 ?_; rotate_left 1; (intro w' hSw; (try dsimp only at hSw); go_simp; (try rw [if_pos (by omega)])); (try rfl); (try dsimp only [Act.put]))
    (refine tk 15 (v := ?_) ?_ hS9 ?_; rotate_left 1; (intro w' hSw; (try dsimp only at hSw); go_simp; (try rw [if_pos (by omega)])); (try rfl); (try dsimp only [Act.put]))
    (refine tk 16 (v := ?_) ?_ hS9 ?_; rotate_left 1; (intro w' hSw; (try dsimp only at hSw); go_simp; (try rw [if_pos (by omega)])); (try rfl); (try dsimp only [Act.put]))
    (refine tk 17 (v := ?_) ?_ hS9 ?_; rotate_left 1; (intro w' hSw; (try dsimp only at hSw); go_simp; (try rw [if_pos (by omega)])); (try rfl); (try dsimp only [Act.put]))
    (refine tk 18 (v := ?_) ?_ hS9 ?_; rotate_left 1; (intro w' hSw; (try dsimp only at hSw); go_simp; (try rw [if_pos (by omega)])); (try rfl); (try dsimp only [Act.put]))
    (refine tk 19 (v := ?_) ?_ hS9 ?_; rotate_left 1; (intro w' hSw; (try dsimp only at hSw); go_simp; (try rw [if_pos (by omega)])); (try rfl); (try dsimp only [Act.put]))
    (refine tk 20 (v := ?_) ?_ hS9 ?_; rotate_left 1; (intro w' hSw; (try dsimp only at hSw); go_simp; (try rw [if_pos (by omega)])); (try rfl); (try dsimp only [Act.put]))
    refine wpAnyH_two (j := 10) (k := 21) (by kernel_rfl) ?_ ?_
    · unfold wpOp
      go_simp
      have hb4 := (Below.refl wd.heap.size wd).alloc (Nat.le_refl _) (.cells #[.string (bs e.a.op), .int .i64 e.a.n, .string (bs e.a.name), .slice y1 e.a.l.length d1, .string (bs e.b.op), .int .i64 e.b.n, .string (bs e.b.name), .slice z1 e.b.l.length f1] 83)
      have E4 := exs_pair wd 83 e y1 d1 z1 f1 (hX1.bel Bd) (hY1.bel Bd)
      have B4 := Bd.trans (hb4.mono Bd.size)
      have hB4 := hBd.trans (hb4.mono hBd.size)
      obtain ⟨w4, hw4⟩ : ∃ X, X = wd.alloc (.cells #[.string (bs e.a.op), .int .i64 e.a.n, .string (bs e.a.name), .slice y1 e.a.l.length d1, .string (bs e.b.op), .int .i64 e.b.n, .string (bs e.b.name), .slice z1 e.b.l.length f1] 83) := ⟨_, rfl⟩
      rw [← hw4] at hb4 E4 B4 hB4 ⊢
      clear hw4
      have hS9 : w4.cell? ⟨b1, off1 + i * 9, none⟩ = some (.string (bs e.a.op)) ∧ w4.cell? ⟨b1, off1 + i * 9 + 1, none⟩ = some (.int .i64 e.a.n) ∧ w4.cell? ⟨b1, off1 + i * 9 + 2, none⟩ = some (.string (bs e.a.name)) ∧ w4.cell? ⟨b1, off1 + i * 9 + 3, none⟩ = some (.slice y1 e.a.l.length d1) ∧ w4.cell? ⟨b1, off1 + i * 9 + 5, none⟩ = some (.string (bs e.b.op)) ∧ w4.cell? ⟨b1, off1 + i * 9 + 6, none⟩ = some (.int .i64 e.b.n) ∧ w4.cell? ⟨b1, off1 + i * 9 + 7, none⟩ = some (.string (bs e.b.name)) ∧ w4.cell? ⟨b1, off1 + i * 9 + 8, none⟩ = some (.slice z1 e.b.l.length f1) ∧ w4.cell? ⟨b2, off2 + i * 9, none⟩ = some (.string (bs e.a.op)) ∧ w4.cell? ⟨b2, off2 + i * 9 + 1, none⟩ = some (.int .i64 e.a.n) ∧ w4.cell? ⟨b2, off2 + i * 9 + 2, none⟩ = some (.string (bs e.a.name)) ∧ w4.cell? ⟨b2, off2 + i * 9 + 3, none⟩ = some (.slice y2 e.a.l.length d2) ∧ w4.cell? ⟨b2, off2 + i * 9 + 5, none⟩ = some (.string (bs e.b.op)) ∧ w4.cell? ⟨b2, off2 + i * 9 + 6, none⟩ = some (.int .i64 e.b.n) ∧ w4.cell? ⟨b2, off2 + i * 9 + 7, none⟩ = some (.string (bs e.b.name)) ∧ w4.cell? ⟨b2, off2 + i * 9 + 8, none⟩ = some (.slice z2 e.b.l.length f2) := ⟨(B4.cell hlt1).trans k10, (B4.cell hlt1).trans k11, (B4.cell hlt1).trans k12, (B4.cell hlt1).trans k13, (B4.cell hlt1).trans k15, (B4.cell hlt1).trans k16, (B4.cell hlt1).trans k17, (B4.cell hlt1).trans k18, (B4.cell hlt2).trans k20, (B4.cell hlt2).trans k21, (B4.cell hlt2).trans k22, (B4.cell hlt2).trans k23, (B4.cell hlt2).trans k25, (B4.cell hlt2).trans k26, (B4.cell hlt2).trans k27, (B4.cell hlt2).trans k28⟩
      refine Or.inl ⟨hS9, ?_⟩
      refine wpAnyH_one (k := 21) (by kernel_rfl) ?_
      unfold wpOp
      go_simp
      have hb5 := (Below.refl w4.heap.size w4).alloc (Nat.le_refl _) (.cells #[.string (bs e.a.op), .int .i64 e.a.n, .string (bs e.a.name), .slice y2 e.a.l.length d2, .string (bs e.b.op), .int .i64 e.b.n, .string (bs e.b.name), .slice z2 e.b.l.length f2] 83)
      have E5 := exs_pair w4 83 e y2 d2 z2 f2 (hX2.bel B4) (hY2.bel B4)
      have E4 := E4.bel hb5
      have B5 := B4.trans (hb5.mono B4.size)
      have hB5 := hB4.trans (hb5.mono hB4.size)
      obtain ⟨w5, hw5⟩ : ∃ X, X = w4.alloc (.cells #[.string (bs e.a.op), .int .i64 e.a.n, .string (bs e.a.name), .slice y2 e.a.l.length d2, .string (bs e.b.op), .int .i64 e.b.n, .string (bs e.b.name), .slice z2 e.b.l.length f2] 83) := ⟨_, rfl⟩
      rw [← hw5] at hb5 E4 E5 B5 hB5 ⊢
      clear hw5
      have hS9 : w5.cell? ⟨b1, off1 + i * 9, none⟩ = some (.string (bs e.a.op)) ∧ w5.cell? ⟨b1, off1 + i * 9 + 1, none⟩ = some (.int .i64 e.a.n) ∧ w5.cell? ⟨b1, off1 + i * 9 + 2, none⟩ = some (.string (bs e.a.name)) ∧ w5.cell? ⟨b1, off1 + i * 9 + 3, none⟩ = some (.slice y1 e.a.l.length d1) ∧ w5.cell? ⟨b1, off1 + i * 9 + 5, none⟩ = some (.string (bs e.b.op)) ∧ w5.cell? ⟨b1, off1 + i * 9 + 6, none⟩ = some (.int .i64 e.b.n) ∧ w5.cell? ⟨b1, off1 + i * 9 + 7, none⟩ = some (.string (bs e.b.name)) ∧ w5.cell? ⟨b1, off1 + i * 9 + 8, none⟩ = some (.slice z1 e.b.l.length f1) ∧ w5.cell? ⟨b2, off2 + i * 9, none⟩ = some (.string (bs e.a.op)) ∧ w5.cell? ⟨b2, off2 + i * 9 + 1, none⟩ = some (.int .i64 e.a.n) ∧ w5.cell? ⟨b2, off2 + i * 9 + 2, none⟩ = some (.string (bs e.a.name)) ∧ w5.cell? ⟨b2, off2 + i * 9 + 3, none⟩ = some (.slice y2 e.a.l.length d2) ∧ w5.cell? ⟨b2, off2 + i * 9 + 5, none⟩ = some (.string (bs e.b.op)) ∧ w5.cell? ⟨b2, off2 + i * 9 + 6, none⟩ = some (.int .i64 e.b.n) ∧ w5.cell? ⟨b2, off2 + i * 9 + 7, none⟩ = some (.string (bs e.b.name)) ∧ w5.cell? ⟨b2, off2 + i * 9 + 8, none⟩ = some (.slice z2 e.b.l.length f2) := ⟨(B5.cell hlt1).trans k10, (B5.cell hlt1).trans k11, (B5.cell hlt1).trans k12, (B5.cell hlt1).trans k13, (B5.cell hlt1).trans k15, (B5.cell hlt1).trans k16, (B5.cell hlt1).trans k17, (B5.cell hlt1).trans k18, (B5.cell hlt2).trans k20, (B5.cell hlt2).trans k21, (B5.cell hlt2).trans k22, (B5.cell hlt2).trans k23, (B5.cell hlt2).trans k25, (B5.cell hlt2).trans k26, (B5.cell hlt2).trans k27, (B5.cell hlt2).trans k28⟩
      refine Or.inl ⟨hS9, ?_⟩
      have HC1 := hide (sameE_any w5 (l := [e.a, e.b]) (by unfold maxLen; simp) (pair_sm hsm) w5 _ _ 2 2 (Below.refl _ _) E4 E5)
      refine wpAnyH_one (k := 22) (by kernel_rfl) ?_
      unfold wpOp
      go_simp
      refine Or.inl (HC1.out.mono ?_)
      rintro e' w6 ⟨rfl, hb6⟩
      have B6 := B5.trans (hb6.mono B5.size)
      have hB6 := hB5.trans (hb6.mono hB5.size)
      have hS9 : w6.cell? ⟨b1, off1 + i * 9, none⟩ = some (.string (bs e.a.op)) ∧ w6.cell? ⟨b1, off1 + i * 9 + 1, none⟩ = some (.int .i64 e.a.n) ∧ w6.cell? ⟨b1, off1 + i * 9 + 2, none⟩ = some (.string (bs e.a.name)) ∧ w6.cell? ⟨b1, off1 + i * 9 + 3, none⟩ = some (.slice y1 e.a.l.length d1) ∧ w6.cell? ⟨b1, off1 + i * 9 + 5, none⟩ = some (.string (bs e.b.op)) ∧ w6.cell? ⟨b1, off1 + i * 9 + 6, none⟩ = some (.int .i64 e.b.n) ∧ w6.cell? ⟨b1, off1 + i * 9 + 7, none⟩ = some (.string (bs e.b.name)) ∧ w6.cell? ⟨b1, off1 + i * 9 + 8, none⟩ = some (.slice z1 e.b.l.length f1) ∧ w6.cell? ⟨b2, off2 + i * 9, none⟩ = some (.string (bs e.a.op)) ∧ w6.cell? ⟨b2, off2 + i * 9 + 1, none⟩ = some (.int .i64 e.a.n) ∧ w6.cell? ⟨b2, off2 + i * 9 + 2, none⟩ = some (.string (bs e.a.name)) ∧ w6.cell? ⟨b2, off2 + i * 9 + 3, none⟩ = some (.slice y2 e.a.l.length d2) ∧ w6.cell? ⟨b2, off2 + i * 9 + 5, none⟩ = some (.string (bs e.b.op)) ∧ w6.cell? ⟨b2, off2 + i * 9 + 6, none⟩ = some (.int .i64 e.b.n) ∧ w6.cell? ⟨b2, off2 + i * 9 + 7, none⟩ = some (.string (bs e.b.name)) ∧ w6.cell? ⟨b2, off2 + i * 9 + 8, none⟩ = some (.slice z2 e.b.l.length f2) := ⟨(B6.cell hlt1).trans k10, (B6.cell hlt1).trans k11, (B6.cell hlt1).trans k12, (B6.cell hlt1).trans k13, (B6.cell hlt1).trans k15, (B6.cell hlt1).trans k16, (B6.cell hlt1).trans k17, (B6.cell hlt1).trans k18, (B6.cell hlt2).trans k20, (B6.cell hlt2).trans k21, (B6.cell hlt2).trans k22, (B6.cell hlt2).trans k23, (B6.cell hlt2).trans k25, (B6.cell hlt2).trans k26, (B6.cell hlt2).trans k27, (B6.cell hlt2).trans k28⟩
      refine ⟨hS9, ?_⟩
      refine wpAnyH_one (k := 23) (by kernel_rfl) ?_
      unfold wpOp
      go_simp
      refine Or.inl ⟨by kernel_rfl, ?_⟩
      clear hS9 HC1
      have q0 := (B6.cell hlt1).trans k14
      have r0 := (B6.cell hlt2).trans k24
      have e0 : (e.rel == e.rel) = true := by simp
      clear k10 k11 k12 k20 k21 k22 k13 k23 k14 k24 k15 k16 k17 k18 k25 k26 k27 k28
      go_wp2_with fail
      go_quiet (fail)
      go_wp2_with fail
      go_roundg (n - (i + 1))
      case measure => omega
      case rel => exact ⟨i + 1, by go_num, by omega, Below.drewN' hB6 _⟩
    · unfold wpOp
      go_simp
      have hb4 := (Below.refl wd.heap.size wd).alloc (Nat.le_refl _) (.cells #[.string (bs e.a.op), .int .i64 e.a.n, .string (bs e.a.name), .slice y2 e.a.l.length d2, .string (bs e.b.op), .int .i64 e.b.n, .string (bs e.b.name), .slice z2 e.b.l.length f2] 83)
      have E4 := exs_pair wd 83 e y2 d2 z2 f2 (hX2.bel Bd) (hY2.bel Bd)
      have B4 := Bd.trans (hb4.mono Bd.size)
      have hB4 := hBd.trans (hb4.mono hBd.size)
      obtain ⟨w4, hw4⟩ : ∃ X, X = wd.alloc (.cells #[.string (bs e.a.op), .int .i64 e.a.n, .string (bs e.a.name), .slice y2 e.a.l.length d2, .string (bs e.b.op), .int .i64 e.b.n, .string (bs e.b.name), .slice z2 e.b.l.length f2] 83) := ⟨_, rfl⟩
      rw [← hw4] at hb4 E4 B4 hB4 ⊢
      clear hw4
      have hS9 : w4.cell? ⟨b1, off1 + i * 9, none⟩ = some (.string (bs e.a.op)) ∧ w4.cell? ⟨b1, off1 + i * 9 + 1, none⟩ = some (.int .i64 e.a.n) ∧ w4.cell? ⟨b1, off1 + i * 9 + 2, none⟩ = some (.string (bs e.a.name)) ∧ w4.cell? ⟨b1, off1 + i * 9 + 3, none⟩ = some (.slice y1 e.a.l.length d1) ∧ w4.cell? ⟨b1, off1 + i * 9 + 5, none⟩ = some (.string (bs e.b.op)) ∧ w4.cell? ⟨b1, off1 + i * 9 + 6, none⟩ = some (.int .i64 e.b.n) ∧ w4.cell? ⟨b1, off1 + i * 9 + 7, none⟩ = some (.string (bs e.b.name)) ∧ w4.cell? ⟨b1, off1 + i * 9 + 8, none⟩ = some (.slice z1 e.b.l.length f1) ∧ w4.cell? ⟨b2, off2 + i * 9, none⟩ = some (.string (bs e.a.op)) ∧ w4.cell? ⟨b2, off2 + i * 9 + 1, none⟩ = some (.int .i64 e.a.n) ∧ w4.cell? ⟨b2, off2 + i * 9 + 2, none⟩ = some (.string (bs e.a.name)) ∧ w4.cell? ⟨b2, off2 + i * 9 + 3, none⟩ = some (.slice y2 e.a.l.length d2) ∧ w4.cell? ⟨b2, off2 + i * 9 + 5, none⟩ = some (.string (bs e.b.op)) ∧ w4.cell? ⟨b2, off2 + i * 9 + 6, none⟩ = some (.int .i64 e.b.n) ∧ w4.cell? ⟨b2, off2 + i * 9 + 7, none⟩ = some (.string (bs e.b.name)) ∧ w4.cell? ⟨b2, off2 + i * 9 + 8, none⟩ = some (.slice z2 e.b.l.length f2) := ⟨(B4.cell hlt1).trans k10, (B4.cell hlt1).trans k11, (B4.cell hlt1).trans k12, (B4.cell hlt1).trans k13, (B4.cell hlt1).trans k15, (B4.cell hlt1).trans k16, (B4.cell hlt1).trans k17, (B4.cell hlt1).trans k18, (B4.cell hlt2).trans k20, (B4.cell hlt2).trans k21, (B4.cell hlt2).trans k22, (B4.cell hlt2).trans k23, (B4.cell hlt2).trans k25, (B4.cell hlt2).trans k26, (B4.cell hlt2).trans k27, (B4.cell hlt2).trans k28⟩
      refine Or.inl ⟨hS9, ?_⟩
      refine wpAnyH_one (k := 10) (by kernel_rfl) ?_
      unfold wpOp
      go_simp
      have hb5 := (Below.refl w4.heap.size w4).alloc (Nat.le_refl _) (.cells #[.string (bs e.a.op), .int .i64 e.a.n, .string (bs e.a.name), .slice y1 e.a.l.length d1, .string (bs e.b.op), .int .i64 e.b.n, .string (bs e.b.name), .slice z1 e.b.l.length f1] 83)
      have E5 := exs_pair w4 83 e y1 d1 z1 f1 (hX1.bel B4) (hY1.bel B4)
      have E4 := E4.bel hb5
      have B5 := B4.trans (hb5.mono B4.size)
      have hB5 := hB4.trans (hb5.mono hB4.size)
      obtain ⟨w5, hw5⟩ : ∃ X, X = w4.alloc (.cells #[.string (bs e.a.op), .int .i64 e.a.n, .string (bs e.a.name), .slice y1 e.a.l.length d1, .string (bs e.b.op), .int .i64 e.b.n, .string (bs e.b.name), .slice z1 e.b.l.length f1] 83) := ⟨_, rfl⟩
      rw [← hw5] at hb5 E4 E5 B5 hB5 ⊢
      clear hw5
      have hS9 : w5.cell? ⟨b1, off1 + i * 9, none⟩ = some (.string (bs e.a.op)) ∧ w5.cell? ⟨b1, off1 + i * 9 + 1, none⟩ = some (.int .i64 e.a.n) ∧ w5.cell? ⟨b1, off1 + i * 9 + 2, none⟩ = some (.string (bs e.a.name)) ∧ w5.cell? ⟨b1, off1 + i * 9 + 3, none⟩ = some (.slice y1 e.a.l.length d1) ∧ w5.cell? ⟨b1, off1 + i * 9 + 5, none⟩ = some (.string (bs e.b.op)) ∧ w5.cell? ⟨b1, off1 + i * 9 + 6, none⟩ = some (.int .i64 e.b.n) ∧ w5.cell? ⟨b1, off1 + i * 9 + 7, none⟩ = some (.string (bs e.b.name)) ∧ w5.cell? ⟨b1, off1 + i * 9 + 8, none⟩ = some (.slice z1 e.b.l.length f1) ∧ w5.cell? ⟨b2, off2 + i * 9, none⟩ = some (.string (bs e.a.op)) ∧ w5.cell? ⟨b2, off2 + i * 9 + 1, none⟩ = some (.int .i64 e.a.n) ∧ w5.cell? ⟨b2, off2 + i * 9 + 2, none⟩ = some (.string (bs e.a.name)) ∧ w5.cell? ⟨b2, off2 + i * 9 + 3, none⟩ = some (.slice y2 e.a.l.length d2) ∧ w5.cell? ⟨b2, off2 + i * 9 + 5, none⟩ = some (.string (bs e.b.op)) ∧ w5.cell? ⟨b2, off2 + i * 9 + 6, none⟩ = some (.int .i64 e.b.n) ∧ w5.cell? ⟨b2, off2 + i * 9 + 7, none⟩ = some (.string (bs e.b.name)) ∧ w5.cell? ⟨b2, off2 + i * 9 + 8, none⟩ = some (.slice z2 e.b.l.length f2) := ⟨(B5.cell hlt1).trans k10, (B5.cell hlt1).trans k11, (B5.cell hlt1).trans k12, (B5.cell hlt1).trans k13, (B5.cell hlt1).trans k15, (B5.cell hlt1).trans k16, (B5.cell hlt1).trans k17, (B5.cell hlt1).trans k18, (B5.cell hlt2).trans k20, (B5.cell hlt2).trans k21, (B5.cell hlt2).trans k22, (B5.cell hlt2).trans k23, (B5.cell hlt2).trans k25, (B5.cell hlt2).trans k26, (B5.cell hlt2).trans k27, (B5.cell hlt2).trans k28⟩
      refine Or.inl ⟨hS9, ?_⟩
      have HC1 := hide (sameE_any w5 (l := [e.a, e.b]) (by unfold maxLen; simp) (pair_sm hsm) w5 _ _ 2 2 (Below.refl _ _) E5 E4)
      refine wpAnyH_one (k := 22) (by kernel_rfl) ?_
      unfold wpOp
      go_simp
      refine Or.inl (HC1.out.mono ?_)
      rintro e' w6 ⟨rfl, hb6⟩
      have B6 := B5.trans (hb6.mono B5.size)
      have hB6 := hB5.trans (hb6.mono hB5.size)
      have hS9 : w6.cell? ⟨b1, off1 + i * 9, none⟩ = some (.string (bs e.a.op)) ∧ w6.cell? ⟨b1, off1 + i * 9 + 1, none⟩ = some (.int .i64 e.a.n) ∧ w6.cell? ⟨b1, off1 + i * 9 + 2, none⟩ = some (.string (bs e.a.name)) ∧ w6.cell? ⟨b1, off1 + i * 9 + 3, none⟩ = some (.slice y1 e.a.l.length d1) ∧ w6.cell? ⟨b1, off1 + i * 9 + 5, none⟩ = some (.string (bs e.b.op)) ∧ w6.cell? ⟨b1, off1 + i * 9 + 6, none⟩ = some (.int .i64 e.b.n) ∧ w6.cell? ⟨b1, off1 + i * 9 + 7, none⟩ = some (.string (bs e.b.name)) ∧ w6.cell? ⟨b1, off1 + i * 9 + 8, none⟩ = some (.slice z1 e.b.l.length f1) ∧ w6.cell? ⟨b2, off2 + i * 9, none⟩ = some (.string (bs e.a.op)) ∧ w6.cell? ⟨b2, off2 + i * 9 + 1, none⟩ = some (.int .i64 e.a.n) ∧ w6.cell? ⟨b2, off2 + i * 9 + 2, none⟩ = some (.string (bs e.a.name)) ∧ w6.cell? ⟨b2, off2 + i * 9 + 3, none⟩ = some (.slice y2 e.a.l.length d2) ∧ w6.cell? ⟨b2, off2 + i * 9 + 5, none⟩ = some (.string (bs e.b.op)) ∧ w6.cell? ⟨b2, off2 + i * 9 + 6, none⟩ = some (.int .i64 e.b.n) ∧ w6.cell? ⟨b2, off2 + i * 9 + 7, none⟩ = some (.string (bs e.b.name)) ∧ w6.cell? ⟨b2, off2 + i * 9 + 8, none⟩ = some (.slice z2 e.b.l.length f2) := ⟨(B6.cell hlt1).trans k10, (B6.cell hlt1).trans k11, (B6.cell hlt1).trans k12, (B6.cell hlt1).trans k13, (B6.cell hlt1).trans k15, (B6.cell hlt1).trans k16, (B6.cell hlt1).trans k17, (B6.cell hlt1).trans k18, (B6.cell hlt2).trans k20, (B6.cell hlt2).trans k21, (B6.cell hlt2).trans k22, (B6.cell hlt2).trans k23, (B6.cell hlt2).trans k25, (B6.cell hlt2).trans k26, (B6.cell hlt2).trans k27, (B6.cell hlt2).trans k28⟩
      refine ⟨hS9, ?_⟩
      refine wpAnyH_one (k := 23) (by kernel_rfl) ?_
      unfold wpOp
      go_simp
      refine Or.inl ⟨by kernel_rfl, ?_⟩
      clear hS9 HC1
      have q0 := (B6.cell hlt1).trans k14
      have r0 := (B6.cell hlt2).trans k24
      have e0 : (e.rel == e.rel) = true := by simp
      clear k10 k11 k12 k20 k21 k22 k13 k23 k14 k24 k15 k16 k17 k18 k25 k26 k27 k28
      go_wp2_with fail
      go_quiet (fail)
      go_wp2_with fail
      go_roundg (n - (i + 1))
      case measure => omega
      case rel => exact ⟨i + 1, by go_num, by omega, Below.drewN' hB6 _⟩
theorem sameT_any (w0 : World) {l : List Te} (h : RwSm l) : SameT w0 l := fun W x y cx cy hb hx hy => sameT_step w0 l _ rfl h.len (hide h.el) W x y cx cy hb hx hy
end Go.Proofs.YtolpekdckemhkaaGreatDoor

/- The reference's SameProgram: of one and the same program, copied, it is true: statements. -/
namespace Go.Proofs.YtolpekdckemhkaaGreatDoor
open Go.RowKit
set_option linter.unusedVariables false

/-- Statements of one list, at two places. -/
def SameS (w0 : World) (l : List Stm) : Prop := ∀ (W : World) (x y : Option Addr) (cx cy : Nat), Below w0.heap.size w0 W → StmsAt w0 Any x l → StmsAt w0 Any y l → Calls Tryz.prog 70 #[.slice x l.length cx, .slice y l.length cy] W fun e W' => e = .returned (.bool true) ∧ Below W.heap.size W W'
structure SameH (w0 : World) (e : Stm) : Prop where
  a : SameE w0 e.args
  c : e.cond.length ≤ maxLen
  r : ∀ (k : Nat) (row : List Te), e.cond[k]? = some row → SameT w0 row
  b : SameS w0 e.body
  e : SameS w0 e.els
set_option maxRecDepth 20000 in
set_option maxHeartbeats 16000000 in
theorem sameS_step (w0 : World) (l : List Stm) (n : Nat) (hn : Hid (n = l.length)) (hl : n ≤ maxLen) (HC : Hid (∀ (i : Nat) (e : Stm), l[i]? = some e → SameH w0 e)) (w : World) (x y : Option Addr) (cx cy : Nat) (hb : Below w0.heap.size w0 w) (hx : RowAt stVals 7 w0 Any x l) (hy : RowAt stVals 7 w0 Any y l) : Calls Tryz.prog 70 #[.slice x n cx, .slice y n cy] w fun e w' => e = .returned (.bool true) ∧ Below w.heap.size w w' := by
  unfold maxLen at hl
  go_enter Tryz.func70, Tryz.ntmps70
  go_wp2_with fail
  go_loopg [5] n (fun gh iv wx => ∃ i : Nat, iv = .int .i64 i ∧ i + gh = n ∧ Below w.heap.size w wx)
  case atStart => exact ⟨0, rfl, by omega, Below.refl _ _⟩
  case round =>
    obtain ⟨i, rfl, hig, hB⟩ := hrel
    rename World => wo
    by_cases hi : i < n
    case neg =>
      have hi' : ¬ (i : Int) < (n : Int) := by omega
      go_wp2_with fail
      go_ret
      exact ⟨rfl, hB⟩
    have hi' : (i : Int) < (n : Int) := by omega
    obtain ⟨e, he⟩ : ∃ e, l[i]? = some e := ⟨_, List.getElem?_eq_getElem (by rw [← hn.out]; exact hi)⟩
    have hH := HC.out i e he
    obtain ⟨b1, off1, rfl, hlt1, vs1, hvl1, v1, ya1, da1, yc1, dc1, yb1, db1, ye1, de1, rfl, hA1, hC1, hB1, hE1⟩ := hx.elem he
    obtain ⟨b2, off2, rfl, hlt2, vs2, hvl2, v2, ya2, da2, yc2, dc2, yb2, db2, ye2, de2, rfl, hA2, hC2, hB2, hE2⟩ := hy.elem he
    have k10 := v1 0 _ rfl
    have k11 := v1 1 _ rfl
    have k12 := v1 2 _ rfl
    have k13 := v1 3 _ rfl
    have k14 := v1 4 _ rfl
    have k15 := v1 5 _ rfl
    have k16 := v1 6 _ rfl
    have k20 := v2 0 _ rfl
    have k21 := v2 1 _ rfl
    have k22 := v2 2 _ rfl
    have k23 := v2 3 _ rfl
    have k24 := v2 4 _ rfl
    have k25 := v2 5 _ rfl
    have k26 := v2 6 _ rfl
    simp only [Nat.add_zero] at k10 k20
    clear v1 v2 he
    obtain ⟨mc, hmc⟩ : ∃ mc, Hid (mc = e.cond.length) := ⟨_, rfl⟩
    rw [← hmc.out] at k14 k24
    have hmc9 : mc ≤ maxLen := by rw [hmc.out]; exact hH.c
    unfold maxLen at hmc9
    have be := hb.trans (hB.mono hb.size)
    have c0 := (be.cell hlt1).trans k10
    have c1 := (be.cell hlt1).trans k11
    have c2 := (be.cell hlt1).trans k12
    have c3 := (be.cell hlt1).trans k13
    have c4 := (be.cell hlt1).trans k14
    have c5 := (be.cell hlt1).trans k15
    have c6 := (be.cell hlt1).trans k16
    have hb1 := (Below.refl wo.heap.size wo).alloc (Nat.le_refl _) (.cells #[.string (bs e.kind), .string (bs e.name), .string (bs e.proc), .slice ya1 e.args.length da1, .slice yc1 mc dc1, .slice yb1 e.body.length db1, .slice ye1 e.els.length de1] 126)
    have A1 := BoxN.new wo 126 [.string (bs e.kind), .string (bs e.name), .string (bs e.proc), .slice ya1 e.args.length da1, .slice yc1 mc dc1, .slice yb1 e.body.length db1, .slice ye1 e.els.length de1]
    obtain ⟨W1, hW1⟩ : ∃ W, W = wo.alloc (.cells #[.string (bs e.kind), .string (bs e.name), .string (bs e.proc), .slice ya1 e.args.length da1, .slice yc1 mc dc1, .slice yb1 e.body.length db1, .slice ye1 e.els.length de1] 126) := ⟨_, rfl⟩
    have A1 : BoxN W1 wo.heap.size [.string (bs e.kind), .string (bs e.name), .string (bs e.proc), .slice ya1 e.args.length da1, .slice yc1 mc dc1, .slice yb1 e.body.length db1, .slice ye1 e.els.length de1] := by rw [hW1]; exact A1
    have hb1 : Below wo.heap.size wo W1 := by rw [hW1]; exact hb1
    go_upto_region 7 with fail
    change Code.wp _ _ _ _ (wo.alloc (.cells #[.string (bs e.kind), .string (bs e.name), .string (bs e.proc), .slice ya1 e.args.length da1, .slice yc1 mc dc1, .slice yb1 e.body.length db1, .slice ye1 e.els.length de1] 126))
    rw [← hW1]
    clear hW1
    obtain ⟨g1, hg1⟩ : ∃ g, g = wo.heap.size := ⟨_, rfl⟩
    rw [← hg1] at A1 ⊢
    clear hg1 c0 c1 c2 c3 c4 c5 c6
    have be1 := be.trans (hb1.mono be.size)
    have c0 := (be1.cell hlt2).trans k20
    have c1 := (be1.cell hlt2).trans k21
    have c2 := (be1.cell hlt2).trans k22
    have c3 := (be1.cell hlt2).trans k23
    have c4 := (be1.cell hlt2).trans k24
    have c5 := (be1.cell hlt2).trans k25
    have c6 := (be1.cell hlt2).trans k26
    have hb2 := (Below.refl W1.heap.size W1).alloc (Nat.le_refl _) (.cells #[.string (bs e.kind), .string (bs e.name), .string (bs e.proc), .slice ya2 e.args.length da2, .slice yc2 mc dc2, .slice yb2 e.body.length db2, .slice ye2 e.els.length de2] 126)
    have A2 := BoxN.new W1 126 [.string (bs e.kind), .string (bs e.name), .string (bs e.proc), .slice ya2 e.args.length da2, .slice yc2 mc dc2, .slice yb2 e.body.length db2, .slice ye2 e.els.length de2]
    obtain ⟨W2, hW2⟩ : ∃ W, W = W1.alloc (.cells #[.string (bs e.kind), .string (bs e.name), .string (bs e.proc), .slice ya2 e.args.length da2, .slice yc2 mc dc2, .slice yb2 e.body.length db2, .slice ye2 e.els.length de2] 126) := ⟨_, rfl⟩
    have A2 : BoxN W2 W1.heap.size [.string (bs e.kind), .string (bs e.name), .string (bs e.proc), .slice ya2 e.args.length da2, .slice yc2 mc dc2, .slice yb2 e.body.length db2, .slice ye2 e.els.length de2] := by rw [hW2]; exact A2
    have hb2 : Below W1.heap.size W1 W2 := by rw [hW2]; exact hb2
    go_upto_region 8 with fail
    change Code.wp _ _ _ _ (W1.alloc (.cells #[.string (bs e.kind), .string (bs e.name), .string (bs e.proc), .slice ya2 e.args.length da2, .slice yc2 mc dc2, .slice yb2 e.body.length db2, .slice ye2 e.els.length de2] 126))
    rw [← hW2]
    clear hW2
    obtain ⟨g2, hg2⟩ : ∃ g, g = W1.heap.size := ⟨_, rfl⟩
    rw [← hg2] at A2 ⊢
    clear hg2 c0 c1 c2 c3 c4 c5 c6 k10 k11 k12 k13 k14 k15 k16 k20 k21 k22 k23 k24 k25 k26
    have A1 := A1.bel hb2
    have hBw := (hB.trans (hb1.mono hB.size)).trans (hb2.mono (hB.trans (hb1.mono hB.size)).size)
    clear hB hb1 hb2 be be1
    have p0 := A1.cell 0 _ rfl
    have p1 := A1.cell 1 _ rfl
    have p2 := A1.cell 2 _ rfl
    have p4 := A1.cell 4 _ rfl
    have q0 := A2.cell 0 _ rfl
    have q1 := A2.cell 1 _ rfl
    have q2 := A2.cell 2 _ rfl
    have q4 := A2.cell 4 _ rfl
    have e0 : (e.kind == e.kind) = true := by simp
    have e1 : (e.name == e.name) = true := by simp
    have e2 : (e.proc == e.proc) = true := by simp
    go_wp2_with fail
    clear p0 p1 p2 p4 q0 q1 q2 q4 e0 e1 e2
    go_loopg [8] mc (fun gh iv wx => ∃ k : Nat, iv = .int .i64 k ∧ k + gh = mc ∧ Below w.heap.size w wx ∧ BoxN wx g1 [.string (bs e.kind), .string (bs e.name), .string (bs e.proc), .slice ya1 e.args.length da1, .slice yc1 mc dc1, .slice yb1 e.body.length db1, .slice ye1 e.els.length de1] ∧ BoxN wx g2 [.string (bs e.kind), .string (bs e.name), .string (bs e.proc), .slice ya2 e.args.length da2, .slice yc2 mc dc2, .slice yb2 e.body.length db2, .slice ye2 e.els.length de2])
    case atStart => exact ⟨0, rfl, by omega, hBw, A1, A2⟩
    case round =>
      clear A1 A2 hBw
      obtain ⟨k, rfl, hkg, hB, A1, A2⟩ := hrel
      have p4 := A1.cell 4 _ rfl
      have be := hb.trans (hB.mono hb.size)
      by_cases hk : k < mc
      · have hk' : (k : Int) < (mc : Int) := by omega
        obtain ⟨row, hrow⟩ : ∃ row, e.cond[k]? = some row := ⟨_, List.getElem?_eq_getElem (by rw [← hmc.out]; exact hk)⟩
        have hR := hH.r k row hrow
        obtain ⟨r1, o1, rfl, hl1, us1, hul1, uk1, u1, t1, rfl, hX1⟩ := hC1.elem hrow
        obtain ⟨r2, o2, rfl, hl2, us2, hul2, uk2, u2, t2, rfl, hX2⟩ := hC2.elem hrow
        have j1 := uk1 0 _ rfl
        have j2 := uk2 0 _ rfl
        simp only [Nat.add_zero, Nat.mul_one] at j1 j2
        clear uk1 uk2 hrow
        go_upto_region 13 with fail
        have hbd := (Below.refl wr.heap.size wr).drew
        have hBd := hB.trans (hbd.mono hB.size)
        have bd := hb.trans (hBd.mono hb.size)
        have D1 := A1.bel hbd
        have D2 := A2.bel hbd
        refine wp_region_held (S := fun w' => w'.cell? ⟨g1, 4, none⟩ = some (.slice (some ⟨r1, o1, none⟩) mc dc1) ∧ w'.cell? ⟨g2, 4, none⟩ = some (.slice (some ⟨r2, o2, none⟩) mc dc2) ∧ w'.cell? ⟨r1, o1 + k, none⟩ = some (.slice u1 row.length t1) ∧ w'.cell? ⟨r2, o2 + k, none⟩ = some (.slice u2 row.length t2)) (by kernel_rfl) ?_
        obtain ⟨wd, hwd⟩ : ∃ X, X = wr.drew := ⟨_, rfl⟩
        change wpAnyH _ _ _ _ _ _ _ _ wr.drew
        rw [← hwd] at hBd bd D1 D2 ⊢
        clear hwd hbd
        have hS9 : wd.cell? ⟨g1, 4, none⟩ = some (.slice (some ⟨r1, o1, none⟩) mc dc1) ∧ wd.cell? ⟨g2, 4, none⟩ = some (.slice (some ⟨r2, o2, none⟩) mc dc2) ∧ wd.cell? ⟨r1, o1 + k, none⟩ = some (.slice u1 row.length t1) ∧ wd.cell? ⟨r2, o2 + k, none⟩ = some (.slice u2 row.length t2) := ⟨D1.cell 4 _ rfl, D2.cell 4 _ rfl, (bd.cell hl1).trans j1, (bd.cell hl2).trans j2⟩
        (refine tk 0 (v := ?_) ?_ hS9 ?_; rotate_left 1; (intro w' hSw; (try dsimp only at hSw); go_simp; (try rw [if_pos (by omega)])); (try rfl); (try dsimp only [Act.put]))
        (refine tk 1 (v := ?_) ?_ hS9 ?_; rotate_left 1; (intro w' hSw; (try dsimp only at hSw); go_simp; (try rw [if_pos (by omega)])); (try rfl); (try dsimp only [Act.put]))
        (refine tk 2 (v := ?_) ?_ hS9 ?_; rotate_left 1; (intro w' hSw; (try dsimp only at hSw); go_simp; (try rw [if_pos (by omega)])); (try rfl); (try dsimp only [Act.put]))
        (refine tk 3 (v := ?_) ?_ hS9 ?_; rotate_left 1; (intro w' hSw; (try dsimp only at hSw); go_simp; (try rw [if_pos (by omega)])); (try rfl); (try dsimp only [Act.put]))
        (refine tk 4 (v := ?_) ?_ hS9 ?_; rotate_left 1; (intro w' hSw; (try dsimp only at hSw); go_simp; (try rw [if_pos (by omega)])); (try rfl); (try dsimp only [Act.put]))
        (refine tk 5 (v := ?_) ?_ hS9 ?_; rotate_left 1; (intro w' hSw; (try dsimp only at hSw); go_simp; (try rw [if_pos (by omega)])); (try rfl); (try dsimp only [Act.put]))
        (refine tk 6 (v := ?_) ?_ hS9 ?_; rotate_left 1; (intro w' hSw; (try dsimp only at hSw); go_simp; (try rw [if_pos (by omega)])); (try rfl); (try dsimp only [Act.put]))
        (refine tk 7 (v := ?_) ?_ hS9 ?_; rotate_left 1; (intro w' hSw; (try dsimp only at hSw); go_simp; (try rw [if_pos (by omega)])); (try rfl); (try dsimp only [Act.put]))
        (refine tk 8 (v := ?_) ?_ hS9 ?_; rotate_left 1; (intro w' hSw; (try dsimp only at hSw); go_simp; (try rw [if_pos (by omega)])); (try rfl); (try dsimp only [Act.put]))
        (refine tk 9 (v := ?_) ?_ hS9 ?_; rotate_left 1; (intro w' hSw; (try dsimp only at hSw); go_simp; (try rw [if_pos (by omega)])); (try rfl); (try dsimp only [Act.put]))
        have HC1 := hide (hR wd u1 u2 t1 t2 bd hX1 hX2)
        refine wpAnyH_one (k := 10) (by kernel_rfl) ?_
        unfold wpOp
        go_simp
        refine Or.inl (HC1.out.mono ?_)
        rintro e' w6 ⟨rfl, hb6⟩
        have hB6 := hBd.trans (hb6.mono hBd.size)
        have b6 := hb.trans (hB6.mono hb.size)
        have E1 := D1.bel hb6
        have E2 := D2.bel hb6
        have hS9 : w6.cell? ⟨g1, 4, none⟩ = some (.slice (some ⟨r1, o1, none⟩) mc dc1) ∧ w6.cell? ⟨g2, 4, none⟩ = some (.slice (some ⟨r2, o2, none⟩) mc dc2) ∧ w6.cell? ⟨r1, o1 + k, none⟩ = some (.slice u1 row.length t1) ∧ w6.cell? ⟨r2, o2 + k, none⟩ = some (.slice u2 row.length t2) := ⟨E1.cell 4 _ rfl, E2.cell 4 _ rfl, (b6.cell hl1).trans j1, (b6.cell hl2).trans j2⟩
        refine ⟨hS9, ?_⟩
        refine wpAnyH_one (k := 11) (by kernel_rfl) ?_
        unfold wpOp
        go_simp
        refine Or.inl ⟨by kernel_rfl, ?_⟩
        clear hS9 HC1 p4
        go_wp2_with fail
        go_roundg (mc - (k + 1))
        case measure => omega
        case rel => exact ⟨k + 1, by go_num, by omega, hB6, E1, E2⟩
      · have hk' : ¬ (k : Int) < (mc : Int) := by omega
        have p3 := A1.cell 3 _ rfl
        have q3 := A2.cell 3 _ rfl
        have HA := hide (hH.a wr ya1 ya2 da1 da2 be hA1 hA2)
        go_wp2_with fail
        refine HA.out.mono ?_
        rintro e' w6 ⟨rfl, hb6⟩
        have hB6 := hB.trans (hb6.mono hB.size)
        have b6 := hb.trans (hB6.mono hb.size)
        have E1 := A1.bel hb6
        have E2 := A2.bel hb6
        clear p3 q3 p4 HA
        have p5 := E1.cell 5 _ rfl
        have q5 := E2.cell 5 _ rfl
        have HB := hide (hH.b w6 yb1 yb2 db1 db2 b6 hB1 hB2)
        go_wp2_with fail
        refine HB.out.mono ?_
        rintro e' w7 ⟨rfl, hb7⟩
        have hB7 := hB6.trans (hb7.mono hB6.size)
        have b7 := hb.trans (hB7.mono hb.size)
        have E1 := E1.bel hb7
        have E2 := E2.bel hb7
        clear p5 q5 HB
        have p6 := E1.cell 6 _ rfl
        have q6 := E2.cell 6 _ rfl
        have HE := hide (hH.e w7 ye1 ye2 de1 de2 b7 hE1 hE2)
        go_wp2_with fail
        refine HE.out.mono ?_
        rintro e' w8 ⟨rfl, hb8⟩
        have hB8 := hB7.trans (hb8.mono hB7.size)
        clear p6 q6 HE
        go_wp2_with fail
        go_roundg (n - (i + 1))
        case measure => omega
        case rel => exact ⟨i + 1, by go_num, by omega, hB8⟩
theorem sameS_st (w0 : World) {e : Stm} (h : StSm e) : SameS w0 e.body ∧ SameS w0 e.els := by
  induction h with
  | mk s h0 h1 h2 h3 h4 h5 h6 h7 ih5 ih7 =>
    have one : ∀ (l : List Stm), l.length ≤ maxLen → (∀ (i : Nat) (e : Stm), l[i]? = some e → StSm e) → (∀ (i : Nat) (e : Stm), l[i]? = some e → SameS w0 e.body ∧ SameS w0 e.els) → SameS w0 l := fun l hl hs ih W x y cx cy hb hx hy => sameS_step w0 l _ rfl hl (hide fun i e he => ⟨sameE_any w0 (hs i e he).argl (hs i e he).arg, (hs i e he).condl, fun k row hr => sameT_any w0 ((hs i e he).cond k row hr), (ih i e he).1, (ih i e he).2⟩) W x y cx cy hb (sts_row hx) (sts_row hy)
    exact ⟨one _ h4 h5 ih5, one _ h6 h7 ih7⟩
theorem sameS_any (w0 : World) {l : List Stm} (h : StsSm l) : SameS w0 l := fun W x y cx cy hb hx hy => sameS_step w0 l _ rfl h.len (hide fun i e he => ⟨sameE_any w0 (h.el i e he).argl (h.el i e he).arg, (h.el i e he).condl, fun k row hr => sameT_any w0 ((h.el i e he).cond k row hr), (sameS_st w0 (h.el i e he)).1, (sameS_st w0 (h.el i e he)).2⟩) W x y cx cy hb (sts_row hx) (sts_row hy)
end Go.Proofs.YtolpekdckemhkaaGreatDoor

/- The reference's SameProgram: of one and the same program, copied, it is true. -/
namespace Go.Proofs.YtolpekdckemhkaaGreatDoor
open Go.RowKit
set_option linter.unusedVariables false

theorem eqRA (n m : Bs) (x y : Int) (W : World) : (binOp .eql 79 (.agg #[.string (bs n), .int .i64 x]) (.agg #[.string (bs m), .int .i64 y])).run Tryz.prog W = .ok (.bool (n == m && x == y)) W := by
  rw [run_eql_struct]
  simp [Program.fieldsOf, Tryz.underlying79, go_sem, Tryz.underlying9, Tryz.underlying3]
  by_cases h1 : n = m <;> by_cases h2 : x = y <;> simp [h1, h2]
theorem neRA (n m : Bs) (x y : Int) (W : World) : (binOp .neq 79 (.agg #[.string (bs n), .int .i64 x]) (.agg #[.string (bs m), .int .i64 y])).run Tryz.prog W = .ok (.bool (!(n == m && x == y))) W := by
  have h := eqRA n m x y W
  rw [run_eql_struct] at h
  rw [run_neq_struct]
  cases hh : (Op.equalIn 10000 79 (.agg #[.string (bs n), .int .i64 x]) (.agg #[.string (bs m), .int .i64 y])).run Tryz.prog W with
  | ok b w' => rw [hh] at h; simp only [Result.andThen_ok, Result.ok.injEq, Value.bool.injEq] at h ⊢; exact ⟨by rw [h.1], h.2⟩
  | halt x w' => rw [hh] at h; simp [Result.andThen] at h
set_option maxRecDepth 20000 in
set_option maxHeartbeats 4000000 in
theorem sameStr_any (w0 : World) (l : List Bs) (n : Nat) (hn : Hid (n = l.length)) (hl : n ≤ maxLen) (w : World) (x y : Option Addr) (cx cy : Nat) (hb : Below w0.heap.size w0 w) (hx : RowAt strVals 1 w0 Any x l) (hy : RowAt strVals 1 w0 Any y l) : Calls Tryz.prog 20 #[.slice x n cx, .slice y n cy] w fun e w' => e = .returned (.bool true) ∧ Below w.heap.size w w' := by
  unfold maxLen at hl
  go_enter Tryz.func20, Tryz.ntmps20
  go_wp2_with fail
  go_loopg [5] n (fun gh iv wx => ∃ i : Nat, iv = .int .i64 i ∧ i + gh = n ∧ Below w.heap.size w wx)
  case atStart => exact ⟨0, rfl, by omega, Below.refl _ _⟩
  case round =>
    obtain ⟨i, rfl, hig, hB⟩ := hrel
    by_cases hi : i < n
    case neg =>
      have hi' : ¬ (i : Int) < (n : Int) := by omega
      go_wp2_with fail
      go_ret
      exact ⟨rfl, hB⟩
    have hi' : (i : Int) < (n : Int) := by omega
    obtain ⟨a, ha⟩ : ∃ e, l[i]? = some e := ⟨_, List.getElem?_eq_getElem (by rw [← hn.out]; exact hi)⟩
    obtain ⟨b1, off1, rfl, hlt1, vs1, hvl1, v1, rfl⟩ := hx.elem ha
    obtain ⟨b2, off2, rfl, hlt2, vs2, hvl2, v2, rfl⟩ := hy.elem ha
    have ka0 := v1 0 _ rfl
    have kb0 := v2 0 _ rfl
    skip
    simp only [Nat.add_zero, Nat.mul_one] at ka0 kb0
    clear v1 v2 ha
    have be := (hb.trans (hB.mono hb.size)).drew
    have ca0 := (be.cell hlt1).trans ka0
    have cb0 := (be.cell hlt2).trans kb0
    skip
    have hab : (a == a) = true := by simp
    go_wp2_with fail
    go_region
    go_wp2_with fail
    go_roundg (n - (i + 1))
    case measure => omega
    case rel => exact ⟨i + 1, by go_num, by omega, hB.drew⟩
set_option maxRecDepth 20000 in
set_option maxHeartbeats 4000000 in
theorem sameArr_any (w0 : World) (l : List Ar) (n : Nat) (hn : Hid (n = l.length)) (hl : n ≤ maxLen) (w : World) (x y : Option Addr) (cx cy : Nat) (hb : Below w0.heap.size w0 w) (hx : RowAt arVals 2 w0 Any x l) (hy : RowAt arVals 2 w0 Any y l) : Calls Tryz.prog 69 #[.slice x n cx, .slice y n cy] w fun e w' => e = .returned (.bool true) ∧ Below w.heap.size w w' := by
  unfold maxLen at hl
  go_enter Tryz.func69, Tryz.ntmps69
  go_wp2_with fail
  go_loopg [5] n (fun gh iv wx => ∃ i : Nat, iv = .int .i64 i ∧ i + gh = n ∧ Below w.heap.size w wx)
  case atStart => exact ⟨0, rfl, by omega, Below.refl _ _⟩
  case round =>
    obtain ⟨i, rfl, hig, hB⟩ := hrel
    by_cases hi : i < n
    case neg =>
      have hi' : ¬ (i : Int) < (n : Int) := by omega
      go_wp2_with fail
      go_ret
      exact ⟨rfl, hB⟩
    have hi' : (i : Int) < (n : Int) := by omega
    obtain ⟨a, ha⟩ : ∃ e, l[i]? = some e := ⟨_, List.getElem?_eq_getElem (by rw [← hn.out]; exact hi)⟩
    obtain ⟨b1, off1, rfl, hlt1, vs1, hvl1, v1, rfl⟩ := hx.elem ha
    obtain ⟨b2, off2, rfl, hlt2, vs2, hvl2, v2, rfl⟩ := hy.elem ha
    have ka0 := v1 0 _ rfl
    have kb0 := v2 0 _ rfl
    have ka1 := v1 1 _ rfl
    have kb1 := v2 1 _ rfl
    simp only [Nat.add_zero] at ka0 kb0
    clear v1 v2 ha
    have be := (hb.trans (hB.mono hb.size)).drew
    have ca0 := (be.cell hlt1).trans ka0
    have cb0 := (be.cell hlt2).trans kb0
    have ca1 := (be.cell hlt1).trans ka1
    have cb1 := (be.cell hlt2).trans kb1
    have hNE := fun W => neRA a.name a.name a.size a.size W
    have hab : (a.name == a.name && a.size == a.size) = true := by simp
    go_wp2_with fail
    go_region
    go_wp2_with fail
    go_roundg (n - (i + 1))
    case measure => omega
    case rel => exact ⟨i + 1, by go_num, by omega, hB.drew⟩
theorem exs_one (W : World) (c : Pc) (y : Option Addr) (d : Nat) (hy : ExsAt W Any y c.ret.l) : ExsAt (W.alloc (.cells #[.string (bs c.ret.op), .int .i64 c.ret.n, .string (bs c.ret.name), .slice y c.ret.l.length d] 83)) Any (some ⟨W.heap.size, 0, none⟩) [c.ret] := by
  have hb := (Below.refl W.heap.size W).alloc (Nat.le_refl _) (.cells #[.string (bs c.ret.op), .int .i64 c.ret.n, .string (bs c.ret.name), .slice y c.ret.l.length d] 83)
  have B := BoxN.new W 83 [.string (bs c.ret.op), .int .i64 c.ret.n, .string (bs c.ret.name), .slice y c.ret.l.length d]
  refine exs_of_row (.inr ⟨W.heap.size, 0, rfl, trivial, by simp, fun i x hi => ?_⟩)
  rcases i with _ | i
  · cases hi
    refine ⟨[.string (bs c.ret.op), .int .i64 c.ret.n, .string (bs c.ret.name), .slice y c.ret.l.length d], rfl, fun j u hj => ?_, y, d, rfl, hy.bel hb⟩
    match j, hj with
    | 0, hj => cases hj; exact B.cell 0 _ rfl
    | 1, hj => cases hj; exact B.cell 1 _ rfl
    | 2, hj => cases hj; exact B.cell 2 _ rfl
    | 3, hj => cases hj; exact B.cell 3 _ rfl
    | j + 4, hj => simp at hj
  · simp at hi
theorem one_sm {e : Ex} (h : ExSm e) : ∀ (i : Nat) (x : Ex), [e][i]? = some x → ExSm x := by
  intro i x hi
  rcases i with _ | i
  · cases hi; exact h
  · simp at hi
set_option maxRecDepth 20000 in
set_option maxHeartbeats 16000000 in
theorem sameProgram_any (w0 : World) (p : Pg) (h : PgSm p) (w : World) (v1 v2 : Value) (hb : Below w0.heap.size w0 w) (hV1 : PgV w0 Any v1 p) (hV2 : PgV w0 Any v2 p) : Calls Tryz.prog 23 #[v1, v2] w fun e w' => e = .returned (.bool true) ∧ Below w.heap.size w w' := by
  obtain ⟨xv1, cv1, xa1, ca1, xp1, cp1, xm1, cm1, rfl, hv1, ha1, hp1, hm1⟩ := hV1
  obtain ⟨xv2, cv2, xa2, ca2, xp2, cp2, xm2, cm2, rfl, hv2, ha2, hp2, hm2⟩ := hV2
  obtain ⟨np, hnp⟩ : ∃ n, Hid (n = p.procs.length) := ⟨_, rfl⟩
  have hnp9 : np ≤ maxLen := by rw [hnp.out]; exact h.procl
  unfold maxLen at hnp9
  rw [← hnp.out]
  have hb0 : Below w.heap.size w ((w.alloc (.cells #[.slice xv1 p.vars.length cv1, .slice xa1 p.arrays.length ca1, .slice xp1 np cp1, .slice xm1 p.main.length cm1] 27)).alloc (.cells #[.slice xv2 p.vars.length cv2, .slice xa2 p.arrays.length ca2, .slice xp2 np cp2, .slice xm2 p.main.length cm2] 27)) := ((Below.refl _ _).alloc (Nat.le_refl _) _).alloc (by simp) _
  have A0 : BoxN ((w.alloc (.cells #[.slice xv1 p.vars.length cv1, .slice xa1 p.arrays.length ca1, .slice xp1 np cp1, .slice xm1 p.main.length cm1] 27)).alloc (.cells #[.slice xv2 p.vars.length cv2, .slice xa2 p.arrays.length ca2, .slice xp2 np cp2, .slice xm2 p.main.length cm2] 27)) w.heap.size [.slice xv1 p.vars.length cv1, .slice xa1 p.arrays.length ca1, .slice xp1 np cp1, .slice xm1 p.main.length cm1] := (BoxN.new w 27 [.slice xv1 p.vars.length cv1, .slice xa1 p.arrays.length ca1, .slice xp1 np cp1, .slice xm1 p.main.length cm1]).bel ((Below.refl _ _).alloc (Nat.le_refl _) _)
  have B0 : BoxN ((w.alloc (.cells #[.slice xv1 p.vars.length cv1, .slice xa1 p.arrays.length ca1, .slice xp1 np cp1, .slice xm1 p.main.length cm1] 27)).alloc (.cells #[.slice xv2 p.vars.length cv2, .slice xa2 p.arrays.length ca2, .slice xp2 np cp2, .slice xm2 p.main.length cm2] 27)) (w.heap.size + 1) [.slice xv2 p.vars.length cv2, .slice xa2 p.arrays.length ca2, .slice xp2 np cp2, .slice xm2 p.main.length cm2] := by
    have := BoxN.new (w.alloc (.cells #[.slice xv1 p.vars.length cv1, .slice xa1 p.arrays.length ca1, .slice xp1 np cp1, .slice xm1 p.main.length cm1] 27)) 27 [.slice xv2 p.vars.length cv2, .slice xa2 p.arrays.length ca2, .slice xp2 np cp2, .slice xm2 p.main.length cm2]; rw [World.size_alloc] at this; exact this
  obtain ⟨W0, hW0⟩ : ∃ X, X = (w.alloc (.cells #[.slice xv1 p.vars.length cv1, .slice xa1 p.arrays.length ca1, .slice xp1 np cp1, .slice xm1 p.main.length cm1] 27)).alloc (.cells #[.slice xv2 p.vars.length cv2, .slice xa2 p.arrays.length ca2, .slice xp2 np cp2, .slice xm2 p.main.length cm2] 27) := ⟨_, rfl⟩
  rw [← hW0] at hb0 A0 B0
  go_enter Tryz.func23, Tryz.ntmps23
  go_upto_region 1 with fail
  change Code.wp _ _ _ _ ((w.alloc (.cells #[.slice xv1 p.vars.length cv1, .slice xa1 p.arrays.length ca1, .slice xp1 np cp1, .slice xm1 p.main.length cm1] 27)).alloc (.cells #[.slice xv2 p.vars.length cv2, .slice xa2 p.arrays.length ca2, .slice xp2 np cp2, .slice xm2 p.main.length cm2] 27))
  rw [← hW0]
  clear hW0
  obtain ⟨g1, hg1⟩ : ∃ g, g = w.heap.size := ⟨_, rfl⟩
  obtain ⟨g2, hg2⟩ : ∃ g, g = w.heap.size + 1 := ⟨_, rfl⟩
  rw [← hg1] at A0
  rw [← hg2] at B0
  rw [← hg2, ← hg1]
  clear hg1 hg2
  have be0 := hb.trans (hb0.mono hb.size)
  have a0 := A0.cell 0 _ rfl
  have b0 := B0.cell 0 _ rfl
  have H1 := hide (sameStr_any w0 p.vars _ rfl h.vars W0 xv1 xv2 cv1 cv2 be0 hv1 hv2)
  go_wp2_with fail
  refine H1.out.mono ?_
  rintro e' w1 ⟨rfl, hc1⟩
  have A1 := A0.bel hc1
  have B1 := B0.bel hc1
  have hb1 := hb0.trans (hc1.mono hb0.size)
  have be1 := hb.trans (hb1.mono hb.size)
  clear a0 b0 H1
  have a1 := A1.cell 1 _ rfl
  have b1 := B1.cell 1 _ rfl
  have H2 := hide (sameArr_any w0 p.arrays _ rfl h.arrl w1 xa1 xa2 ca1 ca2 be1 ha1 ha2)
  go_wp2_with fail
  refine H2.out.mono ?_
  rintro e' w2 ⟨rfl, hc2⟩
  have A2 := A1.bel hc2
  have B2 := B1.bel hc2
  have hb2 := hb1.trans (hc2.mono hb1.size)
  clear a1 b1 H2
  have a2 := A2.cell 2 _ rfl
  have b2 := B2.cell 2 _ rfl
  go_wp2_with fail
  clear a2 b2
  go_loopg [7] np (fun gh iv wx => ∃ i : Nat, iv = .int .i64 i ∧ i + gh = np ∧ Below w.heap.size w wx ∧ BoxN wx g1 [.slice xv1 p.vars.length cv1, .slice xa1 p.arrays.length ca1, .slice xp1 np cp1, .slice xm1 p.main.length cm1] ∧ BoxN wx g2 [.slice xv2 p.vars.length cv2, .slice xa2 p.arrays.length ca2, .slice xp2 np cp2, .slice xm2 p.main.length cm2])
  case atStart => exact ⟨0, rfl, by omega, hb2, A2, B2⟩
  case round =>
    clear A2 B2 hb2
    obtain ⟨i, rfl, hig, hB, A, B⟩ := hrel
    have be := hb.trans (hB.mono hb.size)
    by_cases hi : i < np
    case neg =>
      have hi' : ¬ (i : Int) < (np : Int) := by omega
      have a2 := A.cell 2 _ rfl
      have a3 := A.cell 3 _ rfl
      have b3 := B.cell 3 _ rfl
      have H3 := hide (sameS_any w0 h.main wr xm1 xm2 cm1 cm2 be hm1 hm2)
      go_wp2_with fail
      refine H3.out.mono ?_
      rintro e' w3 ⟨rfl, hc3⟩
      go_wp2_with fail
      go_ret
      exact ⟨rfl, hB.trans (hc3.mono hB.size)⟩
    have hi' : (i : Int) < (np : Int) := by omega
    obtain ⟨c, hc⟩ : ∃ c, p.procs[i]? = some c := ⟨_, List.getElem?_eq_getElem (by rw [← hnp.out]; exact hi)⟩
    have hs := h.proc i c hc
    obtain ⟨b1, off1, rfl, hlt1, vs1, hvl1, k1, yp1, dp1, yb1, db1, ye1, de1, rfl, hP1, hB1, hE1⟩ := hp1.elem hc
    obtain ⟨b2, off2, rfl, hlt2, vs2, hvl2, k2, yp2, dp2, yb2, db2, ye2, de2, rfl, hP2, hB2, hE2⟩ := hp2.elem hc
    have k10 := k1 0 _ rfl
    have k11 := k1 1 _ rfl
    have k12 := k1 2 _ rfl
    have k13 := k1 3 _ rfl
    have k14 := k1 4 _ rfl
    have k15 := k1 5 _ rfl
    have k16 := k1 6 _ rfl
    have k20 := k2 0 _ rfl
    have k21 := k2 1 _ rfl
    have k22 := k2 2 _ rfl
    have k23 := k2 3 _ rfl
    have k24 := k2 4 _ rfl
    have k25 := k2 5 _ rfl
    have k26 := k2 6 _ rfl
    simp only [Nat.add_zero] at k10 k20
    clear k1 k2 hc
    have a2 := A.cell 2 _ rfl
    have c0 := (be.cell hlt1).trans k10
    have c1 := (be.cell hlt1).trans k11
    have c2 := (be.cell hlt1).trans k12
    have c3 := (be.cell hlt1).trans k13
    have c4 := (be.cell hlt1).trans k14
    have c5 := (be.cell hlt1).trans k15
    have c6 := (be.cell hlt1).trans k16
    have hx1 := (Below.refl wr.heap.size wr).alloc (Nat.le_refl _) (.cells #[.string (bs c.name), .slice yp1 c.params.length dp1, .slice yb1 c.body.length db1, .string (bs c.ret.op), .int .i64 c.ret.n, .string (bs c.ret.name), .slice ye1 c.ret.l.length de1] 85)
    have D1 := BoxN.new wr 85 [.string (bs c.name), .slice yp1 c.params.length dp1, .slice yb1 c.body.length db1, .string (bs c.ret.op), .int .i64 c.ret.n, .string (bs c.ret.name), .slice ye1 c.ret.l.length de1]
    obtain ⟨X1, hX1⟩ : ∃ W, W = wr.alloc (.cells #[.string (bs c.name), .slice yp1 c.params.length dp1, .slice yb1 c.body.length db1, .string (bs c.ret.op), .int .i64 c.ret.n, .string (bs c.ret.name), .slice ye1 c.ret.l.length de1] 85) := ⟨_, rfl⟩
    have D1 : BoxN X1 wr.heap.size [.string (bs c.name), .slice yp1 c.params.length dp1, .slice yb1 c.body.length db1, .string (bs c.ret.op), .int .i64 c.ret.n, .string (bs c.ret.name), .slice ye1 c.ret.l.length de1] := by rw [hX1]; exact D1
    have hx1 : Below wr.heap.size wr X1 := by rw [hX1]; exact hx1
    go_upto_region 9 with fail
    change Code.wp _ _ _ _ (wr.alloc (.cells #[.string (bs c.name), .slice yp1 c.params.length dp1, .slice yb1 c.body.length db1, .string (bs c.ret.op), .int .i64 c.ret.n, .string (bs c.ret.name), .slice ye1 c.ret.l.length de1] 85))
    rw [← hX1]
    clear hX1
    obtain ⟨q1, hq1⟩ : ∃ g, g = wr.heap.size := ⟨_, rfl⟩
    rw [← hq1] at D1 ⊢
    clear hq1 c0 c1 c2 c3 c4 c5 c6
    have A1 := A.bel hx1
    have B1 := B.bel hx1
    have be1 := be.trans (hx1.mono be.size)
    have hB1' := hB.trans (hx1.mono hB.size)
    have b2' := B1.cell 2 _ rfl
    clear a2
    have c0 := (be1.cell hlt2).trans k20
    have c1 := (be1.cell hlt2).trans k21
    have c2 := (be1.cell hlt2).trans k22
    have c3 := (be1.cell hlt2).trans k23
    have c4 := (be1.cell hlt2).trans k24
    have c5 := (be1.cell hlt2).trans k25
    have c6 := (be1.cell hlt2).trans k26
    have hx2 := (Below.refl X1.heap.size X1).alloc (Nat.le_refl _) (.cells #[.string (bs c.name), .slice yp2 c.params.length dp2, .slice yb2 c.body.length db2, .string (bs c.ret.op), .int .i64 c.ret.n, .string (bs c.ret.name), .slice ye2 c.ret.l.length de2] 85)
    have D2 := BoxN.new X1 85 [.string (bs c.name), .slice yp2 c.params.length dp2, .slice yb2 c.body.length db2, .string (bs c.ret.op), .int .i64 c.ret.n, .string (bs c.ret.name), .slice ye2 c.ret.l.length de2]
    obtain ⟨X2, hX2⟩ : ∃ W, W = X1.alloc (.cells #[.string (bs c.name), .slice yp2 c.params.length dp2, .slice yb2 c.body.length db2, .string (bs c.ret.op), .int .i64 c.ret.n, .string (bs c.ret.name), .slice ye2 c.ret.l.length de2] 85) := ⟨_, rfl⟩
    have D2 : BoxN X2 X1.heap.size [.string (bs c.name), .slice yp2 c.params.length dp2, .slice yb2 c.body.length db2, .string (bs c.ret.op), .int .i64 c.ret.n, .string (bs c.ret.name), .slice ye2 c.ret.l.length de2] := by rw [hX2]; exact D2
    have hx2 : Below X1.heap.size X1 X2 := by rw [hX2]; exact hx2
    go_upto_region 10 with fail
    change Code.wp _ _ _ _ (X1.alloc (.cells #[.string (bs c.name), .slice yp2 c.params.length dp2, .slice yb2 c.body.length db2, .string (bs c.ret.op), .int .i64 c.ret.n, .string (bs c.ret.name), .slice ye2 c.ret.l.length de2] 85))
    rw [← hX2]
    clear hX2
    obtain ⟨q2, hq2⟩ : ∃ g, g = X1.heap.size := ⟨_, rfl⟩
    rw [← hq2] at D2 ⊢
    clear hq2 c0 c1 c2 c3 c4 c5 c6
    have A2 := A1.bel hx2
    have B2 := B1.bel hx2
    have D1 := D1.bel hx2
    have be2 := be1.trans (hx2.mono be1.size)
    have hBx := hB1'.trans (hx2.mono hB1'.size)
    clear b2' k10 k11 k12 k13 k14 k15 k16 k20 k21 k22 k23 k24 k25 k26
    have m1 := D1.cell 1 _ rfl
    have n1 := D2.cell 1 _ rfl
    have H1 := hide (sameStr_any w0 c.params _ rfl hs.params X2 yp1 yp2 dp1 dp2 be2 hP1 hP2)
    go_wp2_with fail
    refine H1.out.mono ?_
    rintro e' w3 ⟨rfl, hc3⟩
    have A3 := A2.bel hc3
    have B3 := B2.bel hc3
    have D1 := D1.bel hc3
    have D2 := D2.bel hc3
    have hB3 := hBx.trans (hc3.mono hBx.size)
    have be3 := hb.trans (hB3.mono hb.size)
    clear m1 n1 H1
    have m2 := D1.cell 2 _ rfl
    have n2 := D2.cell 2 _ rfl
    have H2 := hide (sameS_any w0 hs.body w3 yb1 yb2 db1 db2 be3 hB1 hB2)
    go_wp2_with fail
    refine H2.out.mono ?_
    rintro e' w4 ⟨rfl, hc4⟩
    have A4 := A3.bel hc4
    have B4 := B3.bel hc4
    have D1 := D1.bel hc4
    have D2 := D2.bel hc4
    have hB4 := hB3.trans (hc4.mono hB3.size)
    have be4 := hb.trans (hB4.mono hb.size)
    clear m2 n2 H2
    have hy1 := (Below.refl w4.heap.size w4).alloc (Nat.le_refl _) (.cells #[.string (bs c.ret.op), .int .i64 c.ret.n, .string (bs c.ret.name), .slice ye1 c.ret.l.length de1] 83)
    have E1 := exs_one w4 c ye1 de1 (hE1.bel be4)
    have by1 := be4.trans (hy1.mono be4.size)
    have hy2 := (Below.refl (w4.alloc (.cells #[.string (bs c.ret.op), .int .i64 c.ret.n, .string (bs c.ret.name), .slice ye1 c.ret.l.length de1] 83)).heap.size (w4.alloc (.cells #[.string (bs c.ret.op), .int .i64 c.ret.n, .string (bs c.ret.name), .slice ye1 c.ret.l.length de1] 83))).alloc (Nat.le_refl _) (.cells #[.string (bs c.ret.op), .int .i64 c.ret.n, .string (bs c.ret.name), .slice ye2 c.ret.l.length de2] 83)
    have E2 := exs_one (w4.alloc (.cells #[.string (bs c.ret.op), .int .i64 c.ret.n, .string (bs c.ret.name), .slice ye1 c.ret.l.length de1] 83)) c ye2 de2 (hE2.bel by1)
    have E1 := E1.bel hy2
    rw [World.size_alloc] at E2
    have HY := hy1.trans (hy2.mono hy1.size)
    have A5 := A4.bel HY
    have B5 := B4.bel HY
    have F1 := D1.bel HY
    have F2 := D2.bel HY
    have hB5 := hB4.trans (HY.mono hB4.size)
    have m3 := D1.cell 3 _ rfl
    have m4 := D1.cell 4 _ rfl
    have m5 := D1.cell 5 _ rfl
    have m6 := D1.cell 6 _ rfl
    have D2' := D2.bel hy1
    have n3 := D2'.cell 3 _ rfl
    have n4 := D2'.cell 4 _ rfl
    have n5 := D2'.cell 5 _ rfl
    have n6 := D2'.cell 6 _ rfl
    have H3 := hide (sameE_any _ (l := [c.ret]) (by unfold maxLen; simp) (one_sm hs.ret) _ _ _ 1 1 (Below.refl _ _) E1 E2)
    go_wp2_with fail
    refine H3.out.mono ?_
    rintro e' w6 ⟨rfl, hc6⟩
    have A6 := A5.bel hc6
    have B6 := B5.bel hc6
    have F1 := F1.bel hc6
    have F2 := F2.bel hc6
    have hB6 := hB5.trans (hc6.mono hB5.size)
    clear m3 m4 m5 m6 n3 n4 n5 n6 H3 D2' D1 D2 E1 E2 hy1 hy2 HY
    have m0 := F1.cell 0 _ rfl
    have n0 := F2.cell 0 _ rfl
    have e0 : (c.name == c.name) = true := by simp
    go_wp2_with fail
    go_roundg (np - (i + 1))
    case measure => omega
    case rel => exact ⟨i + 1, by go_num, by omega, hB6, A6, B6⟩
end Go.Proofs.YtolpekdckemhkaaGreatDoor
