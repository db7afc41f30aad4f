/- The statements' helpers: programs copied: a term, tests, arrays (ExprOf, TestsOf, arraysBack and back). -/
import Derived.Test.YtbfhaabpfkopdaaGreatDoorN1
namespace Go.Proofs.YtbfhaabpfkopdaaGreatDoor
open Go.RowKit
set_option linter.unusedVariables false

/-- A term copied. -/
def exprOfC (e : Ex) : Prop := ∀ (W : World) (xa : Option Addr) (ca : Nat), ExsAt W Any xa e.l → Calls Tryz.prog 40 #[.agg #[.string (bs e.op), .int .i64 e.n, .string (bs e.name), .slice xa e.l.length ca]] W fun e' W' => Below W.heap.size W W' ∧ ∃ x3 c3, e' = .returned (.agg #[.string (bs e.op), .int .i64 e.n, .string (bs e.name), .slice x3 e.l.length c3]) ∧ ExsAt W' (fun b => W.heap.size ≤ b) x3 e.l
set_option maxRecDepth 20000 in
set_option maxHeartbeats 8000000 in
theorem exprOf_any (e : Ex) (HC : Hid (exprsOfC e.l)) : exprOfC e := by
  intro w xa ca hx
  have hb0 : Below w.heap.size w ((w.alloc (.cells #[.string (bs e.op), .int .i64 e.n, .string (bs e.name), .slice xa e.l.length ca] 104)).alloc (.cells #[.string ⟨#[]⟩, .int .i64 0, .string ⟨#[]⟩, .slice none 0 0] 121)) := ((Below.refl _ _).alloc (Nat.le_refl _) _).alloc (by simp) _
  have A0 : BoxN ((w.alloc (.cells #[.string (bs e.op), .int .i64 e.n, .string (bs e.name), .slice xa e.l.length ca] 104)).alloc (.cells #[.string ⟨#[]⟩, .int .i64 0, .string ⟨#[]⟩, .slice none 0 0] 121)) w.heap.size [.string (bs e.op), .int .i64 e.n, .string (bs e.name), .slice xa e.l.length ca] := (BoxN.new w 104 [.string (bs e.op), .int .i64 e.n, .string (bs e.name), .slice xa e.l.length ca]).bel ((Below.refl _ _).alloc (Nat.le_refl _) _)
  have B0 : BoxN ((w.alloc (.cells #[.string (bs e.op), .int .i64 e.n, .string (bs e.name), .slice xa e.l.length ca] 104)).alloc (.cells #[.string ⟨#[]⟩, .int .i64 0, .string ⟨#[]⟩, .slice none 0 0] 121)) (w.heap.size + 1) [.string ⟨#[]⟩, .int .i64 0, .string ⟨#[]⟩, .slice none 0 0] := by
    have := BoxN.new (w.alloc (.cells #[.string (bs e.op), .int .i64 e.n, .string (bs e.name), .slice xa e.l.length ca] 104)) 121 [.string ⟨#[]⟩, .int .i64 0, .string ⟨#[]⟩, .slice none 0 0]; rw [World.size_alloc] at this; exact this
  obtain ⟨W0, hW0⟩ : ∃ X, X = (w.alloc (.cells #[.string (bs e.op), .int .i64 e.n, .string (bs e.name), .slice xa e.l.length ca] 104)).alloc (.cells #[.string ⟨#[]⟩, .int .i64 0, .string ⟨#[]⟩, .slice none 0 0] 121) := ⟨_, rfl⟩
  rw [← hW0] at hb0 A0 B0
  go_enter Tryz.func40, Tryz.ntmps40
  go_upto_region 1 with fail
  change Code.wp _ _ _ _ ((w.alloc (.cells #[.string (bs e.op), .int .i64 e.n, .string (bs e.name), .slice xa e.l.length ca] 104)).alloc (.cells #[.string ⟨#[]⟩, .int .i64 0, .string ⟨#[]⟩, .slice none 0 0] 121))
  rw [← hW0]
  clear hW0
  obtain ⟨g1, hg1⟩ : ∃ g, g = w.heap.size := ⟨_, rfl⟩
  obtain ⟨g2, hg2⟩ : ∃ g, g = w.heap.size + 1 := ⟨_, rfl⟩
  have hgl : w.heap.size ≤ g2 := by omega
  have hgn : g2 ≠ g1 := by omega
  rw [← hg1] at A0
  rw [← hg2] at B0
  rw [← hg2, ← hg1]
  clear hg1 hg2
  have hbd : Below W0.heap.size W0 W0.drew := (Below.refl _ _).drew
  have Bd := hb0.trans (hbd.mono hb0.size)
  have Ad := A0.bel hbd
  have Bd2 := B0.bel hbd
  have HC1 := hide (HC.out W0.drew xa ca (hx.bel Bd))
  have hlt0 := B0.lt
  have sz0 := hb0.size
  refine wp_region_held (S := fun w' => w'.cell? ⟨g1, 0, none⟩ = some (.string (bs e.op)) ∧ w'.cell? ⟨g1, 1, none⟩ = some (.int .i64 e.n) ∧ w'.cell? ⟨g1, 2, none⟩ = some (.string (bs e.name)) ∧ w'.cell? ⟨g1, 3, none⟩ = some (.slice xa e.l.length ca)) (by kernel_rfl) ?_
  have hS9 : W0.drew.cell? ⟨g1, 0, none⟩ = some (.string (bs e.op)) ∧ W0.drew.cell? ⟨g1, 1, none⟩ = some (.int .i64 e.n) ∧ W0.drew.cell? ⟨g1, 2, none⟩ = some (.string (bs e.name)) ∧ W0.drew.cell? ⟨g1, 3, none⟩ = some (.slice xa e.l.length ca) := ⟨Ad.cell 0 _ rfl, Ad.cell 1 _ rfl, Ad.cell 2 _ rfl, Ad.cell 3 _ rfl⟩
  (refine tk 0 (v := ?_) ?_ hS9 ?_; rotate_left 1; (intro w' hSw; (try dsimp only at hSw); go_simp; (try rw [if_pos (by omega)])); (try rfl); (try dsimp only [Act.put]))
  (refine tk 1 (v := ?_) ?_ hS9 ?_; rotate_left 1; (intro w' hSw; (try dsimp only at hSw); go_simp; (try rw [if_pos (by omega)])); (try rfl); (try dsimp only [Act.put]))
  (refine tk 2 (v := ?_) ?_ hS9 ?_; rotate_left 1; (intro w' hSw; (try dsimp only at hSw); go_simp; (try rw [if_pos (by omega)])); (try rfl); (try dsimp only [Act.put]))
  (refine tk 3 (v := ?_) ?_ hS9 ?_; rotate_left 1; (intro w' hSw; (try dsimp only at hSw); go_simp; (try rw [if_pos (by omega)])); (try rfl); (try dsimp only [Act.put]))
  (refine tk 4 (v := ?_) ?_ hS9 ?_; rotate_left 1; (intro w' hSw; (try dsimp only at hSw); go_simp; (try rw [if_pos (by omega)])); (try rfl); (try dsimp only [Act.put]))
  (refine tk 5 (v := ?_) ?_ hS9 ?_; rotate_left 1; (intro w' hSw; (try dsimp only at hSw); go_simp; (try rw [if_pos (by omega)])); (try rfl); (try dsimp only [Act.put]))
  (refine tk 6 (v := ?_) ?_ hS9 ?_; rotate_left 1; (intro w' hSw; (try dsimp only at hSw); go_simp; (try rw [if_pos (by omega)])); (try rfl); (try dsimp only [Act.put]))
  (refine tk 7 (v := ?_) ?_ hS9 ?_; rotate_left 1; (intro w' hSw; (try dsimp only at hSw); go_simp; (try rw [if_pos (by omega)])); (try rfl); (try dsimp only [Act.put]))
  refine wpAnyH_one (k := 8) (by kernel_rfl) ?_
  unfold wpOp
  go_simp
  refine Or.inl (HC1.out.mono ?_)
  rintro e' w3 ⟨hb3, x3, c3, rfl, hr3⟩
  have B3 := Bd.trans (hb3.mono Bd.size)
  have A3 := Ad.bel hb3
  have C3 := Bd2.bel hb3
  have hS9 : w3.cell? ⟨g1, 0, none⟩ = some (.string (bs e.op)) ∧ w3.cell? ⟨g1, 1, none⟩ = some (.int .i64 e.n) ∧ w3.cell? ⟨g1, 2, none⟩ = some (.string (bs e.name)) ∧ w3.cell? ⟨g1, 3, none⟩ = some (.slice xa e.l.length ca) := ⟨A3.cell 0 _ rfl, A3.cell 1 _ rfl, A3.cell 2 _ rfl, A3.cell 3 _ rfl⟩
  refine ⟨hS9, ?_⟩
  (refine tk 9 (v := ?_) ?_ hS9 ?_; rotate_left 1; (intro w' hSw; (try dsimp only at hSw); go_simp; (try rw [if_pos (by omega)])); (try rfl); (try dsimp only [Act.put]))
  have j0 := C3.cell 0 _ rfl
  have j1 := C3.cell 1 _ rfl
  have j2 := C3.cell 2 _ rfl
  have j3 := C3.cell 3 _ rfl
  have f0 := C3.fr 0
  have f1 := C3.fr 1
  have f2 := C3.fr 2
  have f3 := C3.fr 3
  have hX3 : ExsAt ((((w3.setCell ⟨g2, 0, none⟩ (.string (bs e.op))).setCell ⟨g2, 1, none⟩ (.int .i64 e.n)).setCell ⟨g2, 2, none⟩ (.string (bs e.name))).setCell ⟨g2, 3, none⟩ (.slice x3 e.l.length c3)) (fun b => w.heap.size ≤ b) x3 e.l := by
    have hno : ¬ (fun b => W0.drew.heap.size ≤ b) (⟨g2, 0, none⟩ : Addr).block := fun q => by have q : W0.heap.size ≤ g2 := q; omega
    exact (((((exs_of_row hr3).set (q := ⟨g2, 0, none⟩) hno _).set (q := ⟨g2, 1, none⟩) hno _).set (q := ⟨g2, 2, none⟩) hno _).set (q := ⟨g2, 3, none⟩) hno _).mono (fun b q _ => by have q : W0.heap.size ≤ b := q; show w.heap.size ≤ b; omega)
  have C4 := (((C3.put 0 (by simp) (.string (bs e.op))).put 1 (by simp) (.int .i64 e.n)).put 2 (by simp) (.string (bs e.name))).put 3 (by simp) (.slice x3 e.l.length c3)
  have A4 := (((A3.other (q := ⟨g2, 0, none⟩) hgn (.string (bs e.op))).other (q := ⟨g2, 1, none⟩) hgn (.int .i64 e.n)).other (q := ⟨g2, 2, none⟩) hgn (.string (bs e.name))).other (q := ⟨g2, 3, none⟩) hgn (.slice x3 e.l.length c3)
  have B4 := (((B3.setCell (p := ⟨g2, 0, none⟩) hgl (.string (bs e.op))).setCell (p := ⟨g2, 1, none⟩) hgl (.int .i64 e.n)).setCell (p := ⟨g2, 2, none⟩) hgl (.string (bs e.name))).setCell (p := ⟨g2, 3, none⟩) hgl (.slice x3 e.l.length c3)
  obtain ⟨W4, hW4⟩ : ∃ X, X = (((w3.setCell ⟨g2, 0, none⟩ (.string (bs e.op))).setCell ⟨g2, 1, none⟩ (.int .i64 e.n)).setCell ⟨g2, 2, none⟩ (.string (bs e.name))).setCell ⟨g2, 3, none⟩ (.slice x3 e.l.length c3) := ⟨_, rfl⟩
  refine wpAnyH_one (k := 10) (by kernel_rfl) ?_
  unfold wpOp
  go_simp
  rw [← hW4] at hX3 C4 A4 B4 ⊢
  clear hW4 j0 j1 j2 j3 f0 f1 f2 f3
  refine Or.inl ⟨by kernel_rfl, ?_⟩
  have j0 := C4.cell 0 _ rfl
  have j1 := C4.cell 1 _ rfl
  have j2 := C4.cell 2 _ rfl
  have j3 := C4.cell 3 _ rfl
  clear hS9
  go_wp2_with fail
  refine bodyPost_ret (v := .agg #[.string (bs e.op), .int .i64 e.n, .string (bs e.name), .slice x3 e.l.length c3]) (by simp [results, Tryz.results40, go_sem, j0, j1, j2, j3]) rfl ?_
  exact ⟨B4, x3, c3, rfl, hX3⟩
theorem exprOf_fit {e : Ex} (h : ExFit e) : exprOfC e := exprOf_any e (hide (exprsOf_ex h))
set_option maxRecDepth 20000 in
set_option maxHeartbeats 8000000 in
theorem testsOf_any (l : List Te) (n : Nat) (hn : Hid (n = l.length)) (hl : n * 144 ≤ 140737488355328) (HC : Hid (∀ (i : Nat) (e : Te), l[i]? = some e → exprOfC e.a ∧ exprOfC e.b)) (w : World) (x : Option Addr) (cap : Nat) (hx : RowAt teVals 9 w Any x l) : Calls Tryz.prog 83 #[.slice x n cap] w fun e w' => CpPost teVals 9 l w e w' := by
  obtain ⟨i0, hi0, hz0, hz1, hz2⟩ := info_parts Tryz.infoTest
  go_enter Tryz.func83, Tryz.ntmps83
  go_wp2_with fail
  go_loopg [3, 4] n (fun gh t iv wx => ∃ (v : Value) (i : Nat) (xss : List (List Value)), v = t ∧ iv = .int .i64 i ∧ i + gh = n ∧ GRow teVals 206 9 wx w.heap.size v (l.take i) xss ∧ Below w.heap.size w wx)
  case atStart => exact ⟨_, 0, [], rfl, rfl, by omega, GRow.nil _ _ _ _ _, Below.refl _ _⟩
  case round =>
    obtain ⟨v, i, xss, rfl, rfl, hig, g, hB⟩ := hrel
    have htl := hide (take_len hn.out (show i ≤ n by omega))
    by_cases hi : i < n
    · have hi' : (i : Int) < (n : Int) := by omega
      obtain ⟨e, he⟩ : ∃ e, l[i]? = some e := ⟨_, List.getElem?_eq_getElem (by rw [← hn.out]; exact hi)⟩
      obtain ⟨b, off, rfl, hlt, vs, hvl, vk, ya, da, yb, db, rfl, hXa, hXb⟩ := hx.elem he
      have k0 := vk 0 _ rfl
      have k1 := vk 1 _ rfl
      have k2 := vk 2 _ rfl
      have k3 := vk 3 _ rfl
      have k4 := vk 4 _ rfl
      have k5 := vk 5 _ rfl
      have k6 := vk 6 _ rfl
      have k7 := vk 7 _ rfl
      have k8 := vk 8 _ rfl
      simp only [Nat.add_zero] at k0
      clear vk
      have hbd : Below wr.heap.size wr wr.drew := (Below.refl _ _).drew
      have gd := g.bel teVals_keeps hbd
      have Bd := hB.trans (hbd.mono hB.size)
      have szw := hB.size
      have Ha := HC.out i e he
      obtain ⟨vx, vc, rfl⟩ := g.form
      rw [htl.out] at gd ⊢
      have htk := hide (take_more he)
      clear he
      go_upto_region 5 with fail
      refine wp_region_held (S := fun w' => w'.cell? ⟨b, off + i * 9, none⟩ = some (.string (bs e.a.op)) ∧ w'.cell? ⟨b, off + i * 9 + 1, none⟩ = some (.int .i64 e.a.n) ∧ w'.cell? ⟨b, off + i * 9 + 2, none⟩ = some (.string (bs e.a.name)) ∧ w'.cell? ⟨b, off + i * 9 + 3, none⟩ = some (.slice ya e.a.l.length da) ∧ w'.cell? ⟨b, off + i * 9 + 4, none⟩ = some (.string (bs e.rel)) ∧ w'.cell? ⟨b, off + i * 9 + 5, none⟩ = some (.string (bs e.b.op)) ∧ w'.cell? ⟨b, off + i * 9 + 6, none⟩ = some (.int .i64 e.b.n) ∧ w'.cell? ⟨b, off + i * 9 + 7, none⟩ = some (.string (bs e.b.name)) ∧ w'.cell? ⟨b, off + i * 9 + 8, none⟩ = some (.slice yb e.b.l.length db)) (by kernel_rfl) ?_
      have hS9 : wr.drew.cell? ⟨b, off + i * 9, none⟩ = some (.string (bs e.a.op)) ∧ wr.drew.cell? ⟨b, off + i * 9 + 1, none⟩ = some (.int .i64 e.a.n) ∧ wr.drew.cell? ⟨b, off + i * 9 + 2, none⟩ = some (.string (bs e.a.name)) ∧ wr.drew.cell? ⟨b, off + i * 9 + 3, none⟩ = some (.slice ya e.a.l.length da) ∧ wr.drew.cell? ⟨b, off + i * 9 + 4, none⟩ = some (.string (bs e.rel)) ∧ wr.drew.cell? ⟨b, off + i * 9 + 5, none⟩ = some (.string (bs e.b.op)) ∧ wr.drew.cell? ⟨b, off + i * 9 + 6, none⟩ = some (.int .i64 e.b.n) ∧ wr.drew.cell? ⟨b, off + i * 9 + 7, none⟩ = some (.string (bs e.b.name)) ∧ wr.drew.cell? ⟨b, off + i * 9 + 8, none⟩ = some (.slice yb e.b.l.length db) := ⟨(Bd.cell hlt).trans k0, (Bd.cell hlt).trans k1, (Bd.cell hlt).trans k2, (Bd.cell hlt).trans k3, (Bd.cell hlt).trans k4, (Bd.cell hlt).trans k5, (Bd.cell hlt).trans k6, (Bd.cell hlt).trans k7, (Bd.cell hlt).trans k8⟩
      (refine tk 0 (v := ?_) ?_ hS9 ?_; rotate_left 1; (intro w' hSw; (try dsimp only at hSw); go_simp; (try rw [if_pos (by omega)])); (try rfl); (try dsimp only [Act.put]))
      (refine tk 1 (v := ?_) ?_ hS9 ?_; rotate_left 1; (intro w' hSw; (try dsimp only at hSw); go_simp; (try rw [if_pos (by omega)])); (try rfl); (try dsimp only [Act.put]))
      (refine tk 2 (v := ?_) ?_ hS9 ?_; rotate_left 1; (intro w' hSw; (try dsimp only at hSw); go_simp; (try rw [if_pos (by omega)])); (try rfl); (try dsimp only [Act.put]))
      (refine tk 3 (v := ?_) ?_ hS9 ?_; rotate_left 1; (intro w' hSw; (try dsimp only at hSw); go_simp; (try rw [if_pos (by omega)])); (try rfl); (try dsimp only [Act.put]))
      (refine tk 4 (v := ?_) ?_ hS9 ?_; rotate_left 1; (intro w' hSw; (try dsimp only at hSw); go_simp; (try rw [if_pos (by omega)])); (try rfl); (try dsimp only [Act.put]))
      (refine tk 5 (v := ?_) ?_ hS9 ?_; rotate_left 1; (intro w' hSw; (try dsimp only at hSw); go_simp; (try rw [if_pos (by omega)])); (try rfl); (try dsimp only [Act.put]))
      (refine tk 7 (v := ?_) ?_ hS9 ?_; rotate_left 1; (intro w' hSw; (try dsimp only at hSw); go_simp; (try rw [if_pos (by omega)])); (try rfl); (try dsimp only [Act.put]))
      (refine tk 8 (v := ?_) ?_ hS9 ?_; rotate_left 1; (intro w' hSw; (try dsimp only at hSw); go_simp; (try rw [if_pos (by omega)])); (try rfl); (try dsimp only [Act.put]))
      (refine tk 9 (v := ?_) ?_ hS9 ?_; rotate_left 1; (intro w' hSw; (try dsimp only at hSw); go_simp; (try rw [if_pos (by omega)])); (try rfl); (try dsimp only [Act.put]))
      (refine tk 10 (v := ?_) ?_ hS9 ?_; rotate_left 1; (intro w' hSw; (try dsimp only at hSw); go_simp; (try rw [if_pos (by omega)])); (try rfl); (try dsimp only [Act.put]))
      (refine tk 11 (v := ?_) ?_ hS9 ?_; rotate_left 1; (intro w' hSw; (try dsimp only at hSw); go_simp; (try rw [if_pos (by omega)])); (try rfl); (try dsimp only [Act.put]))
      (refine tk 12 (v := ?_) ?_ hS9 ?_; rotate_left 1; (intro w' hSw; (try dsimp only at hSw); go_simp; (try rw [if_pos (by omega)])); (try rfl); (try dsimp only [Act.put]))
      (refine tk 13 (v := ?_) ?_ hS9 ?_; rotate_left 1; (intro w' hSw; (try dsimp only at hSw); go_simp; (try rw [if_pos (by omega)])); (try rfl); (try dsimp only [Act.put]))
      (refine tk 14 (v := ?_) ?_ hS9 ?_; rotate_left 1; (intro w' hSw; (try dsimp only at hSw); go_simp; (try rw [if_pos (by omega)])); (try rfl); (try dsimp only [Act.put]))
      (refine tk 15 (v := ?_) ?_ hS9 ?_; rotate_left 1; (intro w' hSw; (try dsimp only at hSw); go_simp; (try rw [if_pos (by omega)])); (try rfl); (try dsimp only [Act.put]))
      (refine tk 16 (v := ?_) ?_ hS9 ?_; rotate_left 1; (intro w' hSw; (try dsimp only at hSw); go_simp; (try rw [if_pos (by omega)])); (try rfl); (try dsimp only [Act.put]))
      have HC0 := hide (Ha.1 wr.drew ya da (hXa.bel Bd))
      refine wpAnyH_one (k := 6) (by kernel_rfl) ?_
      unfold wpOp
      go_simp
      refine Or.inl (HC0.out.mono ?_)
      rintro e' w3 ⟨hb3, x3, c3, rfl, hr3⟩
      have B3 := Bd.trans (hb3.mono Bd.size)
      have g3 := gd.bel teVals_keeps hb3
      have hS9 : w3.cell? ⟨b, off + i * 9, none⟩ = some (.string (bs e.a.op)) ∧ w3.cell? ⟨b, off + i * 9 + 1, none⟩ = some (.int .i64 e.a.n) ∧ w3.cell? ⟨b, off + i * 9 + 2, none⟩ = some (.string (bs e.a.name)) ∧ w3.cell? ⟨b, off + i * 9 + 3, none⟩ = some (.slice ya e.a.l.length da) ∧ w3.cell? ⟨b, off + i * 9 + 4, none⟩ = some (.string (bs e.rel)) ∧ w3.cell? ⟨b, off + i * 9 + 5, none⟩ = some (.string (bs e.b.op)) ∧ w3.cell? ⟨b, off + i * 9 + 6, none⟩ = some (.int .i64 e.b.n) ∧ w3.cell? ⟨b, off + i * 9 + 7, none⟩ = some (.string (bs e.b.name)) ∧ w3.cell? ⟨b, off + i * 9 + 8, none⟩ = some (.slice yb e.b.l.length db) := ⟨(B3.cell hlt).trans k0, (B3.cell hlt).trans k1, (B3.cell hlt).trans k2, (B3.cell hlt).trans k3, (B3.cell hlt).trans k4, (B3.cell hlt).trans k5, (B3.cell hlt).trans k6, (B3.cell hlt).trans k7, (B3.cell hlt).trans k8⟩
      have szA := hb3.size
      refine ⟨hS9, ?_⟩
      have HC1 := hide (Ha.2 w3 yb db (hXb.bel B3))
      refine wpAnyH_one (k := 17) (by kernel_rfl) ?_
      unfold wpOp
      go_simp
      refine Or.inl (HC1.out.mono ?_)
      rintro e' w4 ⟨hb4, x4, c4, rfl, hr4⟩
      have B4 := B3.trans (hb4.mono B3.size)
      have g4 := g3.bel teVals_keeps hb4
      have hS9 : w4.cell? ⟨b, off + i * 9, none⟩ = some (.string (bs e.a.op)) ∧ w4.cell? ⟨b, off + i * 9 + 1, none⟩ = some (.int .i64 e.a.n) ∧ w4.cell? ⟨b, off + i * 9 + 2, none⟩ = some (.string (bs e.a.name)) ∧ w4.cell? ⟨b, off + i * 9 + 3, none⟩ = some (.slice ya e.a.l.length da) ∧ w4.cell? ⟨b, off + i * 9 + 4, none⟩ = some (.string (bs e.rel)) ∧ w4.cell? ⟨b, off + i * 9 + 5, none⟩ = some (.string (bs e.b.op)) ∧ w4.cell? ⟨b, off + i * 9 + 6, none⟩ = some (.int .i64 e.b.n) ∧ w4.cell? ⟨b, off + i * 9 + 7, none⟩ = some (.string (bs e.b.name)) ∧ w4.cell? ⟨b, off + i * 9 + 8, none⟩ = some (.slice yb e.b.l.length db) := ⟨(B4.cell hlt).trans k0, (B4.cell hlt).trans k1, (B4.cell hlt).trans k2, (B4.cell hlt).trans k3, (B4.cell hlt).trans k4, (B4.cell hlt).trans k5, (B4.cell hlt).trans k6, (B4.cell hlt).trans k7, (B4.cell hlt).trans k8⟩
      have hr3 := hr3.bel hb4
      refine ⟨hS9, ?_⟩
      (refine tk 18 (v := ?_) ?_ hS9 ?_; rotate_left 1; (intro w' hSw; (try dsimp only at hSw); go_simp; (try rw [if_pos (by omega)])); (try rfl); (try dsimp only [Act.put]))
      refine wpAnyH_one (k := 19) (by kernel_rfl) ?_
      unfold wpOp
      go_simp
      have hbL := (Below.refl w4.heap.size w4).alloc (Nat.le_refl _) (.cells #[.string (bs e.a.op), .int .i64 e.a.n, .string (bs e.a.name), .slice x3 e.a.l.length c3, .string (bs e.rel), .string (bs e.b.op), .int .i64 e.b.n, .string (bs e.b.name), .slice x4 e.b.l.length c4] 206)
      have BL := B4.trans (hbL.mono B4.size)
      have gL := g4.bel teVals_keeps hbL
      refine Or.inl ⟨⟨(BL.cell hlt).trans k0, (BL.cell hlt).trans k1, (BL.cell hlt).trans k2, (BL.cell hlt).trans k3, (BL.cell hlt).trans k4, (BL.cell hlt).trans k5, (BL.cell hlt).trans k6, (BL.cell hlt).trans k7, (BL.cell hlt).trans k8⟩, ?_⟩
      refine wpAnyH_one (k := 20) (by kernel_rfl) ?_
      have hlo : ∀ q, (Value.slice vx i vc).ownBlock = some q → q < wr.heap.size := fun q e => by have := (g.own.lt q (by rw [htl.out]; exact e)).2; exact this
      have hVL : teVals (w4.alloc (.cells #[.string (bs e.a.op), .int .i64 e.a.n, .string (bs e.a.name), .slice x3 e.a.l.length c3, .string (bs e.rel), .string (bs e.b.op), .int .i64 e.b.n, .string (bs e.b.name), .slice x4 e.b.l.length c4] 206)) (fun b => w.heap.size ≤ b ∧ (Value.slice vx i vc).ownBlock ≠ some b) [.string (bs e.a.op), .int .i64 e.a.n, .string (bs e.a.name), .slice x3 e.a.l.length c3, .string (bs e.rel), .string (bs e.b.op), .int .i64 e.b.n, .string (bs e.b.name), .slice x4 e.b.l.length c4] e := ⟨x3, c3, x4, c4, rfl, (hr3.bel hbL).mono (fun b q _ => ⟨by have : wr.heap.size ≤ b := q; omega, fun e => by have := hlo b e; have : wr.heap.size ≤ b := q; omega⟩), (hr4.bel hbL).mono (fun b q _ => ⟨by have q : w3.heap.size ≤ b := q; have : wr.heap.size ≤ w3.heap.size := szA; omega, fun e => by have := hlo b e; have q : w3.heap.size ≤ b := q; have : wr.heap.size ≤ w3.heap.size := szA; omega⟩)⟩
      have szL := B4.size
      refine wpOp_step rfl (fun K' hK => ?_)
      refine step_append_lies _ (by rfl) _ _ 65 (by rfl) w.heap.size 206 i0 _ 9 144 Tryz.underlying65 hi0 hz0 hz1 hz2 rfl (by decide) (.slice vx i vc) i xss.flatten (by first | rfl | simp [Act.eval, Act.put]) (by have := gL.own; rw [htl.out] at this; exact this) ⟨w4.heap.size, 0, none⟩ 1 1 [.string (bs e.a.op), .int .i64 e.a.n, .string (bs e.a.name), .slice x3 e.a.l.length c3, .string (bs e.rel), .string (bs e.b.op), .int .i64 e.b.n, .string (bs e.b.name), .slice x4 e.b.l.length c4] (by first | rfl | simp [Act.eval, Act.put]) rfl (cells_new _ _ _) (by intro u hu; simp at hu; rcases hu with rfl | rfl | rfl | rfl | rfl | rfl | rfl | rfl | rfl <;> rfl) (by omega) (by unfold maxLen; omega) (by omega) (by simp; omega) (w4.heap.size + 1) (by simp) ?_
      intro gB cap6 w6 own6 hg6 hat6 hlt6
      have g6 := gL.app teVals_keeps (n := i) rfl htl.out.symm hVL own6 hg6 (hat6.imp id (fun e => by rw [e]; simp))
      have B6 := Below.ofGrow BL hg6 (by have := hbL.size; omega) (fun k e => (g.own.lt k (by rw [htl.out]; exact e)).1)
      rw [htk.out] at g6
      refine hK _ _ ⟨⟨(B6.cell hlt).trans k0, (B6.cell hlt).trans k1, (B6.cell hlt).trans k2, (B6.cell hlt).trans k3, (B6.cell hlt).trans k4, (B6.cell hlt).trans k5, (B6.cell hlt).trans k6, (B6.cell hlt).trans k7, (B6.cell hlt).trans k8⟩, ?_⟩
      refine wpAnyH_one (k := 21) (by kernel_rfl) ?_
      unfold wpOp
      go_simp
      refine Or.inl ⟨⟨(B6.cell hlt).trans k0, (B6.cell hlt).trans k1, (B6.cell hlt).trans k2, (B6.cell hlt).trans k3, (B6.cell hlt).trans k4, (B6.cell hlt).trans k5, (B6.cell hlt).trans k6, (B6.cell hlt).trans k7, (B6.cell hlt).trans k8⟩, by kernel_rfl, ?_⟩
      clear hS9 hVL
      go_wp2_with fail
      go_roundg (n - (i + 1))
      case measure => omega
      case rel => exact ⟨_, i + 1, _, rfl, by go_num, by omega, g6, B6⟩
    · have hi' : ¬ (i : Int) < (n : Int) := by omega
      have hin : l.take i = l := List.take_of_length_le (by rw [← hn.out]; omega)
      rw [hin] at g
      go_wp2_with fail
      go_ret
      obtain ⟨x', cap', rfl, hrow⟩ := g.row teVals_keeps (by omega)
      exact ⟨hB, x', cap', rfl, hrow⟩
end Go.Proofs.YtbfhaabpfkopdaaGreatDoor
