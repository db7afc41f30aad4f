/- The language: an argument read by the closure of a change (change$1). -/
import Derived.Test.YtbfhaabpfkopdaaGreatDoorLx
namespace Go.Proofs.YtbfhaabpfkopdaaGreatDoor
open Go.RowKit
set_option linter.unusedVariables false
theorem enters_ch1 : Enters 272 := enters_of Tryz.func272 (by kernel_rfl) rfl
theorem Tryz.infoExpr : (Tryz.prog.info? 121).map (fun i => (i.zero, i.size, i.bytes)) = some (some (.agg #[.string ⟨#[]⟩, .int .i64 0, .string ⟨#[]⟩, .slice none 0 0]), 4, 64) := by kernel_rfl
/-- A row that grows is a slice. -/
theorem GRow.form {α : Type} {V : Rds α} {ty size : Nat} {W : World} {base : Nat} {v : Value} {l : List α} {xss : List (List Value)} (h : GRow V ty size W base v l xss) : ∃ x cap, v = .slice x l.length cap := by
  rcases h.own.2 with ⟨h1, h2⟩ | ⟨g, cap, cur, h1, _⟩
  · exact ⟨none, 0, by rw [h1, h2]⟩
  · exact ⟨_, cap, h1⟩

set_option maxRecDepth 20000 in
set_option maxHeartbeats 4000000 in
theorem change1_any (w0 wb : World) (a : Nat → Addr) (p r k rb bx qb : Nat) (s kd nm pr : Bs) (hb : wb.heap.size ≤ rb ∧ wb.heap.size ≤ bx ∧ wb.heap.size ≤ qb) : OneC w0 wb a p r s 272 #[.pointer (some ⟨qb, 0, none⟩), .pointer (some ⟨bx, 0, none⟩)] (CB p rb bx qb kd nm pr) (argF s k) := by
  intro w d l h hG hC hne0
  have HC := hide (ex_any w0 a p r s k 2 (by omega) 1 (by omega))
  obtain ⟨res, hres⟩ : ∃ res, res = argF s k l d := ⟨_, rfl⟩
  have He := hide hres
  rw [← hres] at hne0 ⊢
  have hne := hide hne0
  clear hne0 hres
  unfold argF at He
  by_cases hl : 5000 < l.length
  · rw [if_pos hl] at He
    exact absurd He.out hne.out
  rw [if_neg hl] at He
  have HF1 : Hid (exF s k 2 1 d ≠ .out) := fun q => hne.out (by rw [He.out, q]; rfl)
  obtain ⟨v, xss, g, B⟩ := hC.B
  obtain ⟨l1, l2, l3, l4, l5⟩ := hC.lay
  obtain ⟨vx, vc, rfl⟩ := g.form
  have x0 := hC.X.cell 0 _ rfl
  have b3 := B.cell 3 _ rfl
  obtain ⟨i0, hi0, hz0, hz1, hz2⟩ := info_parts Tryz.infoExpr
  cases e1 : exF s k 2 1 d with
  | out => exact absurd e1 HF1.out
  | err c pos =>
    rw [e1] at He
    have HE : Hid (∀ W : World, Rd w0 W a p r s d → Calls Tryz.prog 166 #[.pointer (some ⟨p, 0, none⟩), .int .i64 1] W fun e W' => RPost w0 a p r s (.err c pos) (fun W' v x => ExV W' (fun b => W.heap.size ≤ b) v x) W e W') := fun W hW => by
      have := HC.out W d hW HF1.out
      rw [e1] at this; exact this
    clear e1 HC HF1
    go_enter Tryz.func272, Tryz.ntmps272
    refine wp_region_held (S := fun w' => w'.cell? ⟨qb, 3, none⟩ = some (.slice vx l.length vc) ∧ w'.cell? ⟨bx, 0, none⟩ = some (.pointer (some ⟨p, 0, none⟩))) (by kernel_rfl) ?_
    have hS9 : w.drew.cell? ⟨qb, 3, none⟩ = some (.slice vx l.length vc) ∧ w.drew.cell? ⟨bx, 0, none⟩ = some (.pointer (some ⟨p, 0, none⟩)) := ⟨b3, x0⟩
    (refine wpAnyH_take (i := 0) (v := ?_) rfl (by kernel_rfl) (by kernel_rfl) (by kernel_rfl) (fun _ _ _ h => h) (Or.inl ⟨by rfl, ?_⟩) hS9 ?_; rotate_left 1; (intro w' hSw; (try dsimp only at hSw); go_simp); (try rfl); (try dsimp only [Act.put]))
    (refine wpAnyH_take (i := 1) (v := ?_) rfl (by kernel_rfl) (by kernel_rfl) (by kernel_rfl) (fun _ _ _ h => h) (Or.inl ⟨by rfl, ?_⟩) hS9 ?_; rotate_left 1; (intro w' hSw; (try dsimp only at hSw); go_simp); (try rfl); (try dsimp only [Act.put]))
    (refine wpAnyH_take (i := 2) (v := ?_) rfl (by kernel_rfl) (by kernel_rfl) (by kernel_rfl) (fun _ _ _ h => h) (Or.inl ⟨by rfl, ?_⟩) hS9 ?_; rotate_left 1; (intro w' hSw; (try dsimp only at hSw); go_simp); (try rfl); (try dsimp only [Act.put]))
    (refine wpAnyH_take (i := 4) (v := ?_) rfl (by kernel_rfl) (by kernel_rfl) (by kernel_rfl) (fun _ _ _ h => h) (Or.inl ⟨by rfl, ?_⟩) hS9 ?_; rotate_left 1; (intro w' hSw; (try dsimp only at hSw); go_simp); (try rfl); (try dsimp only [Act.put]))
    refine wpAnyH_all (rs := [3, 5]) (by kernel_rfl) (by simp) ?_
    intro i hi
    obtain rfl | rfl : i = 3 ∨ i = 5 := by simpa using hi
    · unfold wpOp
      go_simp
      refine Or.inl ((HE.out _ (h.below (Below.refl _ _).drew)).mono ?_)
      rintro e w3 ⟨hG3, N, rfl, hFa, hlt3⟩
      refine ⟨rfl, ?_⟩
      rw [He.out]
      exact ⟨hG.trans ((Gr.of (Below.refl _ _).drew).trans hG3), N, rfl, hFa, hlt3⟩
    · unfold wpOp
      go_simp
      have hbA := (Below.refl w.heap.size w).alloc (Nat.le_refl _) (.cells #[.string ⟨#[]⟩, .int .i64 0, .string ⟨#[]⟩, .slice none 0 0] 121)
      refine Or.inl ⟨⟨(hbA.cell B.lt).trans b3, (hbA.cell hC.X.lt).trans x0⟩, ?_⟩
      refine wpAnyH_all (rs := [3]) (by kernel_rfl) (by simp) ?_
      intro i hi
      obtain rfl : i = 3 := by simpa using hi
      unfold wpOp
      go_simp
      refine Or.inl ((HE.out _ (h.below hbA.drew)).mono ?_)
      rintro e w3 ⟨hG3, N, rfl, hFa, hlt3⟩
      refine ⟨rfl, ?_⟩
      rw [He.out]
      exact ⟨hG.trans ((Gr.of hbA.drew).trans hG3), N, rfl, hFa, hlt3⟩
  | ok e2 d2 =>
    rw [e1] at He
    have He2 : Hid (res = .ok (l ++ [e2]) d2) := He.out
    have HE : Hid (∀ W : World, Rd w0 W a p r s d → Calls Tryz.prog 166 #[.pointer (some ⟨p, 0, none⟩), .int .i64 1] W fun e W' => RPost w0 a p r s (.ok e2 d2) (fun W' v x => ExV W' (fun b => W.heap.size ≤ b) v x) W e W') := fun W hW => by
      have := HC.out W d hW HF1.out
      rw [e1] at this; exact this
    clear e1 HC HF1 He
    have hbA := (Below.refl w.heap.size w).alloc (Nat.le_refl _) (.cells #[.string ⟨#[]⟩, .int .i64 0, .string ⟨#[]⟩, .slice none 0 0] 121)
    have fb := B.fr 3
    go_enter Tryz.func272, Tryz.ntmps272
    refine wp_region_any (by kernel_rfl) (wpTill_any (S := fun w' => w'.cell? ⟨qb, 3, none⟩ = some (.slice vx l.length vc) ∧ w'.cell? ⟨bx, 0, none⟩ = some (.pointer (some ⟨p, 0, none⟩))) (E := 6) _ _ _ _ ?_)
    have hS9 : w.drew.cell? ⟨qb, 3, none⟩ = some (.slice vx l.length vc) ∧ w.drew.cell? ⟨bx, 0, none⟩ = some (.pointer (some ⟨p, 0, none⟩)) := ⟨b3, x0⟩
    (refine wpTill_take (i := 0) (v := ?_) rfl rfl (by decide) (by kernel_rfl) (by kernel_rfl) (by kernel_rfl) (by kernel_rfl) (by kernel_rfl) (fun _ _ _ h => h) (Or.inl ⟨by rfl, ?_⟩) hS9 ?_; rotate_left 1; (intro w' hSw; (try dsimp only at hSw); go_simp); (try rfl); (try dsimp only [Act.put]))
    (refine wpTill_take (i := 1) (v := ?_) rfl rfl (by decide) (by kernel_rfl) (by kernel_rfl) (by kernel_rfl) (by kernel_rfl) (by kernel_rfl) (fun _ _ _ h => h) (Or.inl ⟨by rfl, ?_⟩) hS9 ?_; rotate_left 1; (intro w' hSw; (try dsimp only at hSw); go_simp); (try rfl); (try dsimp only [Act.put]))
    (refine wpTill_take (i := 2) (v := ?_) rfl rfl (by decide) (by kernel_rfl) (by kernel_rfl) (by kernel_rfl) (by kernel_rfl) (by kernel_rfl) (fun _ _ _ h => h) (Or.inl ⟨by rfl, ?_⟩) hS9 ?_; rotate_left 1; (intro w' hSw; (try dsimp only at hSw); go_simp); (try rfl); (try dsimp only [Act.put]))
    (refine wpTill_take (i := 4) (v := ?_) rfl rfl (by decide) (by kernel_rfl) (by kernel_rfl) (by kernel_rfl) (by kernel_rfl) (by kernel_rfl) (fun _ _ _ h => h) (Or.inl ⟨by rfl, ?_⟩) hS9 ?_; rotate_left 1; (intro w' hSw; (try dsimp only at hSw); go_simp); (try rfl); (try dsimp only [Act.put]))
    refine wpTill_all (rs := [3, 5]) (by kernel_rfl) (by simp) ?_
    intro i hi
    obtain rfl | rfl : i = 3 ∨ i = 5 := by simpa using hi
    · unfold wpOp
      go_simp
      refine Or.inl ((HE.out _ (h.below (Below.refl _ _).drew)).mono ?_)
      rintro e w3 ⟨hG3, v3, rfl, hR3, x3, cap3, rfl, hX3⟩
      have hG3' := (Gr.of (p := p) (Below.refl w.heap.size w).drew).trans hG3
      have g3 := g.keep exVals_keeps hG3' (fun q e => by cases e; omega)
      have C3 := hC.call hG3'
      have b3' := (B.gr hG3' (by omega)).cell 3 _ rfl
      have x3' := (hC.X.gr hG3' (by omega)).cell 0 _ rfl
      refine ⟨⟨b3', x3'⟩, ?_⟩
      refine wpTill_all (rs := [5]) (by kernel_rfl) (by simp) ?_
      intro i hi
      obtain rfl : i = 5 := by simpa using hi
      unfold wpOp
      go_simp
      have hbB := (Below.refl w3.heap.size w3).alloc (Nat.le_refl _) (.cells #[.string ⟨#[]⟩, .int .i64 0, .string ⟨#[]⟩, .slice none 0 0] 121)
      refine Or.inl ⟨⟨(hbB.cell (B.gr hG3' (by omega)).lt).trans b3', (hbB.cell (hC.X.gr hG3' (by omega)).lt).trans x3'⟩, ?_⟩
      refine wpTill_all (rs := [6]) (by kernel_rfl) (by simp) ?_
      intro i hi
      obtain rfl : i = 6 := by simpa using hi
      have g4 := g3.bel exVals_keeps hbB
      refine wpOp_step rfl (fun K' hK => ?_)
      refine step_append_lies _ (by rfl) _ _ 64 (by rfl) (qb + 1) 121 i0 _ 4 64 Tryz.underlying64 hi0 hz0 hz1 hz2 rfl (by decide) (.slice vx l.length vc) l.length xss.flatten (by first | rfl | simp [Act.eval, Act.put]) g4.own.drew ⟨w3.heap.size, 0, none⟩ 1 1 [.string ⟨#[]⟩, .int .i64 0, .string ⟨#[]⟩, .slice none 0 0] (by first | rfl | simp [Act.eval, Act.put]) rfl (cells_new _ _ _) (by intro u hu; simp at hu; rcases hu with rfl | rfl | rfl | rfl <;> rfl) (by omega) (by unfold maxLen; omega) (by omega) (by simp; have := (B.gr hG3' (by omega)).lt; omega) (w3.heap.size + 1) (by simp) ?_
      have hszB := (B.gr hG3' (by omega)).lt
      have C4 := C3.call (Gr.of (p := p) hbB)
      have B4 := (B.gr hG3' (by omega)).bel hbB
      have hR4 := hR3.below hbB
      have hG4 := (hG.trans hG3').below hbB
      have hX4 : ExsAt (w3.alloc (.cells #[.string ⟨#[]⟩, .int .i64 0, .string ⟨#[]⟩, .slice none 0 0] 121)) (fun b => qb + 1 ≤ b ∧ (Value.slice vx l.length vc).ownBlock ≠ some b) x3 e2.l := (hX3.mono (fun b q _ => ⟨by have : w.heap.size ≤ b := q; have := B.lt; omega, fun e => by have : w.heap.size ≤ b := q; have := (g.own.lt b e).2; omega⟩)).bel hbB
      intro gB cap6 w6 own6 hg6 hat6 hlt6
      refine hK _ _ ⟨(fun q => by cases q), ?_⟩
      refine wpTill_of_any _ _ _ _ (by kernel_rfl) ?_
      change wpAny _ _ _ _ _ _ { tmps := #[.pointer (some ⟨qb, 0, none⟩), .pointer (some ⟨bx, 0, none⟩), .pointer (some ⟨qb, 3, none⟩), .slice vx l.length vc, .pointer (some ⟨p, 0, none⟩), .agg #[.string (bs e2.op), .int .i64 e2.n, .string (bs e2.name), .slice x3 e2.l.length cap3], .int .i64 l.length, .slice (some ⟨w3.heap.size, 0, none⟩) 1 1, .slice (some ⟨gB, 0, none⟩) (l.length + 1) cap6, undef, undef], defers := [] } _
      have hfl : xss.flatten.length = l.length * 4 := g.own.1
      have hgq : qb + 1 ≤ gB := (own6.lt gB rfl).1
      have hqg : qb ≠ gB := by omega
      have hgq' : gB ≠ qb := by omega
      have fin := arg_fin (wb := wb) e2 x3 cap3 hb C4 g4 B4 hR4 hG4 hX4 own6 hg6 (hat6.imp id (fun e => by rw [e]; simp))
      have z0 : w6.cell? ⟨gB, l.length * 4, none⟩ = some (.string ⟨#[]⟩) := by rw [own6.cellAt _ (by omega), List.getElem?_append_right (by omega)]; simp [hfl]
      have z1 : w6.cell? ⟨gB, l.length * 4 + 1, none⟩ = some (.int .i64 0) := by rw [own6.cellAt _ (by omega), List.getElem?_append_right (by omega)]; simp [hfl]
      have z2 : w6.cell? ⟨gB, l.length * 4 + 2, none⟩ = some (.string ⟨#[]⟩) := by rw [own6.cellAt _ (by omega), List.getElem?_append_right (by omega)]; simp [hfl]
      have z3 : w6.cell? ⟨gB, l.length * 4 + 3, none⟩ = some (.slice none 0 0) := by rw [own6.cellAt _ (by omega), List.getElem?_append_right (by omega)]; simp [hfl]
      have y0 := own6.frozenAt (l.length * 4)
      have y1 := own6.frozenAt (l.length * 4 + 1)
      have y2 := own6.frozenAt (l.length * 4 + 2)
      have y3 := own6.frozenAt (l.length * 4 + 3)
      have B6 := B4.grown hg6 (fun e => by have := (g4.own.lt _ e).1; omega)
      have b6 := B6.cell 3 _ rfl
      have f6 := B6.fr 3
      have hlen : (l.length : Int) < (l.length : Int) + 1 := by omega
      (refine wpAny_take (i := 7) (v := ?_) rfl (by kernel_rfl) (by kernel_rfl) (by kernel_rfl) (fun _ _ _ h => h) (Or.inl ⟨by rfl, ?_⟩) ?_; rotate_left 1; (intro w'; go_simp; (try rw [if_pos (by omega)])); (try rfl); (try dsimp only [Act.put]))
      (refine wpAny_take (i := 9) (v := ?_) rfl (by kernel_rfl) (by kernel_rfl) (by kernel_rfl) (fun _ _ _ h => h) (Or.inl ⟨by rfl, ?_⟩) ?_; rotate_left 1; (intro w'; go_simp; (try rw [if_pos (by omega)])); (try rfl); (try dsimp only [Act.put]))
      refine wpAny_all (rs := [8, 10]) (by kernel_rfl) (by simp) ?_
      intro i hi
      obtain rfl | rfl : i = 8 ∨ i = 10 := by simpa using hi
      · unfold wpOp
        go_simp
        refine Or.inl ?_
        refine wpAny_all (rs := [10]) (by kernel_rfl) (by simp) ?_
        intro i hi
        obtain rfl : i = 10 := by simpa using hi
        unfold wpOp
        go_simp
        refine Or.inl ?_
        refine wpAny_done (by kernel_rfl) ?_ _
        go_end0
        rw [He2.out]
        exact ⟨fin.2.1, _, rfl, fin.1, rfl, fin.2.2⟩
      · unfold wpOp
        go_simp
        refine Or.inl ?_
        refine wpAny_all (rs := [8]) (by kernel_rfl) (by simp) ?_
        intro i hi
        obtain rfl : i = 8 := by simpa using hi
        unfold wpOp
        go_simp
        refine Or.inl ?_
        refine wpAny_done (by kernel_rfl) ?_ _
        go_end0
        rw [He2.out, swap4 _ _ _ _ _ _ _ _ _ hqg]
        exact ⟨fin.2.1, _, rfl, fin.1, rfl, fin.2.2⟩
    · unfold wpOp
      go_simp
      refine Or.inl ⟨⟨(hbA.cell B.lt).trans b3, (hbA.cell hC.X.lt).trans x0⟩, ?_⟩
      refine wpTill_all (rs := [3]) (by kernel_rfl) (by simp) ?_
      intro i hi
      obtain rfl : i = 3 := by simpa using hi
      unfold wpOp
      go_simp
      refine Or.inl ((HE.out _ (h.below hbA.drew)).mono ?_)
      rintro e w3 ⟨hG3, v3, rfl, hR4, x3, cap3, rfl, hX3⟩
      have hG3' := (Gr.of (p := p) hbA.drew).trans hG3
      have g4 := g.keep exVals_keeps hG3' (fun q e => by cases e; omega)
      have C4 := hC.call hG3'
      have B4 := B.gr hG3' (by omega)
      have b3' := B4.cell 3 _ rfl
      have x3' := C4.X.cell 0 _ rfl
      have hG4 := hG.trans hG3'
      have hszB := B4.lt
      have hX4 : ExsAt w3 (fun b => qb + 1 ≤ b ∧ (Value.slice vx l.length vc).ownBlock ≠ some b) x3 e2.l := hX3.mono (fun b q _ => by
        have q : (w.alloc (.cells #[.string ⟨#[]⟩, .int .i64 0, .string ⟨#[]⟩, .slice none 0 0] 121)).heap.size ≤ b := q
        rw [World.size_alloc] at q
        exact ⟨by have := B.lt; omega, fun e => by have := (g.own.lt b e).2; omega⟩)
      have hnw : ∀ j u, [Value.string ⟨#[]⟩, .int .i64 0, .string ⟨#[]⟩, .slice none 0 0][j]? = some u → w3.cell? ((⟨w.heap.size, 0, none⟩ : Addr).add j) = some u := fun j u hj => by
        have k1 := cells_new w 121 [.string ⟨#[]⟩, .int .i64 0, .string ⟨#[]⟩, .slice none 0 0] j u hj
        have e1 : ((⟨w.heap.size, 0, none⟩ : Addr).add j).block = w.heap.size := by unfold Addr.add; split <;> rfl
        exact (World.grownBy.cell_far hG3 _ (by rw [e1]; show w.heap.size < (w.alloc _).heap.size; simp) (fun e => by rw [e1] at e; cases e; have := h.lt; omega)).trans k1
      refine ⟨⟨b3', x3'⟩, ?_⟩
      refine wpTill_all (rs := [6]) (by kernel_rfl) (by simp) ?_
      intro i hi
      obtain rfl : i = 6 := by simpa using hi
      refine wpOp_step rfl (fun K' hK => ?_)
      refine step_append_lies _ (by rfl) _ _ 64 (by rfl) (qb + 1) 121 i0 _ 4 64 Tryz.underlying64 hi0 hz0 hz1 hz2 rfl (by decide) (.slice vx l.length vc) l.length xss.flatten (by first | rfl | simp [Act.eval, Act.put]) g4.own ⟨w.heap.size, 0, none⟩ 1 1 [.string ⟨#[]⟩, .int .i64 0, .string ⟨#[]⟩, .slice none 0 0] (by first | rfl | simp [Act.eval, Act.put]) rfl hnw (by intro u hu; simp at hu; rcases hu with rfl | rfl | rfl | rfl <;> rfl) (by omega) (by unfold maxLen; omega) (by omega) (by omega) w3.heap.size rfl ?_
      intro gB cap6 w6 own6 hg6 hat6 hlt6
      refine hK _ _ ⟨(fun q => by cases q), ?_⟩
      refine wpTill_of_any _ _ _ _ (by kernel_rfl) ?_
      change wpAny _ _ _ _ _ _ { tmps := #[.pointer (some ⟨qb, 0, none⟩), .pointer (some ⟨bx, 0, none⟩), .pointer (some ⟨qb, 3, none⟩), .slice vx l.length vc, .pointer (some ⟨p, 0, none⟩), .agg #[.string (bs e2.op), .int .i64 e2.n, .string (bs e2.name), .slice x3 e2.l.length cap3], .int .i64 l.length, .slice (some ⟨w.heap.size, 0, none⟩) 1 1, .slice (some ⟨gB, 0, none⟩) (l.length + 1) cap6, undef, undef], defers := [] } _
      have hfl : xss.flatten.length = l.length * 4 := g.own.1
      have hgq : qb + 1 ≤ gB := (own6.lt gB rfl).1
      have hqg : qb ≠ gB := by omega
      have hgq' : gB ≠ qb := by omega
      have fin := arg_fin (wb := wb) e2 x3 cap3 hb C4 g4 B4 hR4 hG4 hX4 own6 hg6 (hat6.imp id (fun e => by rw [e]; exact Nat.le_refl _))
      have z0 : w6.cell? ⟨gB, l.length * 4, none⟩ = some (.string ⟨#[]⟩) := by rw [own6.cellAt _ (by omega), List.getElem?_append_right (by omega)]; simp [hfl]
      have z1 : w6.cell? ⟨gB, l.length * 4 + 1, none⟩ = some (.int .i64 0) := by rw [own6.cellAt _ (by omega), List.getElem?_append_right (by omega)]; simp [hfl]
      have z2 : w6.cell? ⟨gB, l.length * 4 + 2, none⟩ = some (.string ⟨#[]⟩) := by rw [own6.cellAt _ (by omega), List.getElem?_append_right (by omega)]; simp [hfl]
      have z3 : w6.cell? ⟨gB, l.length * 4 + 3, none⟩ = some (.slice none 0 0) := by rw [own6.cellAt _ (by omega), List.getElem?_append_right (by omega)]; simp [hfl]
      have y0 := own6.frozenAt (l.length * 4)
      have y1 := own6.frozenAt (l.length * 4 + 1)
      have y2 := own6.frozenAt (l.length * 4 + 2)
      have y3 := own6.frozenAt (l.length * 4 + 3)
      have B6 := B4.grown hg6 (fun e => by have := (g4.own.lt _ e).1; omega)
      have b6 := B6.cell 3 _ rfl
      have f6 := B6.fr 3
      have hlen : (l.length : Int) < (l.length : Int) + 1 := by omega
      (refine wpAny_take (i := 7) (v := ?_) rfl (by kernel_rfl) (by kernel_rfl) (by kernel_rfl) (fun _ _ _ h => h) (Or.inl ⟨by rfl, ?_⟩) ?_; rotate_left 1; (intro w'; go_simp; (try rw [if_pos (by omega)])); (try rfl); (try dsimp only [Act.put]))
      (refine wpAny_take (i := 9) (v := ?_) rfl (by kernel_rfl) (by kernel_rfl) (by kernel_rfl) (fun _ _ _ h => h) (Or.inl ⟨by rfl, ?_⟩) ?_; rotate_left 1; (intro w'; go_simp; (try rw [if_pos (by omega)])); (try rfl); (try dsimp only [Act.put]))
      refine wpAny_all (rs := [8, 10]) (by kernel_rfl) (by simp) ?_
      intro i hi
      obtain rfl | rfl : i = 8 ∨ i = 10 := by simpa using hi
      · unfold wpOp
        go_simp
        refine Or.inl ?_
        refine wpAny_all (rs := [10]) (by kernel_rfl) (by simp) ?_
        intro i hi
        obtain rfl : i = 10 := by simpa using hi
        unfold wpOp
        go_simp
        refine Or.inl ?_
        refine wpAny_done (by kernel_rfl) ?_ _
        go_end0
        rw [He2.out]
        exact ⟨fin.2.1, _, rfl, fin.1, rfl, fin.2.2⟩
      · unfold wpOp
        go_simp
        refine Or.inl ?_
        refine wpAny_all (rs := [8]) (by kernel_rfl) (by simp) ?_
        intro i hi
        obtain rfl : i = 8 := by simpa using hi
        unfold wpOp
        go_simp
        refine Or.inl ?_
        refine wpAny_done (by kernel_rfl) ?_ _
        go_end0
        rw [He2.out, swap4 _ _ _ _ _ _ _ _ _ hqg]
        exact ⟨fin.2.1, _, rfl, fin.1, rfl, fin.2.2⟩
end Go.Proofs.YtbfhaabpfkopdaaGreatDoor
