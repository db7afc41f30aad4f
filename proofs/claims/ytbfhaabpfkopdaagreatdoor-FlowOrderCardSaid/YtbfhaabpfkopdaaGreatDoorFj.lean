/- Graphs copied: an act (ActOf). -/
import Derived.Test.YtbfhaabpfkopdaaGreatDoorFh
import Derived.Test.YtbfhaabpfkopdaaGreatDoorN2
import Derived.Test.YtbfhaabpfkopdaaGreatDoorN5
namespace Go.Proofs.YtbfhaabpfkopdaaGreatDoor
open Go.RowKit
set_option linter.unusedVariables false

structure EgFit (e : Eg) : Prop where
  fr : -9223372036854775808 ≤ e.fr ∧ e.fr ≤ 9223372036854775807
  tt : -9223372036854775808 ≤ e.tt ∧ e.tt ≤ 9223372036854775807
  args : LsFit 64 ExFit e.args
  tests : LsFit 144 TeFit e.tests
theorem testsOf_fit {l : List Te} (h : LsFit 144 TeFit l) (W : World) (x : Option Addr) (cap : Nat) (hx : RowAt teVals 9 W Any x l) : Calls Tryz.prog 83 #[.slice x l.length cap] W fun e W' => CpPost teVals 9 l W e W' :=
  testsOf_any l _ rfl h.len (hide fun j t ht => ⟨exprOf_fit (h.el j t ht).a, exprOf_fit (h.el j t ht).b⟩) W x cap hx
/-- What an act copied is. -/
def ActP (e : Eg) (w : World) (en : Ending) (w' : World) : Prop := Below w.heap.size w w' ∧ ∃ x3 c3 x4 c4, en = .returned (.agg #[.string (bs e.kind), .string (bs e.name), .slice x3 e.args.length c3, .slice x4 e.tests.length c4]) ∧ ExsAt w' (fun b => w.heap.size ≤ b) x3 e.args ∧ RowAt teVals 9 w' (fun b => w.heap.size ≤ b) x4 e.tests
set_option maxRecDepth 20000 in
set_option maxHeartbeats 8000000 in
theorem actOf_any (e : Eg) (hf : Hid (EgFit e)) (w : World) (xa : Option Addr) (ca : Nat) (xt : Option Addr) (ct : Nat) (ha : ExsAt w Any xa e.args) (ht : RowAt teVals 9 w Any xt e.tests) : Calls Tryz.prog 58 #[.agg #[.string (bs e.kind), .string (bs e.name), .slice xa e.args.length ca, .slice xt e.tests.length ct]] w fun en w' => ActP e w en w' := by
  have hb0 : Below w.heap.size w ((w.alloc (.cells #[.string (bs e.kind), .string (bs e.name), .slice xa e.args.length ca, .slice xt e.tests.length ct] 90)).alloc (.cells #[.string ⟨#[]⟩, .string ⟨#[]⟩, .slice none 0 0, .slice none 0 0] 67)) := ((Below.refl _ _).alloc (Nat.le_refl _) _).alloc (by simp) _
  have A0 : BoxN ((w.alloc (.cells #[.string (bs e.kind), .string (bs e.name), .slice xa e.args.length ca, .slice xt e.tests.length ct] 90)).alloc (.cells #[.string ⟨#[]⟩, .string ⟨#[]⟩, .slice none 0 0, .slice none 0 0] 67)) w.heap.size [.string (bs e.kind), .string (bs e.name), .slice xa e.args.length ca, .slice xt e.tests.length ct] := (BoxN.new w 90 [.string (bs e.kind), .string (bs e.name), .slice xa e.args.length ca, .slice xt e.tests.length ct]).bel ((Below.refl _ _).alloc (Nat.le_refl _) _)
  have B0 : BoxN ((w.alloc (.cells #[.string (bs e.kind), .string (bs e.name), .slice xa e.args.length ca, .slice xt e.tests.length ct] 90)).alloc (.cells #[.string ⟨#[]⟩, .string ⟨#[]⟩, .slice none 0 0, .slice none 0 0] 67)) (w.heap.size + 1) [.string ⟨#[]⟩, .string ⟨#[]⟩, .slice none 0 0, .slice none 0 0] := by
    have := BoxN.new (w.alloc (.cells #[.string (bs e.kind), .string (bs e.name), .slice xa e.args.length ca, .slice xt e.tests.length ct] 90)) 67 [.string ⟨#[]⟩, .string ⟨#[]⟩, .slice none 0 0, .slice none 0 0]; rw [World.size_alloc] at this; exact this
  obtain ⟨W0, hW0⟩ : ∃ X, X = (w.alloc (.cells #[.string (bs e.kind), .string (bs e.name), .slice xa e.args.length ca, .slice xt e.tests.length ct] 90)).alloc (.cells #[.string ⟨#[]⟩, .string ⟨#[]⟩, .slice none 0 0, .slice none 0 0] 67) := ⟨_, rfl⟩
  rw [← hW0] at hb0 A0 B0
  go_enter Tryz.func58, Tryz.ntmps58
  go_upto_region 1 with fail
  change Code.wp _ _ _ _ ((w.alloc (.cells #[.string (bs e.kind), .string (bs e.name), .slice xa e.args.length ca, .slice xt e.tests.length ct] 90)).alloc (.cells #[.string ⟨#[]⟩, .string ⟨#[]⟩, .slice none 0 0, .slice none 0 0] 67))
  rw [← hW0]
  clear hW0
  obtain ⟨g1, hg1⟩ : ∃ g, g = w.heap.size := ⟨_, rfl⟩
  obtain ⟨g2, hg2⟩ : ∃ g, g = w.heap.size + 1 := ⟨_, rfl⟩
  have hgl : w.heap.size ≤ g2 := by omega
  have hgn : g2 ≠ g1 := by omega
  rw [← hg1] at A0
  rw [← hg2] at B0
  rw [← hg2, ← hg1]
  clear hg1 hg2
  have hbd : Below W0.heap.size W0 W0.drew := (Below.refl _ _).drew
  have Bd := hb0.trans (hbd.mono hb0.size)
  have Ad := A0.bel hbd
  have Bd2 := B0.bel hbd
  have HC1 := hide (exprsOf_any hf.out.args W0.drew xa ca (ha.bel Bd))
  have htd := ht.belM teVals_keeps Bd
  have hlt0 := B0.lt
  have sz0 := hb0.size
  refine wp_region_held (S := fun w' => w'.cell? ⟨g1, 0, none⟩ = some (.string (bs e.kind)) ∧ w'.cell? ⟨g1, 1, none⟩ = some (.string (bs e.name)) ∧ w'.cell? ⟨g1, 2, none⟩ = some (.slice xa e.args.length ca) ∧ w'.cell? ⟨g1, 3, none⟩ = some (.slice xt e.tests.length ct)) (by kernel_rfl) ?_
  have hS9 : W0.drew.cell? ⟨g1, 0, none⟩ = some (.string (bs e.kind)) ∧ W0.drew.cell? ⟨g1, 1, none⟩ = some (.string (bs e.name)) ∧ W0.drew.cell? ⟨g1, 2, none⟩ = some (.slice xa e.args.length ca) ∧ W0.drew.cell? ⟨g1, 3, none⟩ = some (.slice xt e.tests.length ct) := ⟨Ad.cell 0 _ rfl, Ad.cell 1 _ rfl, Ad.cell 2 _ rfl, Ad.cell 3 _ rfl⟩
  (refine tk 0 (v := ?_) ?_ hS9 ?_; rotate_left 1; (intro w' hSw; (try dsimp only at hSw); go_simp; (try rw [if_pos (by omega)])); (try rfl); (try dsimp only [Act.put]))
  (refine tk 1 (v := ?_) ?_ hS9 ?_; rotate_left 1; (intro w' hSw; (try dsimp only at hSw); go_simp; (try rw [if_pos (by omega)])); (try rfl); (try dsimp only [Act.put]))
  (refine tk 2 (v := ?_) ?_ hS9 ?_; rotate_left 1; (intro w' hSw; (try dsimp only at hSw); go_simp; (try rw [if_pos (by omega)])); (try rfl); (try dsimp only [Act.put]))
  (refine tk 3 (v := ?_) ?_ hS9 ?_; rotate_left 1; (intro w' hSw; (try dsimp only at hSw); go_simp; (try rw [if_pos (by omega)])); (try rfl); (try dsimp only [Act.put]))
  (refine tk 4 (v := ?_) ?_ hS9 ?_; rotate_left 1; (intro w' hSw; (try dsimp only at hSw); go_simp; (try rw [if_pos (by omega)])); (try rfl); (try dsimp only [Act.put]))
  (refine tk 5 (v := ?_) ?_ hS9 ?_; rotate_left 1; (intro w' hSw; (try dsimp only at hSw); go_simp; (try rw [if_pos (by omega)])); (try rfl); (try dsimp only [Act.put]))
  (refine tk 7 (v := ?_) ?_ hS9 ?_; rotate_left 1; (intro w' hSw; (try dsimp only at hSw); go_simp; (try rw [if_pos (by omega)])); (try rfl); (try dsimp only [Act.put]))
  (refine tk 8 (v := ?_) ?_ hS9 ?_; rotate_left 1; (intro w' hSw; (try dsimp only at hSw); go_simp; (try rw [if_pos (by omega)])); (try rfl); (try dsimp only [Act.put]))
  refine wpAnyH_one (k := 6) (by kernel_rfl) ?_
  unfold wpOp
  go_simp
  refine Or.inl (HC1.out.mono ?_)
  rintro e' w3 ⟨hb3, x3, c3, rfl, hr3⟩
  have B3 := Bd.trans (hb3.mono Bd.size)
  have A3 := Ad.bel hb3
  have C3 := Bd2.bel hb3
  have HC2 := hide (testsOf_fit hf.out.tests w3 xt ct (htd.belM teVals_keeps hb3))
  have hS9 : w3.cell? ⟨g1, 0, none⟩ = some (.string (bs e.kind)) ∧ w3.cell? ⟨g1, 1, none⟩ = some (.string (bs e.name)) ∧ w3.cell? ⟨g1, 2, none⟩ = some (.slice xa e.args.length ca) ∧ w3.cell? ⟨g1, 3, none⟩ = some (.slice xt e.tests.length ct) := ⟨A3.cell 0 _ rfl, A3.cell 1 _ rfl, A3.cell 2 _ rfl, A3.cell 3 _ rfl⟩
  refine ⟨hS9, ?_⟩
  refine wpAnyH_one (k := 9) (by kernel_rfl) ?_
  unfold wpOp
  go_simp
  refine Or.inl (HC2.out.mono ?_)
  rintro e' w4 ⟨hb4, x4, c4, rfl, hr4⟩
  have B4 := B3.trans (hb4.mono B3.size)
  have A4 := A3.bel hb4
  have C4 := C3.bel hb4
  have hS9 : w4.cell? ⟨g1, 0, none⟩ = some (.string (bs e.kind)) ∧ w4.cell? ⟨g1, 1, none⟩ = some (.string (bs e.name)) ∧ w4.cell? ⟨g1, 2, none⟩ = some (.slice xa e.args.length ca) ∧ w4.cell? ⟨g1, 3, none⟩ = some (.slice xt e.tests.length ct) := ⟨A4.cell 0 _ rfl, A4.cell 1 _ rfl, A4.cell 2 _ rfl, A4.cell 3 _ rfl⟩
  refine ⟨hS9, ?_⟩
  (refine tk 10 (v := ?_) ?_ hS9 ?_; rotate_left 1; (intro w' hSw; (try dsimp only at hSw); go_simp; (try rw [if_pos (by omega)])); (try rfl); (try dsimp only [Act.put]))
  have j0 := C4.cell 0 _ rfl
  have j1 := C4.cell 1 _ rfl
  have j2 := C4.cell 2 _ rfl
  have j3 := C4.cell 3 _ rfl
  have f0 := C4.fr 0
  have f1 := C4.fr 1
  have f2 := C4.fr 2
  have f3 := C4.fr 3
  have sz3 := hb3.size
  have hX3 : ExsAt ((((w4.setCell ⟨g2, 0, none⟩ (.string (bs e.kind))).setCell ⟨g2, 1, none⟩ (.string (bs e.name))).setCell ⟨g2, 2, none⟩ (.slice x3 e.args.length c3)).setCell ⟨g2, 3, none⟩ (.slice x4 e.tests.length c4)) (fun b => w.heap.size ≤ b) x3 e.args := by
    have hno : ¬ (fun b => W0.drew.heap.size ≤ b) (⟨g2, 0, none⟩ : Addr).block := fun q => by have q : W0.heap.size ≤ g2 := q; omega
    exact ((((((exs_of_row hr3).bel hb4).set (q := ⟨g2, 0, none⟩) hno _).set (q := ⟨g2, 1, none⟩) hno _).set (q := ⟨g2, 2, none⟩) hno _).set (q := ⟨g2, 3, none⟩) hno _).mono (fun b q _ => by have q : W0.heap.size ≤ b := q; show w.heap.size ≤ b; omega)
  have hT4 : RowAt teVals 9 ((((w4.setCell ⟨g2, 0, none⟩ (.string (bs e.kind))).setCell ⟨g2, 1, none⟩ (.string (bs e.name))).setCell ⟨g2, 2, none⟩ (.slice x3 e.args.length c3)).setCell ⟨g2, 3, none⟩ (.slice x4 e.tests.length c4)) (fun b => w.heap.size ≤ b) x4 e.tests := by
    refine hr4.keep teVals_keeps (by simp [World.setCell]) (fun b k hlt => ?_) (fun b k _ => by have k : w3.heap.size ≤ b := k; have : W0.heap.size ≤ w3.heap.size := sz3; show w.heap.size ≤ b; omega)
    have k : w3.heap.size ≤ b := k
    have : W0.heap.size ≤ w3.heap.size := sz3
    have hbg : b ≠ g2 := by omega
    rw [Below.heap_setCell _ ⟨g2, 3, none⟩ _ b hbg, Below.heap_setCell _ ⟨g2, 2, none⟩ _ b hbg, Below.heap_setCell _ ⟨g2, 1, none⟩ _ b hbg, Below.heap_setCell _ ⟨g2, 0, none⟩ _ b hbg]
  have C5 := (((C4.put 0 (by simp) (.string (bs e.kind))).put 1 (by simp) (.string (bs e.name))).put 2 (by simp) (.slice x3 e.args.length c3)).put 3 (by simp) (.slice x4 e.tests.length c4)
  have B5 := (((B4.setCell (p := ⟨g2, 0, none⟩) hgl (.string (bs e.kind))).setCell (p := ⟨g2, 1, none⟩) hgl (.string (bs e.name))).setCell (p := ⟨g2, 2, none⟩) hgl (.slice x3 e.args.length c3)).setCell (p := ⟨g2, 3, none⟩) hgl (.slice x4 e.tests.length c4)
  obtain ⟨W5, hW5⟩ : ∃ X, X = (((w4.setCell ⟨g2, 0, none⟩ (.string (bs e.kind))).setCell ⟨g2, 1, none⟩ (.string (bs e.name))).setCell ⟨g2, 2, none⟩ (.slice x3 e.args.length c3)).setCell ⟨g2, 3, none⟩ (.slice x4 e.tests.length c4) := ⟨_, rfl⟩
  refine wpAnyH_one (k := 11) (by kernel_rfl) ?_
  unfold wpOp
  go_simp
  rw [← hW5] at hX3 hT4 C5 B5 ⊢
  clear hW5 j0 j1 j2 j3 f0 f1 f2 f3
  refine Or.inl ⟨by kernel_rfl, ?_⟩
  have j0 := C5.cell 0 _ rfl
  have j1 := C5.cell 1 _ rfl
  have j2 := C5.cell 2 _ rfl
  have j3 := C5.cell 3 _ rfl
  clear hS9
  go_wp2_with fail
  refine bodyPost_ret (v := .agg #[.string (bs e.kind), .string (bs e.name), .slice x3 e.args.length c3, .slice x4 e.tests.length c4]) (by simp [results, Tryz.results58, go_sem, j0, j1, j2, j3]) rfl ?_
  exact ⟨B5, x3, c3, x4, c4, rfl, hX3, hT4⟩
end Go.Proofs.YtbfhaabpfkopdaaGreatDoor

/- Graphs copied: what GraphOf keeps. -/
namespace Go.Proofs.YtbfhaabpfkopdaaGreatDoor
open Go.RowKit
set_option linter.unusedVariables false

/-- A list of numbers, as a row. -/
def inVals : Rds Int := fun _ _ vs z => vs = [.int .i64 z]
theorem inVals_keeps : KeepsV inVals := fun W W' ok ok' vs t h _ _ _ => h
theorem row_ints {W : World} {x : Option Addr} {l : List Int} {ok : Nat → Prop} (h : RowAt inVals 1 W ok x l) : IntsAt W x l := by
  rcases h with h | ⟨b, off, rfl, _, hlt, hc⟩
  · exact .inl h
  · refine .inr ⟨b, off, rfl, hlt, fun i hi => ?_⟩
    obtain ⟨vs, h1, h2, rfl⟩ := hc i l[i] (List.getElem?_eq_getElem hi)
    have := h2 0 _ rfl
    simp only [Nat.mul_one, Nat.add_zero] at this
    rw [this, List.getD_eq_getElem?_getD, List.getElem?_eq_getElem hi]
    rfl
/-- A list of numbers that was made anew, as a row. -/
theorem inV_of_own {w : World} {base e n : Nat} {v : Value} {l : List Int} (h : w.ownsRow base e 1 v n (l.map (Value.int .i64))) : ∃ a cap, v = .slice a l.length cap ∧ RowAt inVals 1 w (fun b => base ≤ b) a l := by
  have hl : n = l.length := by have := h.1; simp at this; omega
  subst hl
  rcases id h.2 with ⟨rfl, hn⟩ | ⟨g, cap, cur, rfl, _⟩
  · have : l = [] := List.length_eq_zero_iff.1 hn
    subst this
    exact ⟨none, 0, rfl, .inl rfl⟩
  · refine ⟨_, _, rfl, ?_⟩
    have hb := h.lt g rfl
    rcases IntsAt_of_owns h rfl with rfl | ⟨b, off, hx, hlt, hc⟩
    · exact .inl rfl
    · cases hx
      refine .inr ⟨g, 0, rfl, hb.1, hb.2, fun i e he => ⟨[.int .i64 e], rfl, fun j u hj => ?_, rfl⟩⟩
      have hi := some_lt he
      cases j with
      | zero =>
        cases hj
        have := hc i hi
        rw [List.getD_eq_getElem?_getD, he] at this
        simpa using this
      | succ j => simp at hj
/-- The copy of a list of ints lies in new memory. -/
def InP (l : List Int) (w : World) (e : Ending) (w' : World) : Prop := Below w.heap.size w w' ∧ ∃ a cap, e = .returned (.slice a l.length cap) ∧ RowAt inVals 1 w' (fun b => w.heap.size ≤ b) a l
set_option maxHeartbeats 400000 in
theorem intsRow_some (b off c : Nat) (l : List Int) (w : World) (hc : ∀ i, i < l.length → w.cell? ⟨b, off + i, none⟩ = some (.int .i64 (l.getD i 0))) (hn : l.length ≤ 4398046511104) :
    Calls Tryz.prog 17 #[.slice (some ⟨b, off, none⟩) l.length c] w fun e w' => InP l w e w' := by
  obtain ⟨i0, hi, hz0, hz1, hz2⟩ := info_parts Tryz.info3
  have hnews : ∀ j u, (l.map (Value.int .i64))[j]? = some u → w.cell? ((⟨b, off, none⟩ : Addr).add j) = some u := by
    intro j u hj
    have hjl : j < l.length := by
      rcases Nat.lt_or_ge j l.length with h | h
      · exact h
      · rw [List.getElem?_eq_none (by simpa using h)] at hj; cases hj
    have := hc j hjl
    have hu : u = .int .i64 (l.getD j 0) := by simp [hjl] at hj; rw [← hj]; simp [hjl]
    rw [hu, ← this]
    unfold Addr.add
    split
    · rename_i h0; subst h0; simp
    · rfl
  go_enter Tryz.func17, Tryz.ntmps17
  go_wp2_with (at_builtin; refine wpList_append_own _ rfl _ _ 32 rfl w.heap.size 3 i0 (.int .i64 0) 1 8 Tryz.underlying32 hi hz0 hz1 hz2 rfl (by decide) _ _ _ rfl (World.ownsRow_nil _ _ _ _) ⟨b, off, none⟩ l.length c (l.map (Value.int .i64)) rfl (by simp) hnews (ints_oneCell _ _) (by unfold maxLen; omega) (by omega) (Nat.le_refl _) ?_)
  intro v' w1 hown hgrow _
  obtain ⟨a, cap, rfl, hI⟩ := inV_of_own hown
  go_wp2_with fail
  go_ret
  exact ⟨(Below.refl _ _).grown hgrow (Nat.le_refl _) (fun j hj => by cases hj), a, cap, rfl, hI⟩
theorem intsRow_any (a : Option Addr) (n c : Nat) (l : List Int) (w : World) (hA : IntsAt w a l) (hl : Hid (n = l.length)) (hn : n ≤ 4398046511104) :
    Calls Tryz.prog 17 #[.slice a n c] w fun e w' => InP l w e w' := by
  have h := hl.out
  subst h
  rcases hA with rfl | ⟨b, off, rfl, hb, hc⟩
  · refine (intsCopy_any a c [] w (.inl rfl) hn).mono ?_
    rintro e w' ⟨a', cap, rfl, _, hb⟩
    exact ⟨hb, a', cap, rfl, .inl rfl⟩
  · exact intsRow_some b off c l w hc hn
/-- Blocks below M, but the boxes o and g. -/
abbrev okL (M o g : Nat) : Nat → Prop := fun b => b < M ∧ b ≠ o ∧ b ≠ g
theorem RowAt.farL {α : Type} {V : Rds α} (hV : KeepsV V) {size : Nat} {W W' : World} {M o g : Nat} {x : Option Addr} {l : List α} (h : RowAt V size W (okL M o g) x l) {row : Option Nat} (hg : W.grownBy W' row) (hr : ∀ k, row = some k → M ≤ k) : RowAt V size W' (okL M o g) x l :=
  h.keep hV hg.size (fun b k hlt => hg.block b hlt (fun e => by have := hr b e.symm; have := k.1; omega)) (fun b k _ => k)
theorem RowAt.setL {α : Type} {V : Rds α} (hV : KeepsV V) {size : Nat} {W : World} {M o g j : Nat} {x : Option Addr} {l : List α} (h : RowAt V size W (okL M o g) x l) (u : Value) : RowAt V size (W.setCell ⟨o, j, none⟩ u) (okL M o g) x l :=
  h.keep hV (by simp [World.setCell]) (fun b k hlt => Below.heap_setCell W ⟨o, j, none⟩ u b (fun e => k.2.1 e)) (fun b k _ => k)
/-- A graph that is being copied: the old one's box, the answer's, the new one's. -/
structure Gx (w W : World) (g1 g2 o M : Nat) (pc zs vs : List Value) : Prop where
  P : BoxN W g1 pc
  R : BoxN W g2 zs
  O : BoxN W o vs
  n1 : g1 ≠ o
  n2 : g2 ≠ o
  n3 : g2 ≠ g1
  ge2 : w.heap.size ≤ g2
  ge : w.heap.size ≤ o
  l1 : g1 < M
  l2 : g2 < M
  lt : o < M
  mM : M ≤ W.heap.size
  bel : Below w.heap.size w W
theorem Gx.below {w W W' : World} {g1 g2 o M : Nat} {pc zs vs : List Value} (h : Gx w W g1 g2 o M pc zs vs) (hb : Below W.heap.size W W') : Gx w W' g1 g2 o M pc zs vs :=
  ⟨h.P.bel hb, h.R.bel hb, h.O.bel hb, h.n1, h.n2, h.n3, h.ge2, h.ge, h.l1, h.l2, h.lt, Nat.le_trans h.mM hb.size, h.bel.trans (hb.mono h.bel.size)⟩
theorem Gx.up {w W : World} {g1 g2 o M : Nat} {pc zs vs : List Value} (h : Gx w W g1 g2 o M pc zs vs) {M' : Nat} (h1 : M ≤ M') (h2 : M' ≤ W.heap.size) : Gx w W g1 g2 o M' pc zs vs :=
  ⟨h.P, h.R, h.O, h.n1, h.n2, h.n3, h.ge2, h.ge, by have := h.l1; omega, by have := h.l2; omega, by have := h.lt; omega, h2, h.bel⟩
theorem Gx.far {w W W' : World} {g1 g2 o M : Nat} {pc zs vs : List Value} (h : Gx w W g1 g2 o M pc zs vs) {row : Option Nat} (hg : W.grownBy W' row) (hr : ∀ k, row = some k → M ≤ k) : Gx w W' g1 g2 o M pc zs vs := by
  have l1 := h.l1
  have l2 := h.l2
  have lt := h.lt
  have ge := h.ge
  exact ⟨h.P.far hg (fun e => by have := hr _ e; omega), h.R.far hg (fun e => by have := hr _ e; omega), h.O.far hg (fun e => by have := hr _ e; omega), h.n1, h.n2, h.n3, h.ge2, h.ge, l1, l2, lt, Nat.le_trans h.mM hg.size, h.bel.grown hg h.bel.size (fun k e => by have := hr k e; omega)⟩
theorem Gx.set {w W : World} {g1 g2 o M : Nat} {pc zs vs : List Value} (h : Gx w W g1 g2 o M pc zs vs) (j : Nat) (hj : j < vs.length) (u : Value) : Gx w (W.setCell ⟨o, j, none⟩ u) g1 g2 o M pc zs (vs.set j u) :=
  ⟨h.P.other (q := ⟨o, j, none⟩) (fun e => h.n1 e.symm) u, h.R.other (q := ⟨o, j, none⟩) (fun e => h.n2 e.symm) u, h.O.put j hj u, h.n1, h.n2, h.n3, h.ge2, h.ge, h.l1, h.l2, h.lt, by simpa [World.setCell] using h.mM, h.bel.setCell (p := ⟨o, j, none⟩) h.ge u⟩
theorem Gx.mk5 {w W : World} {g1 g2 q : Nat} {pc zs : List Value} {z0 z1 z2 z3 z4 : Value} (hgn : g2 ≠ g1) (hgl : w.heap.size ≤ g2) (A : BoxN W g1 pc) (R : BoxN W g2 zs) (Q : BoxN W q [z0, z1, z2, z3, z4]) (h1 : g1 ≠ q) (h2 : g2 ≠ q) (hq : w.heap.size ≤ q) (B : Below w.heap.size w W) (u0 u1 u2 u3 u4 : Value) :
    Gx w (putAll W q [(0, u0), (1, u1), (2, u2), (3, u3), (4, u4)]) g1 g2 q W.heap.size pc zs [u0, u1, u2, u3, u4] :=
  (((((Gx.mk A R Q h1 h2 hgn hgl hq A.lt R.lt Q.lt (Nat.le_refl _) B : Gx w W g1 g2 q W.heap.size pc zs _).set 0 (by simp) u0).set 1 (by simp) u1).set 2 (by simp) u2).set 3 (by simp) u3).set 4 (by simp) u4
theorem RowAt.putL {α : Type} {V : Rds α} (hV : KeepsV V) {size : Nat} {W : World} {q g : Nat} {x : Option Addr} {l : List α} (h : RowAt V size W (fun b => b ≠ q ∧ b ≠ g) x l) (us : List (Nat × Value)) : RowAt V size (putAll W q us) (okL W.heap.size q g) x l :=
  h.keep hV (Nat.le_of_eq (putAll_block q us W).1.symm) (fun b k _ => (putAll_block q us W).2 b k.1) (fun b k hlt => ⟨hlt, k⟩)
end Go.Proofs.YtbfhaabpfkopdaaGreatDoor
