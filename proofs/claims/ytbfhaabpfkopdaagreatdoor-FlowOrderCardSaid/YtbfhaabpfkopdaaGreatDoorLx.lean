/- The language: lists with commas between (list), for any closure that reads one; arrays. -/
import Derived.Test.YtbfhaabpfkopdaaGreatDoorLt
namespace Go.Proofs.YtbfhaabpfkopdaaGreatDoor
open Go.RowKit
set_option linter.unusedVariables false

/-- What a closure reads: it turns x, as P says, and the reader goes on. -/
def OneC {α : Type} (w0 wb : World) (a : Nat → Addr) (p r : Nat) (s : Bs) (G : Nat) (caps : Array Value) (P : World → α → Prop) (F : α → Wd → Res α) : Prop :=
  ∀ (W : World) (d : Wd) (x : α), Rd w0 W a p r s d → Gr p wb W → P W x → F x d ≠ .out → Calls Tryz.prog G caps W fun e W' => RPost w0 a p r s (F x d) (fun W' v x' => v = .tuple #[] ∧ P W' x') wb e W'
def listL {α : Type} (s : Bs) (F : α → Wd → Res α) : Nat → α → Wd → Res α
  | 0, _, _ => .out
  | n + 1, x, d => if d.text = [44] then (F x (nextW s d)).bind fun x d => listL s F n x d else (wantW s [41] d).bind fun _ d => .ok x d
def listF {α : Type} (s : Bs) (F : α → Wd → Res α) (n : Nat) (x : α) (d : Wd) : Res α :=
  if d.text = [41] then .ok x (nextW s d) else (F x d).bind fun x d => listL s F n x d

set_option maxRecDepth 20000 in
set_option maxHeartbeats 4000000 in
theorem list_any {α : Type} (w0 wb : World) (a : Nat → Addr) (p r G n : Nat) (caps : Array Value) (s : Bs) (P : World → α → Prop) (F : α → Wd → Res α) (x : α) (d : Wd) (w : World) (hE : Hid (Enters G)) (HO : Hid (OneC w0 wb a p r s G caps P F)) (hK : Hid (∀ W W' x, P W x → Gr p W W' → P W' x))
    (h : Rd w0 w a p r s d) (hG : Gr p wb w) (hP : Hid (P w x)) (hne : Hid (listF s F n x d ≠ .out)) :
    Calls Tryz.prog 163 #[.pointer (some ⟨p, 0, none⟩), .func (.func G) #[] caps] w fun e w' => RPost w0 a p r s (listF s F n x d) (fun W' v x' => v = .tuple #[] ∧ P W' x') wb e w' := by
  have hEn := hE.out
  unfold Enters at hEn
  obtain ⟨res, hres⟩ : ∃ res, res = listF s F n x d := ⟨_, rfl⟩
  have He := hide hres
  rw [← hres] at hne ⊢
  clear hres
  unfold listF at He
  have HT := hide (take_any w0 a p r s [41] d w h)
  by_cases ht : d.text = [41]
  · rw [if_pos ht] at He
    simp only [if_pos ht] at HT
    clear ht
    go_enter Tryz.func163, Tryz.ntmps163
    go_wp2_with fail
    refine HT.out.mono ?_
    rintro e w1 ⟨⟨rfl, hR1⟩, hG1⟩
    go_wp2_with fail
    go_end0
    rw [He.out]
    exact ⟨hG.trans hG1, _, rfl, hR1, rfl, hK.out _ _ _ hP.out hG1⟩
  · rw [if_neg ht] at He
    simp only [if_neg ht] at HT
    clear ht
    have HF1 : Hid (F x d ≠ .out) := fun k => hne.out (by rw [He.out, k]; rfl)
    have H1 := hide (HO.out w d x h hG hP.out HF1.out)
    go_enter Tryz.func163, Tryz.ntmps163
    go_wp2_with fail
    refine HT.out.mono ?_
    rintro e w1 ⟨⟨rfl, hw1⟩, hx1⟩
    rw [hw1]
    clear hx1 hw1 w1 HT
    go_wp2_with fail
    refine H1.out.mono ?_
    intro e w1 hQ
    cases e1 : F x d with
    | out => exact absurd e1 HF1.out
    | err c pos =>
      rw [e1] at hQ He
      obtain ⟨hGx, N, rfl, hF, hltx⟩ := hQ
      go_wp2_with fail
      refine ⟨rfl, ?_⟩
      rw [He.out]
      exact ⟨hGx, N, rfl, hF, hltx⟩
    | ok x1 d1 =>
      rw [e1] at hQ He
      obtain ⟨hG1, v1, rfl, hR1, rfl, hP1⟩ := hQ
      have hP1 := hide hP1
      have He1 : Hid (res = listL s F n x1 d1) := He.out
      clear He e1 H1 HF1
      go_wp2_with fail
      go_loopg [] n (fun gh wx => ∃ (x' : α) (d' : Wd), Rd w0 wx a p r s d' ∧ Gr p wb wx ∧ Hid (P wx x') ∧ Hid (res = listL s F gh x' d'))
      case atStart => exact ⟨x1, d1, hR1, hG1, hP1, He1⟩
      case round =>
        clear hR1 hG1 hP1 He1 h hG hP
        obtain ⟨x', d', h, hG, hP, He⟩ := hrel
        cases gk with
        | zero => exact absurd He.out hne.out
        | succ gg =>
          have HT := hide (take_any w0 a p r s [44] d' wr h)
          by_cases ht : d'.text = [44]
          · have He2 : Hid (res = (F x' (nextW s d')).bind fun x d => listL s F gg x d) := by
              show _ = _
              rw [He.out]
              show (if d'.text = [44] then _ else _) = _
              rw [if_pos ht]
            simp only [if_pos ht] at HT
            clear ht He
            go_wp2_with fail
            refine HT.out.mono ?_
            rintro e w2 ⟨⟨rfl, hR2⟩, hG2⟩
            have HF2 : Hid (F x' (nextW s d') ≠ .out) := fun k => hne.out (by rw [He2.out, k]; rfl)
            have H2 := hide (HO.out w2 _ x' hR2 (hG.trans hG2) (hK.out _ _ _ hP.out hG2) HF2.out)
            clear HT
            go_wp2_with fail
            refine H2.out.mono ?_
            intro e w3 hQ
            cases e2 : F x' (nextW s d') with
            | out => exact absurd e2 HF2.out
            | err c pos =>
              rw [e2] at hQ He2
              obtain ⟨hGx, N, rfl, hF, hltx⟩ := hQ
              go_wp2_with fail
              refine ⟨rfl, ?_⟩
              rw [He2.out]
              exact ⟨hGx, N, rfl, hF, hltx⟩
            | ok x3 d3 =>
              rw [e2] at hQ He2
              obtain ⟨hG3, v3, rfl, hR3, rfl, hP3⟩ := hQ
              have hP3 := hide hP3
              clear e2 H2 HF2
              go_wp2_with fail
              go_roundg gg
              case measure => omega
              case rel => exact ⟨x3, d3, hR3, hG3, hP3, He2.out⟩
          · have He2 : Hid (res = (wantW s [41] d').bind fun _ d => .ok x' d) := by
              show _ = _
              rw [He.out]
              show (if d'.text = [44] then _ else _) = _
              rw [if_neg ht]
            simp only [if_neg ht] at HT
            clear ht He
            have HW := hide (want1 w0 a p r s [41] d' wr h)
            go_wp2_with fail
            refine HT.out.mono ?_
            rintro e w2 ⟨⟨rfl, hw2⟩, hx2⟩
            rw [hw2]
            clear hx2 hw2 w2 HT
            go_wp2_with fail
            refine HW.out.mono ?_
            intro e w3 hQ
            cases e2 : wantW s [41] d' with
            | out => exact absurd (by rw [He2.out, e2]; rfl) hne.out
            | err c pos =>
              rw [e2] at hQ He2
              obtain ⟨hGx, N, rfl, hF, hltx⟩ := hQ
              go_wp2_with fail
              refine ⟨rfl, ?_⟩
              rw [He2.out]
              exact ⟨hG.trans hGx, N, rfl, hF, hltx⟩
            | ok u3 d3 =>
              rw [e2] at hQ He2
              obtain ⟨hG3, v3, rfl, hR3, rfl⟩ := hQ
              go_wp2_with fail
              go_end0
              rw [He2.out]
              exact ⟨hG.trans hG3, _, rfl, hR3, rfl, hK.out _ _ _ hP.out hG3⟩
end Go.Proofs.YtbfhaabpfkopdaaGreatDoor

/- The language: arguments that grow by append, each stored over the zero that append has put. -/
namespace Go.Proofs.YtbfhaabpfkopdaaGreatDoor
open Go.RowKit
set_option linter.unusedVariables false

/-- A term's cells. -/
def exVals : Rds Ex := fun W ok vs e => ∃ x cx, vs = [.string (bs e.op), .int .i64 e.n, .string (bs e.name), .slice x e.l.length cx] ∧ ExsAt W ok x e.l
theorem exVals_keeps : KeepsV exVals := by
  rintro W W' ok ok' vs e ⟨x, cx, rfl, h⟩ hs hk ho
  exact ⟨x, cx, rfl, h.keep hs hk ho⟩
theorem exs_of_row {W : World} {ok : Nat → Prop} {x : Option Addr} {l : List Ex} (h : RowAt exVals 4 W ok x l) : ExsAt W ok x l := by
  rcases h with rfl | ⟨b, off, rfl, hB, hlt, hc⟩
  · exact .nil x
  · have key : ∀ i, ∃ q : Option Addr × Nat, ∀ e, l[i]? = some e →
        W.cell? ⟨b, off + i * 4, none⟩ = some (.string (bs e.op)) ∧ W.cell? ⟨b, off + i * 4 + 1, none⟩ = some (.int .i64 e.n) ∧ W.cell? ⟨b, off + i * 4 + 2, none⟩ = some (.string (bs e.name)) ∧ W.cell? ⟨b, off + i * 4 + 3, none⟩ = some (.slice q.1 e.l.length q.2) ∧ ExsAt W ok q.1 e.l := by
      intro i
      cases hi : l[i]? with
      | none => exact ⟨(none, 0), fun e he => by cases he⟩
      | some e0 =>
        obtain ⟨vs, _, hv, y, cy, rfl, h1⟩ := hc i e0 hi
        refine ⟨(y, cy), fun e he => ?_⟩
        cases he
        exact ⟨hv 0 _ rfl, hv 1 _ rfl, hv 2 _ rfl, hv 3 _ rfl, h1⟩
    have ⟨Q, hQ⟩ := Classical.axiomOfChoice key
    exact .row b off l (fun i => (Q i).1) (fun i => (Q i).2) hB hlt (fun i e h => (hQ i e h).1) (fun i e h => (hQ i e h).2.1) (fun i e h => (hQ i e h).2.2.1) (fun i e h => (hQ i e h).2.2.2.1) (fun i e h => (hQ i e h).2.2.2.2)
/-- A cell of one's own row stored into. -/
theorem own_put {w : World} {base : Nat} {e : TypeId} {size g n cap : Nat} {xs : List Value} (h : w.ownsRow base e size (.slice (some ⟨g, 0, none⟩) n cap) n xs) (j : Nat) (hj : j < n * size) (u : Value) : (w.setCell ⟨g, j, none⟩ u).ownsRow base e size (.slice (some ⟨g, 0, none⟩) n cap) n (xs.set j u) := by
  obtain ⟨h1, h2⟩ := h
  refine ⟨by simpa using h1, ?_⟩
  rcases h2 with ⟨h2, h3⟩ | ⟨g', cap', cur, hv, hg, hh, r1, r2, r3, r4⟩
  · cases h2
  · cases hv
    have hlt : g < w.heap.size := by
      rcases Nat.lt_or_ge g w.heap.size with k | k
      · exact k
      · rw [Array.getElem?_eq_none k] at hh; cases hh
    refine Or.inr ⟨g, cap, cur.setIfInBounds j u, rfl, hg, ?_, r1, r2, by simpa using r3, ?_⟩
    · simp [World.setCell, Array.getElem?_modify, hh]
    · rw [Array.toList_setIfInBounds, List.take_set, r4]
theorem grown_put {W W' : World} {row : Option Nat} {g : Nat} (h : W.grownBy W' row) (hg : row = some g ∨ W.heap.size ≤ g) (o : Nat) (u : Value) : W.grownBy (W'.setCell ⟨g, o, none⟩ u) row :=
  ⟨h.os, h.tape, h.output, by simpa [World.setCell] using h.size, fun i hi hne => (Below.heap_setCell W' ⟨g, o, none⟩ u i (fun e => by
    have e : i = g := e
    subst e
    rcases hg with k | k
    · exact hne k.symm
    · omega)).trans (h.block i hi hne)⟩
theorem set4 (xs : List Value) (u0 u1 u2 u3 v0 v1 v2 v3 : Value) (n : Nat) (h : xs.length = n) : ((((xs ++ [u0, u1, u2, u3]).set n v0).set (n + 1) v1).set (n + 2) v2).set (n + 3) v3 = xs ++ [v0, v1, v2, v3] := by
  subst h
  simp [List.set_append_right]
/-- A term more: the row has grown by a zero, the term is stored over it. -/
theorem arg_made {W w6 : World} {ty base g cap n : Nat} {v : Value} {l : List Ex} {xss : List (List Value)} (h : GRow exVals ty 4 W base v l xss) (e : Ex) (x : Option Addr) (cx : Nat) (hn : n = l.length) (u0 u1 u2 u3 : Value)
    (he : ExsAt W (fun b => base ≤ b ∧ v.ownBlock ≠ some b) x e.l) (own : w6.ownsRow base ty 4 (.slice (some ⟨g, 0, none⟩) (n + 1) cap) (n + 1) (xss.flatten ++ [u0, u1, u2, u3])) (hg : W.grownBy w6 v.ownBlock) (hwhere : v.ownBlock = some g ∨ W.heap.size ≤ g) :
    GRow exVals ty 4 ((((w6.setCell ⟨g, n * 4, none⟩ (.string (bs e.op))).setCell ⟨g, n * 4 + 1, none⟩ (.int .i64 e.n)).setCell ⟨g, n * 4 + 2, none⟩ (.string (bs e.name))).setCell ⟨g, n * 4 + 3, none⟩ (.slice x e.l.length cx)) base (.slice (some ⟨g, 0, none⟩) (n + 1) cap) (l ++ [e]) (xss ++ [[.string (bs e.op), .int .i64 e.n, .string (bs e.name), .slice x e.l.length cx]]) ∧ W.grownBy ((((w6.setCell ⟨g, n * 4, none⟩ (.string (bs e.op))).setCell ⟨g, n * 4 + 1, none⟩ (.int .i64 e.n)).setCell ⟨g, n * 4 + 2, none⟩ (.string (bs e.name))).setCell ⟨g, n * 4 + 3, none⟩ (.slice x e.l.length cx)) v.ownBlock := by
  have hl := h.own.1
  have hg' := grown_put (grown_put (grown_put (grown_put hg hwhere (n * 4) (.string (bs e.op))) hwhere (n * 4 + 1) (.int .i64 e.n)) hwhere (n * 4 + 2) (.string (bs e.name))) hwhere (n * 4 + 3) (.slice x e.l.length cx)
  refine ⟨h.app exVals_keeps rfl hn ⟨x, cx, rfl, he⟩ ?_ hg' hwhere, hg'⟩
  have o4 := own_put (own_put (own_put (own_put own (n * 4) (by omega) (.string (bs e.op))) (n * 4 + 1) (by omega) (.int .i64 e.n)) (n * 4 + 2) (by omega) (.string (bs e.name))) (n * 4 + 3) (by omega) (.slice x e.l.length cx)
  rw [set4 _ _ _ _ _ _ _ _ _ _ (by rw [hl, hn])] at o4
  exact o4
/-- A store below a row's base leaves it. -/
theorem GRow.set {α : Type} {V : Rds α} (hV : KeepsV V) {ty size : Nat} {W : World} {base : Nat} {v : Value} {l : List α} {xss : List (List Value)} (h : GRow V ty size W base v l xss) {q : Addr} (hq : q.block < base) (u : Value) : GRow V ty size (W.setCell q u) base v l xss :=
  ⟨ownsRow_setCell_below h.own hq u, h.len, h.each, fun i vs e h1 h2 => hV W _ _ _ vs e (h.el i vs e h1 h2) (by simp [World.setCell]) (fun b k _ => Below.heap_setCell W q u b (by omega)) (fun _ k _ => k)⟩
theorem BoxN.grown {W W' : World} {b : Nat} {vs : List Value} {row : Option Nat} (h : BoxN W b vs) (hg : W.grownBy W' row) (hne : row ≠ some b) : BoxN W' b vs :=
  ⟨Nat.lt_of_lt_of_le h.lt hg.size, fun j v k => (World.grownBy.cell_far hg ⟨b, j, none⟩ h.lt (fun e => hne e.symm)).trans (h.cell j v k), fun j => (World.grownBy.frozen_far hg ⟨b, j, none⟩ h.lt (fun e => hne e.symm)).trans (h.fr j)⟩

/-- A change that is being read: the result's box rb, the box bx of the reader's pointer, the statement's box qb with arguments that grow. -/
structure CB (p rb bx qb : Nat) (k nm pr : Bs) (W : World) (l : List Ex) : Prop where
  lay : p < rb ∧ p < bx ∧ rb < qb ∧ bx < qb ∧ rb ≠ bx
  Z : BoxN W rb [.string ⟨#[]⟩, .string ⟨#[]⟩, .string ⟨#[]⟩, .slice none 0 0, .slice none 0 0, .slice none 0 0, .slice none 0 0]
  X : BoxN W bx [.pointer (some ⟨p, 0, none⟩)]
  B : ∃ v xss, GRow exVals 121 4 W (qb + 1) v l xss ∧ BoxN W qb [.string (bs k), .string (bs nm), .string (bs pr), v, .slice none 0 0, .slice none 0 0, .slice none 0 0]
theorem CB.call {p rb bx qb : Nat} {k nm pr : Bs} {W W' : World} {l : List Ex} (h : CB p rb bx qb k nm pr W l) (hg : Gr p W W') : CB p rb bx qb k nm pr W' l := by
  obtain ⟨v, xss, g, B⟩ := h.B
  obtain ⟨l1, l2, l3, l4, l5⟩ := h.lay
  exact ⟨h.lay, h.Z.gr hg (by omega), h.X.gr hg (by omega), v, xss, g.keep exVals_keeps hg (fun q e => by cases e; omega), B.gr hg (by omega)⟩
theorem setCell_swap (w : World) (p q : Addr) (u v : Value) (h : p.block ≠ q.block) : (w.setCell p u).setCell q v = (w.setCell q v).setCell p u := by
  unfold World.setCell
  congr 1
  apply Array.ext_getElem?
  intro i
  simp only [Array.getElem?_modify]
  by_cases h1 : p.block = i
  · have h2 : ¬ q.block = i := fun k => h (h1.trans k.symm)
    simp [h1, h2]
  · by_cases h2 : q.block = i
    · simp [h1, h2]
    · simp [h1, h2]
theorem swap4 (w : World) (g o b j : Nat) (e : Ex) (x : Option Addr) (cx : Nat) (u : Value) (h : b ≠ g) : (((((w.setCell ⟨b, j, none⟩ u).setCell ⟨g, o, none⟩ (.string (bs e.op))).setCell ⟨g, o + 1, none⟩ (.int .i64 e.n)).setCell ⟨g, o + 2, none⟩ (.string (bs e.name))).setCell ⟨g, o + 3, none⟩ (.slice x e.l.length cx)) = ((((w.setCell ⟨g, o, none⟩ (.string (bs e.op))).setCell ⟨g, o + 1, none⟩ (.int .i64 e.n)).setCell ⟨g, o + 2, none⟩ (.string (bs e.name))).setCell ⟨g, o + 3, none⟩ (.slice x e.l.length cx)).setCell ⟨b, j, none⟩ u := by
  rw [setCell_swap w ⟨b, j, none⟩ ⟨g, o, none⟩ _ _ h, setCell_swap _ ⟨b, j, none⟩ ⟨g, o + 1, none⟩ _ _ h, setCell_swap _ ⟨b, j, none⟩ ⟨g, o + 2, none⟩ _ _ h, setCell_swap _ ⟨b, j, none⟩ ⟨g, o + 3, none⟩ _ _ h]
/-- The row has grown, the term is stored, the statement's box holds the new row. -/
theorem arg_fin {w0 wb w4 w6 : World} {a : Nat → Addr} {p r rb bx qb gB cap6 : Nat} {s kd nm pr : Bs} {d2 : Wd} {l : List Ex} {v : Value} {xss : List (List Value)} (e2 : Ex) (x3 : Option Addr) (cap3 : Nat) {u0 u1 u2 u3 : Value} (hb : wb.heap.size ≤ rb ∧ wb.heap.size ≤ bx ∧ wb.heap.size ≤ qb)
    (C : CB p rb bx qb kd nm pr w4 l) (g : GRow exVals 121 4 w4 (qb + 1) v l xss) (B : BoxN w4 qb [.string (bs kd), .string (bs nm), .string (bs pr), v, .slice none 0 0, .slice none 0 0, .slice none 0 0]) (hR : Rd w0 w4 a p r s d2) (hG : Gr p wb w4)
    (hX : ExsAt w4 (fun b => qb + 1 ≤ b ∧ v.ownBlock ≠ some b) x3 e2.l) (own : w6.ownsRow (qb + 1) 121 4 (.slice (some ⟨gB, 0, none⟩) (l.length + 1) cap6) (l.length + 1) (xss.flatten ++ [u0, u1, u2, u3])) (hg : w4.grownBy w6 v.ownBlock) (hat : v.ownBlock = some gB ∨ w4.heap.size ≤ gB) :
    Rd w0 (((((w6.setCell ⟨gB, l.length * 4, none⟩ (.string (bs e2.op))).setCell ⟨gB, l.length * 4 + 1, none⟩ (.int .i64 e2.n)).setCell ⟨gB, l.length * 4 + 2, none⟩ (.string (bs e2.name))).setCell ⟨gB, l.length * 4 + 3, none⟩ (.slice x3 e2.l.length cap3)).setCell ⟨qb, 3, none⟩ (.slice (some ⟨gB, 0, none⟩) (l.length + 1) cap6)) a p r s d2 ∧ Gr p wb (((((w6.setCell ⟨gB, l.length * 4, none⟩ (.string (bs e2.op))).setCell ⟨gB, l.length * 4 + 1, none⟩ (.int .i64 e2.n)).setCell ⟨gB, l.length * 4 + 2, none⟩ (.string (bs e2.name))).setCell ⟨gB, l.length * 4 + 3, none⟩ (.slice x3 e2.l.length cap3)).setCell ⟨qb, 3, none⟩ (.slice (some ⟨gB, 0, none⟩) (l.length + 1) cap6)) ∧
    CB p rb bx qb kd nm pr (((((w6.setCell ⟨gB, l.length * 4, none⟩ (.string (bs e2.op))).setCell ⟨gB, l.length * 4 + 1, none⟩ (.int .i64 e2.n)).setCell ⟨gB, l.length * 4 + 2, none⟩ (.string (bs e2.name))).setCell ⟨gB, l.length * 4 + 3, none⟩ (.slice x3 e2.l.length cap3)).setCell ⟨qb, 3, none⟩ (.slice (some ⟨gB, 0, none⟩) (l.length + 1) cap6)) (l ++ [e2]) := by
  obtain ⟨l1, l2, l3, l4, l5⟩ := C.lay
  obtain ⟨am, hgV⟩ := arg_made g e2 x3 cap3 rfl u0 u1 u2 u3 hX own hg hat
  have lo : ∀ q, v.ownBlock = some q → qb + 1 ≤ q := fun q e => (g.own.lt q e).1
  generalize ((((w6.setCell ⟨gB, l.length * 4, none⟩ (.string (bs e2.op))).setCell ⟨gB, l.length * 4 + 1, none⟩ (.int .i64 e2.n)).setCell ⟨gB, l.length * 4 + 2, none⟩ (.string (bs e2.name))).setCell ⟨gB, l.length * 4 + 3, none⟩ (.slice x3 e2.l.length cap3)) = V at am hgV ⊢
  refine ⟨(hR.grownO hgV (fun q e => by have := lo q e; omega)).setO (q := ⟨qb, 3, none⟩) (by show p < qb; omega) _, (hG.grownN hgV (fun q e => by have := lo q e; omega)).setN (q := ⟨qb, 3, none⟩) hb.2.2 _, C.lay, ?_, ?_, _, _, am.set exVals_keeps (q := ⟨qb, 3, none⟩) (by show qb < qb + 1; omega) _, ?_⟩
  · exact (C.Z.grown hgV (fun e => by have := lo _ e; omega)).other (q := ⟨qb, 3, none⟩) (by show qb ≠ rb; omega) _
  · exact (C.X.grown hgV (fun e => by have := lo _ e; omega)).other (q := ⟨qb, 3, none⟩) (by show qb ≠ bx; omega) _
  · simpa using (B.grown hgV (fun e => by have := lo _ e; omega)).put 3 (by simp) (.slice (some ⟨gB, 0, none⟩) (l.length + 1) cap6)
/-- One argument, read and put behind the others. -/
def argF (s : Bs) (k : Nat) (l : List Ex) (d : Wd) : Res (List Ex) := if 5000 < l.length then .out else (exF s k 2 1 d).bind fun e d => .ok (l ++ [e]) d
end Go.Proofs.YtbfhaabpfkopdaaGreatDoor

/- Regions that draw their order: a load may be taken first though a later operation, which waits for it, stores into its cell. -/
namespace Go.Proofs.YtbfhaabpfkopdaaGreatDoor
open Go.RowKit
set_option linter.unusedVariables false

/-- Whatever order comes: S holds behind each operation, as long as number E has not come up. -/
def wpTill (P : Program) (md : Region.Mode) (ops : Array Oper) (Q : Exit → Act → World → Prop) (S : World → Prop) (E : Nat) : Nat → Array Bool → Act → World → Prop
  | 0, listed, a, w => Region.ready md ops listed = [] ∧ Q .normal a w
  | fuel + 1, listed, a, w =>
    (Region.ready md ops listed = [] → Q .normal a w) ∧
    ∀ i ∈ Region.ready md ops listed, wpOp P ops Q i (fun a' w' => ((listed.setIfInBounds i true).getD E true = false → S w') ∧ wpTill P md ops Q S E fuel (listed.setIfInBounds i true) a' w') a w
theorem wpTill_any {P : Program} {md : Region.Mode} {ops : Array Oper} {Q : Exit → Act → World → Prop} {S : World → Prop} {E : Nat} : ∀ (fuel : Nat) (listed : Array Bool) (a : Act) (w : World), wpTill P md ops Q S E fuel listed a w → wpAny P md ops Q fuel listed a w
  | 0, _, _, _, h => h
  | fuel + 1, _, _, _, h => ⟨h.1, fun i hi => wpOp_mono (fun a' w' h' => wpTill_any fuel _ a' w' h'.2) (h.2 i hi)⟩
/-- A load may be taken first, if E waits for it. -/
theorem wpTill_first {P : Program} {md : Region.Mode} {ops : Array Oper} {Q : Exit → Act → World → Prop} {S : World → Prop} {E i : Nat} {oi oE : Oper} {v : Value} (hi : ops[i]? = some oi) (hE : ops[E]? = some oE) (hEi : i ≠ E) (hw : ∃ e ∈ oE.after, Region.binds md e = true ∧ e.on = i)
    (hsel : ∀ (j : Nat) (o : Oper) cs b, ops[j]? = some o → o.op ≠ .select cs b) (hQ : ∀ c a w, Q (.panic c) (a.put oi.dst v) w → Q (.panic c) a w) :
    ∀ (fuel : Nat) (listed : Array Bool) (a : Act) (w : World), listed.getD E true = false →
      (∀ j oj, ops[j]? = some oj → j ≠ i → listed.getD j true = false → (∀ e ∈ oj.after, Region.binds md e = true → e.on ≠ i) → oi.apart ops oj = true) →
      i ∈ Region.ready md ops listed → YieldsIf P ops S oi v a → S w →
      wpTill P md ops Q S E fuel (listed.setIfInBounds i true) (a.put oi.dst v) w → wpTill P md ops Q S E (fuel + 1) listed a w
  | 0, listed, a, w, hl, hfree, hr, hy, hS, H => by
    refine ⟨fun h => (by rw [h] at hr; cases hr), fun j hj => ?_⟩
    by_cases hji : j = i
    · subst hji; exact hy.wpOp hi hS ⟨fun _ => hS, H⟩
    · have := ready_mono hj hji
      rw [H.1] at this
      cases this
  | fuel + 1, listed, a, w, hl, hfree, hr, hy, hS, H => by
    refine ⟨fun h => (by rw [h] at hr; cases hr), fun j hj => ?_⟩
    by_cases hji : j = i
    · subst hji; exact hy.wpOp hi hS ⟨fun _ => hS, H⟩
    · have h1 := H.2 j (ready_mono hj hji)
      obtain ⟨hjun, oj, hoj, hall⟩ := mem_ready.1 hj
      have hnot : ∀ e ∈ oj.after, Region.binds md e = true → e.on ≠ i := fun e he hb heq => by
        have h1 := hall e he hb
        have h0 := (mem_ready.1 hr).1
        rw [heq] at h1
        rcases Nat.lt_or_ge i listed.size with h' | h'
        · simp [h'] at h0 h1; rw [h0] at h1; cases h1
        · simp [Array.getElem?_eq_none h'] at h1
      have hjE : j ≠ E := fun k => by
        subst k
        rw [hoj] at hE
        cases hE
        obtain ⟨e, he, hb, ho⟩ := hw
        exact hnot e he hb ho
      have h2 := wpOp_putIf hoj (hfree j oj hoj hji hjun hnot) (fun cs b => hsel i oi cs b hi) (fun cs b => hsel j oj cs b hoj) hQ hy h1
      refine wpOp_mono (fun a' w' h3 => ?_) h2
      have e1 : (listed.setIfInBounds j true).getD E true = false := by rw [getD_set_ne true hjE]; exact hl
      have hSw : S w' := h3.2.1 (by rw [getD_set_ne true hjE, getD_set_ne true hEi]; exact hl)
      refine ⟨fun _ => hSw, wpTill_first hi hE hEi hw hsel hQ fuel (listed.setIfInBounds j true) a' w' e1 ?_ (ready_mono hr (Ne.symm hji)) h3.1 hSw ?_⟩
      · intro k ok hk hki hun hno
        refine hfree k ok hk hki ?_ hno
        by_cases hjk : j = k
        · subst hjk; exact hjun
        · rw [getD_set_ne true hjk] at hun; exact hun
      · rw [Array.setIfInBounds_comm _ _ hji]
        exact h3.2.2
theorem wpTill_take {P : Program} {md : Region.Mode} {ops : Array Oper} {Q : Exit → Act → World → Prop} {S : World → Prop} {E i : Nat} {oi oE : Oper} {v : Value} {fuel : Nat} {listed : Array Bool} {a : Act} {w : World} (hi : ops[i]? = some oi) (hE : ops[E]? = some oE) (hEi : i ≠ E) (hw : (oE.after.any fun e => Region.binds md e && e.on == i) = true) (hl : listed.getD E true = false)
    (hs : Region.noSelect ops = true) (hf : Region.free md ops listed i = true) (hr : (Region.ready md ops listed).contains i = true)
    (hQ : ∀ c a w, Q (.panic c) (a.put oi.dst v) w → Q (.panic c) a w) (hy : YieldsIf P ops S oi v a) (hS : S w)
    (h : wpTill P md ops Q S E fuel (listed.setIfInBounds i true) (a.put oi.dst v) w) : wpTill P md ops Q S E (fuel + 1) listed a w :=
  wpTill_first hi hE hEi (by
    rw [Array.any_eq_true'] at hw
    obtain ⟨e, he, hb⟩ := hw
    simp only [Bool.and_eq_true, beq_iff_eq] at hb
    exact ⟨e, he, hb.1, hb.2⟩) (Region.noSelect_spec hs) hQ fuel listed a w hl (Region.free_spec hi hf) (by simpa using hr) hy hS h
theorem wpTill_all {P : Program} {md : Region.Mode} {ops : Array Oper} {Q : Exit → Act → World → Prop} {S : World → Prop} {E : Nat} {rs : List Nat} {fuel : Nat} {listed : Array Bool} {a : Act} {w : World} (hr : Region.ready md ops listed = rs) (hne : rs ≠ [])
    (h : ∀ i ∈ rs, wpOp P ops Q i (fun a' w' => ((listed.setIfInBounds i true).getD E true = false → S w') ∧ wpTill P md ops Q S E fuel (listed.setIfInBounds i true) a' w') a w) : wpTill P md ops Q S E (fuel + 1) listed a w :=
  ⟨fun h0 => absurd (hr ▸ h0) hne, hr ▸ h⟩
/-- Behind E nothing is asked of S. -/
theorem wpTill_of_any {P : Program} {md : Region.Mode} {ops : Array Oper} {Q : Exit → Act → World → Prop} {S : World → Prop} {E : Nat} : ∀ (fuel : Nat) (listed : Array Bool) (a : Act) (w : World), listed.getD E true = true → wpAny P md ops Q fuel listed a w → wpTill P md ops Q S E fuel listed a w
  | 0, _, _, _, _, h => h
  | fuel + 1, listed, a, w, hl, h => ⟨h.1, fun i hi => wpOp_mono (fun a' w' h' => by
      have e : (listed.setIfInBounds i true).getD E true = true := by
        by_cases k : i = E
        · subst k
          rcases Nat.lt_or_ge i listed.size with q | q
          · simp [q]
          · simp [Nat.not_lt.2 q]
        · rw [getD_set_ne true k]; exact hl
      exact ⟨(fun q => by rw [e] at q; cases q), wpTill_of_any fuel _ a' w' e h'⟩) (h.2 i hi)⟩
end Go.Proofs.YtbfhaabpfkopdaaGreatDoor
