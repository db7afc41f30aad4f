/- The language: statements in memory; lists of them read (statements, block), given how one is read. -/
import Derived.Test.YtbfhaabpfkopdaaGreatDoorLo
namespace Go.Proofs.YtbfhaabpfkopdaaGreatDoor
open Go.RowKit
set_option linter.unusedVariables false

/-- A statement. -/
structure Stm where
  kind : Bs
  name : Bs
  proc : Bs
  args : List Ex
  cond : List (List Te)
  body : List Stm
  els : List Stm
/-- Statements one behind the other in memory. -/
inductive StmsAt (W : World) (ok : Nat → Prop) : Option Addr → List Stm → Prop
  | nil (x : Option Addr) : StmsAt W ok x []
  | row (b off : Nat) (l : List Stm) (A C B E : Nat → Option Addr) (ca cc cb ce : Nat → Nat) (hB : ok b) (hlt : b < W.heap.size)
      (c0 : ∀ i e, l[i]? = some e → W.cell? ⟨b, off + i * 7, none⟩ = some (.string (bs e.kind)))
      (c1 : ∀ i e, l[i]? = some e → W.cell? ⟨b, off + i * 7 + 1, none⟩ = some (.string (bs e.name)))
      (c2 : ∀ i e, l[i]? = some e → W.cell? ⟨b, off + i * 7 + 2, none⟩ = some (.string (bs e.proc)))
      (c3 : ∀ i e, l[i]? = some e → W.cell? ⟨b, off + i * 7 + 3, none⟩ = some (.slice (A i) e.args.length (ca i)))
      (c4 : ∀ i e, l[i]? = some e → W.cell? ⟨b, off + i * 7 + 4, none⟩ = some (.slice (C i) e.cond.length (cc i)))
      (c5 : ∀ i e, l[i]? = some e → W.cell? ⟨b, off + i * 7 + 5, none⟩ = some (.slice (B i) e.body.length (cb i)))
      (c6 : ∀ i e, l[i]? = some e → W.cell? ⟨b, off + i * 7 + 6, none⟩ = some (.slice (E i) e.els.length (ce i)))
      (ha : ∀ i e, l[i]? = some e → ExsAt W ok (A i) e.args) (hc : ∀ i e, l[i]? = some e → RowAt coVals 1 W ok (C i) e.cond)
      (hb : ∀ i e, l[i]? = some e → StmsAt W ok (B i) e.body) (he : ∀ i e, l[i]? = some e → StmsAt W ok (E i) e.els) : StmsAt W ok (some ⟨b, off, none⟩) l
theorem StmsAt.keep {W W' : World} {ok ok' : Nat → Prop} {x : Option Addr} {l : List Stm} (h : StmsAt W ok x l) (hs : W.heap.size ≤ W'.heap.size) (hk : ∀ b, ok b → b < W.heap.size → W'.heap[b]? = W.heap[b]?) (ho : ∀ b, ok b → b < W.heap.size → ok' b) : StmsAt W' ok' x l := by
  induction h with
  | nil x => exact .nil x
  | row b off l A C B E ca cc cb ce hB hlt c0 c1 c2 c3 c4 c5 c6 ha hc hb he ihb ihe =>
    have same : ∀ o, W'.cell? ⟨b, o, none⟩ = W.cell? ⟨b, o, none⟩ := fun o => World.cell?_of_block (w := W) (hk b hB hlt)
    exact .row b off l A C B E ca cc cb ce (ho b hB hlt) (Nat.lt_of_lt_of_le hlt hs) (fun i e h => by rw [same]; exact c0 i e h) (fun i e h => by rw [same]; exact c1 i e h) (fun i e h => by rw [same]; exact c2 i e h) (fun i e h => by rw [same]; exact c3 i e h) (fun i e h => by rw [same]; exact c4 i e h) (fun i e h => by rw [same]; exact c5 i e h) (fun i e h => by rw [same]; exact c6 i e h)
      (fun i e h => (ha i e h).keep hs hk ho) (fun i e h => (hc i e h).keep coVals_keeps hs hk ho) ihb ihe
/-- A statement's cells. -/
def stVals : Rds Stm := fun W ok vs t => ∃ xa ca xc cc xb cb xe ce, vs = [.string (bs t.kind), .string (bs t.name), .string (bs t.proc), .slice xa t.args.length ca, .slice xc t.cond.length cc, .slice xb t.body.length cb, .slice xe t.els.length ce] ∧ ExsAt W ok xa t.args ∧ RowAt coVals 1 W ok xc t.cond ∧ StmsAt W ok xb t.body ∧ StmsAt W ok xe t.els
theorem stVals_keeps : KeepsV stVals := by
  rintro W W' ok ok' vs t ⟨xa, ca, xc, cc, xb, cb, xe, ce, rfl, h1, h2, h3, h4⟩ hs hk ho
  exact ⟨xa, ca, xc, cc, xb, cb, xe, ce, rfl, h1.keep hs hk ho, h2.keep coVals_keeps hs hk ho, h3.keep hs hk ho, h4.keep hs hk ho⟩
theorem stms_of_row {W : World} {ok : Nat → Prop} {x : Option Addr} {l : List Stm} (h : RowAt stVals 7 W ok x l) : StmsAt W ok x l := by
  rcases h with rfl | ⟨b, off, rfl, hB, hlt, hc⟩
  · exact .nil x
  · have key : ∀ i, ∃ q : Option Addr × Nat × Option Addr × Nat × Option Addr × Nat × Option Addr × Nat, ∀ e, l[i]? = some e →
        W.cell? ⟨b, off + i * 7, none⟩ = some (.string (bs e.kind)) ∧ W.cell? ⟨b, off + i * 7 + 1, none⟩ = some (.string (bs e.name)) ∧ W.cell? ⟨b, off + i * 7 + 2, none⟩ = some (.string (bs e.proc)) ∧
        W.cell? ⟨b, off + i * 7 + 3, none⟩ = some (.slice q.1 e.args.length q.2.1) ∧ W.cell? ⟨b, off + i * 7 + 4, none⟩ = some (.slice q.2.2.1 e.cond.length q.2.2.2.1) ∧ W.cell? ⟨b, off + i * 7 + 5, none⟩ = some (.slice q.2.2.2.2.1 e.body.length q.2.2.2.2.2.1) ∧ W.cell? ⟨b, off + i * 7 + 6, none⟩ = some (.slice q.2.2.2.2.2.2.1 e.els.length q.2.2.2.2.2.2.2) ∧
        ExsAt W ok q.1 e.args ∧ RowAt coVals 1 W ok q.2.2.1 e.cond ∧ StmsAt W ok q.2.2.2.2.1 e.body ∧ StmsAt W ok q.2.2.2.2.2.2.1 e.els := by
      intro i
      cases hi : l[i]? with
      | none => exact ⟨(none, 0, none, 0, none, 0, none, 0), fun e he => by cases he⟩
      | some e0 =>
        obtain ⟨vs, _, hv, xa, ca, xc, cc, xb, cb, xe, ce, rfl, h1, h2, h3, h4⟩ := hc i e0 hi
        refine ⟨(xa, ca, xc, cc, xb, cb, xe, ce), fun e he => ?_⟩
        cases he
        exact ⟨hv 0 _ rfl, hv 1 _ rfl, hv 2 _ rfl, hv 3 _ rfl, hv 4 _ rfl, hv 5 _ rfl, hv 6 _ rfl, h1, h2, h3, h4⟩
    have ⟨Q, hQ⟩ := Classical.axiomOfChoice key
    exact .row b off l (fun i => (Q i).1) (fun i => (Q i).2.2.1) (fun i => (Q i).2.2.2.2.1) (fun i => (Q i).2.2.2.2.2.2.1) (fun i => (Q i).2.1) (fun i => (Q i).2.2.2.1) (fun i => (Q i).2.2.2.2.2.1) (fun i => (Q i).2.2.2.2.2.2.2) hB hlt
      (fun i e h => (hQ i e h).1) (fun i e h => (hQ i e h).2.1) (fun i e h => (hQ i e h).2.2.1) (fun i e h => (hQ i e h).2.2.2.1) (fun i e h => (hQ i e h).2.2.2.2.1) (fun i e h => (hQ i e h).2.2.2.2.2.1) (fun i e h => (hQ i e h).2.2.2.2.2.2.1)
      (fun i e h => (hQ i e h).2.2.2.2.2.2.2.1) (fun i e h => (hQ i e h).2.2.2.2.2.2.2.2.1) (fun i e h => (hQ i e h).2.2.2.2.2.2.2.2.2.1) (fun i e h => (hQ i e h).2.2.2.2.2.2.2.2.2.2)
/-- A statement as a value; a list of them. -/
def StV (W : World) (ok : Nat → Prop) (v : Value) (t : Stm) : Prop := ∃ vs : List Value, v = .agg vs.toArray ∧ stVals W ok vs t
def StsV (W : World) (ok : Nat → Prop) (v : Value) (l : List Stm) : Prop := ∃ x cap, v = .slice x l.length cap ∧ StmsAt W ok x l
theorem Tryz.infoStmt : (Tryz.prog.info? 185).map (fun i => (i.zero, i.size, i.bytes)) = some (some (.agg #[.string ⟨#[]⟩, .string ⟨#[]⟩, .string ⟨#[]⟩, .slice none 0 0, .slice none 0 0, .slice none 0 0, .slice none 0 0]), 7, 144) := by kernel_rfl

/-- Statements, as long as one begins. -/
def stmtsL (s : Bs) (f : Nat → Wd → Res Stm) (deep : Nat) : Nat → List Stm → Wd → Res (List Stm)
  | 0, _, _ => .out
  | n + 1, l, d => if d.role = 2 ∨ d.role = 5 then (if 12 < deep then .err 2 d.pos else (f deep d).bind fun t d => stmtsL s f deep n (l ++ [t]) d) else .ok l d
def blockF (s : Bs) (g : Nat → Wd → Res (List Stm)) (deep : Nat) (d : Wd) : Res (List Stm) :=
  (wantW s [123] d).bind fun _ d => (g deep d).bind fun l d => (wantW s [125] d).bind fun _ d => .ok l d
/-- How a statement, statements are read. -/
def StmtC (w0 : World) (a : Nat → Addr) (p r : Nat) (s : Bs) (deep : Nat) (F : Wd → Res Stm) : Prop :=
  ∀ (W : World) (d : Wd), Rd w0 W a p r s d → (d.role = 2 ∨ d.role = 5) → F d ≠ .out → Calls Tryz.prog 204 #[.pointer (some ⟨p, 0, none⟩), .int .i64 deep] W fun e W' => RPost w0 a p r s (F d) (fun W' v x => StV W' (fun b => W.heap.size ≤ b) v x) W e W'
def StmtsC (w0 : World) (a : Nat → Addr) (p r : Nat) (s : Bs) (G deep : Nat) (F : Wd → Res (List Stm)) : Prop :=
  ∀ (W : World) (d : Wd), Rd w0 W a p r s d → F d ≠ .out → Calls Tryz.prog G #[.pointer (some ⟨p, 0, none⟩), .int .i64 deep] W fun e W' => RPost w0 a p r s (F d) (fun W' v x => StsV W' (fun b => W.heap.size ≤ b) v x) W e W'

set_option maxRecDepth 20000 in
set_option maxHeartbeats 4000000 in
theorem statements_any (w0 : World) (a : Nat → Addr) (p r deep n : Nat) (s : Bs) (f : Nat → Wd → Res Stm) (hd : deep ≤ 13) (hn : n ≤ 1000000) (HS : Hid (deep ≤ 12 → StmtC w0 a p r s deep (f deep))) : StmtsC w0 a p r s 165 deep (stmtsL s f deep n []) := by
  intro w d h hne0
  obtain ⟨i0, hi0, hz0, hz1, hz2⟩ := info_parts Tryz.infoStmt
  have hpw := h.lt
  have hne := hide hne0
  clear hne0
  have g0 := GRow.nil stVals 185 7 w w.heap.size
  go_enter Tryz.func165, Tryz.ntmps165
  go_wp2_with fail
  go_loopg [5] n (fun gh t wx => ∃ (v : Value) (l : List Stm) (xss : List (List Value)) (d' : Wd), v = t ∧ l.length + gh = n ∧ GRow stVals 185 7 wx w.heap.size v l xss ∧ Rd w0 wx a p r s d' ∧ Gr p w wx ∧ Hid (stmtsL s f deep n [] d = stmtsL s f deep gh l d') ∧ Hid (stmtsL s f deep gh l d' ≠ .out))
  case atStart => exact ⟨_, [], _, d, rfl, by simp, g0, h, Gr.refl _ _, rfl, hne⟩
  case round =>
    clear g0 h hne
    obtain ⟨v, l, xss, d', rfl, hlg, g, h', hG, He, hne⟩ := hrel
    obtain ⟨_, _, hge, hlt, c0, c1, c2, c3, c4, fr, _, _⟩ := id h'
    cases gk with
    | zero => exact absurd rfl hne.out
    | succ gg =>
      by_cases hro : d'.role = 2 ∨ d'.role = 5
      · have hst : stmtsL s f deep (gg + 1) l d' = (if 12 < deep then .err 2 d'.pos else (f deep d').bind fun t d => stmtsL s f deep gg (l ++ [t]) d) := by
          show (if d'.role = 2 ∨ d'.role = 5 then _ else _) = _
          rw [if_pos hro]
        rw [hst] at He hne
        clear hst
        have eB := h'.errB
        by_cases h12 : 12 < deep
        · have HTh : Hid (Calls Tryz.prog 161 #[.pointer (some ⟨p, 0, none⟩), errV a 2] wr fun e w' => RPost (α := Unit) w0 a p r s (.err 2 d'.pos) (fun _ _ _ => True) wr e w') := throw_any w0 a p r s d' 2 wr h'
          have h12' : (12 : Int) < (deep : Int) := by omega
          rw [if_pos h12] at He
          by_cases h2 : d'.role = 2
          · have h2' : (d'.role == 2) = true := by simp [h2]
            clear hro hne h2 h12 HS
            go_wp2_with fail
            refine HTh.out.mono ?_
            rintro e w2 hP
            obtain ⟨hG2, N, rfl, hF, hlt2⟩ := hP
            go_wp2_with fail
            refine ⟨rfl, ?_⟩
            rw [He.out]
            exact ⟨hG.trans hG2, N, rfl, hF, hlt2⟩
          · have h2' : (d'.role == 2) = false := by simp [h2]
            have h5' : (d'.role == 5) = true := by simp; exact hro.resolve_left h2
            clear hro hne h2 h12 HS
            go_wp2_with fail
            refine HTh.out.mono ?_
            rintro e w2 hP
            obtain ⟨hG2, N, rfl, hF, hlt2⟩ := hP
            go_wp2_with fail
            refine ⟨rfl, ?_⟩
            rw [He.out]
            exact ⟨hG.trans hG2, N, rfl, hF, hlt2⟩
        · rw [if_neg h12] at He hne
          have h12' : ¬ (12 : Int) < (deep : Int) := by omega
          have HF2 : Hid (f deep d' ≠ .out) := bind_ne hne.out
          have H2 := hide (HS.out (by omega) wr d' h' hro HF2.out)
          clear HS
          cases e2 : f deep d' with
          | out => exact absurd e2 HF2.out
          | err c pos =>
            rw [e2] at H2 He
            have Hst : Hid (stmtsL s f deep n [] d = .err c pos) := He.out
            clear e2 He hne HF2
            by_cases h2 : d'.role = 2
            · have h2' : (d'.role == 2) = true := by simp [h2]
              clear hro h2 h12
              go_wp2_with fail
              refine H2.out.mono ?_
              rintro e w4 ⟨hG4, N, rfl, hF, hlt4⟩
              go_wp2_with fail
              refine ⟨rfl, ?_⟩
              rw [Hst.out]
              exact ⟨hG.trans hG4, N, rfl, hF, hlt4⟩
            · have h2' : (d'.role == 2) = false := by simp [h2]
              have h5' : (d'.role == 5) = true := by simp; exact hro.resolve_left h2
              clear hro h2 h12
              go_wp2_with fail
              refine H2.out.mono ?_
              rintro e w4 ⟨hG4, N, rfl, hF, hlt4⟩
              go_wp2_with fail
              refine ⟨rfl, ?_⟩
              rw [Hst.out]
              exact ⟨hG.trans hG4, N, rfl, hF, hlt4⟩
          | ok t2 d2 =>
            rw [e2] at H2 He hne
            clear e2 HF2
            by_cases h2 : d'.role = 2
            · have h2' : (d'.role == 2) = true := by simp [h2]
              clear hro h2 h12
              go_wp2_with fail
              refine H2.out.mono ?_
              rintro e w4 ⟨hG4, v4, rfl, hR4, vs, rfl, xa, ca, xc, cc, xb, cb, xe, ce, rfl, hV1, hV2, hV3, hV4⟩
              have hp : ∀ q, (some p : Option Nat) = some q → q < w.heap.size := fun q e => by cases e; exact hpw
              have g4 := g.keep stVals_keeps hG4 hp
              have own4 := g4.own
              have sz4 := hG4.size
              have szw := hG.size
              have hle : ∀ q, v.ownBlock = some q → q < wr.heap.size := fun q e => (g.own.lt q e).2
              have hV : stVals w4 (fun b => w.heap.size ≤ b ∧ v.ownBlock ≠ some b) [.string (bs t2.kind), .string (bs t2.name), .string (bs t2.proc), .slice xa t2.args.length ca, .slice xc t2.cond.length cc, .slice xb t2.body.length cb, .slice xe t2.els.length ce] t2 :=
                stVals_keeps w4 w4 (fun b => wr.heap.size ≤ b) _ _ t2 ⟨xa, ca, xc, cc, xb, cb, xe, ce, rfl, hV1, hV2, hV3, hV4⟩ (Nat.le_refl _) (fun _ _ _ => rfl) (fun b q _ => ⟨by have : wr.heap.size ≤ b := q; omega, fun e => by have := hle b e; have : wr.heap.size ≤ b := q; omega⟩)
              have hb4 := (Below.refl w4.heap.size w4).alloc (Nat.le_refl _) (.cells #[.string (bs t2.kind), .string (bs t2.name), .string (bs t2.proc), .slice xa t2.args.length ca, .slice xc t2.cond.length cc, .slice xb t2.body.length cb, .slice xe t2.els.length ce] 185)
              have g5 := g4.bel stVals_keeps hb4
              have hV5 := stVals_keeps _ _ _ (fun b => w.heap.size ≤ b ∧ v.ownBlock ≠ some b) _ _ hV hb4.size (fun b _ hlt => hb4.block b hlt) (fun b q _ => q)
              have hR5 := hR4.below hb4
              have hG5 := (hG.trans hG4).below hb4
              clear hV1 hV2 hV3 hV4 hR4 hV hb4 g4
              go_wp2_with (at_builtin; refine wpList_append_lies _ rfl _ _ 40 rfl w.heap.size 185 i0 _ 7 144 Tryz.underlying40 hi0 hz0 hz1 hz2 rfl (by decide) _ _ _ rfl (own4.alloc _) ⟨w4.heap.size, 0, none⟩ 1 1 [.string (bs t2.kind), .string (bs t2.name), .string (bs t2.proc), .slice xa t2.args.length ca, .slice xc t2.cond.length cc, .slice xb t2.body.length cb, .slice xe t2.els.length ce] rfl rfl (cells_new _ _ _) (by intro u hu; simp at hu; rcases hu with rfl | rfl | rfl | rfl | rfl | rfl | rfl <;> rfl) (by omega) (by unfold maxLen; omega) (by omega) (by simp; omega) (w4.heap.size + 1) (by simp) ?_)
              intro gB cap6 w6 own6 hg6 hat6 hlt6
              have g6 := g5.app stVals_keeps rfl rfl hV5 own6 hg6 (hat6.imp id (fun e => by rw [e]; simp))
              have hR6 : Rd w0 w6 a p r s d2 := hR5.grownO hg6 (fun q e => by have := (g.own.lt q e).1; omega)
              have hG6 : Gr p w w6 := hG5.grownN hg6 (fun q e => (g.own.lt q e).1)
              go_wp2_with fail
              go_roundg gg
              case measure => omega
              case rel => exact ⟨_, l ++ [t2], _, d2, rfl, by simp; omega, g6, hR6, hG6, He.out, hne.out⟩
            · have h2' : (d'.role == 2) = false := by simp [h2]
              have h5' : (d'.role == 5) = true := by simp; exact hro.resolve_left h2
              clear hro h2 h12
              go_wp2_with fail
              refine H2.out.mono ?_
              rintro e w4 ⟨hG4, v4, rfl, hR4, vs, rfl, xa, ca, xc, cc, xb, cb, xe, ce, rfl, hV1, hV2, hV3, hV4⟩
              have hp : ∀ q, (some p : Option Nat) = some q → q < w.heap.size := fun q e => by cases e; exact hpw
              have g4 := g.keep stVals_keeps hG4 hp
              have own4 := g4.own
              have sz4 := hG4.size
              have szw := hG.size
              have hle : ∀ q, v.ownBlock = some q → q < wr.heap.size := fun q e => (g.own.lt q e).2
              have hV : stVals w4 (fun b => w.heap.size ≤ b ∧ v.ownBlock ≠ some b) [.string (bs t2.kind), .string (bs t2.name), .string (bs t2.proc), .slice xa t2.args.length ca, .slice xc t2.cond.length cc, .slice xb t2.body.length cb, .slice xe t2.els.length ce] t2 :=
                stVals_keeps w4 w4 (fun b => wr.heap.size ≤ b) _ _ t2 ⟨xa, ca, xc, cc, xb, cb, xe, ce, rfl, hV1, hV2, hV3, hV4⟩ (Nat.le_refl _) (fun _ _ _ => rfl) (fun b q _ => ⟨by have : wr.heap.size ≤ b := q; omega, fun e => by have := hle b e; have : wr.heap.size ≤ b := q; omega⟩)
              have hb4 := (Below.refl w4.heap.size w4).alloc (Nat.le_refl _) (.cells #[.string (bs t2.kind), .string (bs t2.name), .string (bs t2.proc), .slice xa t2.args.length ca, .slice xc t2.cond.length cc, .slice xb t2.body.length cb, .slice xe t2.els.length ce] 185)
              have g5 := g4.bel stVals_keeps hb4
              have hV5 := stVals_keeps _ _ _ (fun b => w.heap.size ≤ b ∧ v.ownBlock ≠ some b) _ _ hV hb4.size (fun b _ hlt => hb4.block b hlt) (fun b q _ => q)
              have hR5 := hR4.below hb4
              have hG5 := (hG.trans hG4).below hb4
              clear hV1 hV2 hV3 hV4 hR4 hV hb4 g4
              go_wp2_with (at_builtin; refine wpList_append_lies _ rfl _ _ 40 rfl w.heap.size 185 i0 _ 7 144 Tryz.underlying40 hi0 hz0 hz1 hz2 rfl (by decide) _ _ _ rfl (own4.alloc _) ⟨w4.heap.size, 0, none⟩ 1 1 [.string (bs t2.kind), .string (bs t2.name), .string (bs t2.proc), .slice xa t2.args.length ca, .slice xc t2.cond.length cc, .slice xb t2.body.length cb, .slice xe t2.els.length ce] rfl rfl (cells_new _ _ _) (by intro u hu; simp at hu; rcases hu with rfl | rfl | rfl | rfl | rfl | rfl | rfl <;> rfl) (by omega) (by unfold maxLen; omega) (by omega) (by simp; omega) (w4.heap.size + 1) (by simp) ?_)
              intro gB cap6 w6 own6 hg6 hat6 hlt6
              have g6 := g5.app stVals_keeps rfl rfl hV5 own6 hg6 (hat6.imp id (fun e => by rw [e]; simp))
              have hR6 : Rd w0 w6 a p r s d2 := hR5.grownO hg6 (fun q e => by have := (g.own.lt q e).1; omega)
              have hG6 : Gr p w w6 := hG5.grownN hg6 (fun q e => (g.own.lt q e).1)
              go_wp2_with fail
              go_roundg gg
              case measure => omega
              case rel => exact ⟨_, l ++ [t2], _, d2, rfl, by simp; omega, g6, hR6, hG6, He.out, hne.out⟩
      · have Hst : Hid (stmtsL s f deep n [] d = .ok l d') := by
          show _ = _
          rw [He.out]
          show (if d'.role = 2 ∨ d'.role = 5 then _ else _) = _
          rw [if_neg hro]
        have h2' : (d'.role == 2) = false := by simp; exact fun k => hro (.inl k)
        have h5' : (d'.role == 5) = false := by simp; exact fun k => hro (.inr k)
        clear hro He hne
        go_wp2_with fail
        go_ret
        rw [Hst.out]
        obtain ⟨x, cap, rfl, hrow⟩ := g.row stVals_keeps (by omega)
        exact ⟨hG, _, rfl, h', x, cap, rfl, stms_of_row hrow⟩
end Go.Proofs.YtbfhaabpfkopdaaGreatDoor

/- The language: blocks of statements read. -/
namespace Go.Proofs.YtbfhaabpfkopdaaGreatDoor
open Go.RowKit
set_option linter.unusedVariables false

theorem wantL_one (s t : Bs) (d : Wd) : wantL s [t] d = wantW s t d := by
  show (wantW s t d).bind _ = _
  cases wantW s t d <;> rfl
/-- One word wanted; the row of it is made just ahead. -/
theorem want1 (w0 : World) (a : Nat → Addr) (p r : Nat) (s t : Bs) (d : Wd) (W : World) (h : Rd w0 W a p r s d) :
    Calls Tryz.prog 107 #[.pointer (some ⟨p, 0, none⟩), .slice (some ⟨W.heap.size, 0, none⟩) 1 1] (W.alloc (.cells #[.string (bs t)] 9)) fun e W' => RPost w0 a p r s (wantW s t d) (fun _ v _ => v = .tuple #[]) W e W' := by
  have hlt := h.lt
  have hS : StrsAt (W.alloc (.cells #[.string (bs t)] 9)) p W.heap.size [t] := ⟨by omega, by simp, fun i u hi => by
    rcases i with _ | i
    · cases hi; simp
    · cases hi⟩
  have HW := want_any w0 a p r W.heap.size 1 1 s [t] d _ (h.alloc (.cells #[.string (bs t)] 9)) hS rfl (by omega)
  rw [wantL_one] at HW
  refine HW.mono ?_
  intro e W' hP
  have hG0 : Gr p W (W.alloc (.cells #[.string (bs t)] 9)) := (Gr.refl _ _).alloc _
  cases e1 : wantW s t d with
  | out => unfold wantW at e1; split at e1 <;> cases e1
  | err c pos =>
    rw [e1] at hP
    obtain ⟨hG, hP⟩ := hP
    exact ⟨hG0.trans hG, hP⟩
  | ok u d1 =>
    rw [e1] at hP
    obtain ⟨hG, hP⟩ := hP
    exact ⟨hG0.trans hG, hP⟩

set_option maxRecDepth 20000 in
set_option maxHeartbeats 4000000 in
theorem block_any (w0 : World) (a : Nat → Addr) (p r deep : Nat) (s : Bs) (g : Nat → Wd → Res (List Stm)) (HS : Hid (StmtsC w0 a p r s 165 deep (g deep))) : StmtsC w0 a p r s 110 deep (blockF s g deep) := by
  intro w d h hne0
  obtain ⟨res, hres⟩ : ∃ res, res = blockF s g deep d := ⟨_, rfl⟩
  have He : Hid (res = (wantW s [123] d).bind fun _ d => (g deep d).bind fun l d => (wantW s [125] d).bind fun _ d => .ok l d) := hres
  rw [← hres] at hne0 ⊢
  have hne := hide hne0
  clear hne0 hres
  have H1 := hide (want1 w0 a p r s [123] d w h)
  go_enter Tryz.func110, Tryz.ntmps110
  go_wp2_with fail
  refine H1.out.mono ?_
  intro e w1 hP
  cases e1 : wantW s [123] d with
  | out => exact absurd (by rw [He.out, e1]; rfl) hne.out
  | err c pos =>
    rw [e1] at hP He
    obtain ⟨hG1, N, rfl, hF, hlt1⟩ := hP
    go_wp2_with fail
    refine ⟨rfl, ?_⟩
    rw [He.out]
    exact ⟨hG1, N, rfl, hF, hlt1⟩
  | ok u1 d1 =>
    rw [e1] at hP He
    obtain ⟨hG1, v1, rfl, hR1, rfl⟩ := hP
    clear e1 H1
    have He1 : Hid (res = (g deep d1).bind fun l d => (wantW s [125] d).bind fun _ d => .ok l d) := He.out
    clear He
    have HF2 : Hid (g deep d1 ≠ .out) := fun k => hne.out (by rw [He1.out, k]; rfl)
    have H2 := hide (HS.out w1 d1 hR1 HF2.out)
    clear HS
    go_wp2_with fail
    refine H2.out.mono ?_
    intro e w2 hP
    cases e2 : g deep d1 with
    | out => exact absurd e2 HF2.out
    | err c pos =>
      rw [e2] at hP He1
      obtain ⟨hG2, N, rfl, hF, hlt2⟩ := hP
      go_wp2_with fail
      refine ⟨rfl, ?_⟩
      rw [He1.out]
      exact ⟨hG1.trans hG2, N, rfl, hF, hlt2⟩
    | ok l d2 =>
      rw [e2] at hP He1
      obtain ⟨hG2, v2, rfl, hR2, x, cap, rfl, hX⟩ := hP
      clear e2 HF2 H2
      have H3 := hide (want1 w0 a p r s [125] d2 w2 hR2)
      have sz1 := hG1.size
      have hlt := h.lt
      go_wp2_with fail
      refine H3.out.mono ?_
      intro e w3 hP
      have He2 : Hid (res = (wantW s [125] d2).bind fun _ d => .ok l d) := He1.out
      clear He1
      cases e3 : wantW s [125] d2 with
      | out => exact absurd (by rw [He2.out, e3]; rfl) hne.out
      | err c pos =>
        rw [e3] at hP He2
        obtain ⟨hG3, N, rfl, hF, hlt3⟩ := hP
        go_wp2_with fail
        refine ⟨rfl, ?_⟩
        rw [He2.out]
        exact ⟨(hG1.trans hG2).trans hG3, N, rfl, hF, hlt3⟩
      | ok u3 d3 =>
        rw [e3] at hP He2
        obtain ⟨hG3, v3, rfl, hR3, rfl⟩ := hP
        have hX3 : StmsAt w3 (fun b => w.heap.size ≤ b) x l := hX.keep hG3.size (fun b k hb => hG3.block b hb (fun e => by cases e; have : w1.heap.size ≤ p := k; omega)) (fun b k _ => by have : w1.heap.size ≤ b := k; show w.heap.size ≤ b; omega)
        go_wp2_with fail
        go_ret
        rw [He2.out]
        exact ⟨(hG1.trans hG2).trans hG3, _, rfl, hR3, x, cap, rfl, hX3⟩
end Go.Proofs.YtbfhaabpfkopdaaGreatDoor

/- The language: a statement that is being read: its box, and what is stored into it. -/
namespace Go.Proofs.YtbfhaabpfkopdaaGreatDoor
open Go.RowKit
set_option linter.unusedVariables false

/-- A statement's box qb, the result's box rb (nothing in it as yet). -/
structure SB (w0 w W : World) (a : Nat → Addr) (p r : Nat) (s : Bs) (d : Wd) (rb qb : Nat) (t : Stm) : Prop where
  hp : p < w.heap.size
  hR : Rd w0 W a p r s d
  hG : Gr p w W
  hrb : w.heap.size ≤ rb
  hqb : w.heap.size ≤ qb
  hne : rb ≠ qb
  Z : BoxN W rb [.string ⟨#[]⟩, .string ⟨#[]⟩, .string ⟨#[]⟩, .slice none 0 0, .slice none 0 0, .slice none 0 0, .slice none 0 0]
  B : ∃ vs, stVals W (fun b => w.heap.size ≤ b ∧ b ≠ rb ∧ b ≠ qb) vs t ∧ BoxN W qb vs
theorem SB.call {w0 w W W' : World} {a : Nat → Addr} {p r : Nat} {s : Bs} {d d' : Wd} {rb qb : Nat} {t : Stm} (h : SB w0 w W a p r s d rb qb t) (hg : Gr p W W') (hR : Rd w0 W' a p r s d') : SB w0 w W' a p r s d' rb qb t := by
  obtain ⟨vs, hv, hB⟩ := h.B
  have h1 := h.hp
  have h2 := h.hrb
  have h3 := h.hqb
  exact ⟨h.hp, hR, h.hG.trans hg, h2, h3, h.hne, h.Z.gr hg (by omega), vs, stVals_keeps _ _ _ _ _ _ hv hg.size (fun b k hlt => hg.block b hlt (fun e => by cases e; have := k.1; omega)) (fun _ k _ => k), hB.gr hg (by omega)⟩
theorem SB.set {w0 w W : World} {a : Nat → Addr} {p r : Nat} {s : Bs} {d : Wd} {rb qb : Nat} {t t' : Stm} (h : SB w0 w W a p r s d rb qb t) (j : Nat) (v : Value) (hj : j < 7) (hv : ∀ vs, stVals W (fun b => w.heap.size ≤ b ∧ b ≠ rb ∧ b ≠ qb) vs t → stVals W (fun b => w.heap.size ≤ b ∧ b ≠ rb ∧ b ≠ qb) (vs.set j v) t') : SB w0 w (W.setCell ⟨qb, j, none⟩ v) a p r s d rb qb t' := by
  obtain ⟨vs, hs, hB⟩ := h.B
  have h1 := h.hp
  have h2 := h.hrb
  have h3 := h.hqb
  have hl : vs.length = 7 := by obtain ⟨_, _, _, _, _, _, _, _, rfl, _⟩ := hs; rfl
  exact ⟨h.hp, h.hR.setO (q := ⟨qb, j, none⟩) (by show p < qb; omega) v, h.hG.setN (q := ⟨qb, j, none⟩) h3 v, h2, h3, h.hne, h.Z.other (q := ⟨qb, j, none⟩) (fun k => h.hne k.symm) v, vs.set j v,
    stVals_keeps _ _ _ _ _ _ (hv vs hs) (by simp [World.setCell]) (fun b k hlt => Below.heap_setCell W ⟨qb, j, none⟩ v b (fun e => k.2.2 e)) (fun _ k _ => k), hB.put j (by omega) v⟩
theorem SB.cell {w0 w W : World} {a : Nat → Addr} {p r : Nat} {s : Bs} {d : Wd} {rb qb : Nat} {t : Stm} (h : SB w0 w W a p r s d rb qb t) (j : Nat) (hj : j < 7) : ∃ v, W.cell? ⟨qb, j, none⟩ = some v := by
  obtain ⟨vs, hs, hB⟩ := h.B
  have hl : vs.length = 7 := by obtain ⟨_, _, _, _, _, _, _, _, rfl, _⟩ := hs; rfl
  exact ⟨_, hB.cell j vs[j] (List.getElem?_eq_getElem (by omega))⟩
theorem SB.fr {w0 w W : World} {a : Nat → Addr} {p r : Nat} {s : Bs} {d : Wd} {rb qb : Nat} {t : Stm} (h : SB w0 w W a p r s d rb qb t) (j : Nat) : W.frozen? ⟨qb, j, none⟩ = false := by
  obtain ⟨vs, hs, hB⟩ := h.B
  exact hB.fr j
theorem SB.kind {w0 w W : World} {a : Nat → Addr} {p r : Nat} {s : Bs} {d : Wd} {rb qb : Nat} {t : Stm} (h : SB w0 w W a p r s d rb qb t) : W.cell? ⟨qb, 0, none⟩ = some (.string (bs t.kind)) := by
  obtain ⟨vs, ⟨_, _, _, _, _, _, _, _, rfl, _⟩, hB⟩ := h.B
  exact hB.cell 0 _ rfl
theorem SB.setName {w0 w W : World} {a : Nat → Addr} {p r : Nat} {s : Bs} {d : Wd} {rb qb : Nat} {t : Stm} (h : SB w0 w W a p r s d rb qb t) (x : Bs) : SB w0 w (W.setCell ⟨qb, 1, none⟩ (.string (bs x))) a p r s d rb qb ⟨t.kind, x, t.proc, t.args, t.cond, t.body, t.els⟩ :=
  h.set 1 _ (by omega) (by rintro vs ⟨xa, ca, xc, cc, xb, cb, xe, ce, rfl, h1, h2, h3, h4⟩; exact ⟨xa, ca, xc, cc, xb, cb, xe, ce, rfl, h1, h2, h3, h4⟩)
theorem SB.setCond {w0 w W : World} {a : Nat → Addr} {p r : Nat} {s : Bs} {d : Wd} {rb qb : Nat} {t : Stm} (h : SB w0 w W a p r s d rb qb t) {x : Option Addr} {l : List (List Te)} (cap : Nat) (hx : RowAt coVals 1 W (fun b => w.heap.size ≤ b ∧ b ≠ rb ∧ b ≠ qb) x l) : SB w0 w (W.setCell ⟨qb, 4, none⟩ (.slice x l.length cap)) a p r s d rb qb ⟨t.kind, t.name, t.proc, t.args, l, t.body, t.els⟩ :=
  h.set 4 _ (by omega) (by rintro vs ⟨xa, ca, xc, cc, xb, cb, xe, ce, rfl, h1, h2, h3, h4⟩; exact ⟨xa, ca, x, cap, xb, cb, xe, ce, rfl, h1, hx, h3, h4⟩)
theorem SB.setBody {w0 w W : World} {a : Nat → Addr} {p r : Nat} {s : Bs} {d : Wd} {rb qb : Nat} {t : Stm} (h : SB w0 w W a p r s d rb qb t) {x : Option Addr} {l : List Stm} (cap : Nat) (hx : StmsAt W (fun b => w.heap.size ≤ b ∧ b ≠ rb ∧ b ≠ qb) x l) : SB w0 w (W.setCell ⟨qb, 5, none⟩ (.slice x l.length cap)) a p r s d rb qb ⟨t.kind, t.name, t.proc, t.args, t.cond, l, t.els⟩ :=
  h.set 5 _ (by omega) (by rintro vs ⟨xa, ca, xc, cc, xb, cb, xe, ce, rfl, h1, h2, h3, h4⟩; exact ⟨xa, ca, xc, cc, x, cap, xe, ce, rfl, h1, h2, hx, h4⟩)
theorem SB.setEls {w0 w W : World} {a : Nat → Addr} {p r : Nat} {s : Bs} {d : Wd} {rb qb : Nat} {t : Stm} (h : SB w0 w W a p r s d rb qb t) {x : Option Addr} {l : List Stm} (cap : Nat) (hx : StmsAt W (fun b => w.heap.size ≤ b ∧ b ≠ rb ∧ b ≠ qb) x l) : SB w0 w (W.setCell ⟨qb, 6, none⟩ (.slice x l.length cap)) a p r s d rb qb ⟨t.kind, t.name, t.proc, t.args, t.cond, t.body, l⟩ :=
  h.set 6 _ (by omega) (by rintro vs ⟨xa, ca, xc, cc, xb, cb, xe, ce, rfl, h1, h2, h3, h4⟩; exact ⟨xa, ca, xc, cc, xb, cb, x, cap, rfl, h1, h2, h3, hx⟩)
/-- What a call has made anew is apart from both boxes. -/
theorem SB.apart {w0 w W : World} {a : Nat → Addr} {p r : Nat} {s : Bs} {d : Wd} {rb qb : Nat} {t : Stm} (h : SB w0 w W a p r s d rb qb t) : ∀ b, W.heap.size ≤ b → w.heap.size ≤ b ∧ b ≠ rb ∧ b ≠ qb := by
  obtain ⟨vs, hs, hB⟩ := h.B
  have h1 := h.Z.lt
  have h2 := hB.lt
  have h3 := h.hG.size
  intro b hb
  exact ⟨by omega, by omega, by omega⟩
theorem StmsAt.mono {W : World} {ok ok' : Nat → Prop} {x : Option Addr} {l : List Stm} (h : StmsAt W ok x l) (ho : ∀ b, ok b → ok' b) : StmsAt W ok' x l := h.keep (Nat.le_refl _) (fun _ _ _ => rfl) (fun b k _ => ho b k)
theorem RowAt.mono {α : Type} {V : Rds α} (hV : KeepsV V) {size : Nat} {W : World} {ok ok' : Nat → Prop} {x : Option Addr} {l : List α} (h : RowAt V size W ok x l) (ho : ∀ b, ok b → ok' b) : RowAt V size W ok' x l := h.keep hV (Nat.le_refl _) (fun _ _ _ => rfl) (fun b k _ => ho b k)
/-- The statement is stored into the result's box, and returned. -/
theorem SB.fin {w0 w : World} {a : Nat → Addr} {p r : Nat} {s : Bs} {d : Wd} {rb : Nat} {t : Stm} {vs : List Value} {ok : Nat → Prop} (hp : p < w.heap.size) (hrb : w.heap.size ≤ rb) (hok : ¬ ok rb) : ∀ (l : List (Nat × Value)) (W : World), Rd w0 W a p r s d → Gr p w W → stVals W ok vs t →
    Rd w0 (putAll W rb l) a p r s d ∧ Gr p w (putAll W rb l) ∧ stVals (putAll W rb l) ok vs t
  | [], W, hR, hG, hv => ⟨hR, hG, hv⟩
  | (o, v) :: l, W, hR, hG, hv =>
    SB.fin hp hrb hok l (W.setCell ⟨rb, o, none⟩ v) (hR.setO (q := ⟨rb, o, none⟩) (by show p < rb; omega) v) (hG.setN (q := ⟨rb, o, none⟩) hrb v) (stVals_keeps _ _ _ _ _ _ hv (by simp [World.setCell]) (fun b k hlt => Below.heap_setCell W ⟨rb, o, none⟩ v b (fun e => hok (by have e : b = rb := e; rw [← e]; exact k))) (fun _ k _ => k))
/-- A new statement, of this kind and name. -/
theorem SB.new {w0 w W : World} {a : Nat → Addr} {p r : Nat} {s : Bs} {d : Wd} {rb : Nat} (hp : p < w.heap.size) (hR : Rd w0 W a p r s d) (hG : Gr p w W) (hrb : w.heap.size ≤ rb) (hZ : BoxN W rb [.string ⟨#[]⟩, .string ⟨#[]⟩, .string ⟨#[]⟩, .slice none 0 0, .slice none 0 0, .slice none 0 0, .slice none 0 0]) (k nm : Bs) :
    SB w0 w (W.alloc (.cells #[.string (bs k), .string (bs nm), .string ⟨#[]⟩, .slice none 0 0, .slice none 0 0, .slice none 0 0, .slice none 0 0] 185)) a p r s d rb W.heap.size ⟨k, nm, [], [], [], [], []⟩ := by
  have h1 := hZ.lt
  have h2 := hG.size
  have hb := (Below.refl W.heap.size W).alloc (Nat.le_refl _) (.cells #[.string (bs k), .string (bs nm), .string ⟨#[]⟩, .slice none 0 0, .slice none 0 0, .slice none 0 0, .slice none 0 0] 185)
  exact ⟨hp, hR.below hb, hG.below hb, hrb, h2, by omega, hZ.bel hb, _, ⟨none, 0, none, 0, none, 0, none, 0, rfl, .nil _, .inl rfl, .nil _, .nil _⟩, BoxN.new W 185 [.string (bs k), .string (bs nm), .string ⟨#[]⟩, .slice none 0 0, .slice none 0 0, .slice none 0 0, .slice none 0 0]⟩
end Go.Proofs.YtbfhaabpfkopdaaGreatDoor
