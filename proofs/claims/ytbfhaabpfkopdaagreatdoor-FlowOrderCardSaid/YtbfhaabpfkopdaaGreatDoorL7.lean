/- The language: a program read. -/
import Derived.Test.YtbfhaabpfkopdaaGreatDoorL6
namespace Go.Proofs.YtbfhaabpfkopdaaGreatDoor
open Go.RowKit
set_option linter.unusedVariables false

/-- An array's cells. -/
def arVals : Rds Ar := fun W ok vs x => vs = [.string (bs x.name), .int .i64 x.size]
theorem arVals_keeps : KeepsV arVals := fun W W' ok ok' vs t h _ _ _ => h
theorem Tryz.infoArr : (Tryz.prog.info? 119).map (fun i => (i.zero, i.size, i.bytes)) = some (some (.agg #[.string ⟨#[]⟩, .int .i64 0]), 2, 24) := by kernel_rfl
theorem Tryz.infoProc : (Tryz.prog.info? 124).map (fun i => (i.zero, i.size, i.bytes)) = some (some (.agg #[.string ⟨#[]⟩, .slice none 0 0, .slice none 0 0, .string ⟨#[]⟩, .int .i64 0, .string ⟨#[]⟩, .slice none 0 0]), 7, 128) := by kernel_rfl
/-- A program as a value. -/
def PgV (W : World) (ok : Nat → Prop) (v : Value) (x : Pg) : Prop := ∃ xv cv xa ca xp cp xm cm, v = .agg #[.slice xv x.vars.length cv, .slice xa x.arrays.length ca, .slice xp x.procs.length cp, .slice xm x.main.length cm] ∧ RowAt strVals 1 W ok xv x.vars ∧ RowAt arVals 2 W ok xa x.arrays ∧ RowAt pcVals 7 W ok xp x.procs ∧ StmsAt W ok xm x.main

/-- A program that is being read: the result's box rb, the program's box qb. -/
structure QS (w0 w W : World) (a : Nat → Addr) (p r : Nat) (s : Bs) (d : Wd) (rb qb : Nat) (vs : List Value) : Prop where
  hR : Rd w0 W a p r s d
  hG : Gr p w W
  lay : p < w.heap.size ∧ w.heap.size ≤ rb ∧ rb < qb
  Z : BoxN W rb [.slice none 0 0, .slice none 0 0, .slice none 0 0, .slice none 0 0]
  B : BoxN W qb vs
theorem QS.call {w0 w W : World} {a : Nat → Addr} {p r : Nat} {s : Bs} {d : Wd} {rb qb : Nat} {vs : List Value} {W' : World} {d' : Wd} (h : QS w0 w W a p r s d rb qb vs) (hg : Gr p W W') (hR : Rd w0 W' a p r s d') : QS w0 w W' a p r s d' rb qb vs := by
  obtain ⟨l1, l2, l3⟩ := h.lay
  exact ⟨hR, h.hG.trans hg, h.lay, h.Z.gr hg (by omega), h.B.gr hg (by omega)⟩
theorem QS.bel {w0 w W : World} {a : Nat → Addr} {p r : Nat} {s : Bs} {d : Wd} {rb qb : Nat} {vs : List Value} {W' : World} (h : QS w0 w W a p r s d rb qb vs) (hb : Below W.heap.size W W') : QS w0 w W' a p r s d rb qb vs := h.call (Gr.of hb) (h.hR.below hb)
theorem QS.set {w0 w W : World} {a : Nat → Addr} {p r : Nat} {s : Bs} {d : Wd} {rb qb : Nat} {vs : List Value} (h : QS w0 w W a p r s d rb qb vs) (j : Nat) (u : Value) (hj : j < vs.length) : QS w0 w (W.setCell ⟨qb, j, none⟩ u) a p r s d rb qb (vs.set j u) := by
  obtain ⟨l1, l2, l3⟩ := h.lay
  exact ⟨h.hR.setO (q := ⟨qb, j, none⟩) (by show p < qb; omega) u, h.hG.setN (q := ⟨qb, j, none⟩) (by show w.heap.size ≤ qb; omega) u, h.lay, h.Z.other (q := ⟨qb, j, none⟩) (by show qb ≠ rb; omega) u, h.B.put j hj u⟩
theorem QS.grown {w0 w W : World} {a : Nat → Addr} {p r : Nat} {s : Bs} {d : Wd} {rb qb : Nat} {vs : List Value} {w6 : World} {row : Option Nat} (h : QS w0 w W a p r s d rb qb vs) (hg : W.grownBy w6 row) (hr : ∀ q, row = some q → qb + 1 ≤ q) : QS w0 w w6 a p r s d rb qb vs := by
  obtain ⟨l1, l2, l3⟩ := h.lay
  exact ⟨h.hR.grownO hg (fun q e => by have := hr q e; omega), h.hG.grownN hg (fun q e => by have := hr q e; omega), h.lay, h.Z.grown hg (fun e => by have := hr _ e; omega), h.B.grown hg (fun e => by have := hr _ e; omega)⟩
/-- A row that is done: in blocks from qb + 1 up to M. -/
def Old {α : Type} (V : Rds α) (size : Nat) (W : World) (qb M : Nat) (x : Option Addr) (l : List α) : Prop := RowAt V size W (fun b => qb + 1 ≤ b ∧ b < M) x l
theorem Old.call {α : Type} {V : Rds α} (hV : KeepsV V) {size : Nat} {W : World} {qb M : Nat} {x : Option Addr} {l : List α} {W' : World} {p : Nat} (h : Old V size W qb M x l) (hg : Gr p W W') (hp : p < qb) : Old V size W' qb M x l :=
  RowAt.keep hV h hg.size (fun b k hlt => hg.block b hlt (fun e => by cases e; have := k.1; omega)) (fun _ k _ => k)
theorem Old.bel {α : Type} {V : Rds α} (hV : KeepsV V) {size : Nat} {W : World} {qb M : Nat} {x : Option Addr} {l : List α} {W' : World} (h : Old V size W qb M x l) (hb : Below W.heap.size W W') : Old V size W' qb M x l :=
  RowAt.keep hV h hb.size (fun b k hlt => hb.block b hlt) (fun _ k _ => k)
theorem Old.grown {α : Type} {V : Rds α} (hV : KeepsV V) {size : Nat} {W : World} {qb M : Nat} {x : Option Addr} {l : List α} {w6 : World} {row : Option Nat} (h : Old V size W qb M x l) (hg : W.grownBy w6 row) (hr : ∀ q, row = some q → M ≤ q) : Old V size w6 qb M x l :=
  RowAt.keep hV h hg.size (fun b k hlt => hg.block b hlt (fun e => by have := hr b e.symm; have := k.2; omega)) (fun _ k _ => k)
theorem Old.set {α : Type} {V : Rds α} (hV : KeepsV V) {size : Nat} {W : World} {qb M : Nat} {x : Option Addr} {l : List α} (h : Old V size W qb M x l) (j : Nat) (u : Value) : Old V size (W.setCell ⟨qb, j, none⟩ u) qb M x l :=
  RowAt.keep hV h (by simp [World.setCell]) (fun b k hlt => Below.heap_setCell W ⟨qb, j, none⟩ u b (fun e => by have e : b = qb := e; have := k.1; omega)) (fun _ k _ => k)
theorem Old.up {α : Type} {V : Rds α} (hV : KeepsV V) {size : Nat} {W : World} {qb M : Nat} {x : Option Addr} {l : List α} {M' : Nat} (h : Old V size W qb M x l) (hM : M ≤ M') : Old V size W qb M' x l :=
  RowAt.keep hV h (Nat.le_refl _) (fun _ _ _ => rfl) (fun b k _ => ⟨k.1, by have := k.2; omega⟩)
theorem Old.of {α : Type} {V : Rds α} (hV : KeepsV V) {size : Nat} {W : World} {qb M : Nat} {x : Option Addr} {l : List α} (h : RowAt V size W (fun b => M ≤ b) x l) (hM : qb + 1 ≤ M) : Old V size W qb W.heap.size x l :=
  RowAt.keep hV h (Nat.le_refl _) (fun _ _ _ => rfl) (fun b k hlt => ⟨by have : M ≤ b := k; omega, hlt⟩)
/-- One element more; the box holds the new row. -/
theorem GRow.more {α : Type} {V : Rds α} (hV : KeepsV V) {ty size : Nat} {W w6 : World} {base g cap qb j : Nat} {v : Value} {l : List α} {xss : List (List Value)} (h : GRow V ty size W base v l xss) {vs : List Value} {e : α} (hvs : vs.length = size)
    (he : V W (fun b => base ≤ b ∧ v.ownBlock ≠ some b) vs e) (own : w6.ownsRow base ty size (.slice (some ⟨g, 0, none⟩) (l.length + 1) cap) (l.length + 1) (xss.flatten ++ vs)) (hg : W.grownBy w6 v.ownBlock) (hwhere : v.ownBlock = some g ∨ W.heap.size ≤ g) (hq : qb < base) :
    GRow V ty size (w6.setCell ⟨qb, j, none⟩ (.slice (some ⟨g, 0, none⟩) (l.length + 1) cap)) base (.slice (some ⟨g, 0, none⟩) (l.length + 1) cap) (l ++ [e]) (xss ++ [vs]) :=
  (h.app hV hvs rfl he own hg hwhere).set hV (q := ⟨qb, j, none⟩) hq _

set_option maxRecDepth 20000 in
set_option maxHeartbeats 8000000 in
theorem program_any (w0 : World) (a : Nat → Addr) (p r k n m : Nat) (s : Bs) (hk : k ≤ 1000000) (hn : n ≤ 1000000) (d : Wd) (w : World) (h : Rd w0 w a p r s d) (hne0 : prgF s k n m d ≠ .out) :
    Calls Tryz.prog 67 #[.pointer (some ⟨p, 0, none⟩)] w fun e w' => RPost w0 a p r s (prgF s k n m d) (fun W' v x => PgV W' (fun b => w.heap.size ≤ b) v x) w e w' := by
  obtain ⟨res, hres⟩ : ∃ res, res = prgF s k n m d := ⟨_, rfl⟩
  have He : Hid (res = (kwL s [118, 97, 114] (varF s) n [] d).bind fun vs d => (kwL s [97, 114, 114, 97, 121] (arrF s) n [] d).bind fun ars d => (kwL s [112, 114, 111, 99] (prcF s k n m) n [] d).bind fun ps d =>
    (wantW s [109, 97, 105, 110] d).bind fun _ d => (blockF s (stsF s k n m) 1 d).bind fun b d => (wantR s 1 d).bind fun _ d => .ok ⟨vs, ars, ps, b⟩ d) := hres
  rw [← hres] at hne0 ⊢
  have hne := hide hne0
  clear hres hne0
  have hpw := h.lt
  obtain ⟨iS, hiS, hzS0, hzS1, hzS2⟩ := info_parts Tryz.infoStr
  obtain ⟨iA, hiA, hzA0, hzA1, hzA2⟩ := info_parts Tryz.infoArr
  obtain ⟨iP, hiP, hzP0, hzP1, hzP2⟩ := info_parts Tryz.infoProc
  have S0 : QS w0 w ((w.alloc (Obj.cells #[.slice none 0 0, .slice none 0 0, .slice none 0 0, .slice none 0 0] 42)).alloc (Obj.cells #[.slice none 0 0, .slice none 0 0, .slice none 0 0, .slice none 0 0] 42)) a p r s d w.heap.size (w.heap.size + 1) [.slice none 0 0, .slice none 0 0, .slice none 0 0, .slice none 0 0] := by
    have e1 : (w.alloc (Obj.cells #[.slice none 0 0, .slice none 0 0, .slice none 0 0, .slice none 0 0] 42)).heap.size = w.heap.size + 1 := by simp
    have Z0 := BoxN.new w 42 [.slice none 0 0, .slice none 0 0, .slice none 0 0, .slice none 0 0]
    have Q0 := BoxN.new (w.alloc (Obj.cells #[.slice none 0 0, .slice none 0 0, .slice none 0 0, .slice none 0 0] 42)) 42 [.slice none 0 0, .slice none 0 0, .slice none 0 0, .slice none 0 0]
    rw [e1] at Q0
    have hb1 := (Below.refl (w.alloc (Obj.cells #[.slice none 0 0, .slice none 0 0, .slice none 0 0, .slice none 0 0] 42)).heap.size (w.alloc (Obj.cells #[.slice none 0 0, .slice none 0 0, .slice none 0 0, .slice none 0 0] 42))).alloc (Nat.le_refl _) (Obj.cells #[.slice none 0 0, .slice none 0 0, .slice none 0 0, .slice none 0 0] 42)
    exact ⟨(h.alloc _).alloc _, ((Gr.refl _ _).alloc _).alloc _, ⟨hpw, Nat.le_refl _, by omega⟩, Z0.bel hb1, Q0⟩
  go_enter Tryz.func67, Tryz.ntmps67
  go_upto_block 2 with fail
  obtain ⟨W0, hW0⟩ : ∃ W, W = (w.alloc (Obj.cells #[.slice none 0 0, .slice none 0 0, .slice none 0 0, .slice none 0 0] 42)).alloc (Obj.cells #[.slice none 0 0, .slice none 0 0, .slice none 0 0, .slice none 0 0] 42) := ⟨_, rfl⟩
  obtain ⟨qb, hqb⟩ : ∃ q, q = w.heap.size + 1 := ⟨_, rfl⟩
  obtain ⟨rb, hrb⟩ : ∃ q, q = w.heap.size := ⟨_, rfl⟩
  rw [← hW0, ← hqb, ← hrb] at S0
  change Code.wp _ _ _ _ ((w.alloc (Obj.cells #[.slice none 0 0, .slice none 0 0, .slice none 0 0, .slice none 0 0] 42)).alloc (Obj.cells #[.slice none 0 0, .slice none 0 0, .slice none 0 0, .slice none 0 0] 42))
  rw [← hW0]
  try rw [← hqb]
  try rw [← hrb]
  clear hW0 hqb hrb
  have szq := S0.B.lt
  obtain ⟨M0, hM0⟩ : ∃ M, Hid (M = qb + 1) := ⟨_, rfl⟩
  have gM0 : qb + 1 ≤ M0 := by rw [hM0.out]; exact Nat.le_refl _
  have lM0 : M0 ≤ W0.heap.size := by rw [hM0.out]; exact szq
  skip
  go_wp2_with fail
  go_loopg [] n (fun gh wx => ∃ (l : List Bs) (v : Value) (xss : List (List Value)) (d0 : Wd), l.length + gh = n ∧ M0 ≤ wx.heap.size ∧ QS w0 w wx a p r s d0 rb qb [v, .slice none 0 0, .slice none 0 0, .slice none 0 0] ∧ GRow strVals 9 1 wx M0 v l xss ∧ Hid (res = (kwL s [118, 97, 114] (varF s) gh l d0).bind fun vs d => (kwL s [97, 114, 114, 97, 121] (arrF s) n [] d).bind fun ars d => (kwL s [112, 114, 111, 99] (prcF s k n m) n [] d).bind fun ps d => (wantW s [109, 97, 105, 110] d).bind fun _ d => (blockF s (stsF s k n m) 1 d).bind fun b d => (wantR s 1 d).bind fun _ d => .ok ⟨vs, ars, ps, b⟩ d))
  case atStart => exact ⟨[], _, _, d, by simp, lM0, S0, GRow.nil _ _ _ _ _, He⟩
  case round =>
    clear S0 He lM0  h szq
    obtain ⟨l, v, xss, d0, hlg, hMw, S, g, He⟩ := hrel
    have szq := S.B.lt
    obtain ⟨y1, y2, y3⟩ := S.lay
    cases gk with
    | zero => exact absurd He.out hne.out
    | succ gg =>
      have HT := hide (take_any w0 a p r s [118, 97, 114] d0 wr S.hR)
      by_cases ht : d0.text = [118, 97, 114]
      · have He2 : Hid (res = (((varF s) (nextW s d0)).bind fun x d => kwL s [118, 97, 114] (varF s) gg (l ++ [x]) d).bind fun vs d => (kwL s [97, 114, 114, 97, 121] (arrF s) n [] d).bind fun ars d => (kwL s [112, 114, 111, 99] (prcF s k n m) n [] d).bind fun ps d => (wantW s [109, 97, 105, 110] d).bind fun _ d => (blockF s (stsF s k n m) 1 d).bind fun b d => (wantR s 1 d).bind fun _ d => .ok ⟨vs, ars, ps, b⟩ d) := by
          show _ = _
          rw [He.out]
          show (if d0.text = [118, 97, 114] then _ else _ : Res _).bind _ = _
          rw [if_pos ht]
        simp only [if_pos ht] at HT
        clear ht He
        go_wp2_with fail
        refine HT.out.mono ?_
        rintro e w2 ⟨⟨rfl, hR2⟩, hG2⟩
        clear HT
        have S2 := S.call hG2 hR2
        have g2 := g.keep strVals_keeps hG2 (fun q e => by cases e; omega)
        have hle2 : M0 ≤ w2.heap.size := Nat.le_trans hMw hG2.size
        obtain ⟨vx, vc, rfl⟩ := g2.form
        have b1 := S2.B.cell 0 _ rfl
        go_upto_region 3 with fail
        cases e1 : wantR s 2 (nextW s d0) with
        | out => exact absurd e1 (wantR_ne _ _ _)
        | err c pos =>
          have He3 : Hid (res = .err c pos) := by
            show _ = _
            rw [He2.out]
            unfold varF
            rw [e1]; rfl
          have HE : Hid (∀ W : World, Rd w0 W a p r s (nextW s d0) → Calls Tryz.prog 106 #[.pointer (some ⟨p, 0, none⟩)] W fun e W' => RPost w0 a p r s (.err c pos) (fun _ v t => v = .string (bs t)) W e W') := fun W hW => by
            have := name_any w0 a p r s (nextW s d0) W hW
            rw [e1] at this; exact this
          clear e1 He2
          refine wp_region_held (S := fun w' => w'.cell? ⟨qb, 0, none⟩ = some (.slice vx l.length vc)) (by kernel_rfl) ?_
          have hS9 : w2.drew.cell? ⟨qb, 0, none⟩ = some (.slice vx l.length vc) := b1
          (refine wpAnyH_take (i := 0) (v := ?_) rfl (by kernel_rfl) (by kernel_rfl) (by kernel_rfl) (fun _ _ _ h => h) (Or.inl ⟨by rfl, ?_⟩) hS9 ?_; rotate_left 1; (intro w' hSw; (try dsimp only at hSw); go_simp); (try rfl); (try dsimp only [Act.put]))
          (refine wpAnyH_take (i := 1) (v := ?_) rfl (by kernel_rfl) (by kernel_rfl) (by kernel_rfl) (fun _ _ _ h => h) (Or.inl ⟨by rfl, ?_⟩) hS9 ?_; rotate_left 1; (intro w' hSw; (try dsimp only at hSw); go_simp); (try rfl); (try dsimp only [Act.put]))
          (refine wpAnyH_take (i := 2) (v := ?_) rfl (by kernel_rfl) (by kernel_rfl) (by kernel_rfl) (fun _ _ _ h => h) (Or.inl ⟨by rfl, ?_⟩) hS9 ?_; rotate_left 1; (intro w' hSw; (try dsimp only at hSw); go_simp); (try rfl); (try dsimp only [Act.put]))
          refine wpAnyH_all (rs := [3]) (by kernel_rfl) (by simp) ?_
          intro i hi
          obtain rfl : i = 3 := by simpa using hi
          unfold wpOp
          go_simp
          refine Or.inl ((HE.out _ (S2.hR.below (Below.refl _ _).drew)).mono ?_)
          rintro e w3 ⟨hG3, N, rfl, hFa, hlt3⟩
          refine ⟨rfl, ?_⟩
          rw [He3.out]
          exact ⟨S2.hG.trans ((Gr.of (Below.refl _ _).drew).trans hG3), N, rfl, hFa, hlt3⟩
        | ok t d2 =>
          have HE : Hid (∀ W : World, Rd w0 W a p r s (nextW s d0) → Calls Tryz.prog 106 #[.pointer (some ⟨p, 0, none⟩)] W fun e W' => RPost w0 a p r s (.ok t d2) (fun _ v t => v = .string (bs t)) W e W') := fun W hW => by
            have := name_any w0 a p r s (nextW s d0) W hW
            rw [e1] at this; exact this
          have He3 : Hid (res = ((wantW s [59] d2).bind fun _ d => kwL s [118, 97, 114] (varF s) gg (l ++ [t]) d).bind fun vs d => (kwL s [97, 114, 114, 97, 121] (arrF s) n [] d).bind fun ars d => (kwL s [112, 114, 111, 99] (prcF s k n m) n [] d).bind fun ps d => (wantW s [109, 97, 105, 110] d).bind fun _ d => (blockF s (stsF s k n m) 1 d).bind fun b d => (wantR s 1 d).bind fun _ d => .ok ⟨vs, ars, ps, b⟩ d) := by
            show _ = _
            rw [He2.out]
            unfold varF
            rw [e1]
            show ((((wantW s [59] d2).bind fun _ d => .ok t d).bind _ : Res _).bind _) = _
            cases wantW s [59] d2 <;> rfl
          clear e1 He2
          refine wp_region_any (by kernel_rfl) (wpTill_any (S := fun w' => w'.cell? ⟨qb, 0, none⟩ = some (.slice vx l.length vc)) (E := 7) _ _ _ _ ?_)
          have hS9 : w2.drew.cell? ⟨qb, 0, none⟩ = some (.slice vx l.length vc) := b1
          (refine wpTill_take (i := 0) (v := ?_) rfl rfl (by decide) (by kernel_rfl) (by kernel_rfl) (by kernel_rfl) (by kernel_rfl) (by kernel_rfl) (fun _ _ _ h => h) (Or.inl ⟨by rfl, ?_⟩) hS9 ?_; rotate_left 1; (intro w' hSw; (try dsimp only at hSw); go_simp); (try rfl); (try dsimp only [Act.put]))
          (refine wpTill_take (i := 1) (v := ?_) rfl rfl (by decide) (by kernel_rfl) (by kernel_rfl) (by kernel_rfl) (by kernel_rfl) (by kernel_rfl) (fun _ _ _ h => h) (Or.inl ⟨by rfl, ?_⟩) hS9 ?_; rotate_left 1; (intro w' hSw; (try dsimp only at hSw); go_simp); (try rfl); (try dsimp only [Act.put]))
          (refine wpTill_take (i := 2) (v := ?_) rfl rfl (by decide) (by kernel_rfl) (by kernel_rfl) (by kernel_rfl) (by kernel_rfl) (by kernel_rfl) (fun _ _ _ h => h) (Or.inl ⟨by rfl, ?_⟩) hS9 ?_; rotate_left 1; (intro w' hSw; (try dsimp only at hSw); go_simp); (try rfl); (try dsimp only [Act.put]))
          refine wpTill_all (rs := [3]) (by kernel_rfl) (by simp) ?_
          intro i hi
          obtain rfl : i = 3 := by simpa using hi
          unfold wpOp
          go_simp
          refine Or.inl ((HE.out _ (S2.hR.below (Below.refl _ _).drew)).mono ?_)
          rintro e w3 ⟨hG3, v3, rfl, hR3, rfl⟩
          have hG3' := (Gr.of (p := p) (Below.refl w2.heap.size w2).drew).trans hG3
          have g3 := g2.keep strVals_keeps hG3' (fun q e => by cases e; omega)
          have S3 := S2.call hG3' hR3
          have b1' := S3.B.cell 0 _ rfl
          refine ⟨b1', ?_⟩
          refine wpTill_all (rs := [4]) (by kernel_rfl) (by simp) ?_
          intro i hi
          obtain rfl : i = 4 := by simpa using hi
          unfold wpOp
          go_simp
          have hbB := (Below.refl w3.heap.size w3).alloc (Nat.le_refl _) (.cells #[.string (bs t)] 9)
          refine Or.inl ⟨(hbB.cell S3.B.lt).trans b1', ?_⟩
          refine wpTill_all (rs := [5]) (by kernel_rfl) (by simp) ?_
          intro i hi
          obtain rfl : i = 5 := by simpa using hi
          have g4 := g3.bel strVals_keeps hbB
          have S4 := S3.bel hbB
          have sz3 := hG3'.size
          refine wpOp_step rfl (fun K' hK => ?_)
          refine step_append_lies _ (by rfl) _ _ 22 (by rfl) M0 9 iS _ 1 16 Tryz.underlying22 hiS hzS0 hzS1 hzS2 rfl (by decide) (.slice vx l.length vc) l.length xss.flatten (by first | rfl | simp [Act.eval, Act.put]) g4.own ⟨w3.heap.size, 0, none⟩ 1 1 [.string (bs t)] (by first | rfl | simp [Act.eval, Act.put]) rfl (cells_new _ _ _) (by intro u hu; simp at hu; rw [hu]; rfl) (by omega) (by unfold maxLen; omega) (by omega) (by simp; omega) (w3.heap.size + 1) (by simp) ?_
          intro gB cap6 w6 own6 hg6 hat6 hlt6
          have lo : ∀ q, (Value.slice vx l.length vc).ownBlock = some q → M0 ≤ q := fun q e => (g4.own.lt q e).1
          have S6 := S4.grown hg6 (fun q e => by have := lo q e; omega)
          have g6 := g4.more strVals_keeps (qb := qb) (j := 0) (vs := [.string (bs t)]) (e := t) rfl rfl own6 hg6 (hat6.imp id (fun e => by rw [e]; simp)) (by omega)
          have b6 := S6.B.cell 0 _ rfl
          have f6 := S6.B.fr 0
          have sz6 : M0 ≤ w6.heap.size := by have := hg6.size; rw [World.size_alloc] at this; omega
          have hS9 : w6.cell? ⟨qb, 0, none⟩ = some (.slice vx l.length vc) := b6
          refine hK _ _ ⟨fun _ => hS9, ?_⟩
          change wpTill _ _ _ _ _ _ _ _ (Act.put _ (some 11) _) _
          dsimp only [Act.put]
          (refine wpTill_take (i := 6) (v := ?_) rfl rfl (by decide) (by kernel_rfl) (by kernel_rfl) (by kernel_rfl) (by kernel_rfl) (by kernel_rfl) (fun _ _ _ h => h) (Or.inl ⟨by rfl, ?_⟩) hS9 ?_; rotate_left 1; (intro w' hSw; (try dsimp only at hSw); go_simp); (try rfl); (try dsimp only [Act.put]))
          refine wpTill_all (rs := [7]) (by kernel_rfl) (by simp) ?_
          intro i hi
          obtain rfl : i = 7 := by simpa using hi
          unfold wpOp
          go_simp
          refine Or.inl ⟨by kernel_rfl, ?_⟩
          have S7 := S6.set 0 (.slice (some ⟨gB, 0, none⟩) (l.length + 1) cap6) (by simp)
          simp only [List.set] at S7
          obtain ⟨W7, hW7⟩ : ∃ W, W = w6.setCell ⟨qb, 0, none⟩ (.slice (some ⟨gB, 0, none⟩) (l.length + 1) cap6) := ⟨_, rfl⟩
          rw [← hW7] at S7 g6 ⊢
          have sz7 : M0 ≤ W7.heap.size := by rw [hW7]; simpa [World.setCell] using sz6
          clear hW7 own6 hg6 hat6 hlt6 hS9 b6 f6 S6 S4 g4 hbB b1' S3 g3 hK
          have H9 := hide (want1 w0 a p r s [59] d2 W7 S7.hR)
          go_wp2_with fail
          refine H9.out.mono ?_
          intro e w9 hP
          cases e9 : wantW s [59] d2 with
          | out => exact absurd e9 (wantW_ne _ _ _)
          | err c pos =>
            rw [e9] at hP He3
            obtain ⟨hGx, N, rfl, hF, hltx⟩ := hP
            go_wp2_with fail
            refine ⟨rfl, ?_⟩
            rw [He3.out]
            exact ⟨S7.hG.trans hGx, N, rfl, hF, hltx⟩
          | ok u9 d9 =>
            rw [e9] at hP He3
            obtain ⟨hG9, v9, rfl, hR9, rfl⟩ := hP
            go_wp2_with fail
            go_roundg gg
            case measure => omega
            case rel => exact ⟨l ++ [t], _, _, d9, by simp; omega, Nat.le_trans sz7 hG9.size, S7.call hG9 hR9, by simpa using g6.keep strVals_keeps hG9 (fun q e => by cases e; omega), He3.out⟩
      · have He2 : Hid (res = (Res.ok l d0).bind fun vs d => (kwL s [97, 114, 114, 97, 121] (arrF s) n [] d).bind fun ars d => (kwL s [112, 114, 111, 99] (prcF s k n m) n [] d).bind fun ps d => (wantW s [109, 97, 105, 110] d).bind fun _ d => (blockF s (stsF s k n m) 1 d).bind fun b d => (wantR s 1 d).bind fun _ d => .ok ⟨vs, ars, ps, b⟩ d) := by
          show _ = _
          rw [He.out]
          show (if d0.text = [118, 97, 114] then _ else _ : Res _).bind _ = _
          rw [if_neg ht]
        simp only [if_neg ht] at HT
        clear ht He hlg
        go_wp2_with fail
        refine HT.out.mono ?_
        rintro e w2 ⟨⟨rfl, hw2⟩, hx2⟩
        rw [hw2]
        clear hx2 hw2 w2 HT
        obtain ⟨x0, c0, rfl, hrow⟩ := g.row strVals_keeps (by omega)
        obtain ⟨l0, hl0⟩ : ∃ q, Hid (q = l) := ⟨_, rfl⟩
        rw [← hl0.out] at hrow S He2
        have o0 := Old.of strVals_keeps (qb := qb) hrow gM0
        have He : Hid (res = (kwL s [97, 114, 114, 97, 121] (arrF s) n [] d0).bind fun ars d => (kwL s [112, 114, 111, 99] (prcF s k n m) n [] d).bind fun ps d => (wantW s [109, 97, 105, 110] d).bind fun _ d => (blockF s (stsF s k n m) 1 d).bind fun b d => (wantR s 1 d).bind fun _ d => .ok ⟨l0, ars, ps, b⟩ d) := He2.out
        clear He2 hrow g
        obtain ⟨wq0, hwq0⟩ : ∃ W, W = wr := ⟨_, rfl⟩
        obtain ⟨dq0, hdq0⟩ : ∃ W, W = d0 := ⟨_, rfl⟩
        rw [← hwq0] at S szq hMw o0 ⊢
        rw [← hdq0] at S He
        clear hwq0 hdq0
        have SE0 := S
        clear S
        obtain ⟨M1, hM1⟩ : ∃ M, Hid (M = wq0.heap.size) := ⟨_, rfl⟩
        have gM1 : qb + 1 ≤ M1 := by rw [hM1.out]; exact szq
        have lM1 : M1 ≤ wq0.heap.size := by rw [hM1.out]; exact Nat.le_refl _
        rw [← hM1.out] at o0
        go_wp2_with fail
        go_loopg [] n (fun gh wx => ∃ (l : List Ar) (v : Value) (xss : List (List Value)) (d0 : Wd), l.length + gh = n ∧ M1 ≤ wx.heap.size ∧ QS w0 w wx a p r s d0 rb qb [.slice x0 l0.length c0, v, .slice none 0 0, .slice none 0 0] ∧ GRow arVals 119 2 wx M1 v l xss ∧ Old strVals 1 wx qb M1 x0 l0 ∧ Hid (res = (kwL s [97, 114, 114, 97, 121] (arrF s) gh l d0).bind fun ars d => (kwL s [112, 114, 111, 99] (prcF s k n m) n [] d).bind fun ps d => (wantW s [109, 97, 105, 110] d).bind fun _ d => (blockF s (stsF s k n m) 1 d).bind fun b d => (wantR s 1 d).bind fun _ d => .ok ⟨l0, ars, ps, b⟩ d))
        case atStart => exact ⟨[], _, _, dq0, by simp, lM1, SE0, GRow.nil _ _ _ _ _, o0, He⟩
        case round =>
          clear SE0 He lM1 o0 szq
          obtain ⟨l, v, xss, d0, hlg, hMw, S, g, o0, He⟩ := hrel
          have szq := S.B.lt
          obtain ⟨y1, y2, y3⟩ := S.lay
          cases gk with
          | zero => exact absurd He.out hne.out
          | succ gg =>
            have HT := hide (take_any w0 a p r s [97, 114, 114, 97, 121] d0 wr S.hR)
            by_cases ht : d0.text = [97, 114, 114, 97, 121]
            · have He2 : Hid (res = (((arrF s) (nextW s d0)).bind fun x d => kwL s [97, 114, 114, 97, 121] (arrF s) gg (l ++ [x]) d).bind fun ars d => (kwL s [112, 114, 111, 99] (prcF s k n m) n [] d).bind fun ps d => (wantW s [109, 97, 105, 110] d).bind fun _ d => (blockF s (stsF s k n m) 1 d).bind fun b d => (wantR s 1 d).bind fun _ d => .ok ⟨l0, ars, ps, b⟩ d) := by
                show _ = _
                rw [He.out]
                show (if d0.text = [97, 114, 114, 97, 121] then _ else _ : Res _).bind _ = _
                rw [if_pos ht]
              simp only [if_pos ht] at HT
              clear ht He
              go_wp2_with fail
              refine HT.out.mono ?_
              rintro e w2 ⟨⟨rfl, hR2⟩, hG2⟩
              clear HT
              have S2 := S.call hG2 hR2
              have g2 := g.keep arVals_keeps hG2 (fun q e => by cases e; omega)
              have o0 := Old.call strVals_keeps o0 hG2 (by omega)
              have hle2 : M1 ≤ w2.heap.size := Nat.le_trans hMw hG2.size
              obtain ⟨vx, vc, rfl⟩ := g2.form
              have b1 := S2.B.cell 1 _ rfl
              go_upto_region 6 with fail
              cases e1 : arrF s (nextW s d0) with
              | out => exact absurd (by rw [He2.out, e1]; rfl) hne.out
              | err c pos =>
                have He3 : Hid (res = .err c pos) := by
                  show _ = _
                  rw [He2.out]
                  skip
                  rw [e1]; rfl
                have HE : Hid (∀ W : World, Rd w0 W a p r s (nextW s d0) → Calls Tryz.prog 108 #[.pointer (some ⟨p, 0, none⟩)] W fun e W' => RPost w0 a p r s (.err c pos) (fun _ v x => ArV v x) W e W') := fun W hW => by
                  have := array_any w0 a p r s (nextW s d0) W hW
                  rw [e1] at this; exact this
                clear e1 He2
                refine wp_region_held (S := fun w' => w'.cell? ⟨qb, 1, none⟩ = some (.slice vx l.length vc)) (by kernel_rfl) ?_
                have hS9 : w2.drew.cell? ⟨qb, 1, none⟩ = some (.slice vx l.length vc) := b1
                (refine wpAnyH_take (i := 0) (v := ?_) rfl (by kernel_rfl) (by kernel_rfl) (by kernel_rfl) (fun _ _ _ h => h) (Or.inl ⟨by rfl, ?_⟩) hS9 ?_; rotate_left 1; (intro w' hSw; (try dsimp only at hSw); go_simp); (try rfl); (try dsimp only [Act.put]))
                (refine wpAnyH_take (i := 1) (v := ?_) rfl (by kernel_rfl) (by kernel_rfl) (by kernel_rfl) (fun _ _ _ h => h) (Or.inl ⟨by rfl, ?_⟩) hS9 ?_; rotate_left 1; (intro w' hSw; (try dsimp only at hSw); go_simp); (try rfl); (try dsimp only [Act.put]))
                (refine wpAnyH_take (i := 2) (v := ?_) rfl (by kernel_rfl) (by kernel_rfl) (by kernel_rfl) (fun _ _ _ h => h) (Or.inl ⟨by rfl, ?_⟩) hS9 ?_; rotate_left 1; (intro w' hSw; (try dsimp only at hSw); go_simp); (try rfl); (try dsimp only [Act.put]))
                refine wpAnyH_all (rs := [3]) (by kernel_rfl) (by simp) ?_
                intro i hi
                obtain rfl : i = 3 := by simpa using hi
                unfold wpOp
                go_simp
                refine Or.inl ((HE.out _ (S2.hR.below (Below.refl _ _).drew)).mono ?_)
                rintro e w3 ⟨hG3, N, rfl, hFa, hlt3⟩
                refine ⟨rfl, ?_⟩
                rw [He3.out]
                exact ⟨S2.hG.trans ((Gr.of (Below.refl _ _).drew).trans hG3), N, rfl, hFa, hlt3⟩
              | ok t d2 =>
                have HE : Hid (∀ W : World, Rd w0 W a p r s (nextW s d0) → Calls Tryz.prog 108 #[.pointer (some ⟨p, 0, none⟩)] W fun e W' => RPost w0 a p r s (.ok t d2) (fun _ v x => ArV v x) W e W') := fun W hW => by
                  have := array_any w0 a p r s (nextW s d0) W hW
                  rw [e1] at this; exact this
                have He3 : Hid (res = (kwL s [97, 114, 114, 97, 121] (arrF s) gg (l ++ [t]) d2).bind fun ars d => (kwL s [112, 114, 111, 99] (prcF s k n m) n [] d).bind fun ps d => (wantW s [109, 97, 105, 110] d).bind fun _ d => (blockF s (stsF s k n m) 1 d).bind fun b d => (wantR s 1 d).bind fun _ d => .ok ⟨l0, ars, ps, b⟩ d) := by
                  show _ = _
                  rw [He2.out, e1]; rfl
                clear e1 He2
                refine wp_region_any (by kernel_rfl) (wpTill_any (S := fun w' => w'.cell? ⟨qb, 1, none⟩ = some (.slice vx l.length vc)) (E := 7) _ _ _ _ ?_)
                have hS9 : w2.drew.cell? ⟨qb, 1, none⟩ = some (.slice vx l.length vc) := b1
                (refine wpTill_take (i := 0) (v := ?_) rfl rfl (by decide) (by kernel_rfl) (by kernel_rfl) (by kernel_rfl) (by kernel_rfl) (by kernel_rfl) (fun _ _ _ h => h) (Or.inl ⟨by rfl, ?_⟩) hS9 ?_; rotate_left 1; (intro w' hSw; (try dsimp only at hSw); go_simp); (try rfl); (try dsimp only [Act.put]))
                (refine wpTill_take (i := 1) (v := ?_) rfl rfl (by decide) (by kernel_rfl) (by kernel_rfl) (by kernel_rfl) (by kernel_rfl) (by kernel_rfl) (fun _ _ _ h => h) (Or.inl ⟨by rfl, ?_⟩) hS9 ?_; rotate_left 1; (intro w' hSw; (try dsimp only at hSw); go_simp); (try rfl); (try dsimp only [Act.put]))
                (refine wpTill_take (i := 2) (v := ?_) rfl rfl (by decide) (by kernel_rfl) (by kernel_rfl) (by kernel_rfl) (by kernel_rfl) (by kernel_rfl) (fun _ _ _ h => h) (Or.inl ⟨by rfl, ?_⟩) hS9 ?_; rotate_left 1; (intro w' hSw; (try dsimp only at hSw); go_simp); (try rfl); (try dsimp only [Act.put]))
                refine wpTill_all (rs := [3]) (by kernel_rfl) (by simp) ?_
                intro i hi
                obtain rfl : i = 3 := by simpa using hi
                unfold wpOp
                go_simp
                refine Or.inl ((HE.out _ (S2.hR.below (Below.refl _ _).drew)).mono ?_)
                rintro e w3 ⟨hG3, v3, rfl, hR3, rfl⟩
                have hG3' := (Gr.of (p := p) (Below.refl w2.heap.size w2).drew).trans hG3
                have g3 := g2.keep arVals_keeps hG3' (fun q e => by cases e; omega)
                have S3 := S2.call hG3' hR3
                have o0 := Old.call strVals_keeps o0 hG3' (by omega)
                have b1' := S3.B.cell 1 _ rfl
                refine ⟨b1', ?_⟩
                refine wpTill_all (rs := [4]) (by kernel_rfl) (by simp) ?_
                intro i hi
                obtain rfl : i = 4 := by simpa using hi
                unfold wpOp
                go_simp
                have hbB := (Below.refl w3.heap.size w3).alloc (Nat.le_refl _) (.cells #[.string (bs t.name), .int .i64 t.size] 119)
                refine Or.inl ⟨(hbB.cell S3.B.lt).trans b1', ?_⟩
                refine wpTill_all (rs := [5]) (by kernel_rfl) (by simp) ?_
                intro i hi
                obtain rfl : i = 5 := by simpa using hi
                have g4 := g3.bel arVals_keeps hbB
                have S4 := S3.bel hbB
                have o0 := Old.bel strVals_keeps o0 hbB
                have sz3 := hG3'.size
                refine wpOp_step rfl (fun K' hK => ?_)
                refine step_append_lies _ (by rfl) _ _ 30 (by rfl) M1 119 iA _ 2 24 Tryz.underlying30 hiA hzA0 hzA1 hzA2 rfl (by decide) (.slice vx l.length vc) l.length xss.flatten (by first | rfl | simp [Act.eval, Act.put]) g4.own ⟨w3.heap.size, 0, none⟩ 1 1 [.string (bs t.name), .int .i64 t.size] (by first | rfl | simp [Act.eval, Act.put]) rfl (cells_new _ _ _) (by intro u hu; simp at hu; rcases hu with rfl | rfl <;> rfl) (by omega) (by unfold maxLen; omega) (by omega) (by simp; omega) (w3.heap.size + 1) (by simp) ?_
                intro gB cap6 w6 own6 hg6 hat6 hlt6
                have lo : ∀ q, (Value.slice vx l.length vc).ownBlock = some q → M1 ≤ q := fun q e => (g4.own.lt q e).1
                have S6 := S4.grown hg6 (fun q e => by have := lo q e; omega)
                have g6 := g4.more arVals_keeps (qb := qb) (j := 1) (vs := [.string (bs t.name), .int .i64 t.size]) (e := t) rfl rfl own6 hg6 (hat6.imp id (fun e => by rw [e]; simp)) (by omega)
                have o0 := Old.set strVals_keeps (Old.grown strVals_keeps o0 hg6 lo) 1 (.slice (some ⟨gB, 0, none⟩) (l.length + 1) cap6)
                have b6 := S6.B.cell 1 _ rfl
                have f6 := S6.B.fr 1
                have sz6 : M1 ≤ w6.heap.size := by have := hg6.size; rw [World.size_alloc] at this; omega
                have hS9 : w6.cell? ⟨qb, 1, none⟩ = some (.slice vx l.length vc) := b6
                refine hK _ _ ⟨fun _ => hS9, ?_⟩
                change wpTill _ _ _ _ _ _ _ _ (Act.put _ (some 23) _) _
                dsimp only [Act.put]
                (refine wpTill_take (i := 6) (v := ?_) rfl rfl (by decide) (by kernel_rfl) (by kernel_rfl) (by kernel_rfl) (by kernel_rfl) (by kernel_rfl) (fun _ _ _ h => h) (Or.inl ⟨by rfl, ?_⟩) hS9 ?_; rotate_left 1; (intro w' hSw; (try dsimp only at hSw); go_simp); (try rfl); (try dsimp only [Act.put]))
                refine wpTill_all (rs := [7]) (by kernel_rfl) (by simp) ?_
                intro i hi
                obtain rfl : i = 7 := by simpa using hi
                unfold wpOp
                go_simp
                refine Or.inl ⟨by kernel_rfl, ?_⟩
                have S7 := S6.set 1 (.slice (some ⟨gB, 0, none⟩) (l.length + 1) cap6) (by simp)
                simp only [List.set] at S7
                obtain ⟨W7, hW7⟩ : ∃ W, W = w6.setCell ⟨qb, 1, none⟩ (.slice (some ⟨gB, 0, none⟩) (l.length + 1) cap6) := ⟨_, rfl⟩
                rw [← hW7] at S7 g6 o0 ⊢
                have sz7 : M1 ≤ W7.heap.size := by rw [hW7]; simpa [World.setCell] using sz6
                clear hW7 own6 hg6 hat6 hlt6 hS9 b6 f6 S6 S4 g4 hbB b1' S3 g3 hK
                go_wp2_with fail
                go_roundg gg
                case measure => omega
                case rel => exact ⟨l ++ [t], _, _, d2, by simp; omega, sz7, S7, by simpa using g6, o0, He3.out⟩
            · have He2 : Hid (res = (Res.ok l d0).bind fun ars d => (kwL s [112, 114, 111, 99] (prcF s k n m) n [] d).bind fun ps d => (wantW s [109, 97, 105, 110] d).bind fun _ d => (blockF s (stsF s k n m) 1 d).bind fun b d => (wantR s 1 d).bind fun _ d => .ok ⟨l0, ars, ps, b⟩ d) := by
                show _ = _
                rw [He.out]
                show (if d0.text = [97, 114, 114, 97, 121] then _ else _ : Res _).bind _ = _
                rw [if_neg ht]
              simp only [if_neg ht] at HT
              clear ht He hlg
              go_wp2_with fail
              refine HT.out.mono ?_
              rintro e w2 ⟨⟨rfl, hw2⟩, hx2⟩
              rw [hw2]
              clear hx2 hw2 w2 HT
              obtain ⟨x1, c1, rfl, hrow⟩ := g.row arVals_keeps (by omega)
              obtain ⟨l1, hl1⟩ : ∃ q, Hid (q = l) := ⟨_, rfl⟩
              rw [← hl1.out] at hrow S He2
              have o1 := Old.of arVals_keeps (qb := qb) hrow gM1
              have o0 := Old.up strVals_keeps o0 hMw
              have He : Hid (res = (kwL s [112, 114, 111, 99] (prcF s k n m) n [] d0).bind fun ps d => (wantW s [109, 97, 105, 110] d).bind fun _ d => (blockF s (stsF s k n m) 1 d).bind fun b d => (wantR s 1 d).bind fun _ d => .ok ⟨l0, l1, ps, b⟩ d) := He2.out
              clear He2 hrow g
              obtain ⟨wq1, hwq1⟩ : ∃ W, W = wr := ⟨_, rfl⟩
              obtain ⟨dq1, hdq1⟩ : ∃ W, W = d0 := ⟨_, rfl⟩
              rw [← hwq1] at S szq hMw o0 o1 ⊢
              rw [← hdq1] at S He
              clear hwq1 hdq1
              have SE1 := S
              clear S
              obtain ⟨M2, hM2⟩ : ∃ M, Hid (M = wq1.heap.size) := ⟨_, rfl⟩
              have gM2 : qb + 1 ≤ M2 := by rw [hM2.out]; exact szq
              have lM2 : M2 ≤ wq1.heap.size := by rw [hM2.out]; exact Nat.le_refl _
              rw [← hM2.out] at o0 o1
              go_wp2_with fail
              go_loopg [] n (fun gh wx => ∃ (l : List Pc) (v : Value) (xss : List (List Value)) (d0 : Wd), l.length + gh = n ∧ M2 ≤ wx.heap.size ∧ QS w0 w wx a p r s d0 rb qb [.slice x0 l0.length c0, .slice x1 l1.length c1, v, .slice none 0 0] ∧ GRow pcVals 124 7 wx M2 v l xss ∧ Old strVals 1 wx qb M2 x0 l0 ∧ Old arVals 2 wx qb M2 x1 l1 ∧ Hid (res = (kwL s [112, 114, 111, 99] (prcF s k n m) gh l d0).bind fun ps d => (wantW s [109, 97, 105, 110] d).bind fun _ d => (blockF s (stsF s k n m) 1 d).bind fun b d => (wantR s 1 d).bind fun _ d => .ok ⟨l0, l1, ps, b⟩ d))
              case atStart => exact ⟨[], _, _, dq1, by simp, lM2, SE1, GRow.nil _ _ _ _ _, o0, o1, He⟩
              case round =>
                clear SE1 He lM2 o0 o1 szq
                obtain ⟨l, v, xss, d0, hlg, hMw, S, g, o0, o1, He⟩ := hrel
                have szq := S.B.lt
                obtain ⟨y1, y2, y3⟩ := S.lay
                cases gk with
                | zero => exact absurd He.out hne.out
                | succ gg =>
                  have HT := hide (take_any w0 a p r s [112, 114, 111, 99] d0 wr S.hR)
                  by_cases ht : d0.text = [112, 114, 111, 99]
                  · have He2 : Hid (res = (((prcF s k n m) (nextW s d0)).bind fun x d => kwL s [112, 114, 111, 99] (prcF s k n m) gg (l ++ [x]) d).bind fun ps d => (wantW s [109, 97, 105, 110] d).bind fun _ d => (blockF s (stsF s k n m) 1 d).bind fun b d => (wantR s 1 d).bind fun _ d => .ok ⟨l0, l1, ps, b⟩ d) := by
                      show _ = _
                      rw [He.out]
                      show (if d0.text = [112, 114, 111, 99] then _ else _ : Res _).bind _ = _
                      rw [if_pos ht]
                    simp only [if_pos ht] at HT
                    clear ht He
                    go_wp2_with fail
                    refine HT.out.mono ?_
                    rintro e w2 ⟨⟨rfl, hR2⟩, hG2⟩
                    clear HT
                    have S2 := S.call hG2 hR2
                    have g2 := g.keep pcVals_keeps hG2 (fun q e => by cases e; omega)
                    have o0 := Old.call strVals_keeps o0 hG2 (by omega)
                    have o1 := Old.call arVals_keeps o1 hG2 (by omega)
                    have hle2 : M2 ≤ w2.heap.size := Nat.le_trans hMw hG2.size
                    obtain ⟨vx, vc, rfl⟩ := g2.form
                    have b1 := S2.B.cell 2 _ rfl
                    go_upto_region 8 with fail
                    have HF : Hid (prcF s k n m (nextW s d0) ≠ .out) := fun q => hne.out (by rw [He2.out, q]; rfl)
                    cases e1 : prcF s k n m (nextW s d0) with
                    | out => exact absurd (by rw [He2.out, e1]; rfl) hne.out
                    | err c pos =>
                      have He3 : Hid (res = .err c pos) := by
                        show _ = _
                        rw [He2.out]
                        skip
                        rw [e1]; rfl
                      have HE : Hid (∀ W : World, Rd w0 W a p r s (nextW s d0) → Calls Tryz.prog 109 #[.pointer (some ⟨p, 0, none⟩)] W fun e W' => RPost w0 a p r s (.err c pos) (fun W' v x => PcV W' (fun b => W.heap.size ≤ b) v x) W e W') := fun W hW => by
                        have := procedure_any w0 a p r k n m s hk hn (nextW s d0) W hW HF.out
                        rw [e1] at this; exact this
                      clear e1 He2
                      refine wp_region_held (S := fun w' => w'.cell? ⟨qb, 2, none⟩ = some (.slice vx l.length vc)) (by kernel_rfl) ?_
                      have hS9 : w2.drew.cell? ⟨qb, 2, none⟩ = some (.slice vx l.length vc) := b1
                      (refine wpAnyH_take (i := 0) (v := ?_) rfl (by kernel_rfl) (by kernel_rfl) (by kernel_rfl) (fun _ _ _ h => h) (Or.inl ⟨by rfl, ?_⟩) hS9 ?_; rotate_left 1; (intro w' hSw; (try dsimp only at hSw); go_simp); (try rfl); (try dsimp only [Act.put]))
                      (refine wpAnyH_take (i := 1) (v := ?_) rfl (by kernel_rfl) (by kernel_rfl) (by kernel_rfl) (fun _ _ _ h => h) (Or.inl ⟨by rfl, ?_⟩) hS9 ?_; rotate_left 1; (intro w' hSw; (try dsimp only at hSw); go_simp); (try rfl); (try dsimp only [Act.put]))
                      (refine wpAnyH_take (i := 2) (v := ?_) rfl (by kernel_rfl) (by kernel_rfl) (by kernel_rfl) (fun _ _ _ h => h) (Or.inl ⟨by rfl, ?_⟩) hS9 ?_; rotate_left 1; (intro w' hSw; (try dsimp only at hSw); go_simp); (try rfl); (try dsimp only [Act.put]))
                      refine wpAnyH_all (rs := [3]) (by kernel_rfl) (by simp) ?_
                      intro i hi
                      obtain rfl : i = 3 := by simpa using hi
                      unfold wpOp
                      go_simp
                      refine Or.inl ((HE.out _ (S2.hR.below (Below.refl _ _).drew)).mono ?_)
                      rintro e w3 ⟨hG3, N, rfl, hFa, hlt3⟩
                      refine ⟨rfl, ?_⟩
                      rw [He3.out]
                      exact ⟨S2.hG.trans ((Gr.of (Below.refl _ _).drew).trans hG3), N, rfl, hFa, hlt3⟩
                    | ok t d2 =>
                      have HE : Hid (∀ W : World, Rd w0 W a p r s (nextW s d0) → Calls Tryz.prog 109 #[.pointer (some ⟨p, 0, none⟩)] W fun e W' => RPost w0 a p r s (.ok t d2) (fun W' v x => PcV W' (fun b => W.heap.size ≤ b) v x) W e W') := fun W hW => by
                        have := procedure_any w0 a p r k n m s hk hn (nextW s d0) W hW HF.out
                        rw [e1] at this; exact this
                      have He3 : Hid (res = (kwL s [112, 114, 111, 99] (prcF s k n m) gg (l ++ [t]) d2).bind fun ps d => (wantW s [109, 97, 105, 110] d).bind fun _ d => (blockF s (stsF s k n m) 1 d).bind fun b d => (wantR s 1 d).bind fun _ d => .ok ⟨l0, l1, ps, b⟩ d) := by
                        show _ = _
                        rw [He2.out, e1]; rfl
                      clear e1 He2
                      refine wp_region_any (by kernel_rfl) (wpTill_any (S := fun w' => w'.cell? ⟨qb, 2, none⟩ = some (.slice vx l.length vc)) (E := 7) _ _ _ _ ?_)
                      have hS9 : w2.drew.cell? ⟨qb, 2, none⟩ = some (.slice vx l.length vc) := b1
                      (refine wpTill_take (i := 0) (v := ?_) rfl rfl (by decide) (by kernel_rfl) (by kernel_rfl) (by kernel_rfl) (by kernel_rfl) (by kernel_rfl) (fun _ _ _ h => h) (Or.inl ⟨by rfl, ?_⟩) hS9 ?_; rotate_left 1; (intro w' hSw; (try dsimp only at hSw); go_simp); (try rfl); (try dsimp only [Act.put]))
                      (refine wpTill_take (i := 1) (v := ?_) rfl rfl (by decide) (by kernel_rfl) (by kernel_rfl) (by kernel_rfl) (by kernel_rfl) (by kernel_rfl) (fun _ _ _ h => h) (Or.inl ⟨by rfl, ?_⟩) hS9 ?_; rotate_left 1; (intro w' hSw; (try dsimp only at hSw); go_simp); (try rfl); (try dsimp only [Act.put]))
                      (refine wpTill_take (i := 2) (v := ?_) rfl rfl (by decide) (by kernel_rfl) (by kernel_rfl) (by kernel_rfl) (by kernel_rfl) (by kernel_rfl) (fun _ _ _ h => h) (Or.inl ⟨by rfl, ?_⟩) hS9 ?_; rotate_left 1; (intro w' hSw; (try dsimp only at hSw); go_simp); (try rfl); (try dsimp only [Act.put]))
                      refine wpTill_all (rs := [3]) (by kernel_rfl) (by simp) ?_
                      intro i hi
                      obtain rfl : i = 3 := by simpa using hi
                      unfold wpOp
                      go_simp
                      refine Or.inl ((HE.out _ (S2.hR.below (Below.refl _ _).drew)).mono ?_)
                      rintro e w3 ⟨hG3, v3, rfl, hR3, vs3, rfl, xp, cp, xb, cb, xe, ce, rfl, q1, q2, q3⟩
                      have hG3' := (Gr.of (p := p) (Below.refl w2.heap.size w2).drew).trans hG3
                      have g3 := g2.keep pcVals_keeps hG3' (fun q e => by cases e; omega)
                      have S3 := S2.call hG3' hR3
                      have o0 := Old.call strVals_keeps o0 hG3' (by omega)
                      have o1 := Old.call arVals_keeps o1 hG3' (by omega)
                      have b1' := S3.B.cell 2 _ rfl
                      refine ⟨b1', ?_⟩
                      refine wpTill_all (rs := [4]) (by kernel_rfl) (by simp) ?_
                      intro i hi
                      obtain rfl : i = 4 := by simpa using hi
                      unfold wpOp
                      go_simp
                      have hbB := (Below.refl w3.heap.size w3).alloc (Nat.le_refl _) (.cells #[.string (bs t.name), .slice xp t.params.length cp, .slice xb t.body.length cb, .string (bs t.ret.op), .int .i64 t.ret.n, .string (bs t.ret.name), .slice xe t.ret.l.length ce] 124)
                      refine Or.inl ⟨(hbB.cell S3.B.lt).trans b1', ?_⟩
                      refine wpTill_all (rs := [5]) (by kernel_rfl) (by simp) ?_
                      intro i hi
                      obtain rfl : i = 5 := by simpa using hi
                      have g4 := g3.bel pcVals_keeps hbB
                      have S4 := S3.bel hbB
                      have o0 := Old.bel strVals_keeps o0 hbB
                      have o1 := Old.bel arVals_keeps o1 hbB
                      have hV4 : pcVals (w3.alloc (.cells #[.string (bs t.name), .slice xp t.params.length cp, .slice xb t.body.length cb, .string (bs t.ret.op), .int .i64 t.ret.n, .string (bs t.ret.name), .slice xe t.ret.l.length ce] 124)) (fun b => M2 ≤ b ∧ (Value.slice vx l.length vc).ownBlock ≠ some b) [.string (bs t.name), .slice xp t.params.length cp, .slice xb t.body.length cb, .string (bs t.ret.op), .int .i64 t.ret.n, .string (bs t.ret.name), .slice xe t.ret.l.length ce] t := by
                        have h9 : pcVals w3 (fun b => w2.heap.size ≤ b) [.string (bs t.name), .slice xp t.params.length cp, .slice xb t.body.length cb, .string (bs t.ret.op), .int .i64 t.ret.n, .string (bs t.ret.name), .slice xe t.ret.l.length ce] t := ⟨xp, cp, xb, cb, xe, ce, rfl, q1, q2, q3⟩
                        exact pcVals_keeps _ _ _ _ _ _ h9 hbB.size (fun b _ hlt => hbB.block b hlt) (fun b q _ => by
                          have q : w2.heap.size ≤ b := q
                          exact ⟨by omega, fun e => by have := (g2.own.lt b e).2; omega⟩)
                      have sz3 := hG3'.size
                      refine wpOp_step rfl (fun K' hK => ?_)
                      refine step_append_lies _ (by rfl) _ _ 39 (by rfl) M2 124 iP _ 7 128 Tryz.underlying39 hiP hzP0 hzP1 hzP2 rfl (by decide) (.slice vx l.length vc) l.length xss.flatten (by first | rfl | simp [Act.eval, Act.put]) g4.own ⟨w3.heap.size, 0, none⟩ 1 1 [.string (bs t.name), .slice xp t.params.length cp, .slice xb t.body.length cb, .string (bs t.ret.op), .int .i64 t.ret.n, .string (bs t.ret.name), .slice xe t.ret.l.length ce] (by first | rfl | simp [Act.eval, Act.put]) rfl (cells_new _ _ _) (by intro u hu; simp at hu; rcases hu with rfl | rfl | rfl | rfl | rfl | rfl | rfl <;> rfl) (by omega) (by unfold maxLen; omega) (by omega) (by simp; omega) (w3.heap.size + 1) (by simp) ?_
                      intro gB cap6 w6 own6 hg6 hat6 hlt6
                      have lo : ∀ q, (Value.slice vx l.length vc).ownBlock = some q → M2 ≤ q := fun q e => (g4.own.lt q e).1
                      have S6 := S4.grown hg6 (fun q e => by have := lo q e; omega)
                      have g6 := g4.more pcVals_keeps (qb := qb) (j := 2) (vs := [.string (bs t.name), .slice xp t.params.length cp, .slice xb t.body.length cb, .string (bs t.ret.op), .int .i64 t.ret.n, .string (bs t.ret.name), .slice xe t.ret.l.length ce]) (e := t) rfl hV4 own6 hg6 (hat6.imp id (fun e => by rw [e]; simp)) (by omega)
                      have o0 := Old.set strVals_keeps (Old.grown strVals_keeps o0 hg6 lo) 2 (.slice (some ⟨gB, 0, none⟩) (l.length + 1) cap6)
                      have o1 := Old.set arVals_keeps (Old.grown arVals_keeps o1 hg6 lo) 2 (.slice (some ⟨gB, 0, none⟩) (l.length + 1) cap6)
                      have b6 := S6.B.cell 2 _ rfl
                      have f6 := S6.B.fr 2
                      have sz6 : M2 ≤ w6.heap.size := by have := hg6.size; rw [World.size_alloc] at this; omega
                      have hS9 : w6.cell? ⟨qb, 2, none⟩ = some (.slice vx l.length vc) := b6
                      refine hK _ _ ⟨fun _ => hS9, ?_⟩
                      change wpTill _ _ _ _ _ _ _ _ (Act.put _ (some 32) _) _
                      dsimp only [Act.put]
                      (refine wpTill_take (i := 6) (v := ?_) rfl rfl (by decide) (by kernel_rfl) (by kernel_rfl) (by kernel_rfl) (by kernel_rfl) (by kernel_rfl) (fun _ _ _ h => h) (Or.inl ⟨by rfl, ?_⟩) hS9 ?_; rotate_left 1; (intro w' hSw; (try dsimp only at hSw); go_simp); (try rfl); (try dsimp only [Act.put]))
                      refine wpTill_all (rs := [7]) (by kernel_rfl) (by simp) ?_
                      intro i hi
                      obtain rfl : i = 7 := by simpa using hi
                      unfold wpOp
                      go_simp
                      refine Or.inl ⟨by kernel_rfl, ?_⟩
                      have S7 := S6.set 2 (.slice (some ⟨gB, 0, none⟩) (l.length + 1) cap6) (by simp)
                      simp only [List.set] at S7
                      obtain ⟨W7, hW7⟩ : ∃ W, W = w6.setCell ⟨qb, 2, none⟩ (.slice (some ⟨gB, 0, none⟩) (l.length + 1) cap6) := ⟨_, rfl⟩
                      rw [← hW7] at S7 g6 o0 o1 ⊢
                      have sz7 : M2 ≤ W7.heap.size := by rw [hW7]; simpa [World.setCell] using sz6
                      clear hW7 own6 hg6 hat6 hlt6 hS9 b6 f6 S6 S4 g4 hbB b1' S3 g3 hK
                      go_wp2_with fail
                      go_roundg gg
                      case measure => omega
                      case rel => exact ⟨l ++ [t], _, _, d2, by simp; omega, sz7, S7, by simpa using g6, o0, o1, He3.out⟩
                  · have He2 : Hid (res = (Res.ok l d0).bind fun ps d => (wantW s [109, 97, 105, 110] d).bind fun _ d => (blockF s (stsF s k n m) 1 d).bind fun b d => (wantR s 1 d).bind fun _ d => .ok ⟨l0, l1, ps, b⟩ d) := by
                      show _ = _
                      rw [He.out]
                      show (if d0.text = [112, 114, 111, 99] then _ else _ : Res _).bind _ = _
                      rw [if_neg ht]
                    simp only [if_neg ht] at HT
                    clear ht He hlg
                    go_wp2_with fail
                    refine HT.out.mono ?_
                    rintro e w2 ⟨⟨rfl, hw2⟩, hx2⟩
                    rw [hw2]
                    clear hx2 hw2 w2 HT
                    obtain ⟨x2, c2, rfl, hrow⟩ := g.row pcVals_keeps (by omega)
                    obtain ⟨l2, hl2⟩ : ∃ q, Hid (q = l) := ⟨_, rfl⟩
                    rw [← hl2.out] at hrow S He2
                    have o2 := Old.of pcVals_keeps (qb := qb) hrow gM2
                    have o0 := Old.up strVals_keeps o0 hMw
                    have o1 := Old.up arVals_keeps o1 hMw
                    have He : Hid (res = (wantW s [109, 97, 105, 110] d0).bind fun _ d => (blockF s (stsF s k n m) 1 d).bind fun b d => (wantR s 1 d).bind fun _ d => .ok ⟨l0, l1, l2, b⟩ d) := He2.out
                    clear He2 hrow g
                    obtain ⟨wq2, hwq2⟩ : ∃ W, W = wr := ⟨_, rfl⟩
                    obtain ⟨dq2, hdq2⟩ : ∃ W, W = d0 := ⟨_, rfl⟩
                    rw [← hwq2] at S szq hMw o0 o1 o2 ⊢
                    rw [← hdq2] at S He
                    clear hwq2 hdq2
                    have SE2 := S
                    clear S
                    have H5 := hide (want1 w0 a p r s [109, 97, 105, 110] dq2 wq2 SE2.hR)
                    go_wp2_with fail
                    refine H5.out.mono ?_
                    intro e w5 hP
                    cases e5 : wantW s [109, 97, 105, 110] dq2 with
                    | out => exact absurd e5 (wantW_ne _ _ _)
                    | err c pos =>
                      rw [e5] at hP He
                      obtain ⟨hGx, N, rfl, hF, hltx⟩ := hP
                      go_wp2_with fail
                      refine ⟨rfl, ?_⟩
                      rw [He.out]
                      exact ⟨SE2.hG.trans hGx, N, rfl, hF, hltx⟩
                    | ok u5 d5 =>
                      rw [e5] at hP He
                      obtain ⟨hG5, v5, rfl, hR5, rfl⟩ := hP
                      have T5 := SE2.call hG5 hR5
                      have o0 := Old.call strVals_keeps o0 hG5 (by omega)
                      have o1 := Old.call arVals_keeps o1 hG5 (by omega)
                      have o2 := Old.call pcVals_keeps o2 hG5 (by omega)
                      have He5 : Hid (res = (blockF s (stsF s k n m) 1 d5).bind fun b d => (wantR s 1 d).bind fun _ d => .ok ⟨l0, l1, l2, b⟩ d) := He.out
                      clear He H5 e5
                      have HF6 : Hid (blockF s (stsF s k n m) 1 d5 ≠ .out) := fun q => hne.out (by rw [He5.out, q]; rfl)
                      have H6 := hide (blk_any w0 a p r k n m 1 s hk hn (by omega) w5 d5 T5.hR HF6.out)
                      have sz5 := hG5.size
                      go_wp2_with fail
                      refine H6.out.mono ?_
                      intro e w6 hP
                      cases e6 : blockF s (stsF s k n m) 1 d5 with
                      | out => exact absurd e6 HF6.out
                      | err c pos =>
                        rw [e6] at hP He5
                        obtain ⟨hGx, N, rfl, hF, hltx⟩ := hP
                        go_wp2_with fail
                        refine ⟨rfl, ?_⟩
                        rw [He5.out]
                        exact ⟨T5.hG.trans hGx, N, rfl, hF, hltx⟩
                      | ok y6 d6 =>
                        rw [e6] at hP He5
                        obtain ⟨hG6, v6, rfl, hR6, x6, cap6, rfl, hX6⟩ := hP
                        have T6 := T5.call hG6 hR6
                        have o0 := Old.call strVals_keeps o0 hG6 (by omega)
                        have o1 := Old.call arVals_keeps o1 hG6 (by omega)
                        have o2 := Old.call pcVals_keeps o2 hG6 (by omega)
                        have He6 : Hid (res = (wantR s 1 d6).bind fun _ d => .ok ⟨l0, l1, l2, y6⟩ d) := He5.out
                        clear He5 H6 e6 HF6
                        have k6 := T6.B.cell 3 _ rfl
                        have f6 := T6.B.fr 3
                        have S6 := T6.set 3 (.slice x6 y6.length cap6) (by simp)
                        simp only [List.set] at S6
                        have o0 := Old.set strVals_keeps o0 3 (.slice x6 y6.length cap6)
                        have o1 := Old.set arVals_keeps o1 3 (.slice x6 y6.length cap6)
                        have o2 := Old.set pcVals_keeps o2 3 (.slice x6 y6.length cap6)
                        have hX6 : StmsAt (w6.setCell ⟨qb, 3, none⟩ (.slice x6 y6.length cap6)) (fun b => qb + 1 ≤ b) x6 y6 := hX6.keep (by simp [World.setCell]) (fun b q hlt => Below.heap_setCell w6 ⟨qb, 3, none⟩ _ b (fun e => by have e : b = qb := e; have : w5.heap.size ≤ b := q; omega)) (fun b q _ => by have : w5.heap.size ≤ b := q; show qb + 1 ≤ b; omega)
                        obtain ⟨W6, hW6⟩ : ∃ W, W = w6.setCell ⟨qb, 3, none⟩ (.slice x6 y6.length cap6) := ⟨_, rfl⟩
                        rw [← hW6] at S6 o0 o1 o2 hX6
                        go_upto_region 11 with fail
                        change Code.wp _ _ _ _ (w6.setCell ⟨qb, 3, none⟩ (.slice x6 y6.length cap6))
                        rw [← hW6]
                        clear hW6 k6 f6 T6
                        have H7 := hide (wantOf_any w0 a p r s 1 d6 W6 S6.hR)
                        go_wp2_with fail
                        refine H7.out.mono ?_
                        intro e w7 hP
                        cases e7 : wantR s 1 d6 with
                        | out => exact absurd e7 (wantR_ne _ _ _)
                        | err c pos =>
                          rw [e7] at hP He6
                          obtain ⟨hGx, N, rfl, hF, hltx⟩ := hP
                          go_wp2_with fail
                          refine ⟨rfl, ?_⟩
                          rw [He6.out]
                          exact ⟨S6.hG.trans hGx, N, rfl, hF, hltx⟩
                        | ok y7 d7 =>
                          rw [e7] at hP He6
                          obtain ⟨hG7, v7, rfl, hR7, rfl⟩ := hP
                          have T7 := S6.call hG7 hR7
                          have o0 := Old.call strVals_keeps o0 hG7 (by omega)
                          have o1 := Old.call arVals_keeps o1 hG7 (by omega)
                          have o2 := Old.call pcVals_keeps o2 hG7 (by omega)
                          have hX7 := hX6.keep (ok' := fun b => qb + 1 ≤ b) hG7.size (fun b q hlt => hG7.block b hlt (fun e => by cases e; have : qb + 1 ≤ p := q; omega)) (fun _ q _ => q)
                          have He7 : Hid (res = .ok ⟨l0, l1, l2, y6⟩ d7) := He6.out
                          clear He6 H7 e7
                          have k0 := T7.B.cell 0 _ rfl
                          have k1 := T7.B.cell 1 _ rfl
                          have k2 := T7.B.cell 2 _ rfl
                          have k3 := T7.B.cell 3 _ rfl
                          have j0 := T7.Z.cell 0 _ rfl
                          have j1 := T7.Z.cell 1 _ rfl
                          have j2 := T7.Z.cell 2 _ rfl
                          have j3 := T7.Z.cell 3 _ rfl
                          have f0 := T7.Z.fr 0
                          have f1 := T7.Z.fr 1
                          have f2 := T7.Z.fr 2
                          have f3 := T7.Z.fr 3
                          obtain ⟨fR, fG, _, _⟩ := putAll_keeps hpw y2 [(0, .slice x0 l0.length c0), (1, .slice x1 l1.length c1), (2, .slice x2 l2.length c2), (3, .slice x6 y6.length cap6)] w7 T7.hR T7.hG
                          obtain ⟨hz1, hz2⟩ := putAll_block rb [(0, .slice x0 l0.length c0), (1, .slice x1 l1.length c1), (2, .slice x2 l2.length c2), (3, .slice x6 y6.length cap6)] w7
                          have kk : ∀ (b : Nat), (qb + 1 ≤ b ∧ b < wq2.heap.size) → b < w7.heap.size → (putAll w7 rb [(0, .slice x0 l0.length c0), (1, .slice x1 l1.length c1), (2, .slice x2 l2.length c2), (3, .slice x6 y6.length cap6)]).heap[b]? = w7.heap[b]? := fun b q _ => hz2 b (by have := q.1; omega)
                          have oo : ∀ (b : Nat), (qb + 1 ≤ b ∧ b < wq2.heap.size) → b < w7.heap.size → w.heap.size ≤ b := fun b q _ => by have := q.1; omega
                          have r0 := RowAt.keep strVals_keeps o0 (Nat.le_of_eq hz1.symm) kk oo
                          have r1 := RowAt.keep arVals_keeps o1 (Nat.le_of_eq hz1.symm) kk oo
                          have r2 := RowAt.keep pcVals_keeps o2 (Nat.le_of_eq hz1.symm) kk oo
                          have r3 := hX7.keep (ok' := fun b => w.heap.size ≤ b) (Nat.le_of_eq hz1.symm) (fun b q _ => hz2 b (by have : qb + 1 ≤ b := q; omega)) (fun b q _ => by have : qb + 1 ≤ b := q; show w.heap.size ≤ b; omega)
                          clear o0 o1 o2 hX7 hX6 kk oo hz1 hz2
                          go_wp2_with fail
                          refine bodyPost_ret (v := .agg #[.slice x0 l0.length c0, .slice x1 l1.length c1, .slice x2 l2.length c2, .slice x6 y6.length cap6]) (by simp [results, Tryz.results67, go_sem, j0, j1, j2, j3]) rfl ?_
                          rw [He7.out]
                          exact ⟨fG, _, rfl, fR, x0, c0, x1, c1, x2, c2, x6, cap6, rfl, r0, r1, r2, r3⟩
end Go.Proofs.YtbfhaabpfkopdaaGreatDoor
