/- The language: tests read. -/
import Derived.Test.YtbfhaabpfkopdaaGreatDoorLk
namespace Go.Proofs.YtbfhaabpfkopdaaGreatDoor
open Go.RowKit
set_option linter.unusedVariables false

/-- A test. -/
structure Te where
  a : Ex
  rel : Bs
  b : Ex
def testF (s : Bs) (k : Nat) (d : Wd) : Res Te :=
  (exF s k 2 1 d).bind fun a d => (wantR s 6 d).bind fun rl d => (exF s k 2 1 d).bind fun b d => .ok ⟨a, rl, b⟩ d
def TeV (W : World) (ok : Nat → Prop) (v : Value) (t : Te) : Prop :=
  ∃ x cx y cy, v = .agg #[.string (bs t.a.op), .int .i64 t.a.n, .string (bs t.a.name), .slice x t.a.l.length cx, .string (bs t.rel), .string (bs t.b.op), .int .i64 t.b.n, .string (bs t.b.name), .slice y t.b.l.length cy] ∧ ExsAt W ok x t.a.l ∧ ExsAt W ok y t.b.l

/-- A box of cells. -/
structure BoxN (W : World) (b : Nat) (vs : List Value) : Prop where
  lt : b < W.heap.size
  cell : ∀ j v, vs[j]? = some v → W.cell? ⟨b, j, none⟩ = some v
  fr : ∀ j, W.frozen? ⟨b, j, none⟩ = false
theorem BoxN.new (W : World) (t : TypeId) (vs : List Value) : BoxN (W.alloc (.cells vs.toArray t)) W.heap.size vs :=
  ⟨by simp, fun j v h => by simp [h], fun j => by simp⟩
theorem BoxN.bel {W W' : World} {b : Nat} {vs : List Value} (h : BoxN W b vs) (hb : Below W.heap.size W W') : BoxN W' b vs :=
  ⟨Nat.lt_of_lt_of_le h.lt hb.size, fun j v k => (hb.cell h.lt).trans (h.cell j v k), fun j => (hb.frozen h.lt).trans (h.fr j)⟩
theorem BoxN.gr {W W' : World} {p b : Nat} {vs : List Value} (h : BoxN W b vs) (hg : Gr p W W') (hne : b ≠ p) : BoxN W' b vs :=
  ⟨Nat.lt_of_lt_of_le h.lt hg.size, fun j v k => (World.grownBy.cell_far hg ⟨b, j, none⟩ h.lt (fun e => hne (by simpa using e))).trans (h.cell j v k), fun j => (World.grownBy.frozen_far hg ⟨b, j, none⟩ h.lt (fun e => hne (by simpa using e))).trans (h.fr j)⟩
theorem BoxN.put {W : World} {b : Nat} {vs : List Value} (h : BoxN W b vs) (j : Nat) (hj : j < vs.length) (v : Value) : BoxN (W.setCell ⟨b, j, none⟩ v) b (vs.set j v) := by
  refine ⟨by simpa [World.setCell] using h.lt, fun i u k => ?_, fun i => by simpa using h.fr i⟩
  by_cases e : i = j
  · subst e
    rw [List.getElem?_set_self hj] at k
    cases k
    exact World.cell?_setCell_same W _ _ (h.cell i vs[i] (List.getElem?_eq_getElem hj))
  · rw [List.getElem?_set_ne (fun k => e k.symm)] at k
    rw [World.cell?_setCell_other W _ _ _ (fun k => e (by cases k; rfl))]
    exact h.cell i u k
theorem BoxN.other {W : World} {b : Nat} {vs : List Value} (h : BoxN W b vs) {q : Addr} (hq : q.block ≠ b) (v : Value) : BoxN (W.setCell q v) b vs := by
  have k : ∀ o, (W.setCell q v).cell? ⟨b, o, none⟩ = W.cell? ⟨b, o, none⟩ := fun o => World.cell?_of_block (w := W) (Below.heap_setCell W q v b (fun e => hq e.symm))
  exact ⟨by simpa [World.setCell] using h.lt, fun j u hj => by rw [k]; exact h.cell j u hj, fun j => by simpa using h.fr j⟩

/-- Cells stored one behind the other into one block. -/
def putAll (W : World) (q : Nat) : List (Nat × Value) → World
  | [] => W
  | (o, v) :: l => putAll (W.setCell ⟨q, o, none⟩ v) q l
theorem putAll_keeps {w0 w : World} {a : Nat → Addr} {p r q : Nat} {s : Bs} {d : Wd} (hpw : p < w.heap.size) (hq : w.heap.size ≤ q) : ∀ (l : List (Nat × Value)) (W : World), Rd w0 W a p r s d → Gr p w W →
    Rd w0 (putAll W q l) a p r s d ∧ Gr p w (putAll W q l) ∧ (∀ (ok : Nat → Prop) (y : Option Addr) (m : List Ex), ExsAt W ok y m → ¬ ok q → ExsAt (putAll W q l) ok y m) ∧ (∀ (b : Nat) (us : List Value), BoxN W b us → b ≠ q → BoxN (putAll W q l) b us)
  | [], W, hR, hG => ⟨hR, hG, fun _ _ _ h _ => h, fun _ _ h _ => h⟩
  | (o, v) :: l, W, hR, hG => by
    obtain ⟨h1, h2, h3, h4⟩ := putAll_keeps hpw hq l (W.setCell ⟨q, o, none⟩ v) (hR.setO (q := ⟨q, o, none⟩) (by show p < q; omega) v) (hG.setN (q := ⟨q, o, none⟩) hq v)
    exact ⟨h1, h2, fun ok y m h hk => h3 ok y m (h.set (q := ⟨q, o, none⟩) hk v) hk, fun b us h hne => h4 b us (h.other (q := ⟨q, o, none⟩) (fun k => hne k.symm) v) hne⟩
/-- A term stored into a box, field by field. -/
theorem put4 {w0 w W : World} {a : Nat → Addr} {p r q o : Nat} {s : Bs} {d : Wd} {vs : List Value} (e : Ex) (x : Option Addr) (cap : Nat) (hpw : p < w.heap.size) (hq : w.heap.size ≤ q) (hR : Rd w0 W a p r s d) (hG : Gr p w W) (B : BoxN W q vs) (ho : o + 3 < vs.length) :
    Rd w0 ((((W.setCell ⟨q, o, none⟩ (.string (bs e.op))).setCell ⟨q, o + 1, none⟩ (.int .i64 e.n)).setCell ⟨q, o + 2, none⟩ (.string (bs e.name))).setCell ⟨q, o + 3, none⟩ (.slice x e.l.length cap)) a p r s d ∧ Gr p w ((((W.setCell ⟨q, o, none⟩ (.string (bs e.op))).setCell ⟨q, o + 1, none⟩ (.int .i64 e.n)).setCell ⟨q, o + 2, none⟩ (.string (bs e.name))).setCell ⟨q, o + 3, none⟩ (.slice x e.l.length cap)) ∧ BoxN ((((W.setCell ⟨q, o, none⟩ (.string (bs e.op))).setCell ⟨q, o + 1, none⟩ (.int .i64 e.n)).setCell ⟨q, o + 2, none⟩ (.string (bs e.name))).setCell ⟨q, o + 3, none⟩ (.slice x e.l.length cap)) q ((((vs.set o (.string (bs e.op))).set (o + 1) (.int .i64 e.n)).set (o + 2) (.string (bs e.name))).set (o + 3) (.slice x e.l.length cap)) ∧
    (∀ (b : Nat) (us : List Value), BoxN W b us → b ≠ q → BoxN ((((W.setCell ⟨q, o, none⟩ (.string (bs e.op))).setCell ⟨q, o + 1, none⟩ (.int .i64 e.n)).setCell ⟨q, o + 2, none⟩ (.string (bs e.name))).setCell ⟨q, o + 3, none⟩ (.slice x e.l.length cap)) b us) ∧
    (∀ (ok : Nat → Prop) (y : Option Addr) (l : List Ex), ExsAt W ok y l → ¬ ok q → ExsAt ((((W.setCell ⟨q, o, none⟩ (.string (bs e.op))).setCell ⟨q, o + 1, none⟩ (.int .i64 e.n)).setCell ⟨q, o + 2, none⟩ (.string (bs e.name))).setCell ⟨q, o + 3, none⟩ (.slice x e.l.length cap)) ok y l) ∧ ((((W.setCell ⟨q, o, none⟩ (.string (bs e.op))).setCell ⟨q, o + 1, none⟩ (.int .i64 e.n)).setCell ⟨q, o + 2, none⟩ (.string (bs e.name))).setCell ⟨q, o + 3, none⟩ (.slice x e.l.length cap)).heap.size = W.heap.size := by
  have hp : p < q := by omega
  refine ⟨(((hR.setO (q := ⟨q, o, none⟩) hp _).setO (q := ⟨q, o + 1, none⟩) hp _).setO (q := ⟨q, o + 2, none⟩) hp _).setO (q := ⟨q, o + 3, none⟩) hp _, (((hG.setN (q := ⟨q, o, none⟩) hq _).setN (q := ⟨q, o + 1, none⟩) hq _).setN (q := ⟨q, o + 2, none⟩) hq _).setN (q := ⟨q, o + 3, none⟩) hq _, ?_, fun b us h hne => ?_, fun ok y l h hk => ?_, by simp [World.setCell]⟩
  · exact (((B.put o (by omega) _).put (o + 1) (by simp; omega) _).put (o + 2) (by simp; omega) _).put (o + 3) (by simp; omega) _
  · exact (((h.other (q := ⟨q, o, none⟩) (fun k => hne k.symm) _).other (q := ⟨q, o + 1, none⟩) (fun k => hne k.symm) _).other (q := ⟨q, o + 2, none⟩) (fun k => hne k.symm) _).other (q := ⟨q, o + 3, none⟩) (fun k => hne k.symm) _
  · exact (((h.set (q := ⟨q, o, none⟩) hk _).set (q := ⟨q, o + 1, none⟩) hk _).set (q := ⟨q, o + 2, none⟩) hk _).set (q := ⟨q, o + 3, none⟩) hk _
set_option maxRecDepth 20000 in
set_option maxHeartbeats 4000000 in
theorem test_any (w0 : World) (a : Nat → Addr) (p r k : Nat) (s : Bs) (d : Wd) (w : World) (h : Rd w0 w a p r s d) (hne : Hid (testF s k d ≠ .out)) :
    Calls Tryz.prog 290 #[.pointer (some ⟨p, 0, none⟩)] w fun e w' => RPost w0 a p r s (testF s k d) (fun W' v t => TeV W' (fun b => w.heap.size ≤ b) v t) w e w' := by
  have hpw := h.lt
  have hb0 : Below w.heap.size w ((w.alloc (Obj.cells #[.string ⟨#[]⟩, .int .i64 0, .string ⟨#[]⟩, .slice none 0 0, .string ⟨#[]⟩, .string ⟨#[]⟩, .int .i64 0, .string ⟨#[]⟩, .slice none 0 0] 206)).alloc (Obj.cells #[.string ⟨#[]⟩, .int .i64 0, .string ⟨#[]⟩, .slice none 0 0, .string ⟨#[]⟩, .string ⟨#[]⟩, .int .i64 0, .string ⟨#[]⟩, .slice none 0 0] 206)) := ((Below.refl _ _).alloc (Nat.le_refl _) _).alloc (by simp) _
  have hG0 : Gr p w ((w.alloc (Obj.cells #[.string ⟨#[]⟩, .int .i64 0, .string ⟨#[]⟩, .slice none 0 0, .string ⟨#[]⟩, .string ⟨#[]⟩, .int .i64 0, .string ⟨#[]⟩, .slice none 0 0] 206)).alloc (Obj.cells #[.string ⟨#[]⟩, .int .i64 0, .string ⟨#[]⟩, .slice none 0 0, .string ⟨#[]⟩, .string ⟨#[]⟩, .int .i64 0, .string ⟨#[]⟩, .slice none 0 0] 206)) := Gr.of hb0
  have h0 := h.below hb0
  have B1 : BoxN ((w.alloc (Obj.cells #[.string ⟨#[]⟩, .int .i64 0, .string ⟨#[]⟩, .slice none 0 0, .string ⟨#[]⟩, .string ⟨#[]⟩, .int .i64 0, .string ⟨#[]⟩, .slice none 0 0] 206)).alloc (Obj.cells #[.string ⟨#[]⟩, .int .i64 0, .string ⟨#[]⟩, .slice none 0 0, .string ⟨#[]⟩, .string ⟨#[]⟩, .int .i64 0, .string ⟨#[]⟩, .slice none 0 0] 206)) w.heap.size [.string ⟨#[]⟩, .int .i64 0, .string ⟨#[]⟩, .slice none 0 0, .string ⟨#[]⟩, .string ⟨#[]⟩, .int .i64 0, .string ⟨#[]⟩, .slice none 0 0] := (BoxN.new w 206 [.string ⟨#[]⟩, .int .i64 0, .string ⟨#[]⟩, .slice none 0 0, .string ⟨#[]⟩, .string ⟨#[]⟩, .int .i64 0, .string ⟨#[]⟩, .slice none 0 0]).bel ((Below.refl _ _).alloc (Nat.le_refl _) _)
  have B2 : BoxN ((w.alloc (Obj.cells #[.string ⟨#[]⟩, .int .i64 0, .string ⟨#[]⟩, .slice none 0 0, .string ⟨#[]⟩, .string ⟨#[]⟩, .int .i64 0, .string ⟨#[]⟩, .slice none 0 0] 206)).alloc (Obj.cells #[.string ⟨#[]⟩, .int .i64 0, .string ⟨#[]⟩, .slice none 0 0, .string ⟨#[]⟩, .string ⟨#[]⟩, .int .i64 0, .string ⟨#[]⟩, .slice none 0 0] 206)) (w.heap.size + 1) [.string ⟨#[]⟩, .int .i64 0, .string ⟨#[]⟩, .slice none 0 0, .string ⟨#[]⟩, .string ⟨#[]⟩, .int .i64 0, .string ⟨#[]⟩, .slice none 0 0] := by have := BoxN.new (w.alloc (Obj.cells #[.string ⟨#[]⟩, .int .i64 0, .string ⟨#[]⟩, .slice none 0 0, .string ⟨#[]⟩, .string ⟨#[]⟩, .int .i64 0, .string ⟨#[]⟩, .slice none 0 0] 206)) 206 [.string ⟨#[]⟩, .int .i64 0, .string ⟨#[]⟩, .slice none 0 0, .string ⟨#[]⟩, .string ⟨#[]⟩, .int .i64 0, .string ⟨#[]⟩, .slice none 0 0]; rw [World.size_alloc] at this; exact this
  have HC := hide (ex_any w0 a p r s k 2 (by omega) 1 (by omega))
  obtain ⟨W2, hW2⟩ : ∃ W, W = (w.alloc (Obj.cells #[.string ⟨#[]⟩, .int .i64 0, .string ⟨#[]⟩, .slice none 0 0, .string ⟨#[]⟩, .string ⟨#[]⟩, .int .i64 0, .string ⟨#[]⟩, .slice none 0 0] 206)).alloc (Obj.cells #[.string ⟨#[]⟩, .int .i64 0, .string ⟨#[]⟩, .slice none 0 0, .string ⟨#[]⟩, .string ⟨#[]⟩, .int .i64 0, .string ⟨#[]⟩, .slice none 0 0] 206) := ⟨_, rfl⟩
  have sz2 : w.heap.size + 1 < W2.heap.size := by rw [hW2]; simp
  rw [← hW2] at h0 hG0 B1 B2
  obtain ⟨res, Hres⟩ : ∃ res, Hid (testF s k d = res) := ⟨_, rfl⟩
  rw [Hres.out] at hne ⊢
  have HF1 : Hid (exF s k 2 1 d ≠ .out) := fun e => hne.out (by rw [← Hres.out]; unfold testF; rw [e]; rfl)
  go_enter Tryz.func290, Tryz.ntmps290
  go_upto_region 2 with fail
  change Code.wp _ _ _ _ ((w.alloc (Obj.cells #[.string ⟨#[]⟩, .int .i64 0, .string ⟨#[]⟩, .slice none 0 0, .string ⟨#[]⟩, .string ⟨#[]⟩, .int .i64 0, .string ⟨#[]⟩, .slice none 0 0] 206)).alloc (Obj.cells #[.string ⟨#[]⟩, .int .i64 0, .string ⟨#[]⟩, .slice none 0 0, .string ⟨#[]⟩, .string ⟨#[]⟩, .int .i64 0, .string ⟨#[]⟩, .slice none 0 0] 206))
  rw [← hW2]
  clear hW2 hb0 h
  cases e1 : exF s k 2 1 d with
  | out => exact absurd e1 HF1.out
  | err c pos =>
    have e : res = .err c pos := by rw [← Hres.out]; unfold testF; rw [e1]; rfl
    subst e
    go_wp2_with fail
    have HC2 := HC.out _ d h0 HF1.out
    rw [e1] at HC2
    refine HC2.mono ?_
    rintro e w1 ⟨hG1, N, rfl, hFa, hlt1⟩
    go_wp2_with fail
    exact ⟨rfl, hG0.trans hG1, N, rfl, hFa, hlt1⟩
  | ok ea d1 =>
    go_wp2_with fail
    have HC2 := HC.out _ d h0 HF1.out
    rw [e1] at HC2
    refine HC2.mono ?_
    rintro e w1 ⟨hG1, v1, rfl, hR1, x1, cap1, rfl, hX1⟩
    have sz1 := hG1.size
    have C1 := B1.gr hG1 (by omega)
    have C2 := B2.gr hG1 (by omega)
    have f0 := C2.fr 0
    have f1 := C2.fr 1
    have f2 := C2.fr 2
    have f3 := C2.fr 3
    have k0 := C2.cell 0 _ rfl
    have k1 := C2.cell 1 _ rfl
    have k2 := C2.cell 2 _ rfl
    have k3 := C2.cell 3 _ rfl
    clear HC2
    obtain ⟨pR, pG, pB, pO, pX, pS⟩ := put4 (o := 0) ea x1 cap1 hpw (by omega) hR1 (hG0.trans hG1) C2 (by simp)
    have D1 := pO _ _ C1 (by omega)
    have Y1 := pX _ _ _ hX1 (fun q => by have : W2.heap.size ≤ w.heap.size + 1 := q; omega)
    obtain ⟨V1, hV1⟩ : ∃ V, V = ((((w1.setCell ⟨w.heap.size + 1, 0, none⟩ (.string (bs ea.op))).setCell ⟨w.heap.size + 1, 0 + 1, none⟩ (.int .i64 ea.n)).setCell ⟨w.heap.size + 1, 0 + 2, none⟩ (.string (bs ea.name))).setCell ⟨w.heap.size + 1, 0 + 3, none⟩ (.slice x1 ea.l.length cap1)) := ⟨_, rfl⟩
    rw [← hV1] at pR pG pB D1 Y1 pS
    have sV1 : w1.heap.size ≤ V1.heap.size := by omega
    clear pO pX pS
    go_upto_region 3 with fail
    change Code.wp _ _ _ _ ((((w1.setCell ⟨w.heap.size + 1, 0, none⟩ (.string (bs ea.op))).setCell ⟨w.heap.size + 1, 0 + 1, none⟩ (.int .i64 ea.n)).setCell ⟨w.heap.size + 1, 0 + 2, none⟩ (.string (bs ea.name))).setCell ⟨w.heap.size + 1, 0 + 3, none⟩ (.slice x1 ea.l.length cap1))
    rw [← hV1]
    clear hV1 C1 C2 hX1 hR1 f0 f1 f2 f3 k0 k1 k2 k3
    have HW := hide (wantOf_any w0 a p r s 6 d1 V1 pR)
    cases e2 : wantR s 6 d1 with
    | out => unfold wantR at e2; split at e2 <;> cases e2
    | err c pos =>
      rw [e2] at HW
      have e : res = .err c pos := by rw [← Hres.out]; unfold testF; rw [e1]; simp only [Res.bind]; rw [e2]
      subst e
      clear e1 e2 Hres
      go_wp2_with fail
      refine HW.out.mono ?_
      rintro e w3 ⟨hG3, N, rfl, hFa, hlt1⟩
      go_wp2_with fail
      exact ⟨rfl, pG.trans hG3, N, rfl, hFa, hlt1⟩
    | ok rl d2 =>
      rw [e2] at HW
      have HF2 : Hid (exF s k 2 1 d2 ≠ .out) := fun e => hne.out (by rw [← Hres.out]; unfold testF; rw [e1]; simp only [Res.bind]; rw [e2]; simp only; rw [e])
      have hres : res = (exF s k 2 1 d2).bind fun b d => .ok ⟨ea, rl, b⟩ d := by rw [← Hres.out]; unfold testF; rw [e1]; simp only [Res.bind]; rw [e2]
      have Hr := hide hres
      clear e1 e2 Hres hres
      go_wp2_with fail
      refine HW.out.mono ?_
      rintro e w3 ⟨hG3, v3, rfl, hR3, rfl⟩
      have sz3 := hG3.size
      have E1 := D1.gr hG3 (by omega)
      have E2 := pB.gr hG3 (by omega)
      have Y3 := Y1.gr hG3 (fun q => by have : W2.heap.size ≤ p := q; omega)
      have g4 := E2.fr 4
      have k4 := E2.cell 4 _ rfl
      have G3 := pG.trans hG3
      have F2 := E2.put 4 (by simp) (.string (bs rl))
      have F1 := E1.other (q := ⟨w.heap.size + 1, 4, none⟩) (by show w.heap.size + 1 ≠ w.heap.size; omega) (.string (bs rl))
      have Y4 := Y3.set (q := ⟨w.heap.size + 1, 4, none⟩) (fun q => by have : W2.heap.size ≤ w.heap.size + 1 := q; omega) (.string (bs rl))
      have R4 := hR3.setO (q := ⟨w.heap.size + 1, 4, none⟩) (by show p < w.heap.size + 1; omega) (.string (bs rl))
      have G4 := G3.setN (q := ⟨w.heap.size + 1, 4, none⟩) (by show w.heap.size ≤ w.heap.size + 1; omega) (.string (bs rl))
      obtain ⟨V4, hV4⟩ : ∃ V, V = w3.setCell ⟨w.heap.size + 1, 4, none⟩ (.string (bs rl)) := ⟨_, rfl⟩
      have sV4 : w3.heap.size ≤ V4.heap.size := by rw [hV4]; simp [World.setCell]
      rw [← hV4] at F1 F2 Y4 R4 G4
      go_upto_region 4 with fail
      change Code.wp _ _ _ _ (w3.setCell ⟨w.heap.size + 1, 4, none⟩ (.string (bs rl)))
      rw [← hV4]
      clear hV4 E1 E2 Y3 Y1 hR3 G3 g4 k4 pR pG pB D1
      cases e3 : exF s k 2 1 d2 with
      | out => exact absurd e3 HF2.out
      | err c pos =>
        rw [e3] at Hr
        have e : res = .err c pos := Hr.out
        subst e
        clear Hr
        go_wp2_with fail
        have HC3 := HC.out _ d2 R4 HF2.out
        rw [e3] at HC3
        refine HC3.mono ?_
        rintro e w5 ⟨hG5, N, rfl, hFa, hlt1⟩
        go_wp2_with fail
        exact ⟨rfl, G4.trans hG5, N, rfl, hFa, hlt1⟩
      | ok eb d3 =>
        rw [e3] at Hr
        have e : res = .ok ⟨ea, rl, eb⟩ d3 := Hr.out
        subst e
        clear Hr
        go_wp2_with fail
        have HC3 := HC.out _ d2 R4 HF2.out
        rw [e3] at HC3
        refine HC3.mono ?_
        rintro e w5 ⟨hG5, v5, rfl, hR5, x5, cap5, rfl, hX5⟩
        have sz5 := hG5.size
        have C1 := F1.gr hG5 (by omega)
        have C2 := F2.gr hG5 (by omega)
        have Y5 := Y4.gr hG5 (fun q => by have : W2.heap.size ≤ p := q; omega)
        have G5 := G4.trans hG5
        clear HC3 F1 F2 Y4 R4 G4
        obtain ⟨pR, pG, pB, pO, pX, pS⟩ := put4 (o := 5) eb x5 cap5 hpw (by omega) hR5 G5 C2 (by simp)
        have D1 := pO _ _ C1 (by omega)
        have Y6 := pX _ _ _ Y5 (fun q => by have : W2.heap.size ≤ w.heap.size + 1 := q; omega)
        have Z6 := pX _ _ _ hX5 (fun q => by have : V4.heap.size ≤ w.heap.size + 1 := q; omega)
        have g5 := C2.fr 5
        have g6 := C2.fr 6
        have g7 := C2.fr 7
        have g8 := C2.fr 8
        have k5 := C2.cell 5 _ rfl
        have k6 := C2.cell 6 _ rfl
        have k7 := C2.cell 7 _ rfl
        have k8 := C2.cell 8 _ rfl
        obtain ⟨V6, hV6⟩ : ∃ V, V = ((((w5.setCell ⟨w.heap.size + 1, 5, none⟩ (.string (bs eb.op))).setCell ⟨w.heap.size + 1, 5 + 1, none⟩ (.int .i64 eb.n)).setCell ⟨w.heap.size + 1, 5 + 2, none⟩ (.string (bs eb.name))).setCell ⟨w.heap.size + 1, 5 + 3, none⟩ (.slice x5 eb.l.length cap5)) := ⟨_, rfl⟩
        rw [← hV6] at pR pG pB D1 Y6 Z6 pS
        go_upto_region 5 with fail
        change Code.wp _ _ _ _ ((((w5.setCell ⟨w.heap.size + 1, 5, none⟩ (.string (bs eb.op))).setCell ⟨w.heap.size + 1, 5 + 1, none⟩ (.int .i64 eb.n)).setCell ⟨w.heap.size + 1, 5 + 2, none⟩ (.string (bs eb.name))).setCell ⟨w.heap.size + 1, 5 + 3, none⟩ (.slice x5 eb.l.length cap5))
        rw [← hV6]
        clear hV6 C1 C2 hX5 hR5 pO pX g5 g6 g7 g8 k5 k6 k7 k8
        have k0 := pB.cell 0 _ rfl
        have k1 := pB.cell 1 _ rfl
        have k2 := pB.cell 2 _ rfl
        have k3 := pB.cell 3 _ rfl
        have k4 := pB.cell 4 _ rfl
        have k5 := pB.cell 5 _ rfl
        have k6 := pB.cell 6 _ rfl
        have k7 := pB.cell 7 _ rfl
        have k8 := pB.cell 8 _ rfl
        have j0 := D1.cell 0 _ rfl
        have j1 := D1.cell 1 _ rfl
        have j2 := D1.cell 2 _ rfl
        have j3 := D1.cell 3 _ rfl
        have j4 := D1.cell 4 _ rfl
        have j5 := D1.cell 5 _ rfl
        have j6 := D1.cell 6 _ rfl
        have j7 := D1.cell 7 _ rfl
        have j8 := D1.cell 8 _ rfl
        have hfr := D1.fr
        have f0 := hfr 0
        have f1 := hfr 1
        have f2 := hfr 2
        have f3 := hfr 3
        have f4 := hfr 4
        have f5 := hfr 5
        have f6 := hfr 6
        have f7 := hfr 7
        have f8 := hfr 8
        clear hfr
        obtain ⟨fR, fG, fX, _⟩ := putAll_keeps (q := w.heap.size) hpw (Nat.le_refl _) [(0, .string (bs ea.op)), (1, .int .i64 ea.n), (2, .string (bs ea.name)), (3, .slice x1 ea.l.length cap1), (4, .string (bs rl)), (5, .string (bs eb.op)), (6, .int .i64 eb.n), (7, .string (bs eb.name)), (8, .slice x5 eb.l.length cap5)] V6 pR pG
        have fY := fX _ _ _ Y6 (fun q => by have : W2.heap.size ≤ w.heap.size := q; omega)
        have fZ := fX _ _ _ Z6 (fun q => by have : V4.heap.size ≤ w.heap.size := q; omega)
        clear fX pR pG pB D1 Y6 Z6
        go_wp2_with fail
        refine bodyPost_ret (v := .agg #[.string (bs ea.op), .int .i64 ea.n, .string (bs ea.name), .slice x1 ea.l.length cap1, .string (bs rl), .string (bs eb.op), .int .i64 eb.n, .string (bs eb.name), .slice x5 eb.l.length cap5]) (by simp [results, Tryz.results290, go_sem, j0, j1, j2, j3, j4, j5, j6, j7, j8]) rfl ?_
        exact ⟨fG, _, rfl, fR, x1, cap1, x5, cap5, rfl, fY.mono (fun b q _ => by have : W2.heap.size ≤ b := q; omega), fZ.mono (fun b q _ => by have : V4.heap.size ≤ b := q; omega)⟩
end Go.Proofs.YtbfhaabpfkopdaaGreatDoor

/- The language: rows that grow by append while a reader goes on. -/
namespace Go.Proofs.YtbfhaabpfkopdaaGreatDoor
open Go.RowKit
set_option linter.unusedVariables false

/-- How an element's cells read; it may lead to blocks that are allowed. -/
abbrev Rds (α : Type) := World → (Nat → Prop) → List Value → α → Prop
/-- It stays so wherever the blocks that it leads to are as they were. -/
def KeepsV {α : Type} (V : Rds α) : Prop := ∀ (W W' : World) (ok ok' : Nat → Prop) (vs : List Value) (x : α), V W ok vs x → W.heap.size ≤ W'.heap.size → (∀ b, ok b → b < W.heap.size → W'.heap[b]? = W.heap[b]?) → (∀ b, ok b → b < W.heap.size → ok' b) → V W' ok' vs x
/-- Elements one behind the other in memory. -/
def RowAt {α : Type} (V : Rds α) (size : Nat) (W : World) (ok : Nat → Prop) (x : Option Addr) (l : List α) : Prop :=
  l = [] ∨ ∃ b off, x = some ⟨b, off, none⟩ ∧ ok b ∧ b < W.heap.size ∧ ∀ i e, l[i]? = some e → ∃ vs : List Value, vs.length = size ∧ (∀ j u, vs[j]? = some u → W.cell? ⟨b, off + i * size + j, none⟩ = some u) ∧ V W ok vs e
theorem RowAt.keep {α : Type} {V : Rds α} (hV : KeepsV V) {size : Nat} {W W' : World} {ok ok' : Nat → Prop} {x : Option Addr} {l : List α} (h : RowAt V size W ok x l) (hs : W.heap.size ≤ W'.heap.size) (hk : ∀ b, ok b → b < W.heap.size → W'.heap[b]? = W.heap[b]?) (ho : ∀ b, ok b → b < W.heap.size → ok' b) : RowAt V size W' ok' x l := by
  rcases h with h | ⟨b, off, rfl, hb, hlt, hc⟩
  · exact .inl h
  · refine .inr ⟨b, off, rfl, ho b hb hlt, Nat.lt_of_lt_of_le hlt hs, fun i e hi => ?_⟩
    obtain ⟨vs, h1, h2, h3⟩ := hc i e hi
    exact ⟨vs, h1, fun j u hj => by rw [World.cell?_of_block (w := W) (hk b hb hlt)]; exact h2 j u hj, hV W W' ok ok' vs e h3 hs hk ho⟩

/-- A row of one's own that grows. -/
structure GRow {α : Type} (V : Rds α) (ty size : Nat) (W : World) (base : Nat) (v : Value) (l : List α) (xss : List (List Value)) : Prop where
  own : W.ownsRow base ty size v l.length xss.flatten
  len : xss.length = l.length
  each : ∀ (i : Nat) (vs : List Value), xss[i]? = some vs → vs.length = size
  el : ∀ (i : Nat) (vs : List Value) (e : α), xss[i]? = some vs → l[i]? = some e → V W (fun b => base ≤ b ∧ v.ownBlock ≠ some b) vs e
theorem GRow.nil {α : Type} (V : Rds α) (ty size : Nat) (W : World) (base : Nat) : GRow V ty size W base (.slice none 0 0) ([] : List α) [] :=
  ⟨World.ownsRow_nil _ _ _ _, rfl, fun i vs h => by simp at h, fun i vs e h => by simp at h⟩
theorem GRow.keep {α : Type} {V : Rds α} (hV : KeepsV V) {ty size : Nat} {W W' : World} {base : Nat} {v : Value} {l : List α} {xss : List (List Value)} (h : GRow V ty size W base v l xss) {row : Option Nat} (hg : W.grownBy W' row) (hr : ∀ k, row = some k → k < base) : GRow V ty size W' base v l xss := by
  refine ⟨h.own.kept hg ?_, h.len, h.each, fun i vs e h1 h2 => hV W W' _ _ vs e (h.el i vs e h1 h2) hg.size (fun b hb hlt => hg.block b hlt (fun k => by have := hr b k.symm; omega)) (fun b k _ => k)⟩
  cases hv : v.ownBlock with
  | none => exact .inl rfl
  | some k =>
    refine .inr (fun e => ?_)
    have := (h.own.lt k hv).1
    have := hr k e.symm
    omega
theorem GRow.bel {α : Type} {V : Rds α} (hV : KeepsV V) {ty size : Nat} {W W' : World} {base : Nat} {v : Value} {l : List α} {xss : List (List Value)} (h : GRow V ty size W base v l xss) (hb : Below W.heap.size W W') : GRow V ty size W' base v l xss :=
  h.keep hV (row := none) ⟨hb.os, hb.tape, hb.output, hb.size, fun i hi _ => hb.block i hi⟩ (fun k e => by cases e)
/-- One element more. -/
theorem GRow.app {α : Type} {V : Rds α} (hV : KeepsV V) {ty size : Nat} {W W' : World} {base g cap n : Nat} {v : Value} {l : List α} {xss : List (List Value)} (h : GRow V ty size W base v l xss) {vs : List Value} {e : α} (hvs : vs.length = size) (hn : n = l.length)
    (he : V W (fun b => base ≤ b ∧ v.ownBlock ≠ some b) vs e) (own : W'.ownsRow base ty size (.slice (some ⟨g, 0, none⟩) (n + 1) cap) (n + 1) (xss.flatten ++ vs)) (hg : W.grownBy W' v.ownBlock) (hwhere : v.ownBlock = some g ∨ W.heap.size ≤ g) :
    GRow V ty size W' base (.slice (some ⟨g, 0, none⟩) (n + 1) cap) (l ++ [e]) (xss ++ [vs]) := by
  subst hn
  have ok : ∀ b, (base ≤ b ∧ v.ownBlock ≠ some b) → b < W.heap.size → base ≤ b ∧ (Value.slice (some ⟨g, 0, none⟩) (l.length + 1) cap).ownBlock ≠ some b := fun b k hlt => ⟨k.1, fun e => by
    have e : some g = some b := e
    cases e
    rcases hwhere with hw | hw
    · exact k.2 hw
    · omega⟩
  have kp : ∀ b, (base ≤ b ∧ v.ownBlock ≠ some b) → b < W.heap.size → W'.heap[b]? = W.heap[b]? := fun b k hlt => hg.block b hlt (fun e => k.2 e.symm)
  refine ⟨by simpa using own, by simp [h.len], fun i us hi => ?_, fun i us x hi hx => ?_⟩
  · rcases Nat.lt_or_ge i xss.length with k | k
    · rw [List.getElem?_append_left k] at hi; exact h.each i us hi
    · rw [List.getElem?_append_right k] at hi
      cases hj : i - xss.length with
      | zero => rw [hj] at hi; cases hi; exact hvs
      | succ j => rw [hj] at hi; cases hi
  · rcases Nat.lt_or_ge i xss.length with k | k
    · rw [List.getElem?_append_left k] at hi
      rw [List.getElem?_append_left (by rw [← h.len]; exact k)] at hx
      exact hV W W' _ _ us x (h.el i us x hi hx) hg.size kp ok
    · rw [List.getElem?_append_right k] at hi
      rw [List.getElem?_append_right (by rw [← h.len]; exact k), ← h.len] at hx
      cases hj : i - xss.length with
      | zero =>
        rw [hj] at hi hx
        cases hi
        cases hx
        exact hV W W' _ _ vs e he hg.size kp ok
      | succ j => rw [hj] at hi; cases hi
theorem flat_at {size : Nat} : ∀ (xss : List (List Value)) (i j : Nat) (vs : List Value) (u : Value), (∀ (i : Nat) (vs : List Value), xss[i]? = some vs → vs.length = size) → xss[i]? = some vs → vs[j]? = some u → xss.flatten[i * size + j]? = some u
  | [], i, j, vs, u, _, h, _ => by simp at h
  | x :: xss, 0, j, vs, u, hs, h, hu => by
    obtain rfl : x = vs := by simpa using h
    have hj : j < x.length := by
      rcases Nat.lt_or_ge j x.length with k | k
      · exact k
      · rw [List.getElem?_eq_none k] at hu; cases hu
    simp only [Nat.zero_mul, Nat.zero_add, List.flatten_cons]
    rw [List.getElem?_append_left hj]; exact hu
  | x :: xss, i + 1, j, vs, u, hs, h, hu => by
    have hx : x.length = size := hs 0 x rfl
    have ih := flat_at xss i j vs u (fun i vs k => hs (i + 1) vs (by simpa using k)) (by simpa using h) hu
    simp only [List.flatten_cons]
    have e : (i + 1) * size + j = x.length + (i * size + j) := by rw [hx, Nat.add_mul]; omega
    rw [e, List.getElem?_append_right (by omega)]
    have : x.length + (i * size + j) - x.length = i * size + j := by omega
    rw [this]; exact ih
/-- What has grown can be read. -/
theorem GRow.row {α : Type} {V : Rds α} (hV : KeepsV V) {ty size : Nat} {W : World} {base : Nat} {v : Value} {l : List α} {xss : List (List Value)} (h : GRow V ty size W base v l xss) (hs : 0 < size) : ∃ x cap, v = .slice x l.length cap ∧ RowAt V size W (fun b => base ≤ b) x l := by
  rcases h.own.2 with ⟨rfl, hn⟩ | ⟨g, cap, cur, rfl, hb, hheap, _, _, _, _⟩
  · have : l = [] := List.length_eq_zero_iff.1 hn
    subst this
    exact ⟨none, 0, rfl, .inl rfl⟩
  · refine ⟨_, _, rfl, .inr ⟨g, 0, rfl, hb, (h.own.lt g rfl).2, fun i e hi => ?_⟩⟩
    have hil : i < l.length := by
      rcases Nat.lt_or_ge i l.length with k | k
      · exact k
      · rw [List.getElem?_eq_none k] at hi; cases hi
    have hil' : i < xss.length := by rw [h.len]; exact hil
    have hx : xss[i]? = some xss[i] := List.getElem?_eq_getElem hil'
    refine ⟨_, h.each i _ hx, fun j u hj => ?_, hV W W _ _ _ e (h.el i _ e hx hi) (Nat.le_refl _) (fun _ _ _ => rfl) (fun b k _ => k.1)⟩
    have hjs : j < size := by
      rw [← h.each i _ hx]
      rcases Nat.lt_or_ge j xss[i].length with k | k
      · exact k
      · rw [List.getElem?_eq_none k] at hj; cases hj
    have hb2 : i * size + j < l.length * size := by
      have := Nat.mul_le_mul_right size (show i + 1 ≤ l.length by omega)
      rw [Nat.add_mul] at this
      omega
    rw [Nat.zero_add, h.own.cellAt _ hb2]
    exact flat_at xss i j _ u h.each hx hj
end Go.Proofs.YtbfhaabpfkopdaaGreatDoor

/- The language: rows of tests, conditions read. -/
namespace Go.Proofs.YtbfhaabpfkopdaaGreatDoor
open Go.RowKit
set_option linter.unusedVariables false

def rowL (s : Bs) (k : Nat) : Nat → List Te → Wd → Res (List Te)
  | 0, _, _ => .out
  | n + 1, l, d => if d.text = [97, 110, 100] then (testF s k (nextW s d)).bind fun t d => rowL s k n (l ++ [t]) d else .ok l d
def rowF (s : Bs) (k n : Nat) (d : Wd) : Res (List Te) :=
  if d.text = [116, 114, 117, 101] then .ok [] (nextW s d) else (testF s k d).bind fun t d => rowL s k n [t] d
/-- A test's cells. -/
def teVals : Rds Te := fun W ok vs t => ∃ x cx y cy, vs = [.string (bs t.a.op), .int .i64 t.a.n, .string (bs t.a.name), .slice x t.a.l.length cx, .string (bs t.rel), .string (bs t.b.op), .int .i64 t.b.n, .string (bs t.b.name), .slice y t.b.l.length cy] ∧ ExsAt W ok x t.a.l ∧ ExsAt W ok y t.b.l
theorem teVals_keeps : KeepsV teVals := by
  rintro W W' ok ok' vs t ⟨x, cx, y, cy, rfl, h1, h2⟩ hs hk ho
  exact ⟨x, cx, y, cy, rfl, h1.keep hs hk ho, h2.keep hs hk ho⟩
theorem Tryz.infoTest : (Tryz.prog.info? 206).map (fun i => (i.zero, i.size, i.bytes)) = some (some (.agg #[.string ⟨#[]⟩, .int .i64 0, .string ⟨#[]⟩, .slice none 0 0, .string ⟨#[]⟩, .string ⟨#[]⟩, .int .i64 0, .string ⟨#[]⟩, .slice none 0 0]), 9, 144) := by kernel_rfl
/-- A list as a value: a slice that can be read. -/
def LsV {α : Type} (V : Rds α) (size : Nat) (W : World) (ok : Nat → Prop) (v : Value) (l : List α) : Prop := ∃ x cap, v = .slice x l.length cap ∧ RowAt V size W ok x l
/-- A literal of one element. -/
theorem GRow.lit {α : Type} {V : Rds α} (hV : KeepsV V) (ty size : Nat) (W : World) (base : Nat) (vs : List Value) (e : α) (hb : base ≤ W.heap.size) (hvs : vs.length = size) (he : V W (fun b => base ≤ b) vs e) :
    GRow V ty size (W.alloc (.cells vs.toArray ty)) base (.slice (some ⟨W.heap.size, 0, none⟩) 1 1) [e] [vs] := by
  have own := World.ownsRow_lit (base := base) (e := ty) (size := size) W vs.toArray 1 hb (by unfold maxLen; omega) (by simp [hvs])
  have hb2 := (Below.refl W.heap.size W).alloc (Nat.le_refl _) (.cells vs.toArray ty)
  refine ⟨by simpa using own, rfl, fun i us hi => ?_, fun i us x hi hx => ?_⟩
  · rcases i with _ | i
    · cases hi; exact hvs
    · cases hi
  · rcases i with _ | i
    · cases hi
      cases hx
      exact hV W _ _ _ vs e he hb2.size (fun b _ hlt => hb2.block b hlt) (fun b k hlt => ⟨k, fun e => by have e : some W.heap.size = some b := e; cases e; omega⟩)
    · cases hi

theorem Rd.grownO {w0 W W' : World} {a : Nat → Addr} {p r : Nat} {s : Bs} {d : Wd} (h : Rd w0 W a p r s d) {row : Option Nat} (hg : W.grownBy W' row) (hr : ∀ q, row = some q → p < q) : Rd w0 W' a p r s d := by
  have hne : row ≠ some p := fun e => by have := hr p e; omega
  have k : ∀ o, W'.cell? ⟨p, o, none⟩ = W.cell? ⟨p, o, none⟩ := fun o => World.grownBy.cell_far hg ⟨p, o, none⟩ h.lt (fun e => hne e.symm)
  exact ⟨h.env, h.bel.grown hg h.bel.size (fun q e => by have := hr q e; have := h.ge; omega), h.ge, Nat.lt_of_lt_of_le h.lt hg.size, by rw [k]; exact h.c0, by rw [k]; exact h.c1, by rw [k]; exact h.c2, by rw [k]; exact h.c3, by rw [k]; exact h.c4, fun o => (World.grownBy.frozen_far hg ⟨p, o, none⟩ h.lt (fun e => hne e.symm)).trans (h.fr o), h.ins, h.ls⟩
theorem Gr.grownN {p : Nat} {W W' W2 : World} (h : Gr p W W') {row : Option Nat} (hg : W'.grownBy W2 row) (hr : ∀ q, row = some q → W.heap.size ≤ q) : Gr p W W2 :=
  ⟨hg.os.trans h.os, hg.tape.trans h.tape, hg.output.trans h.output, Nat.le_trans h.size hg.size, fun i hi hne => (hg.block i (Nat.lt_of_lt_of_le hi h.size) (fun e => by have := hr i e.symm; omega)).trans (h.block i hi hne)⟩
theorem cells_new (W : World) (t : TypeId) (vs : List Value) : ∀ j u, vs[j]? = some u → (W.alloc (.cells vs.toArray t)).cell? ((⟨W.heap.size, 0, none⟩ : Addr).add j) = some u := by
  intro j u h
  have e : ((⟨W.heap.size, 0, none⟩ : Addr).add j) = ⟨W.heap.size, j, none⟩ := by
    unfold Addr.add
    simp
    intro h0
    exact h0.symm
  rw [e]
  simp [h]
set_option maxRecDepth 20000 in
set_option maxHeartbeats 4000000 in
theorem row_any (w0 : World) (a : Nat → Addr) (p r k n : Nat) (s : Bs) (d : Wd) (w : World) (h : Rd w0 w a p r s d) (hn : n ≤ 1000000) (hne : Hid (rowF s k n d ≠ .out)) :
    Calls Tryz.prog 273 #[.pointer (some ⟨p, 0, none⟩)] w fun e w' => RPost w0 a p r s (rowF s k n d) (fun W' v l => LsV teVals 9 W' (fun b => w.heap.size ≤ b) v l) w e w' := by
  obtain ⟨i0, hi0, hz0, hz1, hz2⟩ := info_parts Tryz.infoTest
  have hpw := h.lt
  have HT := hide (take_any w0 a p r s [116, 114, 117, 101] d w h)
  by_cases ht : d.text = [116, 114, 117, 101]
  · have hres : rowF s k n d = .ok [] (nextW s d) := by unfold rowF; rw [if_pos ht]
    rw [hres]
    simp only [if_pos ht] at HT
    clear hres hne ht
    go_enter Tryz.func273, Tryz.ntmps273
    go_wp2_with fail
    refine HT.out.mono ?_
    rintro e w1 ⟨⟨rfl, hR1⟩, hG1⟩
    go_wp2_with fail
    go_ret
    exact ⟨hG1, _, rfl, hR1, none, 0, rfl, .inl rfl⟩
  · have hres : rowF s k n d = (testF s k d).bind fun t d => rowL s k n [t] d := by unfold rowF; rw [if_neg ht]
    rw [hres] at hne ⊢
    simp only [if_neg ht] at HT
    clear hres ht
    have HF1 : Hid (testF s k d ≠ .out) := bind_ne hne.out
    have H1 := hide (test_any w0 a p r k s d w h HF1)
    cases e1 : testF s k d with
    | out => exact absurd e1 HF1.out
    | err c pos =>
      rw [e1] at H1
      show Calls _ _ _ _ (fun e w' => RPost w0 a p r s (.err c pos) _ w e w')
      clear hne HF1 e1
      go_enter Tryz.func273, Tryz.ntmps273
      go_wp2_with fail
      refine HT.out.mono ?_
      rintro e w1 ⟨⟨rfl, hw1⟩, hx1⟩
      rw [hw1]
      clear hx1 hw1 w1
      go_wp2_with fail
      refine H1.out.mono ?_
      rintro e w2 ⟨hG2, N, rfl, hF, hlt2⟩
      go_wp2_with fail
      exact ⟨rfl, hG2, N, rfl, hF, hlt2⟩
    | ok t1 d1 =>
      rw [e1] at H1 hne
      show Calls _ _ _ _ (fun e w' => RPost w0 a p r s (rowL s k n [t1] d1) _ w e w')
      have Hne1 : Hid (rowL s k n [t1] d1 ≠ .out) := hne.out
      clear hne HF1 e1
      go_enter Tryz.func273, Tryz.ntmps273
      go_wp2_with fail
      refine HT.out.mono ?_
      rintro e w1 ⟨⟨rfl, hw1⟩, hx1⟩
      rw [hw1]
      clear hx1 hw1 w1
      go_wp2_with fail
      refine H1.out.mono ?_
      rintro e w2 ⟨hG2, v2, rfl, hR2, x, cx, y, cy, rfl, hX, hY⟩
      have sz2 := hG2.size
      have g0 := GRow.lit teVals_keeps 206 9 w2 w.heap.size [.string (bs t1.a.op), .int .i64 t1.a.n, .string (bs t1.a.name), .slice x t1.a.l.length cx, .string (bs t1.rel), .string (bs t1.b.op), .int .i64 t1.b.n, .string (bs t1.b.name), .slice y t1.b.l.length cy] t1 sz2 rfl ⟨x, cx, y, cy, rfl, hX, hY⟩
      have hR3 := hR2.alloc (.cells #[.string (bs t1.a.op), .int .i64 t1.a.n, .string (bs t1.a.name), .slice x t1.a.l.length cx, .string (bs t1.rel), .string (bs t1.b.op), .int .i64 t1.b.n, .string (bs t1.b.name), .slice y t1.b.l.length cy] 206)
      have hG3 := hG2.alloc (.cells #[.string (bs t1.a.op), .int .i64 t1.a.n, .string (bs t1.a.name), .slice x t1.a.l.length cx, .string (bs t1.rel), .string (bs t1.b.op), .int .i64 t1.b.n, .string (bs t1.b.name), .slice y t1.b.l.length cy] 206)
      clear hX hY hR2 hG2 HT H1
      go_wp2_with fail
      go_loopg [3] n (fun gh t wx => ∃ (v : Value) (l : List Te) (xss : List (List Value)) (d' : Wd), v = t ∧ l.length + gh = n + 1 ∧ 1 ≤ l.length ∧ GRow teVals 206 9 wx w.heap.size v l xss ∧ Rd w0 wx a p r s d' ∧ Gr p w wx ∧ Hid (rowL s k n [t1] d1 = rowL s k gh l d') ∧ Hid (rowL s k gh l d' ≠ .out))
      case atStart => exact ⟨_, [t1], _, d1, rfl, by simp; omega, by simp, g0, hR3, hG3, rfl, Hne1⟩
      case round =>
        clear g0 hR3 hG3 Hne1
        obtain ⟨v, l, xss, d', rfl, hlg, hl1, g, h', hG, He, hne⟩ := hrel
        cases gk with
        | zero => exact absurd rfl hne.out
        | succ gg =>
          have HT2 := hide (take_any w0 a p r s [97, 110, 100] d' wr h')
          by_cases hta : d'.text = [97, 110, 100]
          · have hst : rowL s k (gg + 1) l d' = (testF s k (nextW s d')).bind fun t d => rowL s k gg (l ++ [t]) d := by
              show (if d'.text = [97, 110, 100] then _ else _) = _
              rw [if_pos hta]
            rw [hst] at He hne
            simp only [if_pos hta] at HT2
            clear hst hta
            have HF2 : Hid (testF s k (nextW s d') ≠ .out) := bind_ne hne.out
            have H2 : Hid (∀ W : World, Rd w0 W a p r s (nextW s d') → Calls Tryz.prog 290 #[.pointer (some ⟨p, 0, none⟩)] W fun e w' => RPost w0 a p r s (testF s k (nextW s d')) (fun W' v t => TeV W' (fun b => W.heap.size ≤ b) v t) W e w') := fun W hW => test_any w0 a p r k s _ W hW HF2
            cases e2 : testF s k (nextW s d') with
            | out => exact absurd e2 HF2.out
            | err c pos =>
              rw [e2] at H2 He
              have Hst : Hid (rowL s k n [t1] d1 = .err c pos) := He.out
              clear e2 He hne HF2
              go_wp2_with fail
              refine HT2.out.mono ?_
              rintro e w3 ⟨⟨rfl, hR3⟩, hG3⟩
              go_wp2_with fail
              refine (H2.out _ hR3).mono ?_
              rintro e w4 ⟨hG4, N, rfl, hF, hlt4⟩
              go_wp2_with fail
              refine ⟨rfl, ?_⟩
              rw [Hst.out]
              exact ⟨(hG.trans hG3).trans hG4, N, rfl, hF, hlt4⟩
            | ok t2 d2 =>
              rw [e2] at H2 He hne
              clear e2 HF2
              go_wp2_with fail
              refine HT2.out.mono ?_
              rintro e w3 ⟨⟨rfl, hR3⟩, hG3⟩
              go_wp2_with fail
              refine (H2.out _ hR3).mono ?_
              rintro e w4 ⟨hG4, v4, rfl, hR4, x, cx, y, cy, rfl, hX, hY⟩
              have hp : ∀ q, (some p : Option Nat) = some q → q < w.heap.size := fun q e => by cases e; exact hpw
              have g4 := (g.keep teVals_keeps hG3 hp).keep teVals_keeps hG4 hp
              have own4 := g4.own
              have sz3 := hG3.size
              have sz4 := hG4.size
              have szw := hG.size
              have hle : ∀ q, v.ownBlock = some q → q < wr.heap.size := fun q e => (g.own.lt q e).2
              have hV4 : teVals w4 (fun b => w.heap.size ≤ b ∧ v.ownBlock ≠ some b) [.string (bs t2.a.op), .int .i64 t2.a.n, .string (bs t2.a.name), .slice x t2.a.l.length cx, .string (bs t2.rel), .string (bs t2.b.op), .int .i64 t2.b.n, .string (bs t2.b.name), .slice y t2.b.l.length cy] t2 :=
                ⟨x, cx, y, cy, rfl, hX.mono (fun b q _ => ⟨by have : w3.heap.size ≤ b := q; omega, fun e => by have := hle b e; have : w3.heap.size ≤ b := q; omega⟩), hY.mono (fun b q _ => ⟨by have : w3.heap.size ≤ b := q; omega, fun e => by have := hle b e; have : w3.heap.size ≤ b := q; omega⟩)⟩
              have hb4 := (Below.refl w4.heap.size w4).alloc (Nat.le_refl _) (.cells #[.string (bs t2.a.op), .int .i64 t2.a.n, .string (bs t2.a.name), .slice x t2.a.l.length cx, .string (bs t2.rel), .string (bs t2.b.op), .int .i64 t2.b.n, .string (bs t2.b.name), .slice y t2.b.l.length cy] 206)
              have g5 := g4.bel teVals_keeps hb4
              have hV5 := teVals_keeps _ _ _ (fun b => w.heap.size ≤ b ∧ v.ownBlock ≠ some b) _ _ hV4 hb4.size (fun b _ hlt => hb4.block b hlt) (fun b q _ => q)
              have hR5 := hR4.below hb4
              have hG5 := ((hG.trans hG3).trans hG4).below hb4
              clear hX hY hR4 hV4 hb4 g4
              go_wp2_with (at_builtin; refine wpList_append_lies _ rfl _ _ 65 rfl w.heap.size 206 i0 _ 9 144 Tryz.underlying65 hi0 hz0 hz1 hz2 rfl (by decide) _ _ _ rfl (own4.alloc _) ⟨w4.heap.size, 0, none⟩ 1 1 [.string (bs t2.a.op), .int .i64 t2.a.n, .string (bs t2.a.name), .slice x t2.a.l.length cx, .string (bs t2.rel), .string (bs t2.b.op), .int .i64 t2.b.n, .string (bs t2.b.name), .slice y t2.b.l.length cy] rfl rfl (cells_new _ _ _) (by intro u hu; simp at hu; rcases hu with rfl | rfl | rfl | rfl | rfl | rfl | rfl | rfl | rfl <;> rfl) (by omega) (by unfold maxLen; omega) (by omega) (by simp; omega) (w4.heap.size + 1) (by simp) ?_)
              intro gB cap6 w6 own6 hg6 hat6 hlt6
              have g6 := g5.app teVals_keeps rfl rfl hV5 own6 hg6 (hat6.imp id (fun e => by rw [e]; simp))
              have hR6 : Rd w0 w6 a p r s d2 := hR5.grownO hg6 (fun q e => by have := (g.own.lt q e).1; omega)
              have hG6 : Gr p w w6 := hG5.grownN hg6 (fun q e => (g.own.lt q e).1)
              go_wp2_with fail
              go_roundg gg
              case measure => omega
              case rel => exact ⟨_, l ++ [t2], _, d2, rfl, by simp; omega, by simp, g6, hR6, hG6, He.out, hne.out⟩
          · have Hst : Hid (rowL s k n [t1] d1 = .ok l d') := by
              show _ = _
              rw [He.out]
              show (if d'.text = [97, 110, 100] then _ else _) = _
              rw [if_neg hta]
            simp only [if_neg hta] at HT2
            clear hta He hne
            go_wp2_with fail
            refine HT2.out.mono ?_
            rintro e w3 ⟨⟨rfl, hw3⟩, hx3⟩
            rw [hw3]
            clear hx3 hw3 w3
            go_wp2_with fail
            go_ret
            rw [Hst.out]
            obtain ⟨x, cap, rfl, hrow⟩ := g.row teVals_keeps (by omega)
            exact ⟨hG, _, rfl, h', x, cap, rfl, hrow⟩
end Go.Proofs.YtbfhaabpfkopdaaGreatDoor

/- The language: conditions read. -/
namespace Go.Proofs.YtbfhaabpfkopdaaGreatDoor
open Go.RowKit
set_option linter.unusedVariables false

def condL (s : Bs) (k : Nat) : Nat → List (List Te) → Wd → Res (List (List Te))
  | 0, _, _ => .out
  | n + 1, l, d => if d.text = [111, 114] then (rowF s k k (nextW s d)).bind fun t d => condL s k n (l ++ [t]) d else .ok l d
def condF (s : Bs) (k n : Nat) (d : Wd) : Res (List (List Te)) :=
  if d.text = [102, 97, 108, 115, 101] then .ok [] (nextW s d) else (rowF s k k d).bind fun t d => condL s k n [t] d
/-- A row's cell. -/
def coVals : Rds (List Te) := fun W ok vs t => ∃ x cx, vs = [.slice x t.length cx] ∧ RowAt teVals 9 W ok x t
theorem coVals_keeps : KeepsV coVals := by
  rintro W W' ok ok' vs t ⟨x, cx, rfl, h1⟩ hs hk ho
  exact ⟨x, cx, rfl, h1.keep teVals_keeps hs hk ho⟩
theorem Tryz.infoRow : (Tryz.prog.info? 65).map (fun i => (i.zero, i.size, i.bytes)) = some (some (.slice none 0 0), 1, 24) := by kernel_rfl

set_option maxRecDepth 20000 in
set_option maxHeartbeats 4000000 in
theorem cond_any (w0 : World) (a : Nat → Addr) (p r k n : Nat) (s : Bs) (d : Wd) (w : World) (h : Rd w0 w a p r s d) (hn : n ≤ 1000000) (hk : k ≤ 1000000) (hne : Hid (condF s k n d ≠ .out)) :
    Calls Tryz.prog 245 #[.pointer (some ⟨p, 0, none⟩)] w fun e w' => RPost w0 a p r s (condF s k n d) (fun W' v l => LsV coVals 1 W' (fun b => w.heap.size ≤ b) v l) w e w' := by
  obtain ⟨i0, hi0, hz0, hz1, hz2⟩ := info_parts Tryz.infoRow
  have hpw := h.lt
  have HT := hide (take_any w0 a p r s [102, 97, 108, 115, 101] d w h)
  by_cases ht : d.text = [102, 97, 108, 115, 101]
  · have hres : condF s k n d = .ok [] (nextW s d) := by unfold condF; rw [if_pos ht]
    rw [hres]
    simp only [if_pos ht] at HT
    clear hres hne ht
    go_enter Tryz.func245, Tryz.ntmps245
    go_wp2_with fail
    refine HT.out.mono ?_
    rintro e w1 ⟨⟨rfl, hR1⟩, hG1⟩
    go_wp2_with fail
    go_ret
    exact ⟨hG1, _, rfl, hR1, none, 0, rfl, .inl rfl⟩
  · have hres : condF s k n d = (rowF s k k d).bind fun t d => condL s k n [t] d := by unfold condF; rw [if_neg ht]
    rw [hres] at hne ⊢
    simp only [if_neg ht] at HT
    clear hres ht
    have HF1 : Hid (rowF s k k d ≠ .out) := bind_ne hne.out
    have H1 := hide (row_any w0 a p r k k s d w h hk HF1)
    cases e1 : rowF s k k d with
    | out => exact absurd e1 HF1.out
    | err c pos =>
      rw [e1] at H1
      show Calls _ _ _ _ (fun e w' => RPost w0 a p r s (.err c pos) _ w e w')
      clear hne HF1 e1
      go_enter Tryz.func245, Tryz.ntmps245
      go_wp2_with fail
      refine HT.out.mono ?_
      rintro e w1 ⟨⟨rfl, hw1⟩, hx1⟩
      rw [hw1]
      clear hx1 hw1 w1
      go_wp2_with fail
      refine H1.out.mono ?_
      rintro e w2 ⟨hG2, N, rfl, hF, hlt2⟩
      go_wp2_with fail
      exact ⟨rfl, hG2, N, rfl, hF, hlt2⟩
    | ok t1 d1 =>
      rw [e1] at H1 hne
      show Calls _ _ _ _ (fun e w' => RPost w0 a p r s (condL s k n [t1] d1) _ w e w')
      have Hne1 : Hid (condL s k n [t1] d1 ≠ .out) := hne.out
      clear hne HF1 e1
      go_enter Tryz.func245, Tryz.ntmps245
      go_wp2_with fail
      refine HT.out.mono ?_
      rintro e w1 ⟨⟨rfl, hw1⟩, hx1⟩
      rw [hw1]
      clear hx1 hw1 w1
      go_wp2_with fail
      refine H1.out.mono ?_
      rintro e w2 ⟨hG2, v2, rfl, hR2, x, cx, rfl, hX⟩
      have sz2 := hG2.size
      have g0 := GRow.lit coVals_keeps 65 1 w2 w.heap.size [.slice x t1.length cx] t1 sz2 rfl ⟨x, cx, rfl, hX⟩
      have hR3 := hR2.alloc (.cells #[.slice x t1.length cx] 65)
      have hG3 := hG2.alloc (.cells #[.slice x t1.length cx] 65)
      clear hX hR2 hG2 HT H1
      go_wp2_with fail
      go_loopg [3] n (fun gh t wx => ∃ (v : Value) (l : List (List Te)) (xss : List (List Value)) (d' : Wd), v = t ∧ l.length + gh = n + 1 ∧ 1 ≤ l.length ∧ GRow coVals 65 1 wx w.heap.size v l xss ∧ Rd w0 wx a p r s d' ∧ Gr p w wx ∧ Hid (condL s k n [t1] d1 = condL s k gh l d') ∧ Hid (condL s k gh l d' ≠ .out))
      case atStart => exact ⟨_, [t1], _, d1, rfl, by simp; omega, by simp, g0, hR3, hG3, rfl, Hne1⟩
      case round =>
        clear g0 hR3 hG3 Hne1
        obtain ⟨v, l, xss, d', rfl, hlg, hl1, g, h', hG, He, hne⟩ := hrel
        cases gk with
        | zero => exact absurd rfl hne.out
        | succ gg =>
          have HT2 := hide (take_any w0 a p r s [111, 114] d' wr h')
          by_cases hta : d'.text = [111, 114]
          · have hst : condL s k (gg + 1) l d' = (rowF s k k (nextW s d')).bind fun t d => condL s k gg (l ++ [t]) d := by
              show (if d'.text = [111, 114] then _ else _) = _
              rw [if_pos hta]
            rw [hst] at He hne
            simp only [if_pos hta] at HT2
            clear hst hta
            have HF2 : Hid (rowF s k k (nextW s d') ≠ .out) := bind_ne hne.out
            have H2 : Hid (∀ W : World, Rd w0 W a p r s (nextW s d') → Calls Tryz.prog 273 #[.pointer (some ⟨p, 0, none⟩)] W fun e w' => RPost w0 a p r s (rowF s k k (nextW s d')) (fun W' v t => LsV teVals 9 W' (fun b => W.heap.size ≤ b) v t) W e w') := fun W hW => row_any w0 a p r k k s _ W hW hk HF2
            cases e2 : rowF s k k (nextW s d') with
            | out => exact absurd e2 HF2.out
            | err c pos =>
              rw [e2] at H2 He
              have Hst : Hid (condL s k n [t1] d1 = .err c pos) := He.out
              clear e2 He hne HF2
              go_wp2_with fail
              refine HT2.out.mono ?_
              rintro e w3 ⟨⟨rfl, hR3⟩, hG3⟩
              go_wp2_with fail
              refine (H2.out _ hR3).mono ?_
              rintro e w4 ⟨hG4, N, rfl, hF, hlt4⟩
              go_wp2_with fail
              refine ⟨rfl, ?_⟩
              rw [Hst.out]
              exact ⟨(hG.trans hG3).trans hG4, N, rfl, hF, hlt4⟩
            | ok t2 d2 =>
              rw [e2] at H2 He hne
              clear e2 HF2
              go_wp2_with fail
              refine HT2.out.mono ?_
              rintro e w3 ⟨⟨rfl, hR3⟩, hG3⟩
              go_wp2_with fail
              refine (H2.out _ hR3).mono ?_
              rintro e w4 ⟨hG4, v4, rfl, hR4, x, cx, rfl, hX⟩
              have hp : ∀ q, (some p : Option Nat) = some q → q < w.heap.size := fun q e => by cases e; exact hpw
              have g4 := (g.keep coVals_keeps hG3 hp).keep coVals_keeps hG4 hp
              have own4 := g4.own
              have sz3 := hG3.size
              have sz4 := hG4.size
              have szw := hG.size
              have hle : ∀ q, v.ownBlock = some q → q < wr.heap.size := fun q e => (g.own.lt q e).2
              have hV4 : coVals w4 (fun b => w.heap.size ≤ b ∧ v.ownBlock ≠ some b) [.slice x t2.length cx] t2 :=
                ⟨x, cx, rfl, hX.keep teVals_keeps (Nat.le_refl _) (fun _ _ _ => rfl) (fun b q _ => ⟨by have : w3.heap.size ≤ b := q; omega, fun e => by have := hle b e; have : w3.heap.size ≤ b := q; omega⟩)⟩
              have hb4 := (Below.refl w4.heap.size w4).alloc (Nat.le_refl _) (.cells #[.slice x t2.length cx] 65)
              have g5 := g4.bel coVals_keeps hb4
              have hV5 := coVals_keeps _ _ _ (fun b => w.heap.size ≤ b ∧ v.ownBlock ≠ some b) _ _ hV4 hb4.size (fun b _ hlt => hb4.block b hlt) (fun b q _ => q)
              have hR5 := hR4.below hb4
              have hG5 := ((hG.trans hG3).trans hG4).below hb4
              clear hX hR4 hV4 hb4 g4
              go_wp2_with (at_builtin; refine wpList_append_lies _ rfl _ _ 183 rfl w.heap.size 65 i0 _ 1 24 Tryz.underlying183 hi0 hz0 hz1 hz2 rfl (by decide) _ _ _ rfl (own4.alloc _) ⟨w4.heap.size, 0, none⟩ 1 1 [.slice x t2.length cx] rfl rfl (cells_new _ _ _) (by intro u hu; simp at hu; subst hu; rfl) (by omega) (by unfold maxLen; omega) (by omega) (by simp; omega) (w4.heap.size + 1) (by simp) ?_)
              intro gB cap6 w6 own6 hg6 hat6 hlt6
              have g6 := g5.app coVals_keeps rfl rfl hV5 own6 hg6 (hat6.imp id (fun e => by rw [e]; simp))
              have hR6 : Rd w0 w6 a p r s d2 := hR5.grownO hg6 (fun q e => by have := (g.own.lt q e).1; omega)
              have hG6 : Gr p w w6 := hG5.grownN hg6 (fun q e => (g.own.lt q e).1)
              go_wp2_with fail
              go_roundg gg
              case measure => omega
              case rel => exact ⟨_, l ++ [t2], _, d2, rfl, by simp; omega, by simp, g6, hR6, hG6, He.out, hne.out⟩
          · have Hst : Hid (condL s k n [t1] d1 = .ok l d') := by
              show _ = _
              rw [He.out]
              show (if d'.text = [111, 114] then _ else _) = _
              rw [if_neg hta]
            simp only [if_neg hta] at HT2
            clear hta He hne
            go_wp2_with fail
            refine HT2.out.mono ?_
            rintro e w3 ⟨⟨rfl, hw3⟩, hx3⟩
            rw [hw3]
            clear hx3 hw3 w3
            go_wp2_with fail
            go_ret
            rw [Hst.out]
            obtain ⟨x, cap, rfl, hrow⟩ := g.row coVals_keeps (by omega)
            exact ⟨hG, _, rfl, h', x, cap, rfl, hrow⟩
end Go.Proofs.YtbfhaabpfkopdaaGreatDoor
