/- The language: Text. -/
import Derived.Test.YtbfhaabpfkopdaaGreatDoorVe
namespace Go.Proofs.YtbfhaabpfkopdaaGreatDoor
open Go.RowKit
set_option linter.unusedVariables false

theorem PgV.bel {W W' : World} {ok : Nat → Prop} {v : Value} {x : Pg} (h : PgV W ok v x) (hb : Below W.heap.size W W') : PgV W' ok v x := h.keep hb.size (fun b _ hlt => hb.block b hlt) (fun b k _ => k)
theorem PgV.any {W : World} {ok : Nat → Prop} {v : Value} {x : Pg} (h : PgV W ok v x) : PgV W Any v x := h.keep (Nat.le_refl _) (fun b _ _ => rfl) (fun _ _ _ => trivial)
/-- What Text answers. -/
def textR (a : Nat → Addr) (x : Option Bs) : Value := match x with
  | some t => .tuple #[.string (bs t), .nilIface]
  | none => .tuple #[.string ⟨#[]⟩, errV a 3]
theorem textF_w {p : Pg} (h : writeF p = none) : textF p = none := by unfold textF; rw [h]
theorem textF_r {p x : Pg} {t : Bs} {d : Wd} (h : writeF p = some t) (hr : readF t = .ok x d) : textF p = if eqB x p = true then some t else none := by unfold textF; rw [h]; simp only; rw [hr]
theorem textF_e {p : Pg} {t : Bs} {c : Int} {q : Nat} (h : writeF p = some t) (hr : readF t = .err c q) : textF p = none := by unfold textF; rw [h]; simp only; rw [hr]
set_option maxRecDepth 20000 in
set_option maxHeartbeats 4000000 in
theorem text_any (a : Nat → Addr) (p : Pg) (v : Value) (w : World) (hS : Sents w a) (hL : LgW w) (hs : PgSm p) (hV : PgV w Any v p) : Calls Tryz.prog 29 #[v] w fun e w' => e = .returned (textR a (textF p)) ∧ Below w.heap.size w w' := by
  obtain ⟨res, hres⟩ : ∃ r, r = textR a (textF p) := ⟨_, rfl⟩
  have Hres := hide hres
  rw [← hres]
  clear hres
  have hV0 := hV
  obtain ⟨xv, cv, xa, ca, xp, cp, xm, cm, rfl, _, _, _, _⟩ := hV0
  have hb0 : Below w.heap.size w (w.alloc (Obj.cells #[.slice xv p.vars.length cv, .slice xa p.arrays.length ca, .slice xp p.procs.length cp, .slice xm p.main.length cm] 42)) := (Below.refl _ _).alloc (Nat.le_refl _) _
  have G0 : BoxN (w.alloc (Obj.cells #[.slice xv p.vars.length cv, .slice xa p.arrays.length ca, .slice xp p.procs.length cp, .slice xm p.main.length cm] 42)) w.heap.size [.slice xv p.vars.length cv, .slice xa p.arrays.length ca, .slice xp p.procs.length cp, .slice xm p.main.length cm] := BoxN.new w 42 [.slice xv p.vars.length cv, .slice xa p.arrays.length ca, .slice xp p.procs.length cp, .slice xm p.main.length cm]
  obtain ⟨W0, hW0⟩ : ∃ W, W = w.alloc (Obj.cells #[.slice xv p.vars.length cv, .slice xa p.arrays.length ca, .slice xp p.procs.length cp, .slice xm p.main.length cm] 42) := ⟨_, rfl⟩
  rw [← hW0] at hb0 G0
  have hL0 := hL.below hb0
  have hS0 := hS.below hb0
  have hVa := hV.bel hb0
  have H1 := hide (textOf_any p _ W0 hL0 hs hVa)
  go_enter Tryz.func29, Tryz.ntmps29
  go_upto_region 1 with fail
  change Code.wp _ _ _ _ (w.alloc (Obj.cells #[.slice xv p.vars.length cv, .slice xa p.arrays.length ca, .slice xp p.procs.length cp, .slice xm p.main.length cm] 42))
  rw [← hW0]
  clear hW0
  obtain ⟨g, hg⟩ : ∃ g, g = w.heap.size := ⟨_, rfl⟩
  have hg1 : w.heap.size ≤ g := by omega
  rw [← hg] at G0 ⊢
  clear hg
  have q0 := G0.cell 0 _ rfl
  have q1 := G0.cell 1 _ rfl
  have q2 := G0.cell 2 _ rfl
  have q3 := G0.cell 3 _ rfl
  go_wp2_with fail
  refine H1.out.mono ?_
  rintro e w1 ⟨rfl, hb1⟩
  have hbA := hb0.trans (hb1.mono hb0.size)
  have G1 := G0.bel hb1
  have hS1 := hS0.below hb1
  have hL1 := hL0.below hb1
  have hV1 := hVa.bel hb1
  clear H1 q0 q1 q2 q3 hVa hV
  cases ew : writeF p with
  | none =>
    have Hr : Hid (res = .tuple #[.string ⟨#[]⟩, errV a 3]) := by show _ = _; rw [Hres.out, textF_w ew]; rfl
    have eS : w1.drew.cell? ⟨1, 0, none⟩ = some (errV a 3) := hS1.cell 2 (by omega)
    unfold errV at eS Hr
    unfold textV
    simp only
    go_wp2_with fail
    go_region
    go_wp2_with fail
    go_ret2
    exact ⟨by rw [Hr.out]; rfl, hbA.drew⟩
  | some t =>
    have htl := writeF_len ew
    have H2 := hide (read_any a t w1 hS1 hL1 htl)
    unfold textV
    simp only
    go_wp2_with fail
    refine H2.out.mono ?_
    rintro e w2 ⟨hb2, hP⟩
    have hbB := hbA.trans (hb2.mono hbA.size)
    have G2 := G1.bel hb2
    have hS2 := hS1.below hb2
    have hV2 := hV1.bel hb2
    clear H2
    cases er : readF t with
    | out => rw [er] at hP; exact hP.elim
    | err c pos =>
      rw [er] at hP
      obtain ⟨N, rfl, hF, hN⟩ := hP
      have Hr : Hid (res = .tuple #[.string ⟨#[]⟩, errV a 3]) := by show _ = _; rw [Hres.out, textF_e ew er]; rfl
      have eS : (w2.alloc (Obj.cells #[.slice none 0 0, .slice none 0 0, .slice none 0 0, .slice none 0 0] 42)).drew.cell? ⟨1, 0, none⟩ = some (errV a 3) := (hS2.below ((Below.refl _ _).alloc (Nat.le_refl _) (Obj.cells #[.slice none 0 0, .slice none 0 0, .slice none 0 0, .slice none 0 0] 42))).cell 2 (by omega)
      have hbC : Below w.heap.size w (w2.alloc (Obj.cells #[.slice none 0 0, .slice none 0 0, .slice none 0 0, .slice none 0 0] 42)) := hbB.alloc hbB.size _
      unfold errV at eS Hr
      go_wp2_with fail
      go_region
      go_wp2_with fail
      go_ret2
      exact ⟨by rw [Hr.out]; rfl, hbC.drew⟩
    | ok x d =>
      rw [er] at hP
      obtain ⟨v, rfl, hVx⟩ := hP
      have hVx := hVx.any
      have hVx0 := hVx
      obtain ⟨yv, dv, ya, da, yp, dp, ym, dm, rfl, _, _, _, _⟩ := hVx0
      have hsx := (readF_ok htl er).sm
      have hb3 : Below w2.heap.size w2 (w2.alloc (Obj.cells #[.slice yv x.vars.length dv, .slice ya x.arrays.length da, .slice yp x.procs.length dp, .slice ym x.main.length dm] 42)) := (Below.refl _ _).alloc (Nat.le_refl _) _
      have Y3 : BoxN (w2.alloc (Obj.cells #[.slice yv x.vars.length dv, .slice ya x.arrays.length da, .slice yp x.procs.length dp, .slice ym x.main.length dm] 42)) w2.heap.size [.slice yv x.vars.length dv, .slice ya x.arrays.length da, .slice yp x.procs.length dp, .slice ym x.main.length dm] := BoxN.new w2 42 [.slice yv x.vars.length dv, .slice ya x.arrays.length da, .slice yp x.procs.length dp, .slice ym x.main.length dm]
      obtain ⟨W3, hW3⟩ : ∃ W, W = w2.alloc (Obj.cells #[.slice yv x.vars.length dv, .slice ya x.arrays.length da, .slice yp x.procs.length dp, .slice ym x.main.length dm] 42) := ⟨_, rfl⟩
      rw [← hW3] at hb3 Y3
      have G3 := G2.bel hb3
      have hS3 := hS2.below hb3
      have hbC := hbB.trans (hb3.mono hbB.size)
      have H3 := hide (same_pg W3 x p hsx W3 _ _ (Below.refl _ _) (hVx.bel hb3) (hV2.bel hb3))
      have Hq := hide (textF_r ew er)
      go_upto_region 5 with fail
      change Code.wp _ _ _ _ (w2.alloc (Obj.cells #[.slice yv x.vars.length dv, .slice ya x.arrays.length da, .slice yp x.procs.length dp, .slice ym x.main.length dm] 42))
      rw [← hW3]
      clear hW3
      obtain ⟨g2, hg2⟩ : ∃ g, g = w2.heap.size := ⟨_, rfl⟩
      rw [← hg2] at Y3 ⊢
      clear hg2
      have q0 := G3.cell 0 _ rfl
      have q1 := G3.cell 1 _ rfl
      have q2 := G3.cell 2 _ rfl
      have q3 := G3.cell 3 _ rfl
      have r0 := Y3.cell 0 _ rfl
      have r1 := Y3.cell 1 _ rfl
      have r2 := Y3.cell 2 _ rfl
      have r3 := Y3.cell 3 _ rfl
      clear er ew
      go_wp2_with fail
      refine H3.out.mono ?_
      rintro e w4 ⟨rfl, hb4⟩
      have hbD := hbC.trans (hb4.mono hbC.size)
      have hS4 := hS3.below hb4
      clear q0 q1 q2 q3 r0 r1 r2 r3 H3
      cases ev : eqB x p with
      | true =>
        have Hr : Hid (res = .tuple #[.string (bs t), .nilIface]) := by show _ = _; rw [Hres.out, Hq.out, ev]; rfl
        go_wp2_with fail
        go_ret2
        exact ⟨by rw [Hr.out]; rfl, hbD⟩
      | false =>
        have Hr : Hid (res = .tuple #[.string ⟨#[]⟩, errV a 3]) := by show _ = _; rw [Hres.out, Hq.out, ev]; rfl
        have eS : w4.drew.cell? ⟨1, 0, none⟩ = some (errV a 3) := hS4.cell 2 (by omega)
        unfold errV at eS Hr
        go_wp2_with fail
        go_region
        go_wp2_with fail
        go_ret2
        exact ⟨by rw [Hr.out]; rfl, hbD.drew⟩
end Go.Proofs.YtbfhaabpfkopdaaGreatDoor
