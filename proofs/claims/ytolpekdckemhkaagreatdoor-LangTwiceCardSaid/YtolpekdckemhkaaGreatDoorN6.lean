/- The statements' helpers: programs copied: ProgramOf. -/
import Derived.Test.YtolpekdckemhkaaGreatDoorN5
namespace Go.Proofs.YtolpekdckemhkaaGreatDoor
open Go.RowKit
set_option linter.unusedVariables false
/-- A procedure that is being copied: its box, and what lies behind it. -/
structure PcBx (wo W : World) (q N : Nat) (c : Pc) (pv : Value) (x4 : Option Addr) (c4 : Nat) (x5 : Option Addr) (c5 : Nat) : Prop where
  box : BoxN W q [.string (bs c.name), pv, .slice x4 c.body.length c4, .string (bs c.ret.op), .int .i64 c.ret.n, .string (bs c.ret.name), .slice x5 c.ret.l.length c5]
  ge : wo.heap.size ≤ q
  lt : q < N
  mN : N ≤ W.heap.size
  tb : RowAt stVals 7 W (okM wo N q) x4 c.body
  te : RowAt exVals 4 W (okM wo N q) x5 c.ret.l
  bel : Below wo.heap.size wo W
theorem PcBx.below {wo W W' : World} {q N : Nat} {c : Pc} {pv : Value} {x4 : Option Addr} {c4 : Nat} {x5 : Option Addr} {c5 : Nat} (h : PcBx wo W q N c pv x4 c4 x5 c5) (hb : Below W.heap.size W W') : PcBx wo W' q N c pv x4 c4 x5 c5 :=
  ⟨h.box.bel hb, h.ge, h.lt, Nat.le_trans h.mN hb.size, h.tb.belM stVals_keeps hb, h.te.belM exVals_keeps hb, h.bel.trans (hb.mono h.bel.size)⟩
theorem PcBx.set {wo W : World} {q N : Nat} {c : Pc} {pv : Value} {x4 : Option Addr} {c4 : Nat} {x5 : Option Addr} {c5 : Nat} (h : PcBx wo W q N c pv x4 c4 x5 c5) (u : Value) : PcBx wo (W.setCell ⟨q, 1, none⟩ u) q N c u x4 c4 x5 c5 :=
  ⟨by simpa using h.box.put 1 (by simp) u, h.ge, h.lt, by simpa [World.setCell] using h.mN, h.tb.setM stVals_keeps u, h.te.setM exVals_keeps u, h.bel.setCell (p := ⟨q, 1, none⟩) h.ge u⟩
theorem PcBx.far {wo W W' : World} {q N : Nat} {c : Pc} {pv : Value} {x4 : Option Addr} {c4 : Nat} {x5 : Option Addr} {c5 : Nat} (h : PcBx wo W q N c pv x4 c4 x5 c5) {row : Option Nat} (hg : W.grownBy W' row) (hr : ∀ k, row = some k → N ≤ k) : PcBx wo W' q N c pv x4 c4 x5 c5 := by
  have := h.lt
  have := h.ge
  exact ⟨h.box.far hg (fun e => by have := hr _ e; omega), h.ge, h.lt, Nat.le_trans h.mN hg.size, h.tb.farM stVals_keeps hg hr, h.te.farM exVals_keeps hg hr, h.bel.grown hg h.bel.size (fun k e => by have := hr k e; omega)⟩
theorem PcBx.up {wo W : World} {q N : Nat} {c : Pc} {pv : Value} {x4 : Option Addr} {c4 : Nat} {x5 : Option Addr} {c5 : Nat} (h : PcBx wo W q N c pv x4 c4 x5 c5) : PcBx wo W q W.heap.size c pv x4 c4 x5 c5 :=
  ⟨h.box, h.ge, h.box.lt, Nat.le_refl _, h.tb.okk stVals_keeps (fun b k hlt => ⟨k.1, hlt, k.2.2⟩), h.te.okk exVals_keeps (fun b k hlt => ⟨k.1, hlt, k.2.2⟩), h.bel⟩
theorem PcBx.mk' {wo W : World} {q : Nat} {c : Pc} {x4 : Option Addr} {c4 : Nat} {x5 : Option Addr} {c5 : Nat} (hB : BoxN W q [.string ⟨#[]⟩, .slice none 0 0, .slice none 0 0, .string ⟨#[]⟩, .int .i64 0, .string ⟨#[]⟩, .slice none 0 0]) (hge : wo.heap.size ≤ q) (b : RowAt stVals 7 W (fun b => wo.heap.size ≤ b ∧ b ≠ q) x4 c.body) (d : RowAt exVals 4 W (fun b => wo.heap.size ≤ b ∧ b ≠ q) x5 c.ret.l) (hb : Below wo.heap.size wo W) :
    PcBx wo (putAll W q [(0, .string (bs c.name)), (1, .slice none 0 0), (2, .slice x4 c.body.length c4), (3, .string (bs c.ret.op)), (4, .int .i64 c.ret.n), (5, .string (bs c.ret.name)), (6, .slice x5 c.ret.l.length c5)]) q W.heap.size c (.slice none 0 0) x4 c4 x5 c5 := by
  obtain ⟨p1, p2⟩ := putAll_block q [(0, .string (bs c.name)), (1, .slice none 0 0), (2, .slice x4 c.body.length c4), (3, .string (bs c.ret.op)), (4, .int .i64 c.ret.n), (5, .string (bs c.ret.name)), (6, .slice x5 c.ret.l.length c5)] W
  have B9 := ((((((hB.put 0 (by simp) (.string (bs c.name))).put 1 (by simp) (.slice none 0 0)).put 2 (by simp) (.slice x4 c.body.length c4)).put 3 (by simp) (.string (bs c.ret.op))).put 4 (by simp) (.int .i64 c.ret.n)).put 5 (by simp) (.string (bs c.ret.name))).put 6 (by simp) (.slice x5 c.ret.l.length c5)
  refine ⟨B9, hge, hB.lt, Nat.le_of_eq p1.symm, b.keep stVals_keeps (Nat.le_of_eq p1.symm) (fun b k _ => p2 b k.2) (fun b k hlt => ⟨k.1, hlt, k.2⟩), d.keep exVals_keeps (Nat.le_of_eq p1.symm) (fun b k _ => p2 b k.2) (fun b k hlt => ⟨k.1, hlt, k.2⟩), ?_⟩
  exact ((((((hb.setCell (p := ⟨q, 0, none⟩) hge _).setCell (p := ⟨q, 1, none⟩) hge _).setCell (p := ⟨q, 2, none⟩) hge _).setCell (p := ⟨q, 3, none⟩) hge _).setCell (p := ⟨q, 4, none⟩) hge _).setCell (p := ⟨q, 5, none⟩) hge _).setCell (p := ⟨q, 6, none⟩) hge _
set_option maxRecDepth 20000 in
set_option maxHeartbeats 16000000 in
theorem programOf_any (p : Pg) (h : PgFit p) (w : World) (v : Value) (hV : PgV w Any v p) : Calls Tryz.prog 12 #[v] w fun e w' => Below w.heap.size w w' ∧ ∃ v', e = .returned v' ∧ PgV w' (fun b => w.heap.size ≤ b) v' p := by
  obtain ⟨xv, cv, xa, ca, xp, cp, xm, cm, rfl, hv, ha, hp, hm⟩ := hV
  obtain ⟨iS, hiS, hzS0, hzS1, hzS2⟩ := info_parts Tryz.infoStr
  obtain ⟨iA, hiA, hzA0, hzA1, hzA2⟩ := info_parts Tryz.infoArr
  obtain ⟨iP, hiP, hzP0, hzP1, hzP2⟩ := info_parts Tryz.infoProc
  have hlv := h.vars
  obtain ⟨na, hna⟩ : ∃ n, Hid (n = p.arrays.length) := ⟨_, rfl⟩
  obtain ⟨np, hnp⟩ : ∃ n, Hid (n = p.procs.length) := ⟨_, rfl⟩
  have hla : na * 24 ≤ 140737488355328 := by rw [hna.out]; exact h.arrays.len
  have hlp : np * 128 ≤ 140737488355328 := by rw [hnp.out]; exact h.procs.len
  rw [← hna.out, ← hnp.out]
  have hb0 : Below w.heap.size w ((w.alloc (.cells #[.slice xv p.vars.length cv, .slice xa na ca, .slice xp np cp, .slice xm p.main.length cm] 27)).alloc (.cells #[.slice none 0 0, .slice none 0 0, .slice none 0 0, .slice none 0 0] 37)) := ((Below.refl _ _).alloc (Nat.le_refl _) _).alloc (by simp) _
  have A0 : BoxN ((w.alloc (.cells #[.slice xv p.vars.length cv, .slice xa na ca, .slice xp np cp, .slice xm p.main.length cm] 27)).alloc (.cells #[.slice none 0 0, .slice none 0 0, .slice none 0 0, .slice none 0 0] 37)) w.heap.size [.slice xv p.vars.length cv, .slice xa na ca, .slice xp np cp, .slice xm p.main.length cm] := (BoxN.new w 27 [.slice xv p.vars.length cv, .slice xa na ca, .slice xp np cp, .slice xm p.main.length cm]).bel ((Below.refl _ _).alloc (Nat.le_refl _) _)
  have R0 : BoxN ((w.alloc (.cells #[.slice xv p.vars.length cv, .slice xa na ca, .slice xp np cp, .slice xm p.main.length cm] 27)).alloc (.cells #[.slice none 0 0, .slice none 0 0, .slice none 0 0, .slice none 0 0] 37)) (w.heap.size + 1) [.slice none 0 0, .slice none 0 0, .slice none 0 0, .slice none 0 0] := by
    have := BoxN.new (w.alloc (.cells #[.slice xv p.vars.length cv, .slice xa na ca, .slice xp np cp, .slice xm p.main.length cm] 27)) 37 [.slice none 0 0, .slice none 0 0, .slice none 0 0, .slice none 0 0]; rw [World.size_alloc] at this; exact this
  obtain ⟨W0, hW0⟩ : ∃ X, X = (w.alloc (.cells #[.slice xv p.vars.length cv, .slice xa na ca, .slice xp np cp, .slice xm p.main.length cm] 27)).alloc (.cells #[.slice none 0 0, .slice none 0 0, .slice none 0 0, .slice none 0 0] 37) := ⟨_, rfl⟩
  rw [← hW0] at hb0 A0 R0
  go_enter Tryz.func12, Tryz.ntmps12
  go_upto_region 1 with fail
  change Code.wp _ _ _ _ ((w.alloc (.cells #[.slice xv p.vars.length cv, .slice xa na ca, .slice xp np cp, .slice xm p.main.length cm] 27)).alloc (.cells #[.slice none 0 0, .slice none 0 0, .slice none 0 0, .slice none 0 0] 37))
  rw [← hW0]
  clear hW0
  obtain ⟨g1, hg1⟩ : ∃ g, g = w.heap.size := ⟨_, rfl⟩
  obtain ⟨g2, hg2⟩ : ∃ g, g = w.heap.size + 1 := ⟨_, rfl⟩
  have hgl : w.heap.size ≤ g2 := by omega
  have hgn : g2 ≠ g1 := by omega
  rw [← hg1] at A0
  rw [← hg2] at R0
  rw [← hg2, ← hg1]
  clear hg1 hg2
  have a3 := A0.cell 3 _ rfl
  have hm0 : StmsAt W0 Any xm p.main := hm.keep hb0.size (fun b _ hlt => hb0.block b hlt) (fun _ _ _ => trivial)
  have H1 := hide (stmtsOf_any h.main W0 xm cm hm0)
  go_wp2_with fail
  refine H1.out.mono ?_
  rintro e' w1 ⟨hc1, ym, dm, rfl, hrm⟩
  have A1 := A0.bel hc1
  have R1 := R0.bel hc1
  have hb1 := hb0.trans (hc1.mono hb0.size)
  clear a3 H1 hm0
  have sz0 := hb0.size
  have szc := hc1.size
  have hX2 : PgBx w (w1.alloc (.cells #[(.slice none 0 0), (.slice none 0 0), (.slice none 0 0), (.slice ym p.main.length dm)] 37)) g1 g2 w1.heap.size (w1.heap.size + 1) [.slice xv p.vars.length cv, .slice xa na ca, .slice xp np cp, .slice xm p.main.length cm] [(.slice none 0 0), (.slice none 0 0), (.slice none 0 0), (.slice ym p.main.length dm)] := by
    have hbA := (Below.refl w1.heap.size w1).alloc (Nat.le_refl _) (.cells #[(.slice none 0 0), (.slice none 0 0), (.slice none 0 0), (.slice ym p.main.length dm)] 37)
    have := A1.lt
    have := R1.lt
    exact ⟨A1.bel hbA, R1.bel hbA, BoxN.new w1 37 [(.slice none 0 0), (.slice none 0 0), (.slice none 0 0), (.slice ym p.main.length dm)], by omega, by omega, hgn, hgl, by omega, by omega, by omega, by omega, by simp, hb1.trans (hbA.mono hb1.size)⟩
  have hrm2 : RowAt stVals 7 (w1.alloc (.cells #[(.slice none 0 0), (.slice none 0 0), (.slice none 0 0), (.slice ym p.main.length dm)] 37)) (okM W0 (w1.heap.size + 1) w1.heap.size) ym p.main := (hrm.okk stVals_keeps (fun b k hlt => by have k : W0.heap.size ≤ b := k; exact ⟨k, by omega, by omega⟩)).belM stVals_keeps ((Below.refl w1.heap.size w1).alloc (Nat.le_refl _) _)
  obtain ⟨W2, hW2⟩ : ∃ X, X = w1.alloc (.cells #[(.slice none 0 0), (.slice none 0 0), (.slice none 0 0), (.slice ym p.main.length dm)] 37) := ⟨_, rfl⟩
  rw [← hW2] at hX2 hrm2
  go_upto_region 2 with fail
  change Code.wp _ _ _ _ (w1.alloc (.cells #[(.slice none 0 0), (.slice none 0 0), (.slice none 0 0), (.slice ym p.main.length dm)] 37))
  rw [← hW2]
  clear hW2 hrm
  obtain ⟨o, ho⟩ : ∃ g, g = w1.heap.size := ⟨_, rfl⟩
  rw [← ho] at hX2 hrm2 ⊢
  have hoW : W0.heap.size ≤ o := by omega
  have hgW : g2 < W0.heap.size := R0.lt
  have hwW := hb0.size
  clear ho A1 R1 A0 R0 hc1 szc sz0 hb1
  go_cut [] (fun wx => ∃ (yv : Option Addr) (dv M : Nat), PgBx w wx g1 g2 o M [.slice xv p.vars.length cv, .slice xa na ca, .slice xp np cp, .slice xm p.main.length cm] [(.slice yv p.vars.length dv), (.slice none 0 0), (.slice none 0 0), (.slice ym p.main.length dm)] ∧ RowAt strVals 1 wx (okM W0 M o) yv p.vars ∧ RowAt stVals 7 wx (okM W0 M o) ym p.main)
  case first =>
    have p0 := hX2.P.cell 0 _ rfl
    have o0 := hX2.O.cell 0 _ rfl
    have f0 := hX2.O.fr 0
    have hbW := hX2.bel
    rcases strs_src hv with ⟨rfl, hnil⟩ | ⟨ad, rfl, hsrc⟩
    · have hlen0 : p.vars.length = 0 := by rw [hnil]; rfl
      have X3 := hX2.set 0 (by simp) (.slice none 0 0)
      have hr3 := hrm2.setM stVals_keeps (j := 0) (.slice none 0 0)
      rw [hlen0] at p0
      go_wp2_with fail
      go_meet
      case rel => exact ⟨none, 0, _, by rw [hlen0] at X3 ⊢; exact X3, .inl hnil, hr3⟩
    · have hmM := hX2.mM
      have hoM := hX2.lt
      have hoG := hX2.ge
      go_wp2_with (at_builtin; refine wpList_append_own _ rfl _ _ 22 rfl W2.heap.size 9 iS _ 1 16 Tryz.underlying22 hiS hzS0 hzS1 hzS2 rfl (by decide) (.slice none 0 0) 0 [] rfl (World.ownsRow_nil _ _ _ _) ad p.vars.length cv (strsV p.vars) rfl (by simp [strsV]) (hsrc _ hbW) (strsV_one _) (by unfold maxLen; omega) (by omega) (Nat.le_refl _) ?_)
      intro v' w3 own3 hg3 _
      have own3 : w3.ownsRow W2.heap.size 9 1 v' p.vars.length (strsV p.vars) := by simpa using own3
      obtain ⟨yv, dv, rfl, hrv⟩ := strs_of_own own3
      have hno : ∀ k, (Value.slice none 0 0).ownBlock = some k → W2.heap.size ≤ k := fun k e => by cases e
      have X3 := (hX2.far hg3 (fun k e => by cases e)).up (M' := w3.heap.size) (by have := hg3.size; omega) (Nat.le_refl _)
      have hr3 := (hrm2.farM stVals_keeps hg3 (fun k e => by cases e)).okk stVals_keeps (ok' := okM W0 w3.heap.size o) (fun b k hlt => ⟨k.1, hlt, k.2.2⟩)
      have hv3 := hrv.okk strVals_keeps (ok' := okM W0 w3.heap.size o) (fun b k hlt => by have k : W2.heap.size ≤ b := k; exact ⟨by omega, hlt, by omega⟩)
      have o3 := X3.O.cell 0 _ rfl
      have f3 := X3.O.fr 0
      have X4 := X3.set 0 (by simp) (.slice yv p.vars.length dv)
      have hr4 := hr3.setM stVals_keeps (j := 0) (.slice yv p.vars.length dv)
      have hv4 := hv3.setM strVals_keeps (j := 0) (.slice yv p.vars.length dv)
      go_wp2_with fail
      go_meet
      case rel => exact ⟨yv, dv, _, X4, hv4, hr4⟩
  case rest =>
  obtain ⟨yv, dv, M, X, hrv, hrm3⟩ := hcut
  clear hX2 hrm2
  go_wp2_with fail
  go_loopg [4] na (fun gh iv wx => ∃ (i : Nat) (v : Value) (yss : List (List Value)), iv = .int .i64 i ∧ i + gh = na ∧ GRow arVals 80 2 wx M v (p.arrays.take i) yss ∧ PgBx w wx g1 g2 o M [.slice xv p.vars.length cv, .slice xa na ca, .slice xp np cp, .slice xm p.main.length cm] [(.slice yv p.vars.length dv), v, (.slice none 0 0), (.slice ym p.main.length dm)] ∧ RowAt strVals 1 wx (okM W0 M o) yv p.vars ∧ RowAt stVals 7 wx (okM W0 M o) ym p.main)
  case atStart => exact ⟨0, .slice none 0 0, [], rfl, by omega, GRow.nil _ _ _ _ _, X, hrv, hrm3⟩
  case round =>
    clear X hrv hrm3
    obtain ⟨i, v, yss, rfl, hig, g, X, hrv, hrm⟩ := hrel
    have p1 := X.P.cell 1 _ rfl
    have htl := hide (take_len hna.out (show i ≤ na by omega))
    by_cases hi : i < na
    · have hi' : (i : Int) < (na : Int) := by omega
      obtain ⟨e, he⟩ : ∃ e, p.arrays[i]? = some e := ⟨_, List.getElem?_eq_getElem (by rw [← hna.out]; exact hi)⟩
      obtain ⟨b, off, rfl, hlt, vs, hvl, vk, rfl⟩ := ha.elem he
      have k0 := vk 0 _ rfl
      have k1 := vk 1 _ rfl
      simp only [Nat.add_zero] at k0
      have htk := hide (take_more he)
      clear vk he
      obtain ⟨vx, vc, rfl⟩ := g.form
      rw [htl.out] at g X
      go_upto_region 6 with fail
      have hbx := (Below.refl wr.heap.size wr).drew
      have X1 := X.below hbx
      have g3 := g.bel arVals_keeps hbx
      have rv1 := hrv.belM strVals_keeps hbx
      have rm1 := hrm.belM stVals_keeps hbx
      refine wp_region_any (by kernel_rfl) (wpTill_any (S := fun w' => w'.cell? ⟨o, 1, none⟩ = some (.slice vx i vc) ∧ w'.cell? ⟨g1, 1, none⟩ = some (.slice (some ⟨b, off, none⟩) na ca) ∧ w'.cell? ⟨b, off + i * 2, none⟩ = some (.string (bs e.name)) ∧ w'.cell? ⟨b, off + i * 2 + 1, none⟩ = some (.int .i64 e.size)) (E := 18) _ _ _ _ ?_)
      obtain ⟨wd, hwd⟩ : ∃ X, X = wr.drew := ⟨_, rfl⟩
      change wpTill _ _ _ _ _ _ _ _ _ wr.drew
      rw [← hwd] at X1 g3 rv1 rm1 ⊢
      clear hwd hbx
      have hS9 : wd.cell? ⟨o, 1, none⟩ = some (.slice vx i vc) ∧ wd.cell? ⟨g1, 1, none⟩ = some (.slice (some ⟨b, off, none⟩) na ca) ∧ wd.cell? ⟨b, off + i * 2, none⟩ = some (.string (bs e.name)) ∧ wd.cell? ⟨b, off + i * 2 + 1, none⟩ = some (.int .i64 e.size) := ⟨X1.O.cell 1 _ rfl, X1.P.cell 1 _ rfl, (X1.bel.cell hlt).trans k0, (X1.bel.cell hlt).trans k1⟩
      (refine tkT 0 (v := ?_) ?_ hS9 ?_; rotate_left 1; (intro w' hSw; (try dsimp only at hSw); go_simp; (try rw [if_pos (by omega)])); (try rfl); (try dsimp only [Act.put]))
      (refine tkT 1 (v := ?_) ?_ hS9 ?_; rotate_left 1; (intro w' hSw; (try dsimp only at hSw); go_simp; (try rw [if_pos (by omega)])); (try rfl); (try dsimp only [Act.put]))
      (refine tkT 2 (v := ?_) ?_ hS9 ?_; rotate_left 1; (intro w' hSw; (try dsimp only at hSw); go_simp; (try rw [if_pos (by omega)])); (try rfl); (try dsimp only [Act.put]))
      (refine tkT 3 (v := ?_) ?_ hS9 ?_; rotate_left 1; (intro w' hSw; (try dsimp only at hSw); go_simp; (try rw [if_pos (by omega)])); (try rfl); (try dsimp only [Act.put]))
      (refine tkT 4 (v := ?_) ?_ hS9 ?_; rotate_left 1; (intro w' hSw; (try dsimp only at hSw); go_simp; (try rw [if_pos (by omega)])); (try rfl); (try dsimp only [Act.put]))
      (refine tkT 5 (v := ?_) ?_ hS9 ?_; rotate_left 1; (intro w' hSw; (try dsimp only at hSw); go_simp; (try rw [if_pos (by omega)])); (try rfl); (try dsimp only [Act.put]))
      (refine tkT 6 (v := ?_) ?_ hS9 ?_; rotate_left 1; (intro w' hSw; (try dsimp only at hSw); go_simp; (try rw [if_pos (by omega)])); (try rfl); (try dsimp only [Act.put]))
      (refine tkT 7 (v := ?_) ?_ hS9 ?_; rotate_left 1; (intro w' hSw; (try dsimp only at hSw); go_simp; (try rw [if_pos (by omega)])); (try rfl); (try dsimp only [Act.put]))
      (refine tkT 8 (v := ?_) ?_ hS9 ?_; rotate_left 1; (intro w' hSw; (try dsimp only at hSw); go_simp; (try rw [if_pos (by omega)])); (try rfl); (try dsimp only [Act.put]))
      (refine tkT 9 (v := ?_) ?_ hS9 ?_; rotate_left 1; (intro w' hSw; (try dsimp only at hSw); go_simp; (try rw [if_pos (by omega)])); (try rfl); (try dsimp only [Act.put]))
      (refine tkT 10 (v := ?_) ?_ hS9 ?_; rotate_left 1; (intro w' hSw; (try dsimp only at hSw); go_simp; (try rw [if_pos (by omega)])); (try rfl); (try dsimp only [Act.put]))
      (refine tkT 11 (v := ?_) ?_ hS9 ?_; rotate_left 1; (intro w' hSw; (try dsimp only at hSw); go_simp; (try rw [if_pos (by omega)])); (try rfl); (try dsimp only [Act.put]))
      (refine tkT 12 (v := ?_) ?_ hS9 ?_; rotate_left 1; (intro w' hSw; (try dsimp only at hSw); go_simp; (try rw [if_pos (by omega)])); (try rfl); (try dsimp only [Act.put]))
      (refine tkT 13 (v := ?_) ?_ hS9 ?_; rotate_left 1; (intro w' hSw; (try dsimp only at hSw); go_simp; (try rw [if_pos (by omega)])); (try rfl); (try dsimp only [Act.put]))
      (refine tkT 14 (v := ?_) ?_ hS9 ?_; rotate_left 1; (intro w' hSw; (try dsimp only at hSw); go_simp; (try rw [if_pos (by omega)])); (try rfl); (try dsimp only [Act.put]))
      refine wpTill_one (k := 15) (by kernel_rfl) ?_
      unfold wpOp
      go_simp
      have hbL := (Below.refl wd.heap.size wd).alloc (Nat.le_refl _) (.cells #[.string (bs e.name), .int .i64 e.size] 80)
      have XL := X1.below hbL
      have gL := g3.bel arVals_keeps hbL
      have rvL := rv1.belM strVals_keeps hbL
      have rmL := rm1.belM stVals_keeps hbL
      refine Or.inl ⟨⟨XL.O.cell 1 _ rfl, XL.P.cell 1 _ rfl, (XL.bel.cell hlt).trans k0, (XL.bel.cell hlt).trans k1⟩, ?_⟩
      refine wpTill_one (k := 16) (by kernel_rfl) ?_
      have hlo : ∀ q', (Value.slice vx i vc).ownBlock = some q' → M ≤ q' ∧ q' < wr.heap.size := fun q' e => g.own.lt q' e
      have hVL : arVals (wd.alloc (.cells #[.string (bs e.name), .int .i64 e.size] 80)) (fun b => M ≤ b ∧ (Value.slice vx i vc).ownBlock ≠ some b) [.string (bs e.name), .int .i64 e.size] e := rfl
      refine wpOp_step rfl (fun K' hK => ?_)
      refine step_append_lies _ (by rfl) _ _ 33 (by rfl) M 80 iA _ 2 24 Tryz.underlying33 hiA hzA0 hzA1 hzA2 rfl (by decide) (.slice vx i vc) i yss.flatten (by first | rfl | simp [Act.eval, Act.put]) (by have := gL.own; rw [htl.out] at this; exact this) ⟨wd.heap.size, 0, none⟩ 1 1 [.string (bs e.name), .int .i64 e.size] (by first | rfl | simp [Act.eval, Act.put]) rfl (cells_new _ _ _) (by intro u hu; simp at hu; rcases hu with rfl | rfl <;> rfl) (by omega) (by unfold maxLen; omega) (by omega) (by have := XL.mM; omega) (wd.heap.size + 1) (by simp) ?_
      intro gB cap6 w6 own6 hg6 hat6 hlt6
      have g6 := gL.app arVals_keeps (n := i) rfl htl.out.symm hVL own6 hg6 (hat6.imp id (fun e => by rw [e]; simp))
      rw [htk.out] at g6
      have X6 := XL.far hg6 (fun j e => (hlo j e).1)
      have rv6 := rvL.farM strVals_keeps hg6 (fun j e => (hlo j e).1)
      have rm6 := rmL.farM stVals_keeps hg6 (fun j e => (hlo j e).1)
      have hS9 : w6.cell? ⟨o, 1, none⟩ = some (.slice vx i vc) ∧ w6.cell? ⟨g1, 1, none⟩ = some (.slice (some ⟨b, off, none⟩) na ca) ∧ w6.cell? ⟨b, off + i * 2, none⟩ = some (.string (bs e.name)) ∧ w6.cell? ⟨b, off + i * 2 + 1, none⟩ = some (.int .i64 e.size) := ⟨X6.O.cell 1 _ rfl, X6.P.cell 1 _ rfl, (X6.bel.cell hlt).trans k0, (X6.bel.cell hlt).trans k1⟩
      have q6 := X6.O.cell 1 _ rfl
      have f6 := X6.O.fr 1
      refine hK _ _ ⟨fun _ => hS9, ?_⟩
      change wpTill _ _ _ _ _ _ _ _ (Act.put _ (some 40) _) _
      dsimp only [Act.put]
      (refine tkT 17 (v := ?_) ?_ hS9 ?_; rotate_left 1; (intro w' hSw; (try dsimp only at hSw); go_simp; (try rw [if_pos (by omega)])); (try rfl); (try dsimp only [Act.put]))
      refine wpTill_one (k := 18) (by kernel_rfl) ?_
      unfold wpOp
      go_simp
      refine Or.inl ⟨by kernel_rfl, ?_⟩
      have g7 := g6.set arVals_keeps (q := ⟨o, 1, none⟩) X.lt (.slice (some ⟨gB, 0, none⟩) (i + 1) cap6)
      have X7 := X6.set 1 (by simp) (.slice (some ⟨gB, 0, none⟩) (i + 1) cap6)
      have rv7 := rv6.setM strVals_keeps (j := 1) (.slice (some ⟨gB, 0, none⟩) (i + 1) cap6)
      have rm7 := rm6.setM stVals_keeps (j := 1) (.slice (some ⟨gB, 0, none⟩) (i + 1) cap6)
      obtain ⟨W7, hW7⟩ : ∃ X, X = w6.setCell ⟨o, 1, none⟩ (.slice (some ⟨gB, 0, none⟩) (i + 1) cap6) := ⟨_, rfl⟩
      rw [← hW7] at g7 X7 rv7 rm7 ⊢
      clear hW7 own6 hg6 hat6 hlt6 hS9 q6 f6 hK hVL gL XL rvL rmL g3 X1 rv1 rm1 g6 X6 rv6 rm6 p1
      go_wp2_with fail
      go_roundg (na - (i + 1))
      case measure => omega
      case rel => exact ⟨i + 1, _, _, by go_num, by omega, g7, X7, rv7, rm7⟩
    have hi' : ¬ (i : Int) < (na : Int) := by omega
    have hin : p.arrays.take i = p.arrays := List.take_of_length_le (by rw [← hna.out]; omega)
    rw [hin] at g
    obtain ⟨ya, da, rfl, hra⟩ := g.row arVals_keeps (by omega)
    have szM := X.mM
    have loM := X.lt
    have geM := X.ge
    have hra := hra.okk arVals_keeps (ok' := okM W0 wr.heap.size o) (fun b k hlt => by have k : M ≤ b := k; exact ⟨by omega, hlt, by omega⟩)
    have hrv := hrv.okk strVals_keeps (ok' := okM W0 wr.heap.size o) (fun b k hlt => ⟨k.1, hlt, k.2.2⟩)
    have hrm := hrm.okk stVals_keeps (ok' := okM W0 wr.heap.size o) (fun b k hlt => ⟨k.1, hlt, k.2.2⟩)
    have X := X.up (M' := wr.heap.size) szM (Nat.le_refl _)
    clear hi
    go_wp2_with fail
    obtain ⟨M2, hM2⟩ : ∃ m, m = wr.heap.size := ⟨_, rfl⟩
    rw [← hM2] at X hra hrv hrm
    clear g htl hi' hig p1 szM loM geM hM2
    go_loopg [5] np (fun gh iv wx => ∃ (i : Nat) (v : Value) (zss : List (List Value)), iv = .int .i64 i ∧ i + gh = np ∧ GRow pcVals 91 7 wx M2 v (p.procs.take i) zss ∧ PgBx w wx g1 g2 o M2 [.slice xv p.vars.length cv, .slice xa na ca, .slice xp np cp, .slice xm p.main.length cm] [(.slice yv p.vars.length dv), (.slice ya p.arrays.length da), v, (.slice ym p.main.length dm)] ∧ RowAt strVals 1 wx (okM W0 M2 o) yv p.vars ∧ RowAt arVals 2 wx (okM W0 M2 o) ya p.arrays ∧ RowAt stVals 7 wx (okM W0 M2 o) ym p.main)
    case atStart => exact ⟨0, .slice none 0 0, [], rfl, by omega, GRow.nil _ _ _ _ _, X, hrv, hra, hrm⟩
    case round =>
      clear X hrv hra hrm
      obtain ⟨i, v, zss, rfl, hig, g, X, hrv, hra, hrm⟩ := hrel
      rename World => wo
      have p2 := X.P.cell 2 _ rfl
      have htl := hide (take_len hnp.out (show i ≤ np by omega))
      by_cases hi : i < np
      case neg =>
        have hi' : ¬ (i : Int) < (np : Int) := by omega
        have hin : p.procs.take i = p.procs := List.take_of_length_le (by rw [← hnp.out]; omega)
        rw [hin] at g
        obtain ⟨yp, dp, rfl, hrp⟩ := g.row pcVals_keeps (by omega)
        have o0 := X.O.cell 0 _ rfl
        have o1 := X.O.cell 1 _ rfl
        have o2 := X.O.cell 2 _ rfl
        have o3 := X.O.cell 3 _ rfl
        have r0 := X.R.cell 0 _ rfl
        have r1 := X.R.cell 1 _ rfl
        have r2 := X.R.cell 2 _ rfl
        have r3 := X.R.cell 3 _ rfl
        have f0 := X.R.fr 0
        have f1 := X.R.fr 1
        have f2 := X.R.fr 2
        have f3 := X.R.fr 3
        have hge := X.ge2
        have lM := X.lt
        have bel9 := (((X.bel.setCell (p := ⟨g2, 0, none⟩) hge (.slice yv p.vars.length dv)).setCell (p := ⟨g2, 1, none⟩) hge (.slice ya p.arrays.length da)).setCell (p := ⟨g2, 2, none⟩) hge (.slice yp p.procs.length dp)).setCell (p := ⟨g2, 3, none⟩) hge (.slice ym p.main.length dm)
        have B9 := (((X.R.put 0 (by simp) (.slice yv p.vars.length dv)).put 1 (by simp) (.slice ya p.arrays.length da)).put 2 (by simp) (.slice yp p.procs.length dp)).put 3 (by simp) (.slice ym p.main.length dm)
        obtain ⟨q1, q2⟩ := putAll_block g2 [(0, (.slice yv p.vars.length dv)), (1, (.slice ya p.arrays.length da)), (2, .slice yp p.procs.length dp), (3, (.slice ym p.main.length dm))] wo
        have V9 : PgV (putAll wo g2 [(0, (.slice yv p.vars.length dv)), (1, (.slice ya p.arrays.length da)), (2, .slice yp p.procs.length dp), (3, (.slice ym p.main.length dm))]) (fun b => w.heap.size ≤ b) (.agg #[(.slice yv p.vars.length dv), (.slice ya p.arrays.length da), .slice yp p.procs.length dp, (.slice ym p.main.length dm)]) p :=
          ⟨yv, dv, ya, da, yp, dp, ym, dm, rfl, hrv.keep strVals_keeps (Nat.le_of_eq q1.symm) (fun b k _ => q2 b (by have := k.1; omega)) (fun b k _ => by have := k.1; show w.heap.size ≤ b; omega), hra.keep arVals_keeps (Nat.le_of_eq q1.symm) (fun b k _ => q2 b (by have := k.1; omega)) (fun b k _ => by have := k.1; show w.heap.size ≤ b; omega),
            hrp.keep pcVals_keeps (Nat.le_of_eq q1.symm) (fun b k _ => q2 b (by have k : M2 ≤ b := k; omega)) (fun b k _ => by have k : M2 ≤ b := k; show w.heap.size ≤ b; omega), stms_of_row (hrm.keep stVals_keeps (Nat.le_of_eq q1.symm) (fun b k _ => q2 b (by have := k.1; omega)) (fun b k _ => by have := k.1; show w.heap.size ≤ b; omega))⟩
        clear q1 q2
        go_wp2_with fail
        change bodyPost _ _ _ _ _ (putAll wo g2 [(0, (.slice yv p.vars.length dv)), (1, (.slice ya p.arrays.length da)), (2, .slice yp p.procs.length dp), (3, (.slice ym p.main.length dm))])
        change Below w.heap.size w (putAll wo g2 [(0, (.slice yv p.vars.length dv)), (1, (.slice ya p.arrays.length da)), (2, .slice yp p.procs.length dp), (3, (.slice ym p.main.length dm))]) at bel9
        change BoxN (putAll wo g2 [(0, (.slice yv p.vars.length dv)), (1, (.slice ya p.arrays.length da)), (2, .slice yp p.procs.length dp), (3, (.slice ym p.main.length dm))]) g2 [(.slice yv p.vars.length dv), (.slice ya p.arrays.length da), .slice yp p.procs.length dp, (.slice ym p.main.length dm)] at B9
        obtain ⟨W9, hW9⟩ : ∃ X, X = putAll wo g2 [(0, (.slice yv p.vars.length dv)), (1, (.slice ya p.arrays.length da)), (2, .slice yp p.procs.length dp), (3, (.slice ym p.main.length dm))] := ⟨_, rfl⟩
        rw [← hW9] at V9 bel9 B9 ⊢
        clear hW9
        have j0 := B9.cell 0 _ rfl
        have j1 := B9.cell 1 _ rfl
        have j2 := B9.cell 2 _ rfl
        have j3 := B9.cell 3 _ rfl
        refine bodyPost_ret (v := .agg #[(.slice yv p.vars.length dv), (.slice ya p.arrays.length da), .slice yp p.procs.length dp, (.slice ym p.main.length dm)]) (by simp [results, Tryz.results12, go_sem, j0, j1, j2, j3]) rfl ?_
        exact ⟨bel9, _, rfl, V9⟩
      have hi' : (i : Int) < (np : Int) := by omega
      obtain ⟨c, hc⟩ : ∃ c, p.procs[i]? = some c := ⟨_, List.getElem?_eq_getElem (by rw [← hnp.out]; exact hi)⟩
      have hf := h.procs.el i c hc
      obtain ⟨b, off, rfl, hlt, vs, hvl, vk, xq, cq, xb, cb, xe, ce, rfl, hyp, hyb, hye⟩ := hp.elem hc
      have k0 := vk 0 _ rfl
      have k1 := vk 1 _ rfl
      have k2 := vk 2 _ rfl
      have k3 := vk 3 _ rfl
      have k4 := vk 4 _ rfl
      have k5 := vk 5 _ rfl
      have k6 := vk 6 _ rfl
      simp only [Nat.add_zero] at k0
      have htk := hide (take_more hc)
      clear vk hc
      obtain ⟨vx, vc, rfl⟩ := g.form
      rw [htl.out] at g X
      have hbw : Below wo.heap.size wo wo.drew := (Below.refl _ _).drew
      have Xd := X.below hbw
      have Rd0 := hbw
      go_upto_region 10 with fail
      go_cut [6] (fun t6 wx => ∃ (q : Nat) (x4 : Option Addr) (c4 : Nat) (x5 : Option Addr) (c5 N : Nat), t6 = .pointer (some ⟨q, 0, none⟩) ∧ PcBx wo wx q N c (.slice none 0 0) x4 c4 x5 c5)
      case first J K1 hRJ hMK =>
        have HRJ := hide hRJ
        have HMK := hide hMK
        clear hRJ hMK
        refine wp_region_held (S := fun w' => w'.cell? ⟨g1, 2, none⟩ = some (.slice (some ⟨b, off, none⟩) np cp) ∧ w'.cell? ⟨b, off + i * 7, none⟩ = some (.string (bs c.name)) ∧ w'.cell? ⟨b, off + i * 7 + 2, none⟩ = some (.slice xb c.body.length cb) ∧ w'.cell? ⟨b, off + i * 7 + 3, none⟩ = some (.string (bs c.ret.op)) ∧ w'.cell? ⟨b, off + i * 7 + 4, none⟩ = some (.int .i64 c.ret.n) ∧ w'.cell? ⟨b, off + i * 7 + 5, none⟩ = some (.string (bs c.ret.name)) ∧ w'.cell? ⟨b, off + i * 7 + 6, none⟩ = some (.slice xe c.ret.l.length ce)) (by kernel_rfl) ?_
        obtain ⟨wd, hwd⟩ : ∃ X, X = wo.drew := ⟨_, rfl⟩
        change wpAnyH _ _ _ _ _ _ _ _ wo.drew
        rw [← hwd] at Xd Rd0 ⊢
        clear hwd hbw
        have hS9 : wd.cell? ⟨g1, 2, none⟩ = some (.slice (some ⟨b, off, none⟩) np cp) ∧ wd.cell? ⟨b, off + i * 7, none⟩ = some (.string (bs c.name)) ∧ wd.cell? ⟨b, off + i * 7 + 2, none⟩ = some (.slice xb c.body.length cb) ∧ wd.cell? ⟨b, off + i * 7 + 3, none⟩ = some (.string (bs c.ret.op)) ∧ wd.cell? ⟨b, off + i * 7 + 4, none⟩ = some (.int .i64 c.ret.n) ∧ wd.cell? ⟨b, off + i * 7 + 5, none⟩ = some (.string (bs c.ret.name)) ∧ wd.cell? ⟨b, off + i * 7 + 6, none⟩ = some (.slice xe c.ret.l.length ce) := ⟨Xd.P.cell 2 _ rfl, (Xd.bel.cell hlt).trans k0, (Xd.bel.cell hlt).trans k2, (Xd.bel.cell hlt).trans k3, (Xd.bel.cell hlt).trans k4, (Xd.bel.cell hlt).trans k5, (Xd.bel.cell hlt).trans k6⟩
        (refine tk 0 (v := ?_) ?_ hS9 ?_; rotate_left 1; (intro w' hSw; (try dsimp only at hSw); go_simp; (try rw [if_pos (by omega)])); (try rfl); (try dsimp only [Act.put]))
        (refine tk 1 (v := ?_) ?_ hS9 ?_; rotate_left 1; (intro w' hSw; (try dsimp only at hSw); go_simp; (try rw [if_pos (by omega)])); (try rfl); (try dsimp only [Act.put]))
        (refine tk 2 (v := ?_) ?_ hS9 ?_; rotate_left 1; (intro w' hSw; (try dsimp only at hSw); go_simp; (try rw [if_pos (by omega)])); (try rfl); (try dsimp only [Act.put]))
        (refine tk 3 (v := ?_) ?_ hS9 ?_; rotate_left 1; (intro w' hSw; (try dsimp only at hSw); go_simp; (try rw [if_pos (by omega)])); (try rfl); (try dsimp only [Act.put]))
        (refine tk 4 (v := ?_) ?_ hS9 ?_; rotate_left 1; (intro w' hSw; (try dsimp only at hSw); go_simp; (try rw [if_pos (by omega)])); (try rfl); (try dsimp only [Act.put]))
        (refine tk 5 (v := ?_) ?_ hS9 ?_; rotate_left 1; (intro w' hSw; (try dsimp only at hSw); go_simp; (try rw [if_pos (by omega)])); (try rfl); (try dsimp only [Act.put]))
        (refine tk 6 (v := ?_) ?_ hS9 ?_; rotate_left 1; (intro w' hSw; (try dsimp only at hSw); go_simp; (try rw [if_pos (by omega)])); (try rfl); (try dsimp only [Act.put]))
        (refine tk 7 (v := ?_) ?_ hS9 ?_; rotate_left 1; (intro w' hSw; (try dsimp only at hSw); go_simp; (try rw [if_pos (by omega)])); (try rfl); (try dsimp only [Act.put]))
        (refine tk 8 (v := ?_) ?_ hS9 ?_; rotate_left 1; (intro w' hSw; (try dsimp only at hSw); go_simp; (try rw [if_pos (by omega)])); (try rfl); (try dsimp only [Act.put]))
        (refine tk 9 (v := ?_) ?_ hS9 ?_; rotate_left 1; (intro w' hSw; (try dsimp only at hSw); go_simp; (try rw [if_pos (by omega)])); (try rfl); (try dsimp only [Act.put]))
        (refine tk 10 (v := ?_) ?_ hS9 ?_; rotate_left 1; (intro w' hSw; (try dsimp only at hSw); go_simp; (try rw [if_pos (by omega)])); (try rfl); (try dsimp only [Act.put]))
        (refine tk 11 (v := ?_) ?_ hS9 ?_; rotate_left 1; (intro w' hSw; (try dsimp only at hSw); go_simp; (try rw [if_pos (by omega)])); (try rfl); (try dsimp only [Act.put]))
        (refine tk 13 (v := ?_) ?_ hS9 ?_; rotate_left 1; (intro w' hSw; (try dsimp only at hSw); go_simp; (try rw [if_pos (by omega)])); (try rfl); (try dsimp only [Act.put]))
        (refine tk 14 (v := ?_) ?_ hS9 ?_; rotate_left 1; (intro w' hSw; (try dsimp only at hSw); go_simp; (try rw [if_pos (by omega)])); (try rfl); (try dsimp only [Act.put]))
        (refine tk 15 (v := ?_) ?_ hS9 ?_; rotate_left 1; (intro w' hSw; (try dsimp only at hSw); go_simp; (try rw [if_pos (by omega)])); (try rfl); (try dsimp only [Act.put]))
        (refine tk 16 (v := ?_) ?_ hS9 ?_; rotate_left 1; (intro w' hSw; (try dsimp only at hSw); go_simp; (try rw [if_pos (by omega)])); (try rfl); (try dsimp only [Act.put]))
        (refine tk 17 (v := ?_) ?_ hS9 ?_; rotate_left 1; (intro w' hSw; (try dsimp only at hSw); go_simp; (try rw [if_pos (by omega)])); (try rfl); (try dsimp only [Act.put]))
        (refine tk 18 (v := ?_) ?_ hS9 ?_; rotate_left 1; (intro w' hSw; (try dsimp only at hSw); go_simp; (try rw [if_pos (by omega)])); (try rfl); (try dsimp only [Act.put]))
        refine wpAnyH_two (j := 12) (k := 21) (by kernel_rfl) ?_ ?_
        · skip
          have HC0 := hide (stmtsOf_any hf.body wd xb cb (hyb.keep Xd.bel.size (fun b _ hlt => Xd.bel.block b hlt) (fun _ _ _ => trivial)))
          skip
          unfold wpOp
          go_simp
          refine Or.inl (HC0.out.mono ?_)
          rintro e' w3 ⟨hb3, x4, c4, rfl, hr4⟩
          have R3 := Rd0.trans (hb3.mono Rd0.size)
          have X3 := Xd.below hb3
          have hS9 : w3.cell? ⟨g1, 2, none⟩ = some (.slice (some ⟨b, off, none⟩) np cp) ∧ w3.cell? ⟨b, off + i * 7, none⟩ = some (.string (bs c.name)) ∧ w3.cell? ⟨b, off + i * 7 + 2, none⟩ = some (.slice xb c.body.length cb) ∧ w3.cell? ⟨b, off + i * 7 + 3, none⟩ = some (.string (bs c.ret.op)) ∧ w3.cell? ⟨b, off + i * 7 + 4, none⟩ = some (.int .i64 c.ret.n) ∧ w3.cell? ⟨b, off + i * 7 + 5, none⟩ = some (.string (bs c.ret.name)) ∧ w3.cell? ⟨b, off + i * 7 + 6, none⟩ = some (.slice xe c.ret.l.length ce) := ⟨X3.P.cell 2 _ rfl, (X3.bel.cell hlt).trans k0, (X3.bel.cell hlt).trans k2, (X3.bel.cell hlt).trans k3, (X3.bel.cell hlt).trans k4, (X3.bel.cell hlt).trans k5, (X3.bel.cell hlt).trans k6⟩
          clear HC0
          have hr4 : RowAt stVals 7 w3 (fun b => wo.heap.size ≤ b) x4 _ := hr4.okk stVals_keeps (fun b k _ => by have k : wd.heap.size ≤ b := k; have := Rd0.size; show wo.heap.size ≤ b; omega)
          refine ⟨hS9, ?_⟩
          refine wpAnyH_two (j := 19) (k := 21) (by kernel_rfl) ?_ ?_
          · skip
            have HC1 := hide (exprOf_fit hf.ret w3 xe ce (hye.bel X3.bel))
            skip
            unfold wpOp
            go_simp
            refine Or.inl (HC1.out.mono ?_)
            rintro e' w4 ⟨hb4, x5, c5, rfl, hr5⟩
            have R4 := R3.trans (hb4.mono R3.size)
            have X4 := X3.below hb4
            have hS9 : w4.cell? ⟨g1, 2, none⟩ = some (.slice (some ⟨b, off, none⟩) np cp) ∧ w4.cell? ⟨b, off + i * 7, none⟩ = some (.string (bs c.name)) ∧ w4.cell? ⟨b, off + i * 7 + 2, none⟩ = some (.slice xb c.body.length cb) ∧ w4.cell? ⟨b, off + i * 7 + 3, none⟩ = some (.string (bs c.ret.op)) ∧ w4.cell? ⟨b, off + i * 7 + 4, none⟩ = some (.int .i64 c.ret.n) ∧ w4.cell? ⟨b, off + i * 7 + 5, none⟩ = some (.string (bs c.ret.name)) ∧ w4.cell? ⟨b, off + i * 7 + 6, none⟩ = some (.slice xe c.ret.l.length ce) := ⟨X4.P.cell 2 _ rfl, (X4.bel.cell hlt).trans k0, (X4.bel.cell hlt).trans k2, (X4.bel.cell hlt).trans k3, (X4.bel.cell hlt).trans k4, (X4.bel.cell hlt).trans k5, (X4.bel.cell hlt).trans k6⟩
            clear HC1
            have hr5 := exs_row hr5
            have hr4 := hr4.belM stVals_keeps hb4
            have hr5 : RowAt exVals 4 w4 (fun b => wo.heap.size ≤ b) x5 _ := hr5.okk exVals_keeps (fun b k _ => by have k : w3.heap.size ≤ b := k; have := R3.size; show wo.heap.size ≤ b; omega)
            refine ⟨hS9, ?_⟩
            (refine tk 20 (v := ?_) ?_ hS9 ?_; rotate_left 1; (intro w' hSw; (try dsimp only at hSw); go_simp; (try rw [if_pos (by omega)])); (try rfl); (try dsimp only [Act.put]))
            refine wpAnyH_one (k := 21) (by kernel_rfl) ?_
            unfold wpOp
            go_simp
            have hbA := (Below.refl w4.heap.size w4).alloc (Nat.le_refl _) (.cells #[.string ⟨#[]⟩, .slice none 0 0, .slice none 0 0, .string ⟨#[]⟩, .int .i64 0, .string ⟨#[]⟩, .slice none 0 0] 91)
            have Bq : BoxN (w4.alloc (.cells #[.string ⟨#[]⟩, .slice none 0 0, .slice none 0 0, .string ⟨#[]⟩, .int .i64 0, .string ⟨#[]⟩, .slice none 0 0] 91)) w4.heap.size [.string ⟨#[]⟩, .slice none 0 0, .slice none 0 0, .string ⟨#[]⟩, .int .i64 0, .string ⟨#[]⟩, .slice none 0 0] := BoxN.new w4 91 [.string ⟨#[]⟩, .slice none 0 0, .slice none 0 0, .string ⟨#[]⟩, .int .i64 0, .string ⟨#[]⟩, .slice none 0 0]
            have RA := R4.trans (hbA.mono R4.size)
            have XA := X4.below hbA
            have hr4 : RowAt stVals 7 (w4.alloc (.cells #[.string ⟨#[]⟩, .slice none 0 0, .slice none 0 0, .string ⟨#[]⟩, .int .i64 0, .string ⟨#[]⟩, .slice none 0 0] 91)) (fun b => wo.heap.size ≤ b ∧ b ≠ w4.heap.size) x4 _ := (hr4.okk stVals_keeps (fun b k hlt => ⟨k, by omega⟩)).belM stVals_keeps hbA
            have hr5 : RowAt exVals 4 (w4.alloc (.cells #[.string ⟨#[]⟩, .slice none 0 0, .slice none 0 0, .string ⟨#[]⟩, .int .i64 0, .string ⟨#[]⟩, .slice none 0 0] 91)) (fun b => wo.heap.size ≤ b ∧ b ≠ w4.heap.size) x5 _ := (hr5.okk exVals_keeps (fun b k hlt => ⟨k, by omega⟩)).belM exVals_keeps hbA
            have hqg : wo.heap.size ≤ w4.heap.size := R4.size
            obtain ⟨WA, hWA⟩ : ∃ X, X = w4.alloc (.cells #[.string ⟨#[]⟩, .slice none 0 0, .slice none 0 0, .string ⟨#[]⟩, .int .i64 0, .string ⟨#[]⟩, .slice none 0 0] 91) := ⟨_, rfl⟩
            rw [← hWA] at hbA Bq RA XA hr4 hr5 ⊢
            clear hWA
            have hS9 : WA.cell? ⟨g1, 2, none⟩ = some (.slice (some ⟨b, off, none⟩) np cp) ∧ WA.cell? ⟨b, off + i * 7, none⟩ = some (.string (bs c.name)) ∧ WA.cell? ⟨b, off + i * 7 + 2, none⟩ = some (.slice xb c.body.length cb) ∧ WA.cell? ⟨b, off + i * 7 + 3, none⟩ = some (.string (bs c.ret.op)) ∧ WA.cell? ⟨b, off + i * 7 + 4, none⟩ = some (.int .i64 c.ret.n) ∧ WA.cell? ⟨b, off + i * 7 + 5, none⟩ = some (.string (bs c.ret.name)) ∧ WA.cell? ⟨b, off + i * 7 + 6, none⟩ = some (.slice xe c.ret.l.length ce) := ⟨XA.P.cell 2 _ rfl, (XA.bel.cell hlt).trans k0, (XA.bel.cell hlt).trans k2, (XA.bel.cell hlt).trans k3, (XA.bel.cell hlt).trans k4, (XA.bel.cell hlt).trans k5, (XA.bel.cell hlt).trans k6⟩
            refine Or.inl ⟨hS9, ?_⟩
            obtain ⟨q, hq⟩ : ∃ q, q = w4.heap.size := ⟨_, rfl⟩
            rw [← hq] at Bq hqg hr4 hr5 ⊢
            clear hq
            have fin := PcBx.mk' (c4 := c4) (c5 := c5) Bq hqg hr4 hr5 RA
            have p0' := Bq.cell 0 _ rfl
            have f0 := Bq.fr 0
            have p1' := Bq.cell 1 _ rfl
            have f1 := Bq.fr 1
            have p2' := Bq.cell 2 _ rfl
            have f2 := Bq.fr 2
            have p3' := Bq.cell 3 _ rfl
            have f3 := Bq.fr 3
            have p4' := Bq.cell 4 _ rfl
            have f4 := Bq.fr 4
            have p5' := Bq.cell 5 _ rfl
            have f5 := Bq.fr 5
            have p6' := Bq.cell 6 _ rfl
            have f6 := Bq.fr 6
            have hbq : b ≠ q := fun e => by have := X.bel.size; omega
            have hgq : g1 ≠ q := fun e => by have := X.l1; have := X.mM; omega
            refine wpAnyH_one (k := 22) (by kernel_rfl) ?_
            unfold wpOp
            go_simp
            refine Or.inl ⟨by kernel_rfl, ?_⟩
            refine HMK.out _ _ (Met.intro (HRJ.out _ _ ?_))
            (repeat apply Exists.intro)
            refine ⟨?rel, rfl⟩
            case rel => exact ⟨q, x4, c4, x5, c5, _, rfl, fin⟩
          · skip
            skip
            unfold wpOp
            go_simp
            have hbA := (Below.refl w3.heap.size w3).alloc (Nat.le_refl _) (.cells #[.string ⟨#[]⟩, .slice none 0 0, .slice none 0 0, .string ⟨#[]⟩, .int .i64 0, .string ⟨#[]⟩, .slice none 0 0] 91)
            have Bq : BoxN (w3.alloc (.cells #[.string ⟨#[]⟩, .slice none 0 0, .slice none 0 0, .string ⟨#[]⟩, .int .i64 0, .string ⟨#[]⟩, .slice none 0 0] 91)) w3.heap.size [.string ⟨#[]⟩, .slice none 0 0, .slice none 0 0, .string ⟨#[]⟩, .int .i64 0, .string ⟨#[]⟩, .slice none 0 0] := BoxN.new w3 91 [.string ⟨#[]⟩, .slice none 0 0, .slice none 0 0, .string ⟨#[]⟩, .int .i64 0, .string ⟨#[]⟩, .slice none 0 0]
            have RA := R3.trans (hbA.mono R3.size)
            have XA := X3.below hbA
            have hr4 : RowAt stVals 7 (w3.alloc (.cells #[.string ⟨#[]⟩, .slice none 0 0, .slice none 0 0, .string ⟨#[]⟩, .int .i64 0, .string ⟨#[]⟩, .slice none 0 0] 91)) (fun b => wo.heap.size ≤ b ∧ b ≠ w3.heap.size) x4 _ := (hr4.okk stVals_keeps (fun b k hlt => ⟨k, by omega⟩)).belM stVals_keeps hbA
            have hqg : wo.heap.size ≤ w3.heap.size := R3.size
            obtain ⟨WA, hWA⟩ : ∃ X, X = w3.alloc (.cells #[.string ⟨#[]⟩, .slice none 0 0, .slice none 0 0, .string ⟨#[]⟩, .int .i64 0, .string ⟨#[]⟩, .slice none 0 0] 91) := ⟨_, rfl⟩
            rw [← hWA] at hbA Bq RA XA hr4 ⊢
            clear hWA
            have hS9 : WA.cell? ⟨g1, 2, none⟩ = some (.slice (some ⟨b, off, none⟩) np cp) ∧ WA.cell? ⟨b, off + i * 7, none⟩ = some (.string (bs c.name)) ∧ WA.cell? ⟨b, off + i * 7 + 2, none⟩ = some (.slice xb c.body.length cb) ∧ WA.cell? ⟨b, off + i * 7 + 3, none⟩ = some (.string (bs c.ret.op)) ∧ WA.cell? ⟨b, off + i * 7 + 4, none⟩ = some (.int .i64 c.ret.n) ∧ WA.cell? ⟨b, off + i * 7 + 5, none⟩ = some (.string (bs c.ret.name)) ∧ WA.cell? ⟨b, off + i * 7 + 6, none⟩ = some (.slice xe c.ret.l.length ce) := ⟨XA.P.cell 2 _ rfl, (XA.bel.cell hlt).trans k0, (XA.bel.cell hlt).trans k2, (XA.bel.cell hlt).trans k3, (XA.bel.cell hlt).trans k4, (XA.bel.cell hlt).trans k5, (XA.bel.cell hlt).trans k6⟩
            refine Or.inl ⟨hS9, ?_⟩
            obtain ⟨q, hq⟩ : ∃ q, q = w3.heap.size := ⟨_, rfl⟩
            rw [← hq] at Bq hqg hr4 ⊢
            clear hq
            have HC1 := hide (exprOf_fit hf.ret WA xe ce (hye.bel XA.bel))
            refine wpAnyH_one (k := 19) (by kernel_rfl) ?_
            unfold wpOp
            go_simp
            refine Or.inl (HC1.out.mono ?_)
            rintro e' w4 ⟨hb4, x5, c5, rfl, hr5⟩
            have R4 := RA.trans (hb4.mono RA.size)
            have X4 := XA.below hb4
            have hS9 : w4.cell? ⟨g1, 2, none⟩ = some (.slice (some ⟨b, off, none⟩) np cp) ∧ w4.cell? ⟨b, off + i * 7, none⟩ = some (.string (bs c.name)) ∧ w4.cell? ⟨b, off + i * 7 + 2, none⟩ = some (.slice xb c.body.length cb) ∧ w4.cell? ⟨b, off + i * 7 + 3, none⟩ = some (.string (bs c.ret.op)) ∧ w4.cell? ⟨b, off + i * 7 + 4, none⟩ = some (.int .i64 c.ret.n) ∧ w4.cell? ⟨b, off + i * 7 + 5, none⟩ = some (.string (bs c.ret.name)) ∧ w4.cell? ⟨b, off + i * 7 + 6, none⟩ = some (.slice xe c.ret.l.length ce) := ⟨X4.P.cell 2 _ rfl, (X4.bel.cell hlt).trans k0, (X4.bel.cell hlt).trans k2, (X4.bel.cell hlt).trans k3, (X4.bel.cell hlt).trans k4, (X4.bel.cell hlt).trans k5, (X4.bel.cell hlt).trans k6⟩
            clear HC1
            have hr5 := exs_row hr5
            have hr4 := hr4.belM stVals_keeps hb4
            have hr5 : RowAt exVals 4 w4 (fun b => wo.heap.size ≤ b ∧ b ≠ q) x5 _ := hr5.okk exVals_keeps (fun b k _ => by have k : WA.heap.size ≤ b := k; have := RA.size; have := Bq.lt; exact ⟨by omega, by omega⟩)
            have Bq := Bq.bel hb4
            refine ⟨hS9, ?_⟩
            (refine tk 20 (v := ?_) ?_ hS9 ?_; rotate_left 1; (intro w' hSw; (try dsimp only at hSw); go_simp; (try rw [if_pos (by omega)])); (try rfl); (try dsimp only [Act.put]))
            have fin := PcBx.mk' (c4 := c4) (c5 := c5) Bq hqg hr4 hr5 R4
            have p0' := Bq.cell 0 _ rfl
            have f0 := Bq.fr 0
            have p1' := Bq.cell 1 _ rfl
            have f1 := Bq.fr 1
            have p2' := Bq.cell 2 _ rfl
            have f2 := Bq.fr 2
            have p3' := Bq.cell 3 _ rfl
            have f3 := Bq.fr 3
            have p4' := Bq.cell 4 _ rfl
            have f4 := Bq.fr 4
            have p5' := Bq.cell 5 _ rfl
            have f5 := Bq.fr 5
            have p6' := Bq.cell 6 _ rfl
            have f6 := Bq.fr 6
            have hbq : b ≠ q := fun e => by have := X.bel.size; omega
            have hgq : g1 ≠ q := fun e => by have := X.l1; have := X.mM; omega
            refine wpAnyH_one (k := 22) (by kernel_rfl) ?_
            unfold wpOp
            go_simp
            refine Or.inl ⟨by kernel_rfl, ?_⟩
            refine HMK.out _ _ (Met.intro (HRJ.out _ _ ?_))
            (repeat apply Exists.intro)
            refine ⟨?rel, rfl⟩
            case rel => exact ⟨q, x4, c4, x5, c5, _, rfl, fin⟩
        · skip
          skip
          unfold wpOp
          go_simp
          have hbA := (Below.refl wd.heap.size wd).alloc (Nat.le_refl _) (.cells #[.string ⟨#[]⟩, .slice none 0 0, .slice none 0 0, .string ⟨#[]⟩, .int .i64 0, .string ⟨#[]⟩, .slice none 0 0] 91)
          have Bq : BoxN (wd.alloc (.cells #[.string ⟨#[]⟩, .slice none 0 0, .slice none 0 0, .string ⟨#[]⟩, .int .i64 0, .string ⟨#[]⟩, .slice none 0 0] 91)) wd.heap.size [.string ⟨#[]⟩, .slice none 0 0, .slice none 0 0, .string ⟨#[]⟩, .int .i64 0, .string ⟨#[]⟩, .slice none 0 0] := BoxN.new wd 91 [.string ⟨#[]⟩, .slice none 0 0, .slice none 0 0, .string ⟨#[]⟩, .int .i64 0, .string ⟨#[]⟩, .slice none 0 0]
          have RA := Rd0.trans (hbA.mono Rd0.size)
          have XA := Xd.below hbA
          have hqg : wo.heap.size ≤ wd.heap.size := Rd0.size
          obtain ⟨WA, hWA⟩ : ∃ X, X = wd.alloc (.cells #[.string ⟨#[]⟩, .slice none 0 0, .slice none 0 0, .string ⟨#[]⟩, .int .i64 0, .string ⟨#[]⟩, .slice none 0 0] 91) := ⟨_, rfl⟩
          rw [← hWA] at hbA Bq RA XA  ⊢
          clear hWA
          have hS9 : WA.cell? ⟨g1, 2, none⟩ = some (.slice (some ⟨b, off, none⟩) np cp) ∧ WA.cell? ⟨b, off + i * 7, none⟩ = some (.string (bs c.name)) ∧ WA.cell? ⟨b, off + i * 7 + 2, none⟩ = some (.slice xb c.body.length cb) ∧ WA.cell? ⟨b, off + i * 7 + 3, none⟩ = some (.string (bs c.ret.op)) ∧ WA.cell? ⟨b, off + i * 7 + 4, none⟩ = some (.int .i64 c.ret.n) ∧ WA.cell? ⟨b, off + i * 7 + 5, none⟩ = some (.string (bs c.ret.name)) ∧ WA.cell? ⟨b, off + i * 7 + 6, none⟩ = some (.slice xe c.ret.l.length ce) := ⟨XA.P.cell 2 _ rfl, (XA.bel.cell hlt).trans k0, (XA.bel.cell hlt).trans k2, (XA.bel.cell hlt).trans k3, (XA.bel.cell hlt).trans k4, (XA.bel.cell hlt).trans k5, (XA.bel.cell hlt).trans k6⟩
          refine Or.inl ⟨hS9, ?_⟩
          obtain ⟨q, hq⟩ : ∃ q, q = wd.heap.size := ⟨_, rfl⟩
          rw [← hq] at Bq hqg  ⊢
          clear hq
          have HC0 := hide (stmtsOf_any hf.body WA xb cb (hyb.keep XA.bel.size (fun b _ hlt => XA.bel.block b hlt) (fun _ _ _ => trivial)))
          refine wpAnyH_one (k := 12) (by kernel_rfl) ?_
          unfold wpOp
          go_simp
          refine Or.inl (HC0.out.mono ?_)
          rintro e' w3 ⟨hb3, x4, c4, rfl, hr4⟩
          have R3 := RA.trans (hb3.mono RA.size)
          have X3 := XA.below hb3
          have hS9 : w3.cell? ⟨g1, 2, none⟩ = some (.slice (some ⟨b, off, none⟩) np cp) ∧ w3.cell? ⟨b, off + i * 7, none⟩ = some (.string (bs c.name)) ∧ w3.cell? ⟨b, off + i * 7 + 2, none⟩ = some (.slice xb c.body.length cb) ∧ w3.cell? ⟨b, off + i * 7 + 3, none⟩ = some (.string (bs c.ret.op)) ∧ w3.cell? ⟨b, off + i * 7 + 4, none⟩ = some (.int .i64 c.ret.n) ∧ w3.cell? ⟨b, off + i * 7 + 5, none⟩ = some (.string (bs c.ret.name)) ∧ w3.cell? ⟨b, off + i * 7 + 6, none⟩ = some (.slice xe c.ret.l.length ce) := ⟨X3.P.cell 2 _ rfl, (X3.bel.cell hlt).trans k0, (X3.bel.cell hlt).trans k2, (X3.bel.cell hlt).trans k3, (X3.bel.cell hlt).trans k4, (X3.bel.cell hlt).trans k5, (X3.bel.cell hlt).trans k6⟩
          clear HC0
          have hr4 : RowAt stVals 7 w3 (fun b => wo.heap.size ≤ b ∧ b ≠ q) x4 _ := hr4.okk stVals_keeps (fun b k _ => by have k : WA.heap.size ≤ b := k; have := RA.size; have := Bq.lt; exact ⟨by omega, by omega⟩)
          have Bq := Bq.bel hb3
          refine ⟨hS9, ?_⟩
          have HC1 := hide (exprOf_fit hf.ret w3 xe ce (hye.bel X3.bel))
          refine wpAnyH_one (k := 19) (by kernel_rfl) ?_
          unfold wpOp
          go_simp
          refine Or.inl (HC1.out.mono ?_)
          rintro e' w4 ⟨hb4, x5, c5, rfl, hr5⟩
          have R4 := R3.trans (hb4.mono R3.size)
          have X4 := X3.below hb4
          have hS9 : w4.cell? ⟨g1, 2, none⟩ = some (.slice (some ⟨b, off, none⟩) np cp) ∧ w4.cell? ⟨b, off + i * 7, none⟩ = some (.string (bs c.name)) ∧ w4.cell? ⟨b, off + i * 7 + 2, none⟩ = some (.slice xb c.body.length cb) ∧ w4.cell? ⟨b, off + i * 7 + 3, none⟩ = some (.string (bs c.ret.op)) ∧ w4.cell? ⟨b, off + i * 7 + 4, none⟩ = some (.int .i64 c.ret.n) ∧ w4.cell? ⟨b, off + i * 7 + 5, none⟩ = some (.string (bs c.ret.name)) ∧ w4.cell? ⟨b, off + i * 7 + 6, none⟩ = some (.slice xe c.ret.l.length ce) := ⟨X4.P.cell 2 _ rfl, (X4.bel.cell hlt).trans k0, (X4.bel.cell hlt).trans k2, (X4.bel.cell hlt).trans k3, (X4.bel.cell hlt).trans k4, (X4.bel.cell hlt).trans k5, (X4.bel.cell hlt).trans k6⟩
          clear HC1
          have hr5 := exs_row hr5
          have hr4 := hr4.belM stVals_keeps hb4
          have hr5 : RowAt exVals 4 w4 (fun b => wo.heap.size ≤ b ∧ b ≠ q) x5 _ := hr5.okk exVals_keeps (fun b k _ => by have k : w3.heap.size ≤ b := k; have := R3.size; have := Bq.lt; exact ⟨by omega, by omega⟩)
          have Bq := Bq.bel hb4
          refine ⟨hS9, ?_⟩
          (refine tk 20 (v := ?_) ?_ hS9 ?_; rotate_left 1; (intro w' hSw; (try dsimp only at hSw); go_simp; (try rw [if_pos (by omega)])); (try rfl); (try dsimp only [Act.put]))
          have fin := PcBx.mk' (c4 := c4) (c5 := c5) Bq hqg hr4 hr5 R4
          have p0' := Bq.cell 0 _ rfl
          have f0 := Bq.fr 0
          have p1' := Bq.cell 1 _ rfl
          have f1 := Bq.fr 1
          have p2' := Bq.cell 2 _ rfl
          have f2 := Bq.fr 2
          have p3' := Bq.cell 3 _ rfl
          have f3 := Bq.fr 3
          have p4' := Bq.cell 4 _ rfl
          have f4 := Bq.fr 4
          have p5' := Bq.cell 5 _ rfl
          have f5 := Bq.fr 5
          have p6' := Bq.cell 6 _ rfl
          have f6 := Bq.fr 6
          have hbq : b ≠ q := fun e => by have := X.bel.size; omega
          have hgq : g1 ≠ q := fun e => by have := X.l1; have := X.mM; omega
          refine wpAnyH_one (k := 22) (by kernel_rfl) ?_
          unfold wpOp
          go_simp
          refine Or.inl ⟨by kernel_rfl, ?_⟩
          refine HMK.out _ _ (Met.intro (HRJ.out _ _ ?_))
          (repeat apply Exists.intro)
          refine ⟨?rel, rfl⟩
          case rel => exact ⟨q, x4, c4, x5, c5, _, rfl, fin⟩
      case rest =>
      obtain ⟨q, x4, c4, x5, c5, N, rfl, Y0⟩ := hcut
      clear Xd Rd0 hbw
      have hlq := hf.params
      go_upto_region 11 with fail
      go_cut [] (fun wx => ∃ (xr : Option Addr) (cr N2 : Nat), PcBx wo wx q N2 c (.slice xr c.params.length cr) x4 c4 x5 c5 ∧ RowAt strVals 1 wx (okM wo N2 q) xr c.params)
      case first J K1 hRJ hMK =>
        have HRJ := hide hRJ
        have HMK := hide hMK
        clear hRJ hMK
        have hbx := (Below.refl wc.heap.size wc).drew
        have Y1 := Y0.below hbx
        have X1 := X.below Y1.bel
        refine wp_region_any (by kernel_rfl) (wpTill_any (S := fun w' => w'.cell? ⟨q, 1, none⟩ = some (.slice none 0 0) ∧ w'.cell? ⟨g1, 2, none⟩ = some (.slice (some ⟨b, off, none⟩) np cp) ∧ w'.cell? ⟨b, off + i * 7 + 1, none⟩ = some (.slice xq c.params.length cq)) (E := 10) _ _ _ _ ?_)
        obtain ⟨wd, hwd⟩ : ∃ X, X = wc.drew := ⟨_, rfl⟩
        change wpTill _ _ _ _ _ _ _ _ _ wc.drew
        rw [← hwd] at X1 Y1 ⊢
        clear hwd hbx
        have hS9 : wd.cell? ⟨q, 1, none⟩ = some (.slice none 0 0) ∧ wd.cell? ⟨g1, 2, none⟩ = some (.slice (some ⟨b, off, none⟩) np cp) ∧ wd.cell? ⟨b, off + i * 7 + 1, none⟩ = some (.slice xq c.params.length cq) := ⟨Y1.box.cell 1 _ rfl, X1.P.cell 2 _ rfl, (X1.bel.cell hlt).trans k1⟩
        (refine tkT 0 (v := ?_) ?_ hS9 ?_; rotate_left 1; (intro w' hSw; (try dsimp only at hSw); go_simp; (try rw [if_pos (by omega)])); (try rfl); (try dsimp only [Act.put]))
        (refine tkT 1 (v := ?_) ?_ hS9 ?_; rotate_left 1; (intro w' hSw; (try dsimp only at hSw); go_simp; (try rw [if_pos (by omega)])); (try rfl); (try dsimp only [Act.put]))
        (refine tkT 2 (v := ?_) ?_ hS9 ?_; rotate_left 1; (intro w' hSw; (try dsimp only at hSw); go_simp; (try rw [if_pos (by omega)])); (try rfl); (try dsimp only [Act.put]))
        (refine tkT 3 (v := ?_) ?_ hS9 ?_; rotate_left 1; (intro w' hSw; (try dsimp only at hSw); go_simp; (try rw [if_pos (by omega)])); (try rfl); (try dsimp only [Act.put]))
        (refine tkT 4 (v := ?_) ?_ hS9 ?_; rotate_left 1; (intro w' hSw; (try dsimp only at hSw); go_simp; (try rw [if_pos (by omega)])); (try rfl); (try dsimp only [Act.put]))
        (refine tkT 5 (v := ?_) ?_ hS9 ?_; rotate_left 1; (intro w' hSw; (try dsimp only at hSw); go_simp; (try rw [if_pos (by omega)])); (try rfl); (try dsimp only [Act.put]))
        (refine tkT 6 (v := ?_) ?_ hS9 ?_; rotate_left 1; (intro w' hSw; (try dsimp only at hSw); go_simp; (try rw [if_pos (by omega)])); (try rfl); (try dsimp only [Act.put]))
        (refine tkT 7 (v := ?_) ?_ hS9 ?_; rotate_left 1; (intro w' hSw; (try dsimp only at hSw); go_simp; (try rw [if_pos (by omega)])); (try rfl); (try dsimp only [Act.put]))
        refine wpTill_one (k := 8) (by kernel_rfl) ?_
        rcases strs_src hyp with ⟨rfl, hnil⟩ | ⟨ad, rfl, hsrc⟩
        · have hlen0 : c.params.length = 0 := by rw [hnil]; rfl
          rw [hlen0] at hS9
          unfold wpOp
          go_simp
          refine Or.inl ?_
          (refine tkT 9 (v := ?_) ?_ hS9 ?_; rotate_left 1; (intro w' hSw; (try dsimp only at hSw); go_simp; (try rw [if_pos (by omega)])); (try rfl); (try dsimp only [Act.put]))
          have m1 := Y1.box.cell 1 _ rfl
          have f1 := Y1.box.fr 1
          have Y2 := Y1.set (.slice none 0 0)
          refine wpTill_one (k := 10) (by kernel_rfl) ?_
          unfold wpOp
          go_simp
          refine Or.inl ⟨by kernel_rfl, ?_⟩
          refine HMK.out _ _ (Met.intro (HRJ.out _ _ ?_))
          (repeat apply Exists.intro)
          refine ⟨?rel, rfl⟩
          case rel => exact ⟨none, 0, _, by rw [hlen0]; exact Y2, .inl hnil⟩
        · have hmN := Y1.mN
          have hqN := Y1.lt
          have hqg := Y1.ge
          refine wpOp_step rfl (fun K' hK => ?_)
          refine step_append_own (by rfl) _ _ 22 (by rfl) wd.heap.size 9 iS _ 1 16 Tryz.underlying22 hiS hzS0 hzS1 hzS2 rfl (by decide) (.slice none 0 0) 0 [] (by simp [Act.eval]) (World.ownsRow_nil _ _ _ _) ad c.params.length cq (strsV c.params) (by simp [Act.eval]) (by simp [strsV]) (hsrc _ X1.bel) (strsV_one _) (by unfold maxLen; omega) (by omega) (Nat.le_refl _) ?_
          intro v' w3 own3 hg3
          have own3 : w3.ownsRow wd.heap.size 9 1 v' c.params.length (strsV c.params) := by simpa using own3
          obtain ⟨xr, cr, rfl, hrq⟩ := strs_of_own own3
          have Y3 := (Y1.far hg3 (fun k e => by cases e)).up
          have X3 := X1.far hg3 (fun k e => by cases e)
          have hrq := hrq.okk strVals_keeps (ok' := okM wo w3.heap.size q) (fun b k hlt => by have k : wd.heap.size ≤ b := k; exact ⟨by omega, hlt, by omega⟩)
          have hS9 : w3.cell? ⟨q, 1, none⟩ = some (.slice none 0 0) ∧ w3.cell? ⟨g1, 2, none⟩ = some (.slice (some ⟨b, off, none⟩) np cp) ∧ w3.cell? ⟨b, off + i * 7 + 1, none⟩ = some (.slice (some ad) c.params.length cq) := ⟨Y3.box.cell 1 _ rfl, X3.P.cell 2 _ rfl, (X3.bel.cell hlt).trans k1⟩
          refine hK _ _ ⟨fun _ => hS9, ?_⟩
          change wpTill _ _ _ _ _ _ _ _ (Act.put _ (some 78) _) _
          dsimp only [Act.put]
          (refine tkT 9 (v := ?_) ?_ hS9 ?_; rotate_left 1; (intro w' hSw; (try dsimp only at hSw); go_simp; (try rw [if_pos (by omega)])); (try rfl); (try dsimp only [Act.put]))
          have m1 := Y3.box.cell 1 _ rfl
          have f1 := Y3.box.fr 1
          have Y4 := Y3.set (.slice xr c.params.length cr)
          have hrq4 := hrq.setM strVals_keeps (j := 1) (.slice xr c.params.length cr)
          refine wpTill_one (k := 10) (by kernel_rfl) ?_
          unfold wpOp
          go_simp
          refine Or.inl ⟨by kernel_rfl, ?_⟩
          refine HMK.out _ _ (Met.intro (HRJ.out _ _ ?_))
          (repeat apply Exists.intro)
          refine ⟨?rel, rfl⟩
          case rel => exact ⟨xr, cr, _, Y4, hrq4⟩
      case rest =>
      obtain ⟨xr, cr, N2, Y, hrq⟩ := hcut
      clear Y0
      have Xc := X.below Y.bel
      have gc := g.bel pcVals_keeps Y.bel
      have rvc := hrv.belM strVals_keeps Y.bel
      have rac := hra.belM arVals_keeps Y.bel
      have rmc := hrm.belM stVals_keeps Y.bel
      have m0 := Y.box.cell 0 _ rfl
      have m1 := Y.box.cell 1 _ rfl
      have m2 := Y.box.cell 2 _ rfl
      have m3 := Y.box.cell 3 _ rfl
      have m4 := Y.box.cell 4 _ rfl
      have m5 := Y.box.cell 5 _ rfl
      have m6 := Y.box.cell 6 _ rfl
      have o2 := Xc.O.cell 2 _ rfl
      have hlo : ∀ q', (Value.slice vx i vc).ownBlock = some q' → M2 ≤ q' ∧ q' < wo.heap.size := fun q' e => g.own.lt q' e
      have hbL := (Below.refl wc.heap.size wc).alloc (Nat.le_refl _) (.cells #[.string (bs c.name), .slice xr c.params.length cr, .slice x4 c.body.length c4, .string (bs c.ret.op), .int .i64 c.ret.n, .string (bs c.ret.name), .slice x5 c.ret.l.length c5] 91)
      have XL := Xc.below hbL
      have gL := gc.bel pcVals_keeps hbL
      have rvL := rvc.belM strVals_keeps hbL
      have raL := rac.belM arVals_keeps hbL
      have rmL := rmc.belM stVals_keeps hbL
      have YL := Y.below hbL
      have hxM := X.mM
      have szY := Y.bel.size
      have hVL : pcVals (wc.alloc (.cells #[.string (bs c.name), .slice xr c.params.length cr, .slice x4 c.body.length c4, .string (bs c.ret.op), .int .i64 c.ret.n, .string (bs c.ret.name), .slice x5 c.ret.l.length c5] 91)) (fun b => M2 ≤ b ∧ (Value.slice vx i vc).ownBlock ≠ some b) [.string (bs c.name), .slice xr c.params.length cr, .slice x4 c.body.length c4, .string (bs c.ret.op), .int .i64 c.ret.n, .string (bs c.ret.name), .slice x5 c.ret.l.length c5] c :=
        ⟨xr, cr, x4, c4, x5, c5, rfl, (hrq.belM strVals_keeps hbL).okk strVals_keeps (fun b k _ => ⟨by have := k.1; omega, fun e => by have := (hlo b e).2; have := k.1; omega⟩), stms_of_row (YL.tb.okk stVals_keeps (fun b k _ => ⟨by have := k.1; omega, fun e => by have := (hlo b e).2; have := k.1; omega⟩)), exs_of_row (YL.te.okk exVals_keeps (fun b k _ => ⟨by have := k.1; omega, fun e => by have := (hlo b e).2; have := k.1; omega⟩))⟩
      go_wp2_with (at_builtin; refine wpList_append_lies _ rfl _ _ 34 rfl M2 91 iP _ 7 128 Tryz.underlying34 hiP hzP0 hzP1 hzP2 rfl (by decide) (.slice vx i vc) i zss.flatten rfl (by have := gL.own; rw [htl.out] at this; exact this) ⟨wc.heap.size, 0, none⟩ 1 1 [.string (bs c.name), .slice xr c.params.length cr, .slice x4 c.body.length c4, .string (bs c.ret.op), .int .i64 c.ret.n, .string (bs c.ret.name), .slice x5 c.ret.l.length c5] rfl rfl (cells_new _ _ _) (by intro u hu; simp at hu; rcases hu with rfl | rfl | rfl | rfl | rfl | rfl | rfl <;> rfl) (by omega) (by unfold maxLen; omega) (by omega) (by simp; omega) (wc.heap.size + 1) (by simp) ?_)
      intro gB cap6 w6 own6 hg6 hat6 hlt6
      have g6 := gL.app pcVals_keeps (n := i) rfl htl.out.symm hVL own6 hg6 (hat6.imp id (fun e => by rw [e]; simp))
      rw [htk.out] at g6
      have X6 := XL.far hg6 (fun j e => (hlo j e).1)
      have rv6 := rvL.farM strVals_keeps hg6 (fun j e => (hlo j e).1)
      have ra6 := raL.farM arVals_keeps hg6 (fun j e => (hlo j e).1)
      have rm6 := rmL.farM stVals_keeps hg6 (fun j e => (hlo j e).1)
      have q6 := X6.O.cell 2 _ rfl
      have f6 := X6.O.fr 2
      have g7 := g6.set pcVals_keeps (q := ⟨o, 2, none⟩) X.lt (.slice (some ⟨gB, 0, none⟩) (i + 1) cap6)
      have X7 := X6.set 2 (by simp) (.slice (some ⟨gB, 0, none⟩) (i + 1) cap6)
      have rv7 := rv6.setM strVals_keeps (j := 2) (.slice (some ⟨gB, 0, none⟩) (i + 1) cap6)
      have ra7 := ra6.setM arVals_keeps (j := 2) (.slice (some ⟨gB, 0, none⟩) (i + 1) cap6)
      have rm7 := rm6.setM stVals_keeps (j := 2) (.slice (some ⟨gB, 0, none⟩) (i + 1) cap6)
      clear gL XL rvL raL rmL YL hVL gc Xc rvc rac rmc m0 m1 m2 m3 m4 m5 m6 o2 p2
      go_wp2_with fail
      go_roundg (np - (i + 1))
      case measure => omega
      case rel => exact ⟨i + 1, _, _, by go_num, by omega, g7, X7, rv7, ra7, rm7⟩
end Go.Proofs.YtolpekdckemhkaaGreatDoor
