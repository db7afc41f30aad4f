/- The statements' helpers: programs copied back: Back. -/
import Derived.Test.YtolpekdckemhkaaGreatDoorN6
import Derived.Test.YtolpekdckemhkaaGreatDoorN4
namespace Go.Proofs.YtolpekdckemhkaaGreatDoor
open Go.RowKit
set_option linter.unusedVariables false
theorem Tryz.infoRefP : (Tryz.prog.info? 85).map (fun i => (i.zero, i.size, i.bytes)) = some (some (.agg #[.string ⟨#[]⟩, .slice none 0 0, .slice none 0 0, .string ⟨#[]⟩, .int .i64 0, .string ⟨#[]⟩, .slice none 0 0]), 7, 128) := by kernel_rfl
set_option maxRecDepth 20000 in
set_option maxHeartbeats 4000000 in
theorem stmtsBack_nil : stmtsBackC 0 [] := by
  intro w x cap deep hd hx
  show Calls Tryz.prog 73 #[.slice x 0 cap, .int .i64 deep] w _
  go_enter Tryz.func73, Tryz.ntmps73
  go_wp2_with fail
  go_loopg [5, 6] 0 (fun gh t iv wx => t = .slice none 0 0 ∧ iv = .int .i64 0 ∧ wx = w)
  case atStart => exact ⟨rfl, rfl, rfl⟩
  case round =>
    obtain ⟨rfl, rfl, rfl⟩ := hrel
    go_wp2_with fail
    go_ret
    exact ⟨Below.refl _ _, none, 0, rfl, .inl rfl⟩
theorem stmtsBack_ok : ∀ (m : Nat) {l : List Stm}, StsOk m l → stmtsBackC m l
  | 0, l, h => by have h : l = [] := h; subst h; exact stmtsBack_nil
  | m + 1, l, h => fun W x cap deep hd hx => by
    have hf := StsOk.fit h
    have h : LsOk (fun a => LsOk ExOk a.args ∧ LsOk (LsOk TeOk) a.cond ∧ StsOk m a.body ∧ StsOk m a.els) l := h
    exact stmtsBack_step l _ m rfl hf.len (hide fun i e he => by
      obtain ⟨h1, h2, h3, h4⟩ := h.el e (List.mem_of_getElem? he)
      have fe := hf.el i e he
      refine ⟨exprsBack_dep 5000 (fun a ha => DepL.le (n := 4000) (m := 4999) (h1.el a ha).dep (by decide)) fe.args (by omega), fe.cond.len, fun k row hr => ?_, stmtsBack_ok m h3, stmtsBack_ok m h4⟩
      have hrow := h2.el row (List.mem_of_getElem? hr)
      exact fun W x cap hx => testsBack_any row _ rfl (fe.cond.el k row hr).len (hide fun j t ht => ⟨exprBack_fit (hrow.el t (List.mem_of_getElem? ht)).a.sm (hrow.el t (List.mem_of_getElem? ht)).a.dep, exprBack_fit (hrow.el t (List.mem_of_getElem? ht)).b.sm (hrow.el t (List.mem_of_getElem? ht)).b.dep⟩) W x cap hx) W x cap deep (by omega) hx
/-- The new box, filled with what is there at first. -/
theorem PgBx.mk' {w W0 W : World} {g1 g2 o : Nat} {pc : List Value} {p : Pg} {ya : Option Addr} {da : Nat} {ym : Option Addr} {dm : Nat} (hA : BoxN W g1 pc) (hR : BoxN W g2 [.slice none 0 0, .slice none 0 0, .slice none 0 0, .slice none 0 0]) (hO : BoxN W o [.slice none 0 0, .slice none 0 0, .slice none 0 0, .slice none 0 0]) (n1 : g1 ≠ o) (n2 : g2 ≠ o) (n3 : g2 ≠ g1) (ge2 : w.heap.size ≤ g2) (ge : w.heap.size ≤ o) (bel : Below w.heap.size w W) (a : RowAt arVals 2 W (fun b => W0.heap.size ≤ b ∧ b ≠ o) ya p.arrays) (m : RowAt stVals 7 W (fun b => W0.heap.size ≤ b ∧ b ≠ o) ym p.main) :
    PgBx w (putAll W o [(0, (.slice none 0 0)), (1, (.slice ya p.arrays.length da)), (2, (.slice none 0 0)), (3, (.slice ym p.main.length dm))]) g1 g2 o W.heap.size pc [(.slice none 0 0), (.slice ya p.arrays.length da), (.slice none 0 0), (.slice ym p.main.length dm)] ∧ RowAt arVals 2 (putAll W o [(0, (.slice none 0 0)), (1, (.slice ya p.arrays.length da)), (2, (.slice none 0 0)), (3, (.slice ym p.main.length dm))]) (okM W0 W.heap.size o) ya p.arrays ∧ RowAt stVals 7 (putAll W o [(0, (.slice none 0 0)), (1, (.slice ya p.arrays.length da)), (2, (.slice none 0 0)), (3, (.slice ym p.main.length dm))]) (okM W0 W.heap.size o) ym p.main := by
  obtain ⟨p1, p2⟩ := putAll_block o [(0, (.slice none 0 0)), (1, (.slice ya p.arrays.length da)), (2, (.slice none 0 0)), (3, (.slice ym p.main.length dm))] W
  have B9 := (((hO.put 0 (by simp) (.slice none 0 0)).put 1 (by simp) (.slice ya p.arrays.length da)).put 2 (by simp) (.slice none 0 0)).put 3 (by simp) (.slice ym p.main.length dm)
  have keepB : ∀ {b : Nat} {vs : List Value}, BoxN W b vs → b ≠ o → BoxN (putAll W o [(0, (.slice none 0 0)), (1, (.slice ya p.arrays.length da)), (2, (.slice none 0 0)), (3, (.slice ym p.main.length dm))]) b vs := fun h hn => (((h.other (q := ⟨o, 0, none⟩) (fun e => hn e.symm) (.slice none 0 0)).other (q := ⟨o, 1, none⟩) (fun e => hn e.symm) (.slice ya p.arrays.length da)).other (q := ⟨o, 2, none⟩) (fun e => hn e.symm) (.slice none 0 0)).other (q := ⟨o, 3, none⟩) (fun e => hn e.symm) (.slice ym p.main.length dm)
  refine ⟨⟨keepB hA n1, keepB hR n2, B9, n1, n2, n3, ge2, ge, hA.lt, hR.lt, hO.lt, Nat.le_of_eq p1.symm, ?_⟩, a.keep arVals_keeps (Nat.le_of_eq p1.symm) (fun b k _ => p2 b k.2) (fun b k hlt => ⟨k.1, hlt, k.2⟩), m.keep stVals_keeps (Nat.le_of_eq p1.symm) (fun b k _ => p2 b k.2) (fun b k hlt => ⟨k.1, hlt, k.2⟩)⟩
  exact (((bel.setCell (p := ⟨o, 0, none⟩) ge _).setCell (p := ⟨o, 1, none⟩) ge _).setCell (p := ⟨o, 2, none⟩) ge _).setCell (p := ⟨o, 3, none⟩) ge _
set_option maxRecDepth 20000 in
set_option maxHeartbeats 16000000 in
theorem back_any (p : Pg) (h : PgOk p) (w : World) (v : Value) (hV : PgV w Any v p) : Calls Tryz.prog 24 #[v] w fun e w' => Below w.heap.size w w' ∧ ∃ v', e = .returned v' ∧ PgV w' (fun b => w.heap.size ≤ b) v' p := by
  obtain ⟨xv, cv, xa, ca, xp, cp, xm, cm, rfl, hv, ha, hp, hm⟩ := hV
  obtain ⟨iS, hiS, hzS0, hzS1, hzS2⟩ := info_parts Tryz.infoStr
  obtain ⟨iP, hiP, hzP0, hzP1, hzP2⟩ := info_parts Tryz.infoRefP
  have hlv : p.vars.length * 16 ≤ 140737488355328 := by have := h.vars; omega
  obtain ⟨na, hna⟩ : ∃ n, Hid (n = p.arrays.length) := ⟨_, rfl⟩
  obtain ⟨np, hnp⟩ : ∃ n, Hid (n = p.procs.length) := ⟨_, rfl⟩
  have hla : na * 24 ≤ 140737488355328 := by rw [hna.out]; have := h.arrays.len; omega
  have hlp : np * 128 ≤ 140737488355328 := by rw [hnp.out]; have := h.procs.len; omega
  rw [← hna.out, ← hnp.out]
  have hb0 : Below w.heap.size w ((w.alloc (.cells #[.slice xv p.vars.length cv, .slice xa na ca, .slice xp np cp, .slice xm p.main.length cm] 37)).alloc (.cells #[.slice none 0 0, .slice none 0 0, .slice none 0 0, .slice none 0 0] 27)) := ((Below.refl _ _).alloc (Nat.le_refl _) _).alloc (by simp) _
  have A0 : BoxN ((w.alloc (.cells #[.slice xv p.vars.length cv, .slice xa na ca, .slice xp np cp, .slice xm p.main.length cm] 37)).alloc (.cells #[.slice none 0 0, .slice none 0 0, .slice none 0 0, .slice none 0 0] 27)) w.heap.size [.slice xv p.vars.length cv, .slice xa na ca, .slice xp np cp, .slice xm p.main.length cm] := (BoxN.new w 37 [.slice xv p.vars.length cv, .slice xa na ca, .slice xp np cp, .slice xm p.main.length cm]).bel ((Below.refl _ _).alloc (Nat.le_refl _) _)
  have R0 : BoxN ((w.alloc (.cells #[.slice xv p.vars.length cv, .slice xa na ca, .slice xp np cp, .slice xm p.main.length cm] 37)).alloc (.cells #[.slice none 0 0, .slice none 0 0, .slice none 0 0, .slice none 0 0] 27)) (w.heap.size + 1) [.slice none 0 0, .slice none 0 0, .slice none 0 0, .slice none 0 0] := by
    have := BoxN.new (w.alloc (.cells #[.slice xv p.vars.length cv, .slice xa na ca, .slice xp np cp, .slice xm p.main.length cm] 37)) 27 [.slice none 0 0, .slice none 0 0, .slice none 0 0, .slice none 0 0]; rw [World.size_alloc] at this; exact this
  obtain ⟨W0, hW0⟩ : ∃ X, X = (w.alloc (.cells #[.slice xv p.vars.length cv, .slice xa na ca, .slice xp np cp, .slice xm p.main.length cm] 37)).alloc (.cells #[.slice none 0 0, .slice none 0 0, .slice none 0 0, .slice none 0 0] 27) := ⟨_, rfl⟩
  rw [← hW0] at hb0 A0 R0
  go_enter Tryz.func24, Tryz.ntmps24
  go_upto_region 1 with fail
  change Code.wp _ _ _ _ ((w.alloc (.cells #[.slice xv p.vars.length cv, .slice xa na ca, .slice xp np cp, .slice xm p.main.length cm] 37)).alloc (.cells #[.slice none 0 0, .slice none 0 0, .slice none 0 0, .slice none 0 0] 27))
  rw [← hW0]
  clear hW0
  obtain ⟨g1, hg1⟩ : ∃ g, g = w.heap.size := ⟨_, rfl⟩
  obtain ⟨g2, hg2⟩ : ∃ g, g = w.heap.size + 1 := ⟨_, rfl⟩
  have hgl : w.heap.size ≤ g2 := by omega
  have hgn : g2 ≠ g1 := by omega
  rw [← hg1] at A0
  rw [← hg2] at R0
  rw [← hg2, ← hg1]
  clear hg1 hg2
  have sz0 := hb0.size
  have hgW : g2 < W0.heap.size := R0.lt
  have hwW := hb0.size
  go_cut [3] (fun t3 wx => ∃ (o : Nat) (ya : Option Addr) (da : Nat) (ym : Option Addr) (dm M : Nat), t3 = .pointer (some ⟨o, 0, none⟩) ∧ W0.heap.size ≤ o ∧ PgBx w wx g1 g2 o M [.slice xv p.vars.length cv, .slice xa na ca, .slice xp np cp, .slice xm p.main.length cm] [(.slice none 0 0), (.slice ya p.arrays.length da), (.slice none 0 0), (.slice ym p.main.length dm)] ∧ RowAt arVals 2 wx (okM W0 M o) ya p.arrays ∧ RowAt stVals 7 wx (okM W0 M o) ym p.main)
  case first J K1 hRJ hMK =>
    have HRJ := hide hRJ
    have HMK := hide hMK
    clear hRJ hMK
    have Rd0 : Below W0.heap.size W0 W0.drew := (Below.refl _ _).drew
    have Bd0 := hb0.trans (Rd0.mono hb0.size)
    have Ad := A0.bel Rd0
    have Cd := R0.bel Rd0
    refine wp_region_held (S := fun w' => w'.cell? ⟨g1, 1, none⟩ = some (.slice xa na ca) ∧ w'.cell? ⟨g1, 3, none⟩ = some (.slice xm p.main.length cm)) (by kernel_rfl) ?_
    obtain ⟨wd, hwd⟩ : ∃ X, X = W0.drew := ⟨_, rfl⟩
    change wpAnyH _ _ _ _ _ _ _ _ W0.drew
    rw [← hwd] at Rd0 Bd0 Ad Cd ⊢
    clear hwd
    have hS9 : wd.cell? ⟨g1, 1, none⟩ = some (.slice xa na ca) ∧ wd.cell? ⟨g1, 3, none⟩ = some (.slice xm p.main.length cm) := ⟨Ad.cell 1 _ rfl, Ad.cell 3 _ rfl⟩
    (refine tk 0 (v := ?_) ?_ hS9 ?_; rotate_left 1; (intro w' hSw; (try dsimp only at hSw); go_simp; (try rw [if_pos (by omega)])); (try rfl); (try dsimp only [Act.put]))
    (refine tk 1 (v := ?_) ?_ hS9 ?_; rotate_left 1; (intro w' hSw; (try dsimp only at hSw); go_simp; (try rw [if_pos (by omega)])); (try rfl); (try dsimp only [Act.put]))
    (refine tk 3 (v := ?_) ?_ hS9 ?_; rotate_left 1; (intro w' hSw; (try dsimp only at hSw); go_simp; (try rw [if_pos (by omega)])); (try rfl); (try dsimp only [Act.put]))
    (refine tk 4 (v := ?_) ?_ hS9 ?_; rotate_left 1; (intro w' hSw; (try dsimp only at hSw); go_simp; (try rw [if_pos (by omega)])); (try rfl); (try dsimp only [Act.put]))
    refine wpAnyH_two (j := 2) (k := 7) (by kernel_rfl) ?_ ?_
    · skip
      have HC0 := hide (arraysBack_any p.arrays na hna hla wd xa ca ((ha.keep arVals_keeps Bd0.size (fun b _ hlt => Bd0.block b hlt) (fun _ _ _ => trivial))))
      skip
      unfold wpOp
      go_simp
      refine Or.inl (HC0.out.mono ?_)
      rintro e' w3 ⟨hb3, ya, da, rfl, hra⟩
      have R3 := Rd0.trans (hb3.mono Rd0.size)
      have B3 := hb0.trans (R3.mono hb0.size)
      have A3 := Ad.bel hb3
      have C3 := Cd.bel hb3
      have hS9 : w3.cell? ⟨g1, 1, none⟩ = some (.slice xa na ca) ∧ w3.cell? ⟨g1, 3, none⟩ = some (.slice xm p.main.length cm) := ⟨A3.cell 1 _ rfl, A3.cell 3 _ rfl⟩
      clear HC0
      have hra : RowAt arVals 2 w3 (fun b => W0.heap.size ≤ b) ya _ := hra.okk arVals_keeps (fun b k _ => by have k : wd.heap.size ≤ b := k; have := Rd0.size; show W0.heap.size ≤ b; omega)
      refine ⟨hS9, ?_⟩
      refine wpAnyH_two (j := 5) (k := 7) (by kernel_rfl) ?_ ?_
      · skip
        have HC1 := hide (stmtsBack_ok 14 h.main w3 xm cm 0 (by omega) (hm.keep B3.size (fun b _ hlt => B3.block b hlt) (fun _ _ _ => trivial)))
        skip
        unfold wpOp
        go_simp
        refine Or.inl (HC1.out.mono ?_)
        rintro e' w4 ⟨hb4, ym, dm, rfl, hrm⟩
        have R4 := R3.trans (hb4.mono R3.size)
        have B4 := hb0.trans (R4.mono hb0.size)
        have A4 := A3.bel hb4
        have C4 := C3.bel hb4
        have hS9 : w4.cell? ⟨g1, 1, none⟩ = some (.slice xa na ca) ∧ w4.cell? ⟨g1, 3, none⟩ = some (.slice xm p.main.length cm) := ⟨A4.cell 1 _ rfl, A4.cell 3 _ rfl⟩
        clear HC1
        have hra := hra.belM arVals_keeps hb4
        have hrm : RowAt stVals 7 w4 (fun b => W0.heap.size ≤ b) ym _ := hrm.okk stVals_keeps (fun b k _ => by have k : w3.heap.size ≤ b := k; have := R3.size; show W0.heap.size ≤ b; omega)
        refine ⟨hS9, ?_⟩
        (refine tk 6 (v := ?_) ?_ hS9 ?_; rotate_left 1; (intro w' hSw; (try dsimp only at hSw); go_simp; (try rw [if_pos (by omega)])); (try rfl); (try dsimp only [Act.put]))
        refine wpAnyH_one (k := 7) (by kernel_rfl) ?_
        unfold wpOp
        go_simp
        have hbA := (Below.refl w4.heap.size w4).alloc (Nat.le_refl _) (.cells #[.slice none 0 0, .slice none 0 0, .slice none 0 0, .slice none 0 0] 27)
        have Bq : BoxN (w4.alloc (.cells #[.slice none 0 0, .slice none 0 0, .slice none 0 0, .slice none 0 0] 27)) w4.heap.size [.slice none 0 0, .slice none 0 0, .slice none 0 0, .slice none 0 0] := BoxN.new w4 27 [.slice none 0 0, .slice none 0 0, .slice none 0 0, .slice none 0 0]
        have RA := R4.trans (hbA.mono R4.size)
        have AA := A4.bel hbA
        have CA := C4.bel hbA
        have hra : RowAt arVals 2 (w4.alloc (.cells #[.slice none 0 0, .slice none 0 0, .slice none 0 0, .slice none 0 0] 27)) (fun b => W0.heap.size ≤ b ∧ b ≠ w4.heap.size) ya _ := (hra.okk arVals_keeps (fun b k hlt => ⟨k, by omega⟩)).belM arVals_keeps hbA
        have hrm : RowAt stVals 7 (w4.alloc (.cells #[.slice none 0 0, .slice none 0 0, .slice none 0 0, .slice none 0 0] 27)) (fun b => W0.heap.size ≤ b ∧ b ≠ w4.heap.size) ym _ := (hrm.okk stVals_keeps (fun b k hlt => ⟨k, by omega⟩)).belM stVals_keeps hbA
        have hqg : W0.heap.size ≤ w4.heap.size := R4.size
        obtain ⟨WA, hWA⟩ : ∃ X, X = w4.alloc (.cells #[.slice none 0 0, .slice none 0 0, .slice none 0 0, .slice none 0 0] 27) := ⟨_, rfl⟩
        rw [← hWA] at hbA Bq RA AA CA hra hrm ⊢
        clear hWA
        have BA := hb0.trans (RA.mono hb0.size)
        have hS9 : WA.cell? ⟨g1, 1, none⟩ = some (.slice xa na ca) ∧ WA.cell? ⟨g1, 3, none⟩ = some (.slice xm p.main.length cm) := ⟨AA.cell 1 _ rfl, AA.cell 3 _ rfl⟩
        refine Or.inl ⟨hS9, ?_⟩
        obtain ⟨o, ho⟩ : ∃ q, q = w4.heap.size := ⟨_, rfl⟩
        rw [← ho] at Bq hqg hra hrm ⊢
        clear ho
        have hn1 : g1 ≠ o := fun e => by have := A0.lt; omega
        have hn2 : g2 ≠ o := fun e => by have := R0.lt; omega
        have fin := PgBx.mk' (da := da) (dm := dm) AA CA Bq hn1 hn2 hgn hgl (by omega) BA hra hrm
        have p0' := Bq.cell 0 _ rfl
        have f0 := Bq.fr 0
        have p1' := Bq.cell 1 _ rfl
        have f1 := Bq.fr 1
        have p2' := Bq.cell 2 _ rfl
        have f2 := Bq.fr 2
        have p3' := Bq.cell 3 _ rfl
        have f3 := Bq.fr 3
        refine wpAnyH_one (k := 8) (by kernel_rfl) ?_
        unfold wpOp
        go_simp
        refine Or.inl ⟨by kernel_rfl, ?_⟩
        refine HMK.out _ _ (Met.intro (HRJ.out _ _ ?_))
        (repeat apply Exists.intro)
        refine ⟨?rel, rfl⟩
        case rel => exact ⟨o, ya, da, ym, dm, _, rfl, hqg, fin⟩
      · skip
        skip
        unfold wpOp
        go_simp
        have hbA := (Below.refl w3.heap.size w3).alloc (Nat.le_refl _) (.cells #[.slice none 0 0, .slice none 0 0, .slice none 0 0, .slice none 0 0] 27)
        have Bq : BoxN (w3.alloc (.cells #[.slice none 0 0, .slice none 0 0, .slice none 0 0, .slice none 0 0] 27)) w3.heap.size [.slice none 0 0, .slice none 0 0, .slice none 0 0, .slice none 0 0] := BoxN.new w3 27 [.slice none 0 0, .slice none 0 0, .slice none 0 0, .slice none 0 0]
        have RA := R3.trans (hbA.mono R3.size)
        have AA := A3.bel hbA
        have CA := C3.bel hbA
        have hra : RowAt arVals 2 (w3.alloc (.cells #[.slice none 0 0, .slice none 0 0, .slice none 0 0, .slice none 0 0] 27)) (fun b => W0.heap.size ≤ b ∧ b ≠ w3.heap.size) ya _ := (hra.okk arVals_keeps (fun b k hlt => ⟨k, by omega⟩)).belM arVals_keeps hbA
        have hqg : W0.heap.size ≤ w3.heap.size := R3.size
        obtain ⟨WA, hWA⟩ : ∃ X, X = w3.alloc (.cells #[.slice none 0 0, .slice none 0 0, .slice none 0 0, .slice none 0 0] 27) := ⟨_, rfl⟩
        rw [← hWA] at hbA Bq RA AA CA hra ⊢
        clear hWA
        have BA := hb0.trans (RA.mono hb0.size)
        have hS9 : WA.cell? ⟨g1, 1, none⟩ = some (.slice xa na ca) ∧ WA.cell? ⟨g1, 3, none⟩ = some (.slice xm p.main.length cm) := ⟨AA.cell 1 _ rfl, AA.cell 3 _ rfl⟩
        refine Or.inl ⟨hS9, ?_⟩
        obtain ⟨o, ho⟩ : ∃ q, q = w3.heap.size := ⟨_, rfl⟩
        rw [← ho] at Bq hqg hra ⊢
        clear ho
        have HC1 := hide (stmtsBack_ok 14 h.main WA xm cm 0 (by omega) (hm.keep BA.size (fun b _ hlt => BA.block b hlt) (fun _ _ _ => trivial)))
        refine wpAnyH_one (k := 5) (by kernel_rfl) ?_
        unfold wpOp
        go_simp
        refine Or.inl (HC1.out.mono ?_)
        rintro e' w4 ⟨hb4, ym, dm, rfl, hrm⟩
        have R4 := RA.trans (hb4.mono RA.size)
        have B4 := hb0.trans (R4.mono hb0.size)
        have A4 := AA.bel hb4
        have C4 := CA.bel hb4
        have hS9 : w4.cell? ⟨g1, 1, none⟩ = some (.slice xa na ca) ∧ w4.cell? ⟨g1, 3, none⟩ = some (.slice xm p.main.length cm) := ⟨A4.cell 1 _ rfl, A4.cell 3 _ rfl⟩
        clear HC1
        have hra := hra.belM arVals_keeps hb4
        have hrm : RowAt stVals 7 w4 (fun b => W0.heap.size ≤ b ∧ b ≠ o) ym _ := hrm.okk stVals_keeps (fun b k _ => by have k : WA.heap.size ≤ b := k; have := RA.size; have := Bq.lt; exact ⟨by omega, by omega⟩)
        have Bq := Bq.bel hb4
        refine ⟨hS9, ?_⟩
        (refine tk 6 (v := ?_) ?_ hS9 ?_; rotate_left 1; (intro w' hSw; (try dsimp only at hSw); go_simp; (try rw [if_pos (by omega)])); (try rfl); (try dsimp only [Act.put]))
        have hn1 : g1 ≠ o := fun e => by have := A0.lt; omega
        have hn2 : g2 ≠ o := fun e => by have := R0.lt; omega
        have fin := PgBx.mk' (da := da) (dm := dm) A4 C4 Bq hn1 hn2 hgn hgl (by omega) B4 hra hrm
        have p0' := Bq.cell 0 _ rfl
        have f0 := Bq.fr 0
        have p1' := Bq.cell 1 _ rfl
        have f1 := Bq.fr 1
        have p2' := Bq.cell 2 _ rfl
        have f2 := Bq.fr 2
        have p3' := Bq.cell 3 _ rfl
        have f3 := Bq.fr 3
        refine wpAnyH_one (k := 8) (by kernel_rfl) ?_
        unfold wpOp
        go_simp
        refine Or.inl ⟨by kernel_rfl, ?_⟩
        refine HMK.out _ _ (Met.intro (HRJ.out _ _ ?_))
        (repeat apply Exists.intro)
        refine ⟨?rel, rfl⟩
        case rel => exact ⟨o, ya, da, ym, dm, _, rfl, hqg, fin⟩
    · skip
      skip
      unfold wpOp
      go_simp
      have hbA := (Below.refl wd.heap.size wd).alloc (Nat.le_refl _) (.cells #[.slice none 0 0, .slice none 0 0, .slice none 0 0, .slice none 0 0] 27)
      have Bq : BoxN (wd.alloc (.cells #[.slice none 0 0, .slice none 0 0, .slice none 0 0, .slice none 0 0] 27)) wd.heap.size [.slice none 0 0, .slice none 0 0, .slice none 0 0, .slice none 0 0] := BoxN.new wd 27 [.slice none 0 0, .slice none 0 0, .slice none 0 0, .slice none 0 0]
      have RA := Rd0.trans (hbA.mono Rd0.size)
      have AA := Ad.bel hbA
      have CA := Cd.bel hbA
      have hqg : W0.heap.size ≤ wd.heap.size := Rd0.size
      obtain ⟨WA, hWA⟩ : ∃ X, X = wd.alloc (.cells #[.slice none 0 0, .slice none 0 0, .slice none 0 0, .slice none 0 0] 27) := ⟨_, rfl⟩
      rw [← hWA] at hbA Bq RA AA CA  ⊢
      clear hWA
      have BA := hb0.trans (RA.mono hb0.size)
      have hS9 : WA.cell? ⟨g1, 1, none⟩ = some (.slice xa na ca) ∧ WA.cell? ⟨g1, 3, none⟩ = some (.slice xm p.main.length cm) := ⟨AA.cell 1 _ rfl, AA.cell 3 _ rfl⟩
      refine Or.inl ⟨hS9, ?_⟩
      obtain ⟨o, ho⟩ : ∃ q, q = wd.heap.size := ⟨_, rfl⟩
      rw [← ho] at Bq hqg  ⊢
      clear ho
      have HC0 := hide (arraysBack_any p.arrays na hna hla WA xa ca ((ha.keep arVals_keeps BA.size (fun b _ hlt => BA.block b hlt) (fun _ _ _ => trivial))))
      refine wpAnyH_one (k := 2) (by kernel_rfl) ?_
      unfold wpOp
      go_simp
      refine Or.inl (HC0.out.mono ?_)
      rintro e' w3 ⟨hb3, ya, da, rfl, hra⟩
      have R3 := RA.trans (hb3.mono RA.size)
      have B3 := hb0.trans (R3.mono hb0.size)
      have A3 := AA.bel hb3
      have C3 := CA.bel hb3
      have hS9 : w3.cell? ⟨g1, 1, none⟩ = some (.slice xa na ca) ∧ w3.cell? ⟨g1, 3, none⟩ = some (.slice xm p.main.length cm) := ⟨A3.cell 1 _ rfl, A3.cell 3 _ rfl⟩
      clear HC0
      have hra : RowAt arVals 2 w3 (fun b => W0.heap.size ≤ b ∧ b ≠ o) ya _ := hra.okk arVals_keeps (fun b k _ => by have k : WA.heap.size ≤ b := k; have := RA.size; have := Bq.lt; exact ⟨by omega, by omega⟩)
      have Bq := Bq.bel hb3
      refine ⟨hS9, ?_⟩
      have HC1 := hide (stmtsBack_ok 14 h.main w3 xm cm 0 (by omega) (hm.keep B3.size (fun b _ hlt => B3.block b hlt) (fun _ _ _ => trivial)))
      refine wpAnyH_one (k := 5) (by kernel_rfl) ?_
      unfold wpOp
      go_simp
      refine Or.inl (HC1.out.mono ?_)
      rintro e' w4 ⟨hb4, ym, dm, rfl, hrm⟩
      have R4 := R3.trans (hb4.mono R3.size)
      have B4 := hb0.trans (R4.mono hb0.size)
      have A4 := A3.bel hb4
      have C4 := C3.bel hb4
      have hS9 : w4.cell? ⟨g1, 1, none⟩ = some (.slice xa na ca) ∧ w4.cell? ⟨g1, 3, none⟩ = some (.slice xm p.main.length cm) := ⟨A4.cell 1 _ rfl, A4.cell 3 _ rfl⟩
      clear HC1
      have hra := hra.belM arVals_keeps hb4
      have hrm : RowAt stVals 7 w4 (fun b => W0.heap.size ≤ b ∧ b ≠ o) ym _ := hrm.okk stVals_keeps (fun b k _ => by have k : w3.heap.size ≤ b := k; have := R3.size; have := Bq.lt; exact ⟨by omega, by omega⟩)
      have Bq := Bq.bel hb4
      refine ⟨hS9, ?_⟩
      (refine tk 6 (v := ?_) ?_ hS9 ?_; rotate_left 1; (intro w' hSw; (try dsimp only at hSw); go_simp; (try rw [if_pos (by omega)])); (try rfl); (try dsimp only [Act.put]))
      have hn1 : g1 ≠ o := fun e => by have := A0.lt; omega
      have hn2 : g2 ≠ o := fun e => by have := R0.lt; omega
      have fin := PgBx.mk' (da := da) (dm := dm) A4 C4 Bq hn1 hn2 hgn hgl (by omega) B4 hra hrm
      have p0' := Bq.cell 0 _ rfl
      have f0 := Bq.fr 0
      have p1' := Bq.cell 1 _ rfl
      have f1 := Bq.fr 1
      have p2' := Bq.cell 2 _ rfl
      have f2 := Bq.fr 2
      have p3' := Bq.cell 3 _ rfl
      have f3 := Bq.fr 3
      refine wpAnyH_one (k := 8) (by kernel_rfl) ?_
      unfold wpOp
      go_simp
      refine Or.inl ⟨by kernel_rfl, ?_⟩
      refine HMK.out _ _ (Met.intro (HRJ.out _ _ ?_))
      (repeat apply Exists.intro)
      refine ⟨?rel, rfl⟩
      case rel => exact ⟨o, ya, da, ym, dm, _, rfl, hqg, fin⟩
  case rest =>
  obtain ⟨o, ya, da, ym, dm, M1, rfl, hoW, hX2, hra2, hrm2⟩ := hcut
  clear A0 R0
  go_upto_region 2 with fail
  go_cut [] (fun wx => ∃ (yv : Option Addr) (dv M : Nat), PgBx w wx g1 g2 o M [.slice xv p.vars.length cv, .slice xa na ca, .slice xp np cp, .slice xm p.main.length cm] [(.slice yv p.vars.length dv), (.slice ya p.arrays.length da), (.slice none 0 0), (.slice ym p.main.length dm)] ∧ RowAt strVals 1 wx (okM W0 M o) yv p.vars ∧ RowAt arVals 2 wx (okM W0 M o) ya p.arrays ∧ RowAt stVals 7 wx (okM W0 M o) ym p.main)
  case first =>
    have p0 := hX2.P.cell 0 _ rfl
    have o0 := hX2.O.cell 0 _ rfl
    have f0 := hX2.O.fr 0
    have hbW := hX2.bel
    rcases strs_src hv with ⟨rfl, hnil⟩ | ⟨ad, rfl, hsrc⟩
    · have hlen0 : p.vars.length = 0 := by rw [hnil]; rfl
      have X3 := hX2.set 0 (by simp) (.slice none 0 0)
      have hr3 := hrm2.setM stVals_keeps (j := 0) (.slice none 0 0)
      have hs3 := hra2.setM arVals_keeps (j := 0) (.slice none 0 0)
      rw [hlen0] at p0
      go_wp2_with fail
      go_meet
      case rel => exact ⟨none, 0, _, by rw [hlen0] at X3 ⊢; exact X3, .inl hnil, hs3, hr3⟩
    · have hmM := hX2.mM
      have hoM := hX2.lt
      have hoG := hX2.ge
      go_wp2_with (at_builtin; refine wpList_append_own _ rfl _ _ 22 rfl wc.heap.size 9 iS _ 1 16 Tryz.underlying22 hiS hzS0 hzS1 hzS2 rfl (by decide) (.slice none 0 0) 0 [] rfl (World.ownsRow_nil _ _ _ _) ad p.vars.length cv (strsV p.vars) rfl (by simp [strsV]) (hsrc _ hbW) (strsV_one _) (by unfold maxLen; omega) (by omega) (Nat.le_refl _) ?_)
      intro v' w3 own3 hg3 _
      have own3 : w3.ownsRow wc.heap.size 9 1 v' p.vars.length (strsV p.vars) := by simpa using own3
      obtain ⟨yv, dv, rfl, hrv⟩ := strs_of_own own3
      have hno : ∀ k, (Value.slice none 0 0).ownBlock = some k → wc.heap.size ≤ k := fun k e => by cases e
      have X3 := (hX2.far hg3 (fun k e => by cases e)).up (M' := w3.heap.size) (by have := hg3.size; omega) (Nat.le_refl _)
      have hr3 := (hrm2.farM stVals_keeps hg3 (fun k e => by cases e)).okk stVals_keeps (ok' := okM W0 w3.heap.size o) (fun b k hlt => ⟨k.1, hlt, k.2.2⟩)
      have hs3 := (hra2.farM arVals_keeps hg3 (fun k e => by cases e)).okk arVals_keeps (ok' := okM W0 w3.heap.size o) (fun b k hlt => ⟨k.1, hlt, k.2.2⟩)
      have hv3 := hrv.okk strVals_keeps (ok' := okM W0 w3.heap.size o) (fun b k hlt => by have k : wc.heap.size ≤ b := k; exact ⟨by omega, hlt, by omega⟩)
      have o3 := X3.O.cell 0 _ rfl
      have f3 := X3.O.fr 0
      have X4 := X3.set 0 (by simp) (.slice yv p.vars.length dv)
      have hr4 := hr3.setM stVals_keeps (j := 0) (.slice yv p.vars.length dv)
      have hs4 := hs3.setM arVals_keeps (j := 0) (.slice yv p.vars.length dv)
      have hv4 := hv3.setM strVals_keeps (j := 0) (.slice yv p.vars.length dv)
      go_wp2_with fail
      go_meet
      case rel => exact ⟨yv, dv, _, X4, hv4, hs4, hr4⟩
  case rest =>
  obtain ⟨yv, dv, M2, X, hrv, hra, hrm⟩ := hcut
  clear hX2 hra2 hrm2
  go_wp2_with fail
  go_loopg [4] np (fun gh iv wx => ∃ (i : Nat) (v : Value) (zss : List (List Value)), iv = .int .i64 i ∧ i + gh = np ∧ GRow pcVals 85 7 wx M2 v (p.procs.take i) zss ∧ PgBx w wx g1 g2 o M2 [.slice xv p.vars.length cv, .slice xa na ca, .slice xp np cp, .slice xm p.main.length cm] [(.slice yv p.vars.length dv), (.slice ya p.arrays.length da), v, (.slice ym p.main.length dm)] ∧ RowAt strVals 1 wx (okM W0 M2 o) yv p.vars ∧ RowAt arVals 2 wx (okM W0 M2 o) ya p.arrays ∧ RowAt stVals 7 wx (okM W0 M2 o) ym p.main)
  case atStart => exact ⟨0, .slice none 0 0, [], rfl, by omega, GRow.nil _ _ _ _ _, X, hrv, hra, hrm⟩
  case round =>
    clear X hrv hra hrm
    obtain ⟨i, v, zss, rfl, hig, g, X, hrv, hra, hrm⟩ := hrel
    rename World => wo
    have p2 := X.P.cell 2 _ rfl
    have htl := hide (take_len hnp.out (show i ≤ np by omega))
    by_cases hi : i < np
    case neg =>
      have hi' : ¬ (i : Int) < (np : Int) := by omega
      have hin : p.procs.take i = p.procs := List.take_of_length_le (by rw [← hnp.out]; omega)
      rw [hin] at g
      obtain ⟨yp, dp, rfl, hrp⟩ := g.row pcVals_keeps (by omega)
      have o0 := X.O.cell 0 _ rfl
      have o1 := X.O.cell 1 _ rfl
      have o2 := X.O.cell 2 _ rfl
      have o3 := X.O.cell 3 _ rfl
      have r0 := X.R.cell 0 _ rfl
      have r1 := X.R.cell 1 _ rfl
      have r2 := X.R.cell 2 _ rfl
      have r3 := X.R.cell 3 _ rfl
      have f0 := X.R.fr 0
      have f1 := X.R.fr 1
      have f2 := X.R.fr 2
      have f3 := X.R.fr 3
      have hge := X.ge2
      have lM := X.lt
      have bel9 := (((X.bel.setCell (p := ⟨g2, 0, none⟩) hge (.slice yv p.vars.length dv)).setCell (p := ⟨g2, 1, none⟩) hge (.slice ya p.arrays.length da)).setCell (p := ⟨g2, 2, none⟩) hge (.slice yp p.procs.length dp)).setCell (p := ⟨g2, 3, none⟩) hge (.slice ym p.main.length dm)
      have B9 := (((X.R.put 0 (by simp) (.slice yv p.vars.length dv)).put 1 (by simp) (.slice ya p.arrays.length da)).put 2 (by simp) (.slice yp p.procs.length dp)).put 3 (by simp) (.slice ym p.main.length dm)
      obtain ⟨q1, q2⟩ := putAll_block g2 [(0, (.slice yv p.vars.length dv)), (1, (.slice ya p.arrays.length da)), (2, .slice yp p.procs.length dp), (3, (.slice ym p.main.length dm))] wo
      have V9 : PgV (putAll wo g2 [(0, (.slice yv p.vars.length dv)), (1, (.slice ya p.arrays.length da)), (2, .slice yp p.procs.length dp), (3, (.slice ym p.main.length dm))]) (fun b => w.heap.size ≤ b) (.agg #[(.slice yv p.vars.length dv), (.slice ya p.arrays.length da), .slice yp p.procs.length dp, (.slice ym p.main.length dm)]) p :=
        ⟨yv, dv, ya, da, yp, dp, ym, dm, rfl, hrv.keep strVals_keeps (Nat.le_of_eq q1.symm) (fun b k _ => q2 b (by have := k.1; omega)) (fun b k _ => by have := k.1; show w.heap.size ≤ b; omega), hra.keep arVals_keeps (Nat.le_of_eq q1.symm) (fun b k _ => q2 b (by have := k.1; omega)) (fun b k _ => by have := k.1; show w.heap.size ≤ b; omega),
          hrp.keep pcVals_keeps (Nat.le_of_eq q1.symm) (fun b k _ => q2 b (by have k : M2 ≤ b := k; omega)) (fun b k _ => by have k : M2 ≤ b := k; show w.heap.size ≤ b; omega), stms_of_row (hrm.keep stVals_keeps (Nat.le_of_eq q1.symm) (fun b k _ => q2 b (by have := k.1; omega)) (fun b k _ => by have := k.1; show w.heap.size ≤ b; omega))⟩
      clear q1 q2
      go_wp2_with fail
      change bodyPost _ _ _ _ _ (putAll wo g2 [(0, (.slice yv p.vars.length dv)), (1, (.slice ya p.arrays.length da)), (2, .slice yp p.procs.length dp), (3, (.slice ym p.main.length dm))])
      change Below w.heap.size w (putAll wo g2 [(0, (.slice yv p.vars.length dv)), (1, (.slice ya p.arrays.length da)), (2, .slice yp p.procs.length dp), (3, (.slice ym p.main.length dm))]) at bel9
      change BoxN (putAll wo g2 [(0, (.slice yv p.vars.length dv)), (1, (.slice ya p.arrays.length da)), (2, .slice yp p.procs.length dp), (3, (.slice ym p.main.length dm))]) g2 [(.slice yv p.vars.length dv), (.slice ya p.arrays.length da), .slice yp p.procs.length dp, (.slice ym p.main.length dm)] at B9
      obtain ⟨W9, hW9⟩ : ∃ X, X = putAll wo g2 [(0, (.slice yv p.vars.length dv)), (1, (.slice ya p.arrays.length da)), (2, .slice yp p.procs.length dp), (3, (.slice ym p.main.length dm))] := ⟨_, rfl⟩
      rw [← hW9] at V9 bel9 B9 ⊢
      clear hW9
      have j0 := B9.cell 0 _ rfl
      have j1 := B9.cell 1 _ rfl
      have j2 := B9.cell 2 _ rfl
      have j3 := B9.cell 3 _ rfl
      refine bodyPost_ret (v := .agg #[(.slice yv p.vars.length dv), (.slice ya p.arrays.length da), .slice yp p.procs.length dp, (.slice ym p.main.length dm)]) (by simp [results, Tryz.results24, go_sem, j0, j1, j2, j3]) rfl ?_
      exact ⟨bel9, _, rfl, V9⟩
    have hi' : (i : Int) < (np : Int) := by omega
    obtain ⟨c, hc⟩ : ∃ c, p.procs[i]? = some c := ⟨_, List.getElem?_eq_getElem (by rw [← hnp.out]; exact hi)⟩
    have hf := h.procs.el c (List.mem_of_getElem? hc)
    obtain ⟨b, off, rfl, hlt, vs, hvl, vk, xq, cq, xb, cb, xe, ce, rfl, hyp, hyb, hye⟩ := hp.elem hc
    have k0 := vk 0 _ rfl
    have k1 := vk 1 _ rfl
    have k2 := vk 2 _ rfl
    have k3 := vk 3 _ rfl
    have k4 := vk 4 _ rfl
    have k5 := vk 5 _ rfl
    have k6 := vk 6 _ rfl
    simp only [Nat.add_zero] at k0
    have htk := hide (take_more hc)
    clear vk hc
    obtain ⟨vx, vc, rfl⟩ := g.form
    rw [htl.out] at g X
    have hbw : Below wo.heap.size wo wo.drew := (Below.refl _ _).drew
    have Xd := X.below hbw
    have Rd0 := hbw
    go_upto_region 6 with fail
    go_cut [5] (fun t6 wx => ∃ (q : Nat) (x4 : Option Addr) (c4 : Nat) (x5 : Option Addr) (c5 N : Nat), t6 = .pointer (some ⟨q, 0, none⟩) ∧ PcBx wo wx q N c (.slice none 0 0) x4 c4 x5 c5)
    case first J K1 hRJ hMK =>
      have HRJ := hide hRJ
      have HMK := hide hMK
      clear hRJ hMK
      refine wp_region_held (S := fun w' => w'.cell? ⟨g1, 2, none⟩ = some (.slice (some ⟨b, off, none⟩) np cp) ∧ w'.cell? ⟨b, off + i * 7, none⟩ = some (.string (bs c.name)) ∧ w'.cell? ⟨b, off + i * 7 + 2, none⟩ = some (.slice xb c.body.length cb) ∧ w'.cell? ⟨b, off + i * 7 + 3, none⟩ = some (.string (bs c.ret.op)) ∧ w'.cell? ⟨b, off + i * 7 + 4, none⟩ = some (.int .i64 c.ret.n) ∧ w'.cell? ⟨b, off + i * 7 + 5, none⟩ = some (.string (bs c.ret.name)) ∧ w'.cell? ⟨b, off + i * 7 + 6, none⟩ = some (.slice xe c.ret.l.length ce)) (by kernel_rfl) ?_
      obtain ⟨wd, hwd⟩ : ∃ X, X = wo.drew := ⟨_, rfl⟩
      change wpAnyH _ _ _ _ _ _ _ _ wo.drew
      rw [← hwd] at Xd Rd0 ⊢
      clear hwd hbw
      have hS9 : wd.cell? ⟨g1, 2, none⟩ = some (.slice (some ⟨b, off, none⟩) np cp) ∧ wd.cell? ⟨b, off + i * 7, none⟩ = some (.string (bs c.name)) ∧ wd.cell? ⟨b, off + i * 7 + 2, none⟩ = some (.slice xb c.body.length cb) ∧ wd.cell? ⟨b, off + i * 7 + 3, none⟩ = some (.string (bs c.ret.op)) ∧ wd.cell? ⟨b, off + i * 7 + 4, none⟩ = some (.int .i64 c.ret.n) ∧ wd.cell? ⟨b, off + i * 7 + 5, none⟩ = some (.string (bs c.ret.name)) ∧ wd.cell? ⟨b, off + i * 7 + 6, none⟩ = some (.slice xe c.ret.l.length ce) := ⟨Xd.P.cell 2 _ rfl, (Xd.bel.cell hlt).trans k0, (Xd.bel.cell hlt).trans k2, (Xd.bel.cell hlt).trans k3, (Xd.bel.cell hlt).trans k4, (Xd.bel.cell hlt).trans k5, (Xd.bel.cell hlt).trans k6⟩
      (refine tk 0 (v := ?_) ?_ hS9 ?_; rotate_left 1; (intro w' hSw; (try dsimp only at hSw); go_simp; (try rw [if_pos (by omega)])); (try rfl); (try dsimp only [Act.put]))
      (refine tk 1 (v := ?_) ?_ hS9 ?_; rotate_left 1; (intro w' hSw; (try dsimp only at hSw); go_simp; (try rw [if_pos (by omega)])); (try rfl); (try dsimp only [Act.put]))
      (refine tk 2 (v := ?_) ?_ hS9 ?_; rotate_left 1; (intro w' hSw; (try dsimp only at hSw); go_simp; (try rw [if_pos (by omega)])); (try rfl); (try dsimp only [Act.put]))
      (refine tk 3 (v := ?_) ?_ hS9 ?_; rotate_left 1; (intro w' hSw; (try dsimp only at hSw); go_simp; (try rw [if_pos (by omega)])); (try rfl); (try dsimp only [Act.put]))
      (refine tk 4 (v := ?_) ?_ hS9 ?_; rotate_left 1; (intro w' hSw; (try dsimp only at hSw); go_simp; (try rw [if_pos (by omega)])); (try rfl); (try dsimp only [Act.put]))
      (refine tk 5 (v := ?_) ?_ hS9 ?_; rotate_left 1; (intro w' hSw; (try dsimp only at hSw); go_simp; (try rw [if_pos (by omega)])); (try rfl); (try dsimp only [Act.put]))
      (refine tk 6 (v := ?_) ?_ hS9 ?_; rotate_left 1; (intro w' hSw; (try dsimp only at hSw); go_simp; (try rw [if_pos (by omega)])); (try rfl); (try dsimp only [Act.put]))
      (refine tk 7 (v := ?_) ?_ hS9 ?_; rotate_left 1; (intro w' hSw; (try dsimp only at hSw); go_simp; (try rw [if_pos (by omega)])); (try rfl); (try dsimp only [Act.put]))
      (refine tk 8 (v := ?_) ?_ hS9 ?_; rotate_left 1; (intro w' hSw; (try dsimp only at hSw); go_simp; (try rw [if_pos (by omega)])); (try rfl); (try dsimp only [Act.put]))
      (refine tk 9 (v := ?_) ?_ hS9 ?_; rotate_left 1; (intro w' hSw; (try dsimp only at hSw); go_simp; (try rw [if_pos (by omega)])); (try rfl); (try dsimp only [Act.put]))
      (refine tk 10 (v := ?_) ?_ hS9 ?_; rotate_left 1; (intro w' hSw; (try dsimp only at hSw); go_simp; (try rw [if_pos (by omega)])); (try rfl); (try dsimp only [Act.put]))
      (refine tk 11 (v := ?_) ?_ hS9 ?_; rotate_left 1; (intro w' hSw; (try dsimp only at hSw); go_simp; (try rw [if_pos (by omega)])); (try rfl); (try dsimp only [Act.put]))
      (refine tk 13 (v := ?_) ?_ hS9 ?_; rotate_left 1; (intro w' hSw; (try dsimp only at hSw); go_simp; (try rw [if_pos (by omega)])); (try rfl); (try dsimp only [Act.put]))
      (refine tk 14 (v := ?_) ?_ hS9 ?_; rotate_left 1; (intro w' hSw; (try dsimp only at hSw); go_simp; (try rw [if_pos (by omega)])); (try rfl); (try dsimp only [Act.put]))
      (refine tk 15 (v := ?_) ?_ hS9 ?_; rotate_left 1; (intro w' hSw; (try dsimp only at hSw); go_simp; (try rw [if_pos (by omega)])); (try rfl); (try dsimp only [Act.put]))
      (refine tk 16 (v := ?_) ?_ hS9 ?_; rotate_left 1; (intro w' hSw; (try dsimp only at hSw); go_simp; (try rw [if_pos (by omega)])); (try rfl); (try dsimp only [Act.put]))
      (refine tk 17 (v := ?_) ?_ hS9 ?_; rotate_left 1; (intro w' hSw; (try dsimp only at hSw); go_simp; (try rw [if_pos (by omega)])); (try rfl); (try dsimp only [Act.put]))
      (refine tk 18 (v := ?_) ?_ hS9 ?_; rotate_left 1; (intro w' hSw; (try dsimp only at hSw); go_simp; (try rw [if_pos (by omega)])); (try rfl); (try dsimp only [Act.put]))
      refine wpAnyH_two (j := 12) (k := 21) (by kernel_rfl) ?_ ?_
      · skip
        have HC0 := hide (stmtsBack_ok 14 hf.body wd xb cb 0 (by omega) (hyb.keep Xd.bel.size (fun b _ hlt => Xd.bel.block b hlt) (fun _ _ _ => trivial)))
        skip
        unfold wpOp
        go_simp
        refine Or.inl (HC0.out.mono ?_)
        rintro e' w3 ⟨hb3, x4, c4, rfl, hr4⟩
        have R3 := Rd0.trans (hb3.mono Rd0.size)
        have X3 := Xd.below hb3
        have hS9 : w3.cell? ⟨g1, 2, none⟩ = some (.slice (some ⟨b, off, none⟩) np cp) ∧ w3.cell? ⟨b, off + i * 7, none⟩ = some (.string (bs c.name)) ∧ w3.cell? ⟨b, off + i * 7 + 2, none⟩ = some (.slice xb c.body.length cb) ∧ w3.cell? ⟨b, off + i * 7 + 3, none⟩ = some (.string (bs c.ret.op)) ∧ w3.cell? ⟨b, off + i * 7 + 4, none⟩ = some (.int .i64 c.ret.n) ∧ w3.cell? ⟨b, off + i * 7 + 5, none⟩ = some (.string (bs c.ret.name)) ∧ w3.cell? ⟨b, off + i * 7 + 6, none⟩ = some (.slice xe c.ret.l.length ce) := ⟨X3.P.cell 2 _ rfl, (X3.bel.cell hlt).trans k0, (X3.bel.cell hlt).trans k2, (X3.bel.cell hlt).trans k3, (X3.bel.cell hlt).trans k4, (X3.bel.cell hlt).trans k5, (X3.bel.cell hlt).trans k6⟩
        clear HC0
        have hr4 : RowAt stVals 7 w3 (fun b => wo.heap.size ≤ b) x4 _ := hr4.okk stVals_keeps (fun b k _ => by have k : wd.heap.size ≤ b := k; have := Rd0.size; show wo.heap.size ≤ b; omega)
        refine ⟨hS9, ?_⟩
        refine wpAnyH_two (j := 19) (k := 21) (by kernel_rfl) ?_ ?_
        · skip
          have HC1 := hide (exprBack_fit hf.ret.sm hf.ret.dep w3 xe ce (hye.bel X3.bel))
          skip
          unfold wpOp
          go_simp
          refine Or.inl (HC1.out.mono ?_)
          rintro e' w4 ⟨hb4, x5, c5, rfl, hr5⟩
          have R4 := R3.trans (hb4.mono R3.size)
          have X4 := X3.below hb4
          have hS9 : w4.cell? ⟨g1, 2, none⟩ = some (.slice (some ⟨b, off, none⟩) np cp) ∧ w4.cell? ⟨b, off + i * 7, none⟩ = some (.string (bs c.name)) ∧ w4.cell? ⟨b, off + i * 7 + 2, none⟩ = some (.slice xb c.body.length cb) ∧ w4.cell? ⟨b, off + i * 7 + 3, none⟩ = some (.string (bs c.ret.op)) ∧ w4.cell? ⟨b, off + i * 7 + 4, none⟩ = some (.int .i64 c.ret.n) ∧ w4.cell? ⟨b, off + i * 7 + 5, none⟩ = some (.string (bs c.ret.name)) ∧ w4.cell? ⟨b, off + i * 7 + 6, none⟩ = some (.slice xe c.ret.l.length ce) := ⟨X4.P.cell 2 _ rfl, (X4.bel.cell hlt).trans k0, (X4.bel.cell hlt).trans k2, (X4.bel.cell hlt).trans k3, (X4.bel.cell hlt).trans k4, (X4.bel.cell hlt).trans k5, (X4.bel.cell hlt).trans k6⟩
          clear HC1
          have hr5 := exs_row hr5
          have hr4 := hr4.belM stVals_keeps hb4
          have hr5 : RowAt exVals 4 w4 (fun b => wo.heap.size ≤ b) x5 _ := hr5.okk exVals_keeps (fun b k _ => by have k : w3.heap.size ≤ b := k; have := R3.size; show wo.heap.size ≤ b; omega)
          refine ⟨hS9, ?_⟩
          (refine tk 20 (v := ?_) ?_ hS9 ?_; rotate_left 1; (intro w' hSw; (try dsimp only at hSw); go_simp; (try rw [if_pos (by omega)])); (try rfl); (try dsimp only [Act.put]))
          refine wpAnyH_one (k := 21) (by kernel_rfl) ?_
          unfold wpOp
          go_simp
          have hbA := (Below.refl w4.heap.size w4).alloc (Nat.le_refl _) (.cells #[.string ⟨#[]⟩, .slice none 0 0, .slice none 0 0, .string ⟨#[]⟩, .int .i64 0, .string ⟨#[]⟩, .slice none 0 0] 85)
          have Bq : BoxN (w4.alloc (.cells #[.string ⟨#[]⟩, .slice none 0 0, .slice none 0 0, .string ⟨#[]⟩, .int .i64 0, .string ⟨#[]⟩, .slice none 0 0] 85)) w4.heap.size [.string ⟨#[]⟩, .slice none 0 0, .slice none 0 0, .string ⟨#[]⟩, .int .i64 0, .string ⟨#[]⟩, .slice none 0 0] := BoxN.new w4 85 [.string ⟨#[]⟩, .slice none 0 0, .slice none 0 0, .string ⟨#[]⟩, .int .i64 0, .string ⟨#[]⟩, .slice none 0 0]
          have RA := R4.trans (hbA.mono R4.size)
          have XA := X4.below hbA
          have hr4 : RowAt stVals 7 (w4.alloc (.cells #[.string ⟨#[]⟩, .slice none 0 0, .slice none 0 0, .string ⟨#[]⟩, .int .i64 0, .string ⟨#[]⟩, .slice none 0 0] 85)) (fun b => wo.heap.size ≤ b ∧ b ≠ w4.heap.size) x4 _ := (hr4.okk stVals_keeps (fun b k hlt => ⟨k, by omega⟩)).belM stVals_keeps hbA
          have hr5 : RowAt exVals 4 (w4.alloc (.cells #[.string ⟨#[]⟩, .slice none 0 0, .slice none 0 0, .string ⟨#[]⟩, .int .i64 0, .string ⟨#[]⟩, .slice none 0 0] 85)) (fun b => wo.heap.size ≤ b ∧ b ≠ w4.heap.size) x5 _ := (hr5.okk exVals_keeps (fun b k hlt => ⟨k, by omega⟩)).belM exVals_keeps hbA
          have hqg : wo.heap.size ≤ w4.heap.size := R4.size
          obtain ⟨WA, hWA⟩ : ∃ X, X = w4.alloc (.cells #[.string ⟨#[]⟩, .slice none 0 0, .slice none 0 0, .string ⟨#[]⟩, .int .i64 0, .string ⟨#[]⟩, .slice none 0 0] 85) := ⟨_, rfl⟩
          rw [← hWA] at hbA Bq RA XA hr4 hr5 ⊢
          clear hWA
          have hS9 : WA.cell? ⟨g1, 2, none⟩ = some (.slice (some ⟨b, off, none⟩) np cp) ∧ WA.cell? ⟨b, off + i * 7, none⟩ = some (.string (bs c.name)) ∧ WA.cell? ⟨b, off + i * 7 + 2, none⟩ = some (.slice xb c.body.length cb) ∧ WA.cell? ⟨b, off + i * 7 + 3, none⟩ = some (.string (bs c.ret.op)) ∧ WA.cell? ⟨b, off + i * 7 + 4, none⟩ = some (.int .i64 c.ret.n) ∧ WA.cell? ⟨b, off + i * 7 + 5, none⟩ = some (.string (bs c.ret.name)) ∧ WA.cell? ⟨b, off + i * 7 + 6, none⟩ = some (.slice xe c.ret.l.length ce) := ⟨XA.P.cell 2 _ rfl, (XA.bel.cell hlt).trans k0, (XA.bel.cell hlt).trans k2, (XA.bel.cell hlt).trans k3, (XA.bel.cell hlt).trans k4, (XA.bel.cell hlt).trans k5, (XA.bel.cell hlt).trans k6⟩
          refine Or.inl ⟨hS9, ?_⟩
          obtain ⟨q, hq⟩ : ∃ q, q = w4.heap.size := ⟨_, rfl⟩
          rw [← hq] at Bq hqg hr4 hr5 ⊢
          clear hq
          have fin := PcBx.mk' (c4 := c4) (c5 := c5) Bq hqg hr4 hr5 RA
          have p0' := Bq.cell 0 _ rfl
          have f0 := Bq.fr 0
          have p1' := Bq.cell 1 _ rfl
          have f1 := Bq.fr 1
          have p2' := Bq.cell 2 _ rfl
          have f2 := Bq.fr 2
          have p3' := Bq.cell 3 _ rfl
          have f3 := Bq.fr 3
          have p4' := Bq.cell 4 _ rfl
          have f4 := Bq.fr 4
          have p5' := Bq.cell 5 _ rfl
          have f5 := Bq.fr 5
          have p6' := Bq.cell 6 _ rfl
          have f6 := Bq.fr 6
          have hbq : b ≠ q := fun e => by have := X.bel.size; omega
          have hgq : g1 ≠ q := fun e => by have := X.l1; have := X.mM; omega
          refine wpAnyH_one (k := 22) (by kernel_rfl) ?_
          unfold wpOp
          go_simp
          refine Or.inl ⟨by kernel_rfl, ?_⟩
          refine HMK.out _ _ (Met.intro (HRJ.out _ _ ?_))
          (repeat apply Exists.intro)
          refine ⟨?rel, rfl⟩
          case rel => exact ⟨q, x4, c4, x5, c5, _, rfl, fin⟩
        · skip
          skip
          unfold wpOp
          go_simp
          have hbA := (Below.refl w3.heap.size w3).alloc (Nat.le_refl _) (.cells #[.string ⟨#[]⟩, .slice none 0 0, .slice none 0 0, .string ⟨#[]⟩, .int .i64 0, .string ⟨#[]⟩, .slice none 0 0] 85)
          have Bq : BoxN (w3.alloc (.cells #[.string ⟨#[]⟩, .slice none 0 0, .slice none 0 0, .string ⟨#[]⟩, .int .i64 0, .string ⟨#[]⟩, .slice none 0 0] 85)) w3.heap.size [.string ⟨#[]⟩, .slice none 0 0, .slice none 0 0, .string ⟨#[]⟩, .int .i64 0, .string ⟨#[]⟩, .slice none 0 0] := BoxN.new w3 85 [.string ⟨#[]⟩, .slice none 0 0, .slice none 0 0, .string ⟨#[]⟩, .int .i64 0, .string ⟨#[]⟩, .slice none 0 0]
          have RA := R3.trans (hbA.mono R3.size)
          have XA := X3.below hbA
          have hr4 : RowAt stVals 7 (w3.alloc (.cells #[.string ⟨#[]⟩, .slice none 0 0, .slice none 0 0, .string ⟨#[]⟩, .int .i64 0, .string ⟨#[]⟩, .slice none 0 0] 85)) (fun b => wo.heap.size ≤ b ∧ b ≠ w3.heap.size) x4 _ := (hr4.okk stVals_keeps (fun b k hlt => ⟨k, by omega⟩)).belM stVals_keeps hbA
          have hqg : wo.heap.size ≤ w3.heap.size := R3.size
          obtain ⟨WA, hWA⟩ : ∃ X, X = w3.alloc (.cells #[.string ⟨#[]⟩, .slice none 0 0, .slice none 0 0, .string ⟨#[]⟩, .int .i64 0, .string ⟨#[]⟩, .slice none 0 0] 85) := ⟨_, rfl⟩
          rw [← hWA] at hbA Bq RA XA hr4 ⊢
          clear hWA
          have hS9 : WA.cell? ⟨g1, 2, none⟩ = some (.slice (some ⟨b, off, none⟩) np cp) ∧ WA.cell? ⟨b, off + i * 7, none⟩ = some (.string (bs c.name)) ∧ WA.cell? ⟨b, off + i * 7 + 2, none⟩ = some (.slice xb c.body.length cb) ∧ WA.cell? ⟨b, off + i * 7 + 3, none⟩ = some (.string (bs c.ret.op)) ∧ WA.cell? ⟨b, off + i * 7 + 4, none⟩ = some (.int .i64 c.ret.n) ∧ WA.cell? ⟨b, off + i * 7 + 5, none⟩ = some (.string (bs c.ret.name)) ∧ WA.cell? ⟨b, off + i * 7 + 6, none⟩ = some (.slice xe c.ret.l.length ce) := ⟨XA.P.cell 2 _ rfl, (XA.bel.cell hlt).trans k0, (XA.bel.cell hlt).trans k2, (XA.bel.cell hlt).trans k3, (XA.bel.cell hlt).trans k4, (XA.bel.cell hlt).trans k5, (XA.bel.cell hlt).trans k6⟩
          refine Or.inl ⟨hS9, ?_⟩
          obtain ⟨q, hq⟩ : ∃ q, q = w3.heap.size := ⟨_, rfl⟩
          rw [← hq] at Bq hqg hr4 ⊢
          clear hq
          have HC1 := hide (exprBack_fit hf.ret.sm hf.ret.dep WA xe ce (hye.bel XA.bel))
          refine wpAnyH_one (k := 19) (by kernel_rfl) ?_
          unfold wpOp
          go_simp
          refine Or.inl (HC1.out.mono ?_)
          rintro e' w4 ⟨hb4, x5, c5, rfl, hr5⟩
          have R4 := RA.trans (hb4.mono RA.size)
          have X4 := XA.below hb4
          have hS9 : w4.cell? ⟨g1, 2, none⟩ = some (.slice (some ⟨b, off, none⟩) np cp) ∧ w4.cell? ⟨b, off + i * 7, none⟩ = some (.string (bs c.name)) ∧ w4.cell? ⟨b, off + i * 7 + 2, none⟩ = some (.slice xb c.body.length cb) ∧ w4.cell? ⟨b, off + i * 7 + 3, none⟩ = some (.string (bs c.ret.op)) ∧ w4.cell? ⟨b, off + i * 7 + 4, none⟩ = some (.int .i64 c.ret.n) ∧ w4.cell? ⟨b, off + i * 7 + 5, none⟩ = some (.string (bs c.ret.name)) ∧ w4.cell? ⟨b, off + i * 7 + 6, none⟩ = some (.slice xe c.ret.l.length ce) := ⟨X4.P.cell 2 _ rfl, (X4.bel.cell hlt).trans k0, (X4.bel.cell hlt).trans k2, (X4.bel.cell hlt).trans k3, (X4.bel.cell hlt).trans k4, (X4.bel.cell hlt).trans k5, (X4.bel.cell hlt).trans k6⟩
          clear HC1
          have hr5 := exs_row hr5
          have hr4 := hr4.belM stVals_keeps hb4
          have hr5 : RowAt exVals 4 w4 (fun b => wo.heap.size ≤ b ∧ b ≠ q) x5 _ := hr5.okk exVals_keeps (fun b k _ => by have k : WA.heap.size ≤ b := k; have := RA.size; have := Bq.lt; exact ⟨by omega, by omega⟩)
          have Bq := Bq.bel hb4
          refine ⟨hS9, ?_⟩
          (refine tk 20 (v := ?_) ?_ hS9 ?_; rotate_left 1; (intro w' hSw; (try dsimp only at hSw); go_simp; (try rw [if_pos (by omega)])); (try rfl); (try dsimp only [Act.put]))
          have fin := PcBx.mk' (c4 := c4) (c5 := c5) Bq hqg hr4 hr5 R4
          have p0' := Bq.cell 0 _ rfl
          have f0 := Bq.fr 0
          have p1' := Bq.cell 1 _ rfl
          have f1 := Bq.fr 1
          have p2' := Bq.cell 2 _ rfl
          have f2 := Bq.fr 2
          have p3' := Bq.cell 3 _ rfl
          have f3 := Bq.fr 3
          have p4' := Bq.cell 4 _ rfl
          have f4 := Bq.fr 4
          have p5' := Bq.cell 5 _ rfl
          have f5 := Bq.fr 5
          have p6' := Bq.cell 6 _ rfl
          have f6 := Bq.fr 6
          have hbq : b ≠ q := fun e => by have := X.bel.size; omega
          have hgq : g1 ≠ q := fun e => by have := X.l1; have := X.mM; omega
          refine wpAnyH_one (k := 22) (by kernel_rfl) ?_
          unfold wpOp
          go_simp
          refine Or.inl ⟨by kernel_rfl, ?_⟩
          refine HMK.out _ _ (Met.intro (HRJ.out _ _ ?_))
          (repeat apply Exists.intro)
          refine ⟨?rel, rfl⟩
          case rel => exact ⟨q, x4, c4, x5, c5, _, rfl, fin⟩
      · skip
        skip
        unfold wpOp
        go_simp
        have hbA := (Below.refl wd.heap.size wd).alloc (Nat.le_refl _) (.cells #[.string ⟨#[]⟩, .slice none 0 0, .slice none 0 0, .string ⟨#[]⟩, .int .i64 0, .string ⟨#[]⟩, .slice none 0 0] 85)
        have Bq : BoxN (wd.alloc (.cells #[.string ⟨#[]⟩, .slice none 0 0, .slice none 0 0, .string ⟨#[]⟩, .int .i64 0, .string ⟨#[]⟩, .slice none 0 0] 85)) wd.heap.size [.string ⟨#[]⟩, .slice none 0 0, .slice none 0 0, .string ⟨#[]⟩, .int .i64 0, .string ⟨#[]⟩, .slice none 0 0] := BoxN.new wd 85 [.string ⟨#[]⟩, .slice none 0 0, .slice none 0 0, .string ⟨#[]⟩, .int .i64 0, .string ⟨#[]⟩, .slice none 0 0]
        have RA := Rd0.trans (hbA.mono Rd0.size)
        have XA := Xd.below hbA
        have hqg : wo.heap.size ≤ wd.heap.size := Rd0.size
        obtain ⟨WA, hWA⟩ : ∃ X, X = wd.alloc (.cells #[.string ⟨#[]⟩, .slice none 0 0, .slice none 0 0, .string ⟨#[]⟩, .int .i64 0, .string ⟨#[]⟩, .slice none 0 0] 85) := ⟨_, rfl⟩
        rw [← hWA] at hbA Bq RA XA  ⊢
        clear hWA
        have hS9 : WA.cell? ⟨g1, 2, none⟩ = some (.slice (some ⟨b, off, none⟩) np cp) ∧ WA.cell? ⟨b, off + i * 7, none⟩ = some (.string (bs c.name)) ∧ WA.cell? ⟨b, off + i * 7 + 2, none⟩ = some (.slice xb c.body.length cb) ∧ WA.cell? ⟨b, off + i * 7 + 3, none⟩ = some (.string (bs c.ret.op)) ∧ WA.cell? ⟨b, off + i * 7 + 4, none⟩ = some (.int .i64 c.ret.n) ∧ WA.cell? ⟨b, off + i * 7 + 5, none⟩ = some (.string (bs c.ret.name)) ∧ WA.cell? ⟨b, off + i * 7 + 6, none⟩ = some (.slice xe c.ret.l.length ce) := ⟨XA.P.cell 2 _ rfl, (XA.bel.cell hlt).trans k0, (XA.bel.cell hlt).trans k2, (XA.bel.cell hlt).trans k3, (XA.bel.cell hlt).trans k4, (XA.bel.cell hlt).trans k5, (XA.bel.cell hlt).trans k6⟩
        refine Or.inl ⟨hS9, ?_⟩
        obtain ⟨q, hq⟩ : ∃ q, q = wd.heap.size := ⟨_, rfl⟩
        rw [← hq] at Bq hqg  ⊢
        clear hq
        have HC0 := hide (stmtsBack_ok 14 hf.body WA xb cb 0 (by omega) (hyb.keep XA.bel.size (fun b _ hlt => XA.bel.block b hlt) (fun _ _ _ => trivial)))
        refine wpAnyH_one (k := 12) (by kernel_rfl) ?_
        unfold wpOp
        go_simp
        refine Or.inl (HC0.out.mono ?_)
        rintro e' w3 ⟨hb3, x4, c4, rfl, hr4⟩
        have R3 := RA.trans (hb3.mono RA.size)
        have X3 := XA.below hb3
        have hS9 : w3.cell? ⟨g1, 2, none⟩ = some (.slice (some ⟨b, off, none⟩) np cp) ∧ w3.cell? ⟨b, off + i * 7, none⟩ = some (.string (bs c.name)) ∧ w3.cell? ⟨b, off + i * 7 + 2, none⟩ = some (.slice xb c.body.length cb) ∧ w3.cell? ⟨b, off + i * 7 + 3, none⟩ = some (.string (bs c.ret.op)) ∧ w3.cell? ⟨b, off + i * 7 + 4, none⟩ = some (.int .i64 c.ret.n) ∧ w3.cell? ⟨b, off + i * 7 + 5, none⟩ = some (.string (bs c.ret.name)) ∧ w3.cell? ⟨b, off + i * 7 + 6, none⟩ = some (.slice xe c.ret.l.length ce) := ⟨X3.P.cell 2 _ rfl, (X3.bel.cell hlt).trans k0, (X3.bel.cell hlt).trans k2, (X3.bel.cell hlt).trans k3, (X3.bel.cell hlt).trans k4, (X3.bel.cell hlt).trans k5, (X3.bel.cell hlt).trans k6⟩
        clear HC0
        have hr4 : RowAt stVals 7 w3 (fun b => wo.heap.size ≤ b ∧ b ≠ q) x4 _ := hr4.okk stVals_keeps (fun b k _ => by have k : WA.heap.size ≤ b := k; have := RA.size; have := Bq.lt; exact ⟨by omega, by omega⟩)
        have Bq := Bq.bel hb3
        refine ⟨hS9, ?_⟩
        have HC1 := hide (exprBack_fit hf.ret.sm hf.ret.dep w3 xe ce (hye.bel X3.bel))
        refine wpAnyH_one (k := 19) (by kernel_rfl) ?_
        unfold wpOp
        go_simp
        refine Or.inl (HC1.out.mono ?_)
        rintro e' w4 ⟨hb4, x5, c5, rfl, hr5⟩
        have R4 := R3.trans (hb4.mono R3.size)
        have X4 := X3.below hb4
        have hS9 : w4.cell? ⟨g1, 2, none⟩ = some (.slice (some ⟨b, off, none⟩) np cp) ∧ w4.cell? ⟨b, off + i * 7, none⟩ = some (.string (bs c.name)) ∧ w4.cell? ⟨b, off + i * 7 + 2, none⟩ = some (.slice xb c.body.length cb) ∧ w4.cell? ⟨b, off + i * 7 + 3, none⟩ = some (.string (bs c.ret.op)) ∧ w4.cell? ⟨b, off + i * 7 + 4, none⟩ = some (.int .i64 c.ret.n) ∧ w4.cell? ⟨b, off + i * 7 + 5, none⟩ = some (.string (bs c.ret.name)) ∧ w4.cell? ⟨b, off + i * 7 + 6, none⟩ = some (.slice xe c.ret.l.length ce) := ⟨X4.P.cell 2 _ rfl, (X4.bel.cell hlt).trans k0, (X4.bel.cell hlt).trans k2, (X4.bel.cell hlt).trans k3, (X4.bel.cell hlt).trans k4, (X4.bel.cell hlt).trans k5, (X4.bel.cell hlt).trans k6⟩
        clear HC1
        have hr5 := exs_row hr5
        have hr4 := hr4.belM stVals_keeps hb4
        have hr5 : RowAt exVals 4 w4 (fun b => wo.heap.size ≤ b ∧ b ≠ q) x5 _ := hr5.okk exVals_keeps (fun b k _ => by have k : w3.heap.size ≤ b := k; have := R3.size; have := Bq.lt; exact ⟨by omega, by omega⟩)
        have Bq := Bq.bel hb4
        refine ⟨hS9, ?_⟩
        (refine tk 20 (v := ?_) ?_ hS9 ?_; rotate_left 1; (intro w' hSw; (try dsimp only at hSw); go_simp; (try rw [if_pos (by omega)])); (try rfl); (try dsimp only [Act.put]))
        have fin := PcBx.mk' (c4 := c4) (c5 := c5) Bq hqg hr4 hr5 R4
        have p0' := Bq.cell 0 _ rfl
        have f0 := Bq.fr 0
        have p1' := Bq.cell 1 _ rfl
        have f1 := Bq.fr 1
        have p2' := Bq.cell 2 _ rfl
        have f2 := Bq.fr 2
        have p3' := Bq.cell 3 _ rfl
        have f3 := Bq.fr 3
        have p4' := Bq.cell 4 _ rfl
        have f4 := Bq.fr 4
        have p5' := Bq.cell 5 _ rfl
        have f5 := Bq.fr 5
        have p6' := Bq.cell 6 _ rfl
        have f6 := Bq.fr 6
        have hbq : b ≠ q := fun e => by have := X.bel.size; omega
        have hgq : g1 ≠ q := fun e => by have := X.l1; have := X.mM; omega
        refine wpAnyH_one (k := 22) (by kernel_rfl) ?_
        unfold wpOp
        go_simp
        refine Or.inl ⟨by kernel_rfl, ?_⟩
        refine HMK.out _ _ (Met.intro (HRJ.out _ _ ?_))
        (repeat apply Exists.intro)
        refine ⟨?rel, rfl⟩
        case rel => exact ⟨q, x4, c4, x5, c5, _, rfl, fin⟩
    case rest =>
    obtain ⟨q, x4, c4, x5, c5, N, rfl, Y0⟩ := hcut
    clear Xd Rd0 hbw
    have hlq : c.params.length * 16 ≤ 140737488355328 := by have := hf.params; omega
    go_upto_region 7 with fail
    go_cut [] (fun wx => ∃ (xr : Option Addr) (cr N2 : Nat), PcBx wo wx q N2 c (.slice xr c.params.length cr) x4 c4 x5 c5 ∧ RowAt strVals 1 wx (okM wo N2 q) xr c.params)
    case first J K1 hRJ hMK =>
      have HRJ := hide hRJ
      have HMK := hide hMK
      clear hRJ hMK
      have hbx := (Below.refl wc.heap.size wc).drew
      have Y1 := Y0.below hbx
      have X1 := X.below Y1.bel
      refine wp_region_any (by kernel_rfl) (wpTill_any (S := fun w' => w'.cell? ⟨q, 1, none⟩ = some (.slice none 0 0) ∧ w'.cell? ⟨g1, 2, none⟩ = some (.slice (some ⟨b, off, none⟩) np cp) ∧ w'.cell? ⟨b, off + i * 7 + 1, none⟩ = some (.slice xq c.params.length cq)) (E := 10) _ _ _ _ ?_)
      obtain ⟨wd, hwd⟩ : ∃ X, X = wc.drew := ⟨_, rfl⟩
      change wpTill _ _ _ _ _ _ _ _ _ wc.drew
      rw [← hwd] at X1 Y1 ⊢
      clear hwd hbx
      have hS9 : wd.cell? ⟨q, 1, none⟩ = some (.slice none 0 0) ∧ wd.cell? ⟨g1, 2, none⟩ = some (.slice (some ⟨b, off, none⟩) np cp) ∧ wd.cell? ⟨b, off + i * 7 + 1, none⟩ = some (.slice xq c.params.length cq) := ⟨Y1.box.cell 1 _ rfl, X1.P.cell 2 _ rfl, (X1.bel.cell hlt).trans k1⟩
      (refine tkT 0 (v := ?_) ?_ hS9 ?_; rotate_left 1; (intro w' hSw; (try dsimp only at hSw); go_simp; (try rw [if_pos (by omega)])); (try rfl); (try dsimp only [Act.put]))
      (refine tkT 1 (v := ?_) ?_ hS9 ?_; rotate_left 1; (intro w' hSw; (try dsimp only at hSw); go_simp; (try rw [if_pos (by omega)])); (try rfl); (try dsimp only [Act.put]))
      (refine tkT 2 (v := ?_) ?_ hS9 ?_; rotate_left 1; (intro w' hSw; (try dsimp only at hSw); go_simp; (try rw [if_pos (by omega)])); (try rfl); (try dsimp only [Act.put]))
      (refine tkT 3 (v := ?_) ?_ hS9 ?_; rotate_left 1; (intro w' hSw; (try dsimp only at hSw); go_simp; (try rw [if_pos (by omega)])); (try rfl); (try dsimp only [Act.put]))
      (refine tkT 4 (v := ?_) ?_ hS9 ?_; rotate_left 1; (intro w' hSw; (try dsimp only at hSw); go_simp; (try rw [if_pos (by omega)])); (try rfl); (try dsimp only [Act.put]))
      (refine tkT 5 (v := ?_) ?_ hS9 ?_; rotate_left 1; (intro w' hSw; (try dsimp only at hSw); go_simp; (try rw [if_pos (by omega)])); (try rfl); (try dsimp only [Act.put]))
      (refine tkT 6 (v := ?_) ?_ hS9 ?_; rotate_left 1; (intro w' hSw; (try dsimp only at hSw); go_simp; (try rw [if_pos (by omega)])); (try rfl); (try dsimp only [Act.put]))
      (refine tkT 7 (v := ?_) ?_ hS9 ?_; rotate_left 1; (intro w' hSw; (try dsimp only at hSw); go_simp; (try rw [if_pos (by omega)])); (try rfl); (try dsimp only [Act.put]))
      refine wpTill_one (k := 8) (by kernel_rfl) ?_
      rcases strs_src hyp with ⟨rfl, hnil⟩ | ⟨ad, rfl, hsrc⟩
      · have hlen0 : c.params.length = 0 := by rw [hnil]; rfl
        rw [hlen0] at hS9
        unfold wpOp
        go_simp
        refine Or.inl ?_
        (refine tkT 9 (v := ?_) ?_ hS9 ?_; rotate_left 1; (intro w' hSw; (try dsimp only at hSw); go_simp; (try rw [if_pos (by omega)])); (try rfl); (try dsimp only [Act.put]))
        have m1 := Y1.box.cell 1 _ rfl
        have f1 := Y1.box.fr 1
        have Y2 := Y1.set (.slice none 0 0)
        refine wpTill_one (k := 10) (by kernel_rfl) ?_
        unfold wpOp
        go_simp
        refine Or.inl ⟨by kernel_rfl, ?_⟩
        refine HMK.out _ _ (Met.intro (HRJ.out _ _ ?_))
        (repeat apply Exists.intro)
        refine ⟨?rel, rfl⟩
        case rel => exact ⟨none, 0, _, by rw [hlen0]; exact Y2, .inl hnil⟩
      · have hmN := Y1.mN
        have hqN := Y1.lt
        have hqg := Y1.ge
        refine wpOp_step rfl (fun K' hK => ?_)
        refine step_append_own (by rfl) _ _ 22 (by rfl) wd.heap.size 9 iS _ 1 16 Tryz.underlying22 hiS hzS0 hzS1 hzS2 rfl (by decide) (.slice none 0 0) 0 [] (by simp [Act.eval]) (World.ownsRow_nil _ _ _ _) ad c.params.length cq (strsV c.params) (by simp [Act.eval]) (by simp [strsV]) (hsrc _ X1.bel) (strsV_one _) (by unfold maxLen; omega) (by omega) (Nat.le_refl _) ?_
        intro v' w3 own3 hg3
        have own3 : w3.ownsRow wd.heap.size 9 1 v' c.params.length (strsV c.params) := by simpa using own3
        obtain ⟨xr, cr, rfl, hrq⟩ := strs_of_own own3
        have Y3 := (Y1.far hg3 (fun k e => by cases e)).up
        have X3 := X1.far hg3 (fun k e => by cases e)
        have hrq := hrq.okk strVals_keeps (ok' := okM wo w3.heap.size q) (fun b k hlt => by have k : wd.heap.size ≤ b := k; exact ⟨by omega, hlt, by omega⟩)
        have hS9 : w3.cell? ⟨q, 1, none⟩ = some (.slice none 0 0) ∧ w3.cell? ⟨g1, 2, none⟩ = some (.slice (some ⟨b, off, none⟩) np cp) ∧ w3.cell? ⟨b, off + i * 7 + 1, none⟩ = some (.slice (some ad) c.params.length cq) := ⟨Y3.box.cell 1 _ rfl, X3.P.cell 2 _ rfl, (X3.bel.cell hlt).trans k1⟩
        refine hK _ _ ⟨fun _ => hS9, ?_⟩
        change wpTill _ _ _ _ _ _ _ _ (Act.put _ (some 55) _) _
        dsimp only [Act.put]
        (refine tkT 9 (v := ?_) ?_ hS9 ?_; rotate_left 1; (intro w' hSw; (try dsimp only at hSw); go_simp; (try rw [if_pos (by omega)])); (try rfl); (try dsimp only [Act.put]))
        have m1 := Y3.box.cell 1 _ rfl
        have f1 := Y3.box.fr 1
        have Y4 := Y3.set (.slice xr c.params.length cr)
        have hrq4 := hrq.setM strVals_keeps (j := 1) (.slice xr c.params.length cr)
        refine wpTill_one (k := 10) (by kernel_rfl) ?_
        unfold wpOp
        go_simp
        refine Or.inl ⟨by kernel_rfl, ?_⟩
        refine HMK.out _ _ (Met.intro (HRJ.out _ _ ?_))
        (repeat apply Exists.intro)
        refine ⟨?rel, rfl⟩
        case rel => exact ⟨xr, cr, _, Y4, hrq4⟩
    case rest =>
    obtain ⟨xr, cr, N2, Y, hrq⟩ := hcut
    clear Y0
    have Xc := X.below Y.bel
    have gc := g.bel pcVals_keeps Y.bel
    have rvc := hrv.belM strVals_keeps Y.bel
    have rac := hra.belM arVals_keeps Y.bel
    have rmc := hrm.belM stVals_keeps Y.bel
    have m0 := Y.box.cell 0 _ rfl
    have m1 := Y.box.cell 1 _ rfl
    have m2 := Y.box.cell 2 _ rfl
    have m3 := Y.box.cell 3 _ rfl
    have m4 := Y.box.cell 4 _ rfl
    have m5 := Y.box.cell 5 _ rfl
    have m6 := Y.box.cell 6 _ rfl
    have o2 := Xc.O.cell 2 _ rfl
    have hlo : ∀ q', (Value.slice vx i vc).ownBlock = some q' → M2 ≤ q' ∧ q' < wo.heap.size := fun q' e => g.own.lt q' e
    have hbL := (Below.refl wc.heap.size wc).alloc (Nat.le_refl _) (.cells #[.string (bs c.name), .slice xr c.params.length cr, .slice x4 c.body.length c4, .string (bs c.ret.op), .int .i64 c.ret.n, .string (bs c.ret.name), .slice x5 c.ret.l.length c5] 85)
    have XL := Xc.below hbL
    have gL := gc.bel pcVals_keeps hbL
    have rvL := rvc.belM strVals_keeps hbL
    have raL := rac.belM arVals_keeps hbL
    have rmL := rmc.belM stVals_keeps hbL
    have YL := Y.below hbL
    have hxM := X.mM
    have szY := Y.bel.size
    have hVL : pcVals (wc.alloc (.cells #[.string (bs c.name), .slice xr c.params.length cr, .slice x4 c.body.length c4, .string (bs c.ret.op), .int .i64 c.ret.n, .string (bs c.ret.name), .slice x5 c.ret.l.length c5] 85)) (fun b => M2 ≤ b ∧ (Value.slice vx i vc).ownBlock ≠ some b) [.string (bs c.name), .slice xr c.params.length cr, .slice x4 c.body.length c4, .string (bs c.ret.op), .int .i64 c.ret.n, .string (bs c.ret.name), .slice x5 c.ret.l.length c5] c :=
      ⟨xr, cr, x4, c4, x5, c5, rfl, (hrq.belM strVals_keeps hbL).okk strVals_keeps (fun b k _ => ⟨by have := k.1; omega, fun e => by have := (hlo b e).2; have := k.1; omega⟩), stms_of_row (YL.tb.okk stVals_keeps (fun b k _ => ⟨by have := k.1; omega, fun e => by have := (hlo b e).2; have := k.1; omega⟩)), exs_of_row (YL.te.okk exVals_keeps (fun b k _ => ⟨by have := k.1; omega, fun e => by have := (hlo b e).2; have := k.1; omega⟩))⟩
    go_wp2_with (at_builtin; refine wpList_append_lies _ rfl _ _ 24 rfl M2 85 iP _ 7 128 Tryz.underlying24 hiP hzP0 hzP1 hzP2 rfl (by decide) (.slice vx i vc) i zss.flatten rfl (by have := gL.own; rw [htl.out] at this; exact this) ⟨wc.heap.size, 0, none⟩ 1 1 [.string (bs c.name), .slice xr c.params.length cr, .slice x4 c.body.length c4, .string (bs c.ret.op), .int .i64 c.ret.n, .string (bs c.ret.name), .slice x5 c.ret.l.length c5] rfl rfl (cells_new _ _ _) (by intro u hu; simp at hu; rcases hu with rfl | rfl | rfl | rfl | rfl | rfl | rfl <;> rfl) (by omega) (by unfold maxLen; omega) (by omega) (by simp; omega) (wc.heap.size + 1) (by simp) ?_)
    intro gB cap6 w6 own6 hg6 hat6 hlt6
    have g6 := gL.app pcVals_keeps (n := i) rfl htl.out.symm hVL own6 hg6 (hat6.imp id (fun e => by rw [e]; simp))
    rw [htk.out] at g6
    have X6 := XL.far hg6 (fun j e => (hlo j e).1)
    have rv6 := rvL.farM strVals_keeps hg6 (fun j e => (hlo j e).1)
    have ra6 := raL.farM arVals_keeps hg6 (fun j e => (hlo j e).1)
    have rm6 := rmL.farM stVals_keeps hg6 (fun j e => (hlo j e).1)
    have q6 := X6.O.cell 2 _ rfl
    have f6 := X6.O.fr 2
    have g7 := g6.set pcVals_keeps (q := ⟨o, 2, none⟩) X.lt (.slice (some ⟨gB, 0, none⟩) (i + 1) cap6)
    have X7 := X6.set 2 (by simp) (.slice (some ⟨gB, 0, none⟩) (i + 1) cap6)
    have rv7 := rv6.setM strVals_keeps (j := 2) (.slice (some ⟨gB, 0, none⟩) (i + 1) cap6)
    have ra7 := ra6.setM arVals_keeps (j := 2) (.slice (some ⟨gB, 0, none⟩) (i + 1) cap6)
    have rm7 := rm6.setM stVals_keeps (j := 2) (.slice (some ⟨gB, 0, none⟩) (i + 1) cap6)
    clear gL XL rvL raL rmL YL hVL gc Xc rvc rac rmc m0 m1 m2 m3 m4 m5 m6 o2 p2
    go_wp2_with fail
    go_roundg (np - (i + 1))
    case measure => omega
    case rel => exact ⟨i + 1, _, _, by go_num, by omega, g7, X7, rv7, ra7, rm7⟩
end Go.Proofs.YtolpekdckemhkaaGreatDoor
