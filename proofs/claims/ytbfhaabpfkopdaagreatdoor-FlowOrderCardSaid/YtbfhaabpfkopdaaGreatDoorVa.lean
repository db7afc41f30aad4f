/- The language: a writer: a program. -/
import Derived.Test.YtbfhaabpfkopdaaGreatDoorV9
namespace Go.Proofs.YtbfhaabpfkopdaaGreatDoor
open Go.RowKit
set_option linter.unusedVariables false

theorem eachW_step {α : Type} (F : α → Wst → Option Wst) (l : List α) (i : Nat) (x : α) (h : l[i]? = some x) (st : Wst) : eachW F (l.drop i) st = (F x st).bind fun st => eachW F (l.drop (i + 1)) st := by
  have : l.drop i = x :: l.drop (i + 1) := by
    have hi := some_lt h
    rw [List.drop_eq_getElem_cons hi]
    rw [List.getElem?_eq_getElem hi] at h
    cases h
    rfl
  rw [this]; rfl
theorem eachW_end {α : Type} (F : α → Wst → Option Wst) (l : List α) (i : Nat) (h : l.length ≤ i) (st : Wst) : eachW F (l.drop i) st = some st := by
  rw [List.drop_eq_nil_of_le h]; rfl
def tailM (p : Pg) (st : Wst) : Option Wst := (putW [[109, 97, 105, 110, 32, 123, 10]] st).bind fun st => (blW p.main 1 st).bind fun st => putW [[125, 10]] st
def tailP (p : Pg) (st : Wst) : Option Wst := (eachW pcW p.procs st).bind fun st => tailM p st
def tailA (p : Pg) (st : Wst) : Option Wst := (eachW (fun (a : Ar) (st : Wst) => putW [[97, 114, 114, 97, 121, 32], a.name, [91], Lib.itoa a.size, [93, 59, 10]] st) p.arrays st).bind fun st => tailP p st
theorem pgW_eq (p : Pg) (st : Wst) : pgW p st = (eachW (fun (t : Bs) (st : Wst) => putW [[118, 97, 114, 32], t, [59, 10]] st) p.vars st).bind fun st => tailA p st := rfl

set_option maxRecDepth 20000 in
set_option maxHeartbeats 16000000 in
theorem programw_any (w0 : World) (q r : Nat) (w : World) (p : Pg) (st : Wst) (xv xa xp xm : Option Addr) (nv na np cv ca cp cm : Nat) (h : Wr w0 w q r st) (hs : PgSm p) (hnv : Hid (nv = p.vars.length)) (hna : Hid (na = p.arrays.length)) (hnp : Hid (np = p.procs.length)) (hv : RowAt strVals 1 w0 Any xv p.vars) (ha : RowAt arVals 2 w0 Any xa p.arrays) (hp : RowAt pcVals 7 w0 Any xp p.procs) (hm : StmsAt w0 Any xm p.main) :
    Calls Tryz.prog 113 #[.pointer (some ⟨q, 0, none⟩), .agg #[.slice xv nv cv, .slice xa na ca, .slice xp np cp, .slice xm p.main.length cm]] w fun e w' => WPost w0 q r (pgW p st) w e w' := by
  obtain ⟨res, hres⟩ : ∃ res, res = pgW p st := ⟨_, rfl⟩
  have He := hide hres
  rw [← hres]
  clear hres
  rw [pgW_eq] at He
  have hlv : nv ≤ maxLen := by rw [hnv.out]; exact hs.vars
  have hla : na ≤ maxLen := by rw [hna.out]; exact hs.arrl
  have hlp : np ≤ maxLen := by rw [hnp.out]; exact hs.procl
  unfold maxLen at hlv hla hlp
  have B := BoxT.new w 42 [.slice xv nv cv, .slice xa na ca, .slice xp np cp, .slice xm p.main.length cm]
  have hW0 := h.alloc (.cells [.slice xv nv cv, .slice xa na ca, .slice xp np cp, .slice xm p.main.length cm].toArray 42)
  have F0 : Fr q w (w.alloc (.cells [.slice xv nv cv, .slice xa na ca, .slice xp np cp, .slice xm p.main.length cm].toArray 42)) := (Fr.refl _ _).alloc _
  have hbq : w.heap.size ≠ q := by have := h.lt; omega
  obtain ⟨W0, hW0e⟩ : ∃ W, W = w.alloc (.cells [.slice xv nv cv, .slice xa na ca, .slice xp np cp, .slice xm p.main.length cm].toArray 42) := ⟨_, rfl⟩
  rw [← hW0e] at B hW0 F0
  go_enter Tryz.func113, Tryz.ntmps113
  go_upto_region 1 with fail
  change Code.wp _ _ _ _ (w.alloc (.cells [.slice xv nv cv, .slice xa na ca, .slice xp np cp, .slice xm p.main.length cm].toArray 42))
  rw [← hW0e]
  obtain ⟨g, hg⟩ : ∃ g, g = w.heap.size := ⟨_, rfl⟩
  rw [← hg] at B hbq ⊢
  clear hg hW0e h
  have n0 := B.cell 0 _ rfl
  go_wp2_with fail
  go_loopg [13] nv (fun gh iv wx => ∃ (i : Nat) (st' : Wst), i + gh = nv ∧ iv = .int .i64 i ∧ Wr w0 wx q r st' ∧ Fr q w wx ∧ BoxT wx g 42 [.slice xv nv cv, .slice xa na ca, .slice xp np cp, .slice xm p.main.length cm] ∧ Hid (res = (eachW (fun (t : Bs) (st : Wst) => putW [[118, 97, 114, 32], t, [59, 10]] st) (p.vars.drop i) st').bind fun st => tailA p st))
  case atStart => exact ⟨0, st, by omega, rfl, hW0, F0, B, He⟩
  case round =>
    clear hW0 F0 B He n0
    obtain ⟨i, st', hig, rfl, h, hF, B, He⟩ := hrel
    by_cases hi : i < nv
    · have hi' : (i : Int) < (nv : Int) := by omega
      obtain ⟨t, ht⟩ : ∃ t, p.vars[i]? = some t := ⟨_, List.getElem?_eq_getElem (by rw [← hnv.out]; exact hi)⟩
      obtain ⟨b, off, rfl, hlt, vs, hvl, hvc, rfl⟩ := hv.elem ht
      have k0 := hvc 0 _ rfl
      simp only [Nat.add_zero, Nat.mul_one] at k0
      rw [eachW_step _ _ i t ht] at He
      have c0 := (h.bel.cell hlt).trans k0
      clear hvc ht k0
      have H1 := hide (put3 w0 q r st' [118, 97, 114, 32] t [59, 10] wr h)
      go_wp2_with fail
      refine H1.out.mono ?_
      intro e' w1 hP
      cases e1 : putW [[118, 97, 114, 32], t, [59, 10]] st' with
      | none =>
        rw [e1] at hP He
        obtain ⟨hFx, rfl, hbx⟩ := hP
        go_wp2_with fail
        refine ⟨rfl, ?_⟩
        show WPost _ _ _ _ _ _ _
        rw [He.out]
        exact ⟨hF.trans hFx, rfl, hbx⟩
      | some s1 =>
        rw [e1] at hP He
        obtain ⟨hFx, rfl, hW1⟩ := hP
        have He : Hid (res = (eachW (fun (t : Bs) (st : Wst) => putW [[118, 97, 114, 32], t, [59, 10]] st) (p.vars.drop (i + 1)) s1).bind fun st => tailA p st) := He.out
        have B1 := B.fr hFx hbq (by decide)
        clear H1 c0 e1
        go_wp2_with fail
        go_roundg (nv - (i + 1))
        case measure => omega
        case rel => exact ⟨i + 1, s1, by omega, by go_num, hW1, hF.trans hFx, B1, He⟩
    have hi' : ¬ (i : Int) < (nv : Int) := by omega
    rw [eachW_end _ _ i (by rw [← hnv.out]; omega)] at He
    have He : Hid (res = (eachW (fun (a : Ar) (st : Wst) => putW [[97, 114, 114, 97, 121, 32], a.name, [91], Lib.itoa a.size, [93, 59, 10]] st) p.arrays st').bind fun st => tailP p st) := He.out
    have n1 := B.cell 1 _ rfl
    clear hi
    go_wp2_with fail
    clear hi' hig n1
    go_loopg [25] na (fun gh iv wx => ∃ (i : Nat) (st' : Wst), i + gh = na ∧ iv = .int .i64 i ∧ Wr w0 wx q r st' ∧ Fr q w wx ∧ BoxT wx g 42 [.slice xv nv cv, .slice xa na ca, .slice xp np cp, .slice xm p.main.length cm] ∧ Hid (res = (eachW (fun (a : Ar) (st : Wst) => putW [[97, 114, 114, 97, 121, 32], a.name, [91], Lib.itoa a.size, [93, 59, 10]] st) (p.arrays.drop i) st').bind fun st => tailP p st))
    case atStart => exact ⟨0, st', by omega, rfl, h, hF, B, He⟩
    case round =>
      clear h hF B He
      obtain ⟨i, st', hig, rfl, h, hF, B, He⟩ := hrel
      by_cases hi : i < na
      · have hi' : (i : Int) < (na : Int) := by omega
        obtain ⟨t, ht⟩ : ∃ t, p.arrays[i]? = some t := ⟨_, List.getElem?_eq_getElem (by rw [← hna.out]; exact hi)⟩
        obtain ⟨b, off, rfl, hlt, vs, hvl, hvc, rfl⟩ := ha.elem ht
        have k0 := hvc 0 _ rfl
        have k1 := hvc 1 _ rfl
        simp only [Nat.add_zero] at k0
        rw [eachW_step _ _ i t ht] at He
        have hsz := hs.arr i t ht
        have c0 := (h.bel.cell hlt).trans k0
        have c1 := (h.bel.cell hlt).trans k1
        clear hvc ht k0 k1
        have hbq2 : wr.heap.size ≠ q := by have := h.lt; omega
        have hW1 : Wr w0 (wr.alloc (.cells #[.string (bs t.name), .int .i64 t.size] 119)) q r st' := h.alloc _
        have F1 : Fr q w (wr.alloc (.cells #[.string (bs t.name), .int .i64 t.size] 119)) := hF.alloc _
        have A1 : BoxT (wr.alloc (.cells #[.string (bs t.name), .int .i64 t.size] 119)) wr.heap.size 119 [.string (bs t.name), .int .i64 t.size] := BoxT.new wr 119 [.string (bs t.name), .int .i64 t.size]
        have B1 := B.bel ((Below.refl wr.heap.size wr).alloc (Nat.le_refl _) (.cells #[.string (bs t.name), .int .i64 t.size] 119))
        obtain ⟨g2, hg2⟩ : ∃ g, g = wr.heap.size := ⟨_, rfl⟩
        obtain ⟨W1, hW1e⟩ : ∃ W, W = wr.alloc (.cells #[.string (bs t.name), .int .i64 t.size] 119) := ⟨_, rfl⟩
        rw [← hW1e] at hW1 F1 A1 B1
        rw [← hg2] at A1 hbq2
        go_upto_region 9 with fail
        change Code.wp _ _ _ _ (wr.alloc (.cells #[.string (bs t.name), .int .i64 t.size] 119))
        rw [← hW1e]
        try rw [← hg2]
        clear hW1e hg2 c0 c1
        have hbd : Below W1.heap.size W1 W1.drew := (Below.refl _ _).drew
        have ad := A1.bel hbd
        have bd := B1.bel hbd
        have wd := hW1.below hbd
        have Fd := F1.trans (Fr.of hbd)
        have HI := hide (itoa_any t.size hsz W1.drew wd.lgW)
        refine wp_region_held (S := fun w' => w'.cell? ⟨g2, 0, none⟩ = some (.string (bs t.name)) ∧ w'.cell? ⟨g2, 1, none⟩ = some (.int .i64 t.size)) (by kernel_rfl) ?_
        have hS9 : W1.drew.cell? ⟨g2, 0, none⟩ = some (.string (bs t.name)) ∧ W1.drew.cell? ⟨g2, 1, none⟩ = some (.int .i64 t.size) := ⟨ad.cell 0 _ rfl, ad.cell 1 _ rfl⟩
        (refine wpAnyH_take (i := 0) (v := ?_) rfl (by kernel_rfl) (by kernel_rfl) (by kernel_rfl) (fun _ _ _ h => h) (Or.inl ⟨by rfl, ?_⟩) hS9 ?_; rotate_left 1; (intro w' hSw; (try dsimp only at hSw); go_simp; (try rw [if_pos (by omega)])); (try rfl); (try dsimp only [Act.put]))
        (refine wpAnyH_take (i := 1) (v := ?_) rfl (by kernel_rfl) (by kernel_rfl) (by kernel_rfl) (fun _ _ _ h => h) (Or.inl ⟨by rfl, ?_⟩) hS9 ?_; rotate_left 1; (intro w' hSw; (try dsimp only at hSw); go_simp; (try rw [if_pos (by omega)])); (try rfl); (try dsimp only [Act.put]))
        (refine wpAnyH_take (i := 2) (v := ?_) rfl (by kernel_rfl) (by kernel_rfl) (by kernel_rfl) (fun _ _ _ h => h) (Or.inl ⟨by rfl, ?_⟩) hS9 ?_; rotate_left 1; (intro w' hSw; (try dsimp only at hSw); go_simp; (try rw [if_pos (by omega)])); (try rfl); (try dsimp only [Act.put]))
        (refine wpAnyH_take (i := 3) (v := ?_) rfl (by kernel_rfl) (by kernel_rfl) (by kernel_rfl) (fun _ _ _ h => h) (Or.inl ⟨by rfl, ?_⟩) hS9 ?_; rotate_left 1; (intro w' hSw; (try dsimp only at hSw); go_simp; (try rw [if_pos (by omega)])); (try rfl); (try dsimp only [Act.put]))
        (refine wpAnyH_take (i := 4) (v := ?_) rfl (by kernel_rfl) (by kernel_rfl) (by kernel_rfl) (fun _ _ _ h => h) (Or.inl ⟨by rfl, ?_⟩) hS9 ?_; rotate_left 1; (intro w' hSw; (try dsimp only at hSw); go_simp; (try rw [if_pos (by omega)])); (try rfl); (try dsimp only [Act.put]))
        refine wpAnyH_all (rs := [5]) (by kernel_rfl) (by simp) ?_
        intro i9 hi9
        obtain rfl : i9 = 5 := by simpa using hi9
        unfold wpOp
        go_simp
        refine Or.inl (HI.out.mono ?_)
        rintro e' w2 ⟨rfl, hb2⟩
        have a2 := ad.bel hb2
        have bb2 := bd.bel hb2
        have wd2 := wd.below hb2
        have Fd2 := Fd.trans (Fr.of hb2)
        refine ⟨⟨a2.cell 0 _ rfl, a2.cell 1 _ rfl⟩, ?_⟩
        refine wpAnyH_all (rs := [6]) (by kernel_rfl) (by simp) ?_
        intro i9 hi9
        obtain rfl : i9 = 6 := by simpa using hi9
        unfold wpOp
        go_simp
        have hbA := (Below.refl w2.heap.size w2).alloc (Nat.le_refl _) (.cells #[.string (bs [97, 114, 114, 97, 121, 32]), .string (bs t.name), .string (bs [91]), .string (bs (Lib.itoa t.size)), .string (bs [93, 59, 10])] 9)
        refine Or.inl ⟨⟨(a2.bel hbA).cell 0 _ rfl, (a2.bel hbA).cell 1 _ rfl⟩, ?_⟩
        refine wpAnyH_all (rs := [7]) (by kernel_rfl) (by simp) ?_
        intro i9 hi9
        obtain rfl : i9 = 7 := by simpa using hi9
        unfold wpOp
        go_simp
        have H2 := hide (put5 w0 q r st' [97, 114, 114, 97, 121, 32] t.name [91] (Lib.itoa t.size) [93, 59, 10] w2 wd2)
        refine Or.inl (H2.out.mono ?_)
        intro e' w3 hP
        cases e3 : putW [[97, 114, 114, 97, 121, 32], t.name, [91], Lib.itoa t.size, [93, 59, 10]] st' with
        | none =>
          rw [e3] at hP He
          obtain ⟨hFx, rfl, hbx⟩ := hP
          refine ⟨rfl, ?_⟩
          show WPost _ _ _ _ _ _ _
          rw [He.out]
          exact ⟨Fd2.trans hFx, rfl, hbx⟩
        | some s3 =>
          rw [e3] at hP He
          obtain ⟨hFx, rfl, hW3⟩ := hP
          have He : Hid (res = (eachW (fun (a : Ar) (st : Wst) => putW [[97, 114, 114, 97, 121, 32], a.name, [91], Lib.itoa a.size, [93, 59, 10]] st) (p.arrays.drop (i + 1)) s3).bind fun st => tailP p st) := He.out
          have A3 := a2.fr hFx hbq2 (by decide)
          have B3 := bb2.fr hFx hbq (by decide)
          have F3 := Fd2.trans hFx
          refine ⟨⟨A3.cell 0 _ rfl, A3.cell 1 _ rfl⟩, by kernel_rfl, ?_⟩
          clear hS9 H2 HI ad bd wd hbA a2 bb2 wd2
          go_wp2_with fail
          go_roundg (na - (i + 1))
          case measure => omega
          case rel => exact ⟨i + 1, s3, by omega, by go_num, hW3, F3, B3, He⟩
      have hi' : ¬ (i : Int) < (na : Int) := by omega
      rw [eachW_end _ _ i (by rw [← hna.out]; omega)] at He
      have He : Hid (res = (eachW pcW p.procs st').bind fun st => tailM p st) := He.out
      have n2 := B.cell 2 _ rfl
      clear hi
      go_wp2_with fail
      clear hi' hig n2
      go_loopg [41] np (fun gh iv wx => ∃ (i : Nat) (st' : Wst), i + gh = np ∧ iv = .int .i64 i ∧ Wr w0 wx q r st' ∧ Fr q w wx ∧ BoxT wx g 42 [.slice xv nv cv, .slice xa na ca, .slice xp np cp, .slice xm p.main.length cm] ∧ Hid (res = (eachW pcW (p.procs.drop i) st').bind fun st => tailM p st))
      case atStart => exact ⟨0, st', by omega, rfl, h, hF, B, He⟩
      case round =>
        clear h hF B He
        obtain ⟨i, st', hig, rfl, h, hF, B, He⟩ := hrel
        by_cases hi : i < np
        · have hi' : (i : Int) < (np : Int) := by omega
          obtain ⟨c, ht⟩ : ∃ t, p.procs[i]? = some t := ⟨_, List.getElem?_eq_getElem (by rw [← hnp.out]; exact hi)⟩
          obtain ⟨b, off, rfl, hlt, vs, hvl, hvc, yp, dp, yb, db, ye, de, rfl, hyp, hyb, hye⟩ := hp.elem ht
          have k0 := hvc 0 _ rfl
          have k1 := hvc 1 _ rfl
          have k2 := hvc 2 _ rfl
          have k3 := hvc 3 _ rfl
          have k4 := hvc 4 _ rfl
          have k5 := hvc 5 _ rfl
          have k6 := hvc 6 _ rfl
          simp only [Nat.add_zero] at k0
          rw [eachW_step _ _ i c ht] at He
          have hsc := hs.proc i c ht
          have be := h.bel
          have c0 := (be.cell hlt).trans k0
          have c1 := (be.cell hlt).trans k1
          have c2 := (be.cell hlt).trans k2
          have c3 := (be.cell hlt).trans k3
          have c4 := (be.cell hlt).trans k4
          have c5 := (be.cell hlt).trans k5
          have c6 := (be.cell hlt).trans k6
          clear hvc ht k0 k1 k2 k3 k4 k5 k6
          have hbq2 : wr.heap.size ≠ q := by have := h.lt; omega
          have hW1 : Wr w0 (wr.alloc (.cells #[.string (bs c.name), .slice yp c.params.length dp, .slice yb c.body.length db, .string (bs c.ret.op), .int .i64 c.ret.n, .string (bs c.ret.name), .slice ye c.ret.l.length de] 124)) q r st' := h.alloc _
          have F1 : Fr q w (wr.alloc (.cells #[.string (bs c.name), .slice yp c.params.length dp, .slice yb c.body.length db, .string (bs c.ret.op), .int .i64 c.ret.n, .string (bs c.ret.name), .slice ye c.ret.l.length de] 124)) := hF.alloc _
          have A1 : BoxT (wr.alloc (.cells #[.string (bs c.name), .slice yp c.params.length dp, .slice yb c.body.length db, .string (bs c.ret.op), .int .i64 c.ret.n, .string (bs c.ret.name), .slice ye c.ret.l.length de] 124)) wr.heap.size 124 [.string (bs c.name), .slice yp c.params.length dp, .slice yb c.body.length db, .string (bs c.ret.op), .int .i64 c.ret.n, .string (bs c.ret.name), .slice ye c.ret.l.length de] := BoxT.new wr 124 [.string (bs c.name), .slice yp c.params.length dp, .slice yb c.body.length db, .string (bs c.ret.op), .int .i64 c.ret.n, .string (bs c.ret.name), .slice ye c.ret.l.length de]
          have B1 := B.bel ((Below.refl wr.heap.size wr).alloc (Nat.le_refl _) (.cells #[.string (bs c.name), .slice yp c.params.length dp, .slice yb c.body.length db, .string (bs c.ret.op), .int .i64 c.ret.n, .string (bs c.ret.name), .slice ye c.ret.l.length de] 124))
          obtain ⟨g2, hg2⟩ : ∃ g, g = wr.heap.size := ⟨_, rfl⟩
          obtain ⟨W1, hW1e⟩ : ∃ W, W = wr.alloc (.cells #[.string (bs c.name), .slice yp c.params.length dp, .slice yb c.body.length db, .string (bs c.ret.op), .int .i64 c.ret.n, .string (bs c.ret.name), .slice ye c.ret.l.length de] 124) := ⟨_, rfl⟩
          rw [← hW1e] at hW1 F1 A1 B1
          rw [← hg2] at A1 hbq2
          go_upto_region 14 with fail
          change Code.wp _ _ _ _ (wr.alloc (.cells #[.string (bs c.name), .slice yp c.params.length dp, .slice yb c.body.length db, .string (bs c.ret.op), .int .i64 c.ret.n, .string (bs c.ret.name), .slice ye c.ret.l.length de] 124))
          rw [← hW1e]
          try rw [← hg2]
          clear hW1e hg2 c0 c1 c2 c3 c4 c5 c6 be
          have m0 := A1.cell 0 _ rfl
          have m1 := A1.cell 1 _ rfl
          have m2 := A1.cell 2 _ rfl
          have m3 := A1.cell 3 _ rfl
          have m4 := A1.cell 4 _ rfl
          have m5 := A1.cell 5 _ rfl
          have m6 := A1.cell 6 _ rfl
          have H2 := hide (procedurew_any w0 q r W1 c st' yp yb ye dp db de hW1 hsc ⟨hyp, hyb, hye⟩)
          go_wp2_with fail
          refine H2.out.mono ?_
          intro e' w3 hP
          cases e3 : pcW c st' with
          | none =>
            rw [e3] at hP He
            obtain ⟨hFx, rfl, hbx⟩ := hP
            go_wp2_with fail
            refine ⟨rfl, ?_⟩
            show WPost _ _ _ _ _ _ _
            rw [He.out]
            exact ⟨F1.trans hFx, rfl, hbx⟩
          | some s3 =>
            rw [e3] at hP He
            obtain ⟨hFx, rfl, hW3⟩ := hP
            have He : Hid (res = (eachW pcW (p.procs.drop (i + 1)) s3).bind fun st => tailM p st) := He.out
            have B3 := B1.fr hFx hbq (by decide)
            have F3 := F1.trans hFx
            clear H2 m0 m1 m2 m3 m4 m5 m6
            go_wp2_with fail
            go_roundg (np - (i + 1))
            case measure => omega
            case rel => exact ⟨i + 1, s3, by omega, by go_num, hW3, F3, B3, He⟩
        have hi' : ¬ (i : Int) < (np : Int) := by omega
        rw [eachW_end _ _ i (by rw [← hnp.out]; omega)] at He
        have He : Hid (res = (putW [[109, 97, 105, 110, 32, 123, 10]] st').bind fun st => (blW p.main 1 st).bind fun st => putW [[125, 10]] st) := He.out
        clear hi
        have H1 := hide (put1 w0 q r st' [109, 97, 105, 110, 32, 123, 10] wr h)
        go_wp2_with fail
        refine H1.out.mono ?_
        intro e' w1 hP
        cases e1 : putW [[109, 97, 105, 110, 32, 123, 10]] st' with
        | none =>
          rw [e1] at hP He
          obtain ⟨hFx, rfl, hbx⟩ := hP
          go_wp2_with fail
          refine ⟨rfl, ?_⟩
          show WPost _ _ _ _ _ _ _
          rw [He.out]
          exact ⟨hF.trans hFx, rfl, hbx⟩
        | some s1 =>
          rw [e1] at hP He
          obtain ⟨hFx, rfl, hW1⟩ := hP
          have He : Hid (res = (blW p.main 1 s1).bind fun st => putW [[125, 10]] st) := He.out
          have B1 := B.fr hFx hbq (by decide)
          have F1 := hF.trans hFx
          have n3 := B1.cell 3 _ rfl
          have H2 := hide (bl_any w0 q r w1 p.main 1 s1 xm cm hW1 (by omega) hs.main hm)
          clear H1
          go_wp2_with fail
          refine H2.out.mono ?_
          intro e' w2 hP
          cases e2 : blW p.main 1 s1 with
          | none =>
            rw [e2] at hP He
            obtain ⟨hFx, rfl, hbx⟩ := hP
            go_wp2_with fail
            refine ⟨rfl, ?_⟩
            show WPost _ _ _ _ _ _ _
            rw [He.out]
            exact ⟨F1.trans hFx, rfl, hbx⟩
          | some s2 =>
            rw [e2] at hP He
            obtain ⟨hFx, rfl, hW2⟩ := hP
            have He : Hid (res = putW [[125, 10]] s2) := He.out
            have F2 := F1.trans hFx
            have H3 := hide (put1 w0 q r s2 [125, 10] w2 hW2)
            clear H2
            go_wp2_with fail
            refine H3.out.mono ?_
            intro e' w3 hP
            cases e3 : putW [[125, 10]] s2 with
            | none =>
              rw [e3] at hP He
              obtain ⟨hFx, rfl, hbx⟩ := hP
              go_wp2_with fail
              refine ⟨rfl, ?_⟩
              show WPost _ _ _ _ _ _ _
              rw [He.out]
              exact ⟨F2.trans hFx, rfl, hbx⟩
            | some s3 =>
              rw [e3] at hP He
              obtain ⟨hFx, rfl, hW3⟩ := hP
              have He : Hid (res = some s3) := He.out
              go_wp2_with fail
              go_end0
              show WPost _ _ _ _ _ _ _
              rw [He.out]
              exact ⟨F2.trans hFx, rfl, hW3⟩
end Go.Proofs.YtbfhaabpfkopdaaGreatDoor
