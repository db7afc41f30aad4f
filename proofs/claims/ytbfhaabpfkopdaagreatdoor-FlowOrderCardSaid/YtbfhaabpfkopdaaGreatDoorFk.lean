/- Graphs copied: GraphOf. -/
import Derived.Test.YtbfhaabpfkopdaaGreatDoorFj
namespace Go.Proofs.YtbfhaabpfkopdaaGreatDoor
open Go.RowKit
set_option linter.unusedVariables false

/-- What a graph copied is. -/
def GofP (P : Int) (E : List Eg) (H : List Int) (ne nh : Nat) (w : World) (en : Ending) (w' : World) : Prop :=
  Below w.heap.size w w' ∧ ∃ yv mv dv ya ma da ye de yh dh, en = .returned (.agg #[.slice yv mv dv, .slice ya ma da, .int .i64 P, .slice ye ne de, .slice yh nh dh]) ∧ RowAt egVals 6 w' Any ye E ∧ IntsAt w' yh H
theorem Tryz.infoEdge : (Tryz.prog.info? 69).map (fun i => (i.zero, i.size, i.bytes)) = some (some (.agg #[.int .i64 0, .int .i64 0, .string ⟨#[]⟩, .string ⟨#[]⟩, .slice none 0 0, .slice none 0 0]), 6, 96) := by kernel_rfl
set_option maxRecDepth 20000 in
set_option maxHeartbeats 16000000 in
theorem graphOf_any (xv xa xe xh : Option Addr) (cv na ca ne ce nh ch : Nat) (P : Int) (V : List Bs) (A : List Ar) (E : List Eg) (H : List Int) (w : World) (hv : RowAt strVals 1 w Any xv V) (ha : RowAt arVals 2 w Any xa A) (hE : RowAt egVals 6 w Any xe E) (hH : IntsAt w xh H) (hna : Hid (na = A.length)) (hne : Hid (ne = E.length)) (hnh : Hid (nh = H.length))
    (hlv : V.length * 16 ≤ 140737488355328) (hla : na * 24 ≤ 140737488355328) (hle : ne * 96 ≤ 140737488355328) (hlh : nh ≤ 4398046511104) (hfE : Hid (∀ (i : Nat) (e : Eg), E[i]? = some e → EgFit e)) :
    Calls Tryz.prog 23 #[.agg #[.slice xv V.length cv, .slice xa na ca, .int .i64 P, .slice xe ne ce, .slice xh nh ch]] w fun en w' => GofP P E H ne nh w en w' := by
  obtain ⟨iS, hiS, hzS0, hzS1, hzS2⟩ := info_parts Tryz.infoStr
  obtain ⟨iA, hiA, hzA0, hzA1, hzA2⟩ := info_parts Tryz.infoArr
  obtain ⟨iE, hiE, hzE0, hzE1, hzE2⟩ := info_parts Tryz.infoEdge
  have hb0 : Below w.heap.size w ((w.alloc (.cells #[.slice xv V.length cv, .slice xa na ca, .int .i64 P, .slice xe ne ce, .slice xh nh ch] 46)).alloc (.cells #[.slice none 0 0, .slice none 0 0, .int .i64 0, .slice none 0 0, .slice none 0 0] 34)) := ((Below.refl _ _).alloc (Nat.le_refl _) _).alloc (by simp) _
  have A0 : BoxN ((w.alloc (.cells #[.slice xv V.length cv, .slice xa na ca, .int .i64 P, .slice xe ne ce, .slice xh nh ch] 46)).alloc (.cells #[.slice none 0 0, .slice none 0 0, .int .i64 0, .slice none 0 0, .slice none 0 0] 34)) w.heap.size [.slice xv V.length cv, .slice xa na ca, .int .i64 P, .slice xe ne ce, .slice xh nh ch] := (BoxN.new w 46 [.slice xv V.length cv, .slice xa na ca, .int .i64 P, .slice xe ne ce, .slice xh nh ch]).bel ((Below.refl _ _).alloc (Nat.le_refl _) _)
  have R0 : BoxN ((w.alloc (.cells #[.slice xv V.length cv, .slice xa na ca, .int .i64 P, .slice xe ne ce, .slice xh nh ch] 46)).alloc (.cells #[.slice none 0 0, .slice none 0 0, .int .i64 0, .slice none 0 0, .slice none 0 0] 34)) (w.heap.size + 1) [.slice none 0 0, .slice none 0 0, .int .i64 0, .slice none 0 0, .slice none 0 0] := by
    have := BoxN.new (w.alloc (.cells #[.slice xv V.length cv, .slice xa na ca, .int .i64 P, .slice xe ne ce, .slice xh nh ch] 46)) 34 [.slice none 0 0, .slice none 0 0, .int .i64 0, .slice none 0 0, .slice none 0 0]; rw [World.size_alloc] at this; exact this
  obtain ⟨W0, hW0⟩ : ∃ X, X = (w.alloc (.cells #[.slice xv V.length cv, .slice xa na ca, .int .i64 P, .slice xe ne ce, .slice xh nh ch] 46)).alloc (.cells #[.slice none 0 0, .slice none 0 0, .int .i64 0, .slice none 0 0, .slice none 0 0] 34) := ⟨_, rfl⟩
  rw [← hW0] at hb0 A0 R0
  go_enter Tryz.func23, Tryz.ntmps23
  go_upto_region 1 with fail
  change Code.wp _ _ _ _ ((w.alloc (.cells #[.slice xv V.length cv, .slice xa na ca, .int .i64 P, .slice xe ne ce, .slice xh nh ch] 46)).alloc (.cells #[.slice none 0 0, .slice none 0 0, .int .i64 0, .slice none 0 0, .slice none 0 0] 34))
  rw [← hW0]
  clear hW0
  obtain ⟨g1, hg1⟩ : ∃ g, g = w.heap.size := ⟨_, rfl⟩
  obtain ⟨g2, hg2⟩ : ∃ g, g = w.heap.size + 1 := ⟨_, rfl⟩
  have hgl : w.heap.size ≤ g2 := by omega
  have hgn : g2 ≠ g1 := by omega
  rw [← hg1] at A0
  rw [← hg2] at R0
  rw [← hg2, ← hg1]
  clear hg1 hg2
  have sz0 := hb0.size
  go_cut [3] (fun t wx => ∃ (o : Nat) (yh : Option Addr) (dh M : Nat), t = .pointer (some ⟨o, 0, none⟩) ∧ Gx w wx g1 g2 o M [.slice xv V.length cv, .slice xa na ca, .int .i64 P, .slice xe ne ce, .slice xh nh ch] [.slice none 0 0, .slice none 0 0, .int .i64 0, .slice none 0 0, .slice none 0 0] [(.slice none 0 0), (.slice none 0 0), .int .i64 P, (.slice none 0 0), (.slice yh nh dh)] ∧ RowAt inVals 1 wx (okL M o g2) yh H)
  case first J K1 hRJ hMK =>
    have HRJ := hide hRJ
    have HMK := hide hMK
    clear hRJ hMK
    have hbd : Below W0.heap.size W0 W0.drew := (Below.refl _ _).drew
    have Bd := hb0.trans (hbd.mono hb0.size)
    have Ad := A0.bel hbd
    have Rd' := R0.bel hbd
    refine wp_region_held (S := fun w' => w'.cell? ⟨g1, 2, none⟩ = some (.int .i64 P) ∧ w'.cell? ⟨g1, 4, none⟩ = some (.slice xh nh ch)) (by kernel_rfl) ?_
    obtain ⟨wd, hwd⟩ : ∃ X, X = W0.drew := ⟨_, rfl⟩
    change wpAnyH _ _ _ _ _ _ _ _ W0.drew
    rw [← hwd] at Bd Ad Rd' ⊢
    clear hwd hbd
    have hS9 : wd.cell? ⟨g1, 2, none⟩ = some (.int .i64 P) ∧ wd.cell? ⟨g1, 4, none⟩ = some (.slice xh nh ch) := ⟨Ad.cell 2 _ rfl, Ad.cell 4 _ rfl⟩
    (refine tk 0 (v := ?_) ?_ hS9 ?_; rotate_left 1; (intro w' hSw; (try dsimp only at hSw); go_simp; (try rw [if_pos (by omega)])); (try rfl); (try dsimp only [Act.put]))
    (refine tk 1 (v := ?_) ?_ hS9 ?_; rotate_left 1; (intro w' hSw; (try dsimp only at hSw); go_simp; (try rw [if_pos (by omega)])); (try rfl); (try dsimp only [Act.put]))
    (refine tk 2 (v := ?_) ?_ hS9 ?_; rotate_left 1; (intro w' hSw; (try dsimp only at hSw); go_simp; (try rw [if_pos (by omega)])); (try rfl); (try dsimp only [Act.put]))
    (refine tk 3 (v := ?_) ?_ hS9 ?_; rotate_left 1; (intro w' hSw; (try dsimp only at hSw); go_simp; (try rw [if_pos (by omega)])); (try rfl); (try dsimp only [Act.put]))
    refine wpAnyH_two (j := 4) (k := 6) (by kernel_rfl) ?_ ?_
    · -- the call first
      have HI := hide (intsRow_any xh nh ch H wd (hH.below Bd) hnh hlh)
      unfold wpOp
      go_simp
      refine Or.inl (HI.out.mono ?_)
      rintro e' w3 ⟨hb3, yh, dh, rfl, hI3⟩
      rw [← hnh.out]
      have A3 := Ad.bel hb3
      have R3 := Rd'.bel hb3
      have B3 := Bd.trans (hb3.mono Bd.size)
      have hS9 : w3.cell? ⟨g1, 2, none⟩ = some (.int .i64 P) ∧ w3.cell? ⟨g1, 4, none⟩ = some (.slice xh nh ch) := ⟨A3.cell 2 _ rfl, A3.cell 4 _ rfl⟩
      refine ⟨hS9, ?_⟩
      (refine tk 5 (v := ?_) ?_ hS9 ?_; rotate_left 1; (intro w' hSw; (try dsimp only at hSw); go_simp; (try rw [if_pos (by omega)])); (try rfl); (try dsimp only [Act.put]))
      refine wpAnyH_one (k := 6) (by kernel_rfl) ?_
      unfold wpOp
      go_simp
      have hbA := (Below.refl w3.heap.size w3).alloc (Nat.le_refl _) (.cells #[.slice none 0 0, .slice none 0 0, .int .i64 0, .slice none 0 0, .slice none 0 0] 34)
      have Bq : BoxN (w3.alloc (.cells #[.slice none 0 0, .slice none 0 0, .int .i64 0, .slice none 0 0, .slice none 0 0] 34)) w3.heap.size [.slice none 0 0, .slice none 0 0, .int .i64 0, .slice none 0 0, .slice none 0 0] := BoxN.new w3 34 [.slice none 0 0, .slice none 0 0, .int .i64 0, .slice none 0 0, .slice none 0 0]
      have BA := B3.trans (hbA.mono B3.size)
      have AA := A3.bel hbA
      have RA := R3.bel hbA
      have hqg : w.heap.size ≤ w3.heap.size := B3.size
      have hq1 : g1 ≠ w3.heap.size := by have := A3.lt; omega
      have hq2 : g2 ≠ w3.heap.size := by have := R3.lt; omega
      have hr3 : RowAt inVals 1 (w3.alloc (.cells #[.slice none 0 0, .slice none 0 0, .int .i64 0, .slice none 0 0, .slice none 0 0] 34)) (fun b => b ≠ w3.heap.size ∧ b ≠ g2) yh H := (hI3.okk inVals_keeps (ok' := fun b => b ≠ w3.heap.size ∧ b ≠ g2) (fun b k hlt => by have k : wd.heap.size ≤ b := k; have := Rd'.lt; exact ⟨by omega, by omega⟩)).belM inVals_keeps hbA
      obtain ⟨WA, hWA⟩ : ∃ X, X = w3.alloc (.cells #[.slice none 0 0, .slice none 0 0, .int .i64 0, .slice none 0 0, .slice none 0 0] 34) := ⟨_, rfl⟩
      rw [← hWA] at hbA Bq BA AA RA hr3 ⊢
      clear hWA
      have hS9 : WA.cell? ⟨g1, 2, none⟩ = some (.int .i64 P) ∧ WA.cell? ⟨g1, 4, none⟩ = some (.slice xh nh ch) := ⟨AA.cell 2 _ rfl, AA.cell 4 _ rfl⟩
      refine Or.inl ⟨hS9, ?_⟩
      obtain ⟨q, hq⟩ : ∃ q, q = w3.heap.size := ⟨_, rfl⟩
      rw [← hq] at Bq hqg hq1 hq2 hr3 ⊢
      clear hq
      have fin := Gx.mk5 hgn hgl AA RA Bq hq1 hq2 hqg BA (.slice none 0 0) (.slice none 0 0) (.int .i64 P) (.slice none 0 0) (.slice yh nh dh)
      have fir := hr3.putL inVals_keeps [(0, (.slice none 0 0)), (1, (.slice none 0 0)), (2, (.int .i64 P)), (3, (.slice none 0 0)), (4, (.slice yh nh dh))]
      have p0' := Bq.cell 0 _ rfl
      have f0 := Bq.fr 0
      have p1' := Bq.cell 1 _ rfl
      have f1 := Bq.fr 1
      have p2' := Bq.cell 2 _ rfl
      have f2 := Bq.fr 2
      have p3' := Bq.cell 3 _ rfl
      have f3 := Bq.fr 3
      have p4' := Bq.cell 4 _ rfl
      have f4 := Bq.fr 4
      refine wpAnyH_one (k := 7) (by kernel_rfl) ?_
      unfold wpOp
      go_simp
      refine Or.inl ⟨by kernel_rfl, ?_⟩
      refine HMK.out _ _ (Met.intro (HRJ.out _ _ ?_))
      (repeat apply Exists.intro)
      refine ⟨?rel, rfl⟩
      case rel => exact ⟨q, yh, dh, _, rfl, fin, fir⟩
    · -- the box first
      unfold wpOp
      go_simp
      have hbA := (Below.refl wd.heap.size wd).alloc (Nat.le_refl _) (.cells #[.slice none 0 0, .slice none 0 0, .int .i64 0, .slice none 0 0, .slice none 0 0] 34)
      have Bq : BoxN (wd.alloc (.cells #[.slice none 0 0, .slice none 0 0, .int .i64 0, .slice none 0 0, .slice none 0 0] 34)) wd.heap.size [.slice none 0 0, .slice none 0 0, .int .i64 0, .slice none 0 0, .slice none 0 0] := BoxN.new wd 34 [.slice none 0 0, .slice none 0 0, .int .i64 0, .slice none 0 0, .slice none 0 0]
      have BA := Bd.trans (hbA.mono Bd.size)
      have AA := Ad.bel hbA
      have RA := Rd'.bel hbA
      have hqg : w.heap.size ≤ wd.heap.size := Bd.size
      have hq1 : g1 ≠ wd.heap.size := by have := Ad.lt; omega
      have hq2 : g2 ≠ wd.heap.size := by have := Rd'.lt; omega
      obtain ⟨WA, hWA⟩ : ∃ X, X = wd.alloc (.cells #[.slice none 0 0, .slice none 0 0, .int .i64 0, .slice none 0 0, .slice none 0 0] 34) := ⟨_, rfl⟩
      rw [← hWA] at hbA Bq BA AA RA ⊢
      clear hWA
      have hS9 : WA.cell? ⟨g1, 2, none⟩ = some (.int .i64 P) ∧ WA.cell? ⟨g1, 4, none⟩ = some (.slice xh nh ch) := ⟨AA.cell 2 _ rfl, AA.cell 4 _ rfl⟩
      refine Or.inl ⟨hS9, ?_⟩
      obtain ⟨q, hq⟩ : ∃ q, q = wd.heap.size := ⟨_, rfl⟩
      rw [← hq] at Bq hqg hq1 hq2 ⊢
      clear hq
      have HI := hide (intsRow_any xh nh ch H WA (hH.below BA) hnh hlh)
      have hqA := Bq.lt
      refine wpAnyH_one (k := 4) (by kernel_rfl) ?_
      unfold wpOp
      go_simp
      refine Or.inl (HI.out.mono ?_)
      rintro e' w3 ⟨hb3, yh, dh, rfl, hI3⟩
      rw [← hnh.out]
      have A3 := AA.bel hb3
      have R3 := RA.bel hb3
      have Bq := Bq.bel hb3
      have B3 := BA.trans (hb3.mono BA.size)
      have hr3 : RowAt inVals 1 w3 (fun b => b ≠ q ∧ b ≠ g2) yh H := hI3.okk inVals_keeps (fun b k _ => by have k : WA.heap.size ≤ b := k; have := RA.lt; exact ⟨by omega, by omega⟩)
      have hS9 : w3.cell? ⟨g1, 2, none⟩ = some (.int .i64 P) ∧ w3.cell? ⟨g1, 4, none⟩ = some (.slice xh nh ch) := ⟨A3.cell 2 _ rfl, A3.cell 4 _ rfl⟩
      refine ⟨hS9, ?_⟩
      (refine tk 5 (v := ?_) ?_ hS9 ?_; rotate_left 1; (intro w' hSw; (try dsimp only at hSw); go_simp; (try rw [if_pos (by omega)])); (try rfl); (try dsimp only [Act.put]))
      have fin := Gx.mk5 hgn hgl A3 R3 Bq hq1 hq2 hqg B3 (.slice none 0 0) (.slice none 0 0) (.int .i64 P) (.slice none 0 0) (.slice yh nh dh)
      have fir := hr3.putL inVals_keeps [(0, (.slice none 0 0)), (1, (.slice none 0 0)), (2, (.int .i64 P)), (3, (.slice none 0 0)), (4, (.slice yh nh dh))]
      have p0' := Bq.cell 0 _ rfl
      have f0 := Bq.fr 0
      have p1' := Bq.cell 1 _ rfl
      have f1 := Bq.fr 1
      have p2' := Bq.cell 2 _ rfl
      have f2 := Bq.fr 2
      have p3' := Bq.cell 3 _ rfl
      have f3 := Bq.fr 3
      have p4' := Bq.cell 4 _ rfl
      have f4 := Bq.fr 4
      refine wpAnyH_one (k := 7) (by kernel_rfl) ?_
      unfold wpOp
      go_simp
      refine Or.inl ⟨by kernel_rfl, ?_⟩
      refine HMK.out _ _ (Met.intro (HRJ.out _ _ ?_))
      (repeat apply Exists.intro)
      refine ⟨?rel, rfl⟩
      case rel => exact ⟨q, yh, dh, _, rfl, fin, fir⟩
  case rest =>
  obtain ⟨o, yh, dh, M, rfl, X, hrh⟩ := hcut
  clear A0 R0 hb0 sz0
  go_upto_region 2 with fail
  rename World => W2
  go_cut [] (fun wx => ∃ (yv : Option Addr) (mv dv M : Nat), Gx w wx g1 g2 o M [.slice xv V.length cv, .slice xa na ca, .int .i64 P, .slice xe ne ce, .slice xh nh ch] [.slice none 0 0, .slice none 0 0, .int .i64 0, .slice none 0 0, .slice none 0 0] [(.slice yv mv dv), (.slice none 0 0), (.int .i64 P), (.slice none 0 0), (.slice yh nh dh)] ∧ RowAt inVals 1 wx (okL M o g2) yh H)
  case first =>
    have p0 := X.P.cell 0 _ rfl
    have o0 := X.O.cell 0 _ rfl
    have f0 := X.O.fr 0
    have hbW := X.bel
    rcases strs_src hv with ⟨rfl, hnil⟩ | ⟨ad, rfl, hsrc⟩
    · have hlen0 : V.length = 0 := by rw [hnil]; rfl
      have X3 := X.set 0 (by simp) (.slice none 0 0)
      have hr3 := hrh.setL inVals_keeps (j := 0) (.slice none 0 0)
      rw [hlen0] at p0
      go_wp2_with fail
      go_meet
      case rel => exact ⟨none, 0, 0, _, by rw [hlen0] at X3 ⊢; exact X3, hr3⟩
    · have hmM := X.mM
      have hoM := X.lt
      have hoG := X.ge
      go_wp2_with (at_builtin; refine wpList_append_own _ rfl _ _ 22 rfl W2.heap.size 9 iS _ 1 16 Tryz.underlying22 hiS hzS0 hzS1 hzS2 rfl (by decide) (.slice none 0 0) 0 [] rfl (World.ownsRow_nil _ _ _ _) ad V.length cv (strsV V) rfl (by simp [strsV]) (hsrc _ hbW) (strsV_one _) (by unfold maxLen; omega) (by omega) (Nat.le_refl _) ?_)
      intro v' w3 own3 hg3 _
      have own3 : w3.ownsRow W2.heap.size 9 1 v' V.length (strsV V) := by simpa using own3
      obtain ⟨yv, dv, rfl, hrv⟩ := strs_of_own own3
      have X3 := (X.far hg3 (fun k e => by cases e)).up (M' := w3.heap.size) (by have := hg3.size; omega) (Nat.le_refl _)
      have hr3 := (hrh.farL inVals_keeps hg3 (fun k e => by cases e)).okk inVals_keeps (ok' := okL w3.heap.size o g2) (fun b k hlt => ⟨hlt, k.2⟩)
      have o3 := X3.O.cell 0 _ rfl
      have f3 := X3.O.fr 0
      have X4 := X3.set 0 (by simp) (.slice yv V.length dv)
      have hr4 := hr3.setL inVals_keeps (j := 0) (.slice yv V.length dv)
      go_wp2_with fail
      go_meet
      case rel => exact ⟨yv, _, dv, _, X4, hr4⟩
  case rest =>
  clear X hrh
  obtain ⟨yv, mv, dv, M, X, hrh⟩ := hcut
  go_wp2_with fail
  go_loopg [4] na (fun gh iv wx => ∃ (i : Nat) (v : Value) (yss : List (List Value)), iv = .int .i64 i ∧ i + gh = na ∧ GRow arVals 119 2 wx M v (A.take i) yss ∧ Gx w wx g1 g2 o M [.slice xv V.length cv, .slice xa na ca, .int .i64 P, .slice xe ne ce, .slice xh nh ch] [.slice none 0 0, .slice none 0 0, .int .i64 0, .slice none 0 0, .slice none 0 0] [(.slice yv mv dv), v, (.int .i64 P), (.slice none 0 0), (.slice yh nh dh)] ∧ RowAt inVals 1 wx (okL M o g2) yh H)
  case atStart => exact ⟨0, .slice none 0 0, [], rfl, by omega, GRow.nil _ _ _ _ _, X, hrh⟩
  case round =>
    clear X hrh
    obtain ⟨i, v, yss, rfl, hig, g, X, hrh⟩ := hrel
    have p1 := X.P.cell 1 _ rfl
    have htl := hide (take_len hna.out (show i ≤ na by omega))
    by_cases hi : i < na
    · have hi' : (i : Int) < (na : Int) := by omega
      obtain ⟨e, he⟩ : ∃ e, A[i]? = some e := ⟨_, List.getElem?_eq_getElem (by rw [← hna.out]; exact hi)⟩
      obtain ⟨b, off, rfl, hlt, vs, hvl, vk, rfl⟩ := ha.elem he
      have k0 := vk 0 _ rfl
      have k1 := vk 1 _ rfl
      simp only [Nat.add_zero] at k0
      have htk := hide (take_more he)
      clear vk he
      obtain ⟨vx, vc, rfl⟩ := g.form
      rw [htl.out] at g X
      go_upto_region 6 with fail
      have hbx := (Below.refl wr.heap.size wr).drew
      have X1 := X.below hbx
      have g3 := g.bel arVals_keeps hbx
      have rv1 := hrh.belM inVals_keeps hbx
      refine wp_region_any (by kernel_rfl) (wpTill_any (S := fun w' => w'.cell? ⟨o, 1, none⟩ = some (.slice vx i vc) ∧ w'.cell? ⟨g1, 1, none⟩ = some (.slice (some ⟨b, off, none⟩) na ca) ∧ w'.cell? ⟨b, off + i * 2, none⟩ = some (.string (bs e.name)) ∧ w'.cell? ⟨b, off + i * 2 + 1, none⟩ = some (.int .i64 e.size)) (E := 18) _ _ _ _ ?_)
      obtain ⟨wd, hwd⟩ : ∃ X, X = wr.drew := ⟨_, rfl⟩
      change wpTill _ _ _ _ _ _ _ _ _ wr.drew
      rw [← hwd] at X1 g3 rv1 ⊢
      clear hwd hbx
      have hS9 : wd.cell? ⟨o, 1, none⟩ = some (.slice vx i vc) ∧ wd.cell? ⟨g1, 1, none⟩ = some (.slice (some ⟨b, off, none⟩) na ca) ∧ wd.cell? ⟨b, off + i * 2, none⟩ = some (.string (bs e.name)) ∧ wd.cell? ⟨b, off + i * 2 + 1, none⟩ = some (.int .i64 e.size) := ⟨X1.O.cell 1 _ rfl, X1.P.cell 1 _ rfl, (X1.bel.cell hlt).trans k0, (X1.bel.cell hlt).trans k1⟩
      (refine tkT 0 (v := ?_) ?_ hS9 ?_; rotate_left 1; (intro w' hSw; (try dsimp only at hSw); go_simp; (try rw [if_pos (by omega)])); (try rfl); (try dsimp only [Act.put]))
      (refine tkT 1 (v := ?_) ?_ hS9 ?_; rotate_left 1; (intro w' hSw; (try dsimp only at hSw); go_simp; (try rw [if_pos (by omega)])); (try rfl); (try dsimp only [Act.put]))
      (refine tkT 2 (v := ?_) ?_ hS9 ?_; rotate_left 1; (intro w' hSw; (try dsimp only at hSw); go_simp; (try rw [if_pos (by omega)])); (try rfl); (try dsimp only [Act.put]))
      (refine tkT 3 (v := ?_) ?_ hS9 ?_; rotate_left 1; (intro w' hSw; (try dsimp only at hSw); go_simp; (try rw [if_pos (by omega)])); (try rfl); (try dsimp only [Act.put]))
      (refine tkT 4 (v := ?_) ?_ hS9 ?_; rotate_left 1; (intro w' hSw; (try dsimp only at hSw); go_simp; (try rw [if_pos (by omega)])); (try rfl); (try dsimp only [Act.put]))
      (refine tkT 5 (v := ?_) ?_ hS9 ?_; rotate_left 1; (intro w' hSw; (try dsimp only at hSw); go_simp; (try rw [if_pos (by omega)])); (try rfl); (try dsimp only [Act.put]))
      (refine tkT 6 (v := ?_) ?_ hS9 ?_; rotate_left 1; (intro w' hSw; (try dsimp only at hSw); go_simp; (try rw [if_pos (by omega)])); (try rfl); (try dsimp only [Act.put]))
      (refine tkT 7 (v := ?_) ?_ hS9 ?_; rotate_left 1; (intro w' hSw; (try dsimp only at hSw); go_simp; (try rw [if_pos (by omega)])); (try rfl); (try dsimp only [Act.put]))
      (refine tkT 8 (v := ?_) ?_ hS9 ?_; rotate_left 1; (intro w' hSw; (try dsimp only at hSw); go_simp; (try rw [if_pos (by omega)])); (try rfl); (try dsimp only [Act.put]))
      (refine tkT 9 (v := ?_) ?_ hS9 ?_; rotate_left 1; (intro w' hSw; (try dsimp only at hSw); go_simp; (try rw [if_pos (by omega)])); (try rfl); (try dsimp only [Act.put]))
      (refine tkT 10 (v := ?_) ?_ hS9 ?_; rotate_left 1; (intro w' hSw; (try dsimp only at hSw); go_simp; (try rw [if_pos (by omega)])); (try rfl); (try dsimp only [Act.put]))
      (refine tkT 11 (v := ?_) ?_ hS9 ?_; rotate_left 1; (intro w' hSw; (try dsimp only at hSw); go_simp; (try rw [if_pos (by omega)])); (try rfl); (try dsimp only [Act.put]))
      (refine tkT 12 (v := ?_) ?_ hS9 ?_; rotate_left 1; (intro w' hSw; (try dsimp only at hSw); go_simp; (try rw [if_pos (by omega)])); (try rfl); (try dsimp only [Act.put]))
      (refine tkT 13 (v := ?_) ?_ hS9 ?_; rotate_left 1; (intro w' hSw; (try dsimp only at hSw); go_simp; (try rw [if_pos (by omega)])); (try rfl); (try dsimp only [Act.put]))
      (refine tkT 14 (v := ?_) ?_ hS9 ?_; rotate_left 1; (intro w' hSw; (try dsimp only at hSw); go_simp; (try rw [if_pos (by omega)])); (try rfl); (try dsimp only [Act.put]))
      refine wpTill_one (k := 15) (by kernel_rfl) ?_
      unfold wpOp
      go_simp
      have hbL := (Below.refl wd.heap.size wd).alloc (Nat.le_refl _) (.cells #[.string (bs e.name), .int .i64 e.size] 119)
      have XL := X1.below hbL
      have gL := g3.bel arVals_keeps hbL
      have rvL := rv1.belM inVals_keeps hbL
      refine Or.inl ⟨⟨XL.O.cell 1 _ rfl, XL.P.cell 1 _ rfl, (XL.bel.cell hlt).trans k0, (XL.bel.cell hlt).trans k1⟩, ?_⟩
      refine wpTill_one (k := 16) (by kernel_rfl) ?_
      have hlo : ∀ q', (Value.slice vx i vc).ownBlock = some q' → M ≤ q' ∧ q' < wr.heap.size := fun q' e => g.own.lt q' e
      have hVL : arVals (wd.alloc (.cells #[.string (bs e.name), .int .i64 e.size] 119)) (fun b => M ≤ b ∧ (Value.slice vx i vc).ownBlock ≠ some b) [.string (bs e.name), .int .i64 e.size] e := rfl
      refine wpOp_step rfl (fun K' hK => ?_)
      refine step_append_lies _ (by rfl) _ _ 30 (by rfl) M 119 iA _ 2 24 Tryz.underlying30 hiA hzA0 hzA1 hzA2 rfl (by decide) (.slice vx i vc) i yss.flatten (by first | rfl | simp [Act.eval, Act.put]) (by have := gL.own; rw [htl.out] at this; exact this) ⟨wd.heap.size, 0, none⟩ 1 1 [.string (bs e.name), .int .i64 e.size] (by first | rfl | simp [Act.eval, Act.put]) rfl (cells_new _ _ _) (by intro u hu; simp at hu; rcases hu with rfl | rfl <;> rfl) (by omega) (by unfold maxLen; omega) (by omega) (by have := XL.mM; omega) (wd.heap.size + 1) (by simp) ?_
      intro gB cap6 w6 own6 hg6 hat6 hlt6
      have g6 := gL.app arVals_keeps (n := i) rfl htl.out.symm hVL own6 hg6 (hat6.imp id (fun e => by rw [e]; simp))
      rw [htk.out] at g6
      have X6 := XL.far hg6 (fun j e => (hlo j e).1)
      have rv6 := rvL.farL inVals_keeps hg6 (fun j e => (hlo j e).1)
      have hS9 : w6.cell? ⟨o, 1, none⟩ = some (.slice vx i vc) ∧ w6.cell? ⟨g1, 1, none⟩ = some (.slice (some ⟨b, off, none⟩) na ca) ∧ w6.cell? ⟨b, off + i * 2, none⟩ = some (.string (bs e.name)) ∧ w6.cell? ⟨b, off + i * 2 + 1, none⟩ = some (.int .i64 e.size) := ⟨X6.O.cell 1 _ rfl, X6.P.cell 1 _ rfl, (X6.bel.cell hlt).trans k0, (X6.bel.cell hlt).trans k1⟩
      have q6 := X6.O.cell 1 _ rfl
      have f6 := X6.O.fr 1
      refine hK _ _ ⟨fun _ => hS9, ?_⟩
      change wpTill _ _ _ _ _ _ _ _ (Act.put _ (some 41) _) _
      dsimp only [Act.put]
      (refine tkT 17 (v := ?_) ?_ hS9 ?_; rotate_left 1; (intro w' hSw; (try dsimp only at hSw); go_simp; (try rw [if_pos (by omega)])); (try rfl); (try dsimp only [Act.put]))
      refine wpTill_one (k := 18) (by kernel_rfl) ?_
      unfold wpOp
      go_simp
      refine Or.inl ⟨by kernel_rfl, ?_⟩
      have g7 := g6.set arVals_keeps (q := ⟨o, 1, none⟩) X.lt (.slice (some ⟨gB, 0, none⟩) (i + 1) cap6)
      have X7 := X6.set 1 (by simp) (.slice (some ⟨gB, 0, none⟩) (i + 1) cap6)
      have rv7 := rv6.setL inVals_keeps (j := 1) (.slice (some ⟨gB, 0, none⟩) (i + 1) cap6)
      obtain ⟨W7, hW7⟩ : ∃ X, X = w6.setCell ⟨o, 1, none⟩ (.slice (some ⟨gB, 0, none⟩) (i + 1) cap6) := ⟨_, rfl⟩
      rw [← hW7] at g7 X7 rv7 ⊢
      clear hW7 own6 hg6 hat6 hlt6 hS9 q6 f6 hK hVL gL XL rvL g3 X1 rv1 g6 X6 rv6 p1
      go_wp2_with fail
      go_roundg (na - (i + 1))
      case measure => omega
      case rel => exact ⟨i + 1, _, _, by go_num, by omega, g7, X7, rv7⟩
    have hi' : ¬ (i : Int) < (na : Int) := by omega
    obtain ⟨ya, da, rfl⟩ := g.form
    obtain ⟨ma, hma⟩ : ∃ n, n = (A.take i).length := ⟨_, rfl⟩
    rw [← hma] at X
    have szM := X.mM
    have loM := X.lt
    have geM := X.ge
    have hrh := hrh.okk inVals_keeps (ok' := okL wr.heap.size o g2) (fun b k hlt => ⟨hlt, k.2⟩)
    have X := X.up (M' := wr.heap.size) szM (Nat.le_refl _)
    clear hi
    go_wp2_with fail
    obtain ⟨M2, hM2⟩ : ∃ m, m = wr.heap.size := ⟨_, rfl⟩
    rw [← hM2] at X hrh
    clear g htl hi' hig p1 szM loM geM hM2 hma
    go_loopg [5] ne (fun gh iv wx => ∃ (i : Nat) (v : Value) (zss : List (List Value)), iv = .int .i64 i ∧ i + gh = ne ∧ GRow egVals 69 6 wx M2 v (E.take i) zss ∧ Gx w wx g1 g2 o M2 [.slice xv V.length cv, .slice xa na ca, .int .i64 P, .slice xe ne ce, .slice xh nh ch] [.slice none 0 0, .slice none 0 0, .int .i64 0, .slice none 0 0, .slice none 0 0] [(.slice yv mv dv), (.slice ya ma da), (.int .i64 P), v, (.slice yh nh dh)] ∧ RowAt inVals 1 wx (okL M2 o g2) yh H)
    case atStart => exact ⟨0, .slice none 0 0, [], rfl, by omega, GRow.nil _ _ _ _ _, X, hrh⟩
    case round =>
      clear X hrh
      obtain ⟨i, v, zss, rfl, hig, g, X, hrh⟩ := hrel
      rename World => wo
      have p3 := X.P.cell 3 _ rfl
      have htl := hide (take_len hne.out (show i ≤ ne by omega))
      by_cases hi : i < ne
      case neg =>
        have hi' : ¬ (i : Int) < (ne : Int) := by omega
        have hin : E.take i = E := List.take_of_length_le (by rw [← hne.out]; omega)
        rw [hin] at g
        obtain ⟨ye, de, rfl, hre⟩ := g.row egVals_keeps (by omega)
        rw [← hne.out] at X
        have o0 := X.O.cell 0 _ rfl
        have o1 := X.O.cell 1 _ rfl
        have o2 := X.O.cell 2 _ rfl
        have o3 := X.O.cell 3 _ rfl
        have o4 := X.O.cell 4 _ rfl
        have r0 := X.R.cell 0 _ rfl
        have r1 := X.R.cell 1 _ rfl
        have r2 := X.R.cell 2 _ rfl
        have r3 := X.R.cell 3 _ rfl
        have r4 := X.R.cell 4 _ rfl
        have f0 := X.R.fr 0
        have f1 := X.R.fr 1
        have f2 := X.R.fr 2
        have f3 := X.R.fr 3
        have f4 := X.R.fr 4
        have hge := X.ge2
        have hg2o := X.n2
        have lM2 := X.l2
        have lM := X.lt
        have bel9 := ((((X.bel.setCell (p := ⟨g2, 0, none⟩) hge (.slice yv mv dv)).setCell (p := ⟨g2, 1, none⟩) hge (.slice ya ma da)).setCell (p := ⟨g2, 2, none⟩) hge (.int .i64 P)).setCell (p := ⟨g2, 3, none⟩) hge (.slice ye ne de)).setCell (p := ⟨g2, 4, none⟩) hge (.slice yh nh dh)
        have B9 := ((((X.R.put 0 (by simp) (.slice yv mv dv)).put 1 (by simp) (.slice ya ma da)).put 2 (by simp) (.int .i64 P)).put 3 (by simp) (.slice ye ne de)).put 4 (by simp) (.slice yh nh dh)
        obtain ⟨q1, q2⟩ := putAll_block g2 [(0, (.slice yv mv dv)), (1, (.slice ya ma da)), (2, (.int .i64 P)), (3, (.slice ye ne de)), (4, (.slice yh nh dh))] wo
        have V9 : RowAt egVals 6 (putAll wo g2 [(0, (.slice yv mv dv)), (1, (.slice ya ma da)), (2, (.int .i64 P)), (3, (.slice ye ne de)), (4, (.slice yh nh dh))]) Any ye E := hre.keep egVals_keeps (Nat.le_of_eq q1.symm) (fun b k _ => q2 b (by have k : M2 ≤ b := k; omega)) (fun _ _ _ => trivial)
        have I9 : IntsAt (putAll wo g2 [(0, (.slice yv mv dv)), (1, (.slice ya ma da)), (2, (.int .i64 P)), (3, (.slice ye ne de)), (4, (.slice yh nh dh))]) yh H := row_ints (ok := Any) (hrh.keep inVals_keeps (Nat.le_of_eq q1.symm) (fun b k _ => q2 b k.2.2) (fun _ _ _ => trivial))
        clear q1 q2
        go_wp2_with fail
        change bodyPost _ _ _ _ _ (putAll wo g2 [(0, (.slice yv mv dv)), (1, (.slice ya ma da)), (2, (.int .i64 P)), (3, (.slice ye ne de)), (4, (.slice yh nh dh))])
        change Below w.heap.size w (putAll wo g2 [(0, (.slice yv mv dv)), (1, (.slice ya ma da)), (2, (.int .i64 P)), (3, (.slice ye ne de)), (4, (.slice yh nh dh))]) at bel9
        change BoxN (putAll wo g2 [(0, (.slice yv mv dv)), (1, (.slice ya ma da)), (2, (.int .i64 P)), (3, (.slice ye ne de)), (4, (.slice yh nh dh))]) g2 [(.slice yv mv dv), (.slice ya ma da), (.int .i64 P), (.slice ye ne de), (.slice yh nh dh)] at B9
        obtain ⟨W9, hW9⟩ : ∃ X, X = putAll wo g2 [(0, (.slice yv mv dv)), (1, (.slice ya ma da)), (2, (.int .i64 P)), (3, (.slice ye ne de)), (4, (.slice yh nh dh))] := ⟨_, rfl⟩
        rw [← hW9] at V9 I9 bel9 B9 ⊢
        clear hW9
        have j0 := B9.cell 0 _ rfl
        have j1 := B9.cell 1 _ rfl
        have j2 := B9.cell 2 _ rfl
        have j3 := B9.cell 3 _ rfl
        have j4 := B9.cell 4 _ rfl
        refine bodyPost_ret (v := .agg #[(.slice yv mv dv), (.slice ya ma da), (.int .i64 P), (.slice ye ne de), (.slice yh nh dh)]) (by simp [results, Tryz.results23, go_sem, j0, j1, j2, j3, j4]) rfl ?_
        exact ⟨bel9, yv, mv, dv, ya, ma, da, ye, de, yh, dh, rfl, V9, I9⟩
      have hi' : (i : Int) < (ne : Int) := by omega
      obtain ⟨e, he⟩ : ∃ e, E[i]? = some e := ⟨_, List.getElem?_eq_getElem (by rw [← hne.out]; exact hi)⟩
      have hf := hide (hfE.out i e he)
      obtain ⟨b, off, rfl, hlt, vs, hvl, vk, za, da', zt, dt, rfl, hza, hzt⟩ := hE.elem he
      have k0 := vk 0 _ rfl
      have k1 := vk 1 _ rfl
      have k2 := vk 2 _ rfl
      have k3 := vk 3 _ rfl
      have k4 := vk 4 _ rfl
      have k5 := vk 5 _ rfl
      simp only [Nat.add_zero] at k0
      have htk := hide (take_more he)
      clear vk he
      obtain ⟨vx, vc, rfl⟩ := g.form
      rw [htl.out] at g X
      go_upto_region 10 with fail
      have hbx := (Below.refl wo.heap.size wo).drew
      have X1 := X.below hbx
      have g3 := g.bel egVals_keeps hbx
      have rv1 := hrh.belM inVals_keeps hbx
      refine wp_region_any (by kernel_rfl) (wpTill_any (S := fun w' => w'.cell? ⟨o, 3, none⟩ = some (.slice vx i vc) ∧ w'.cell? ⟨g1, 3, none⟩ = some (.slice (some ⟨b, off, none⟩) ne ce) ∧ w'.cell? ⟨b, off + i * 6, none⟩ = some (.int .i64 e.fr) ∧ w'.cell? ⟨b, off + i * 6 + 1, none⟩ = some (.int .i64 e.tt) ∧ w'.cell? ⟨b, off + i * 6 + 2, none⟩ = some (.string (bs e.kind)) ∧ w'.cell? ⟨b, off + i * 6 + 3, none⟩ = some (.string (bs e.name)) ∧ w'.cell? ⟨b, off + i * 6 + 4, none⟩ = some (.slice za e.args.length da') ∧ w'.cell? ⟨b, off + i * 6 + 5, none⟩ = some (.slice zt e.tests.length dt)) (E := 25) _ _ _ _ ?_)
      obtain ⟨wd, hwd⟩ : ∃ X, X = wo.drew := ⟨_, rfl⟩
      change wpTill _ _ _ _ _ _ _ _ _ wo.drew
      have hzd : Hid (wd.heap.size = wo.heap.size) := by rw [hwd]; rfl
      rw [← hwd] at X1 g3 rv1 ⊢
      clear hwd hbx
      have hS9 : wd.cell? ⟨o, 3, none⟩ = some (.slice vx i vc) ∧ wd.cell? ⟨g1, 3, none⟩ = some (.slice (some ⟨b, off, none⟩) ne ce) ∧ wd.cell? ⟨b, off + i * 6, none⟩ = some (.int .i64 e.fr) ∧ wd.cell? ⟨b, off + i * 6 + 1, none⟩ = some (.int .i64 e.tt) ∧ wd.cell? ⟨b, off + i * 6 + 2, none⟩ = some (.string (bs e.kind)) ∧ wd.cell? ⟨b, off + i * 6 + 3, none⟩ = some (.string (bs e.name)) ∧ wd.cell? ⟨b, off + i * 6 + 4, none⟩ = some (.slice za e.args.length da') ∧ wd.cell? ⟨b, off + i * 6 + 5, none⟩ = some (.slice zt e.tests.length dt) := ⟨X1.O.cell 3 _ rfl, X1.P.cell 3 _ rfl, (X1.bel.cell hlt).trans k0, (X1.bel.cell hlt).trans k1, (X1.bel.cell hlt).trans k2, (X1.bel.cell hlt).trans k3, (X1.bel.cell hlt).trans k4, (X1.bel.cell hlt).trans k5⟩
      (refine tkT 0 (v := ?_) ?_ hS9 ?_; rotate_left 1; (intro w' hSw; (try dsimp only at hSw); go_simp; (try rw [if_pos (by omega)])); (try rfl); (try dsimp only [Act.put]))
      (refine tkT 1 (v := ?_) ?_ hS9 ?_; rotate_left 1; (intro w' hSw; (try dsimp only at hSw); go_simp; (try rw [if_pos (by omega)])); (try rfl); (try dsimp only [Act.put]))
      (refine tkT 2 (v := ?_) ?_ hS9 ?_; rotate_left 1; (intro w' hSw; (try dsimp only at hSw); go_simp; (try rw [if_pos (by omega)])); (try rfl); (try dsimp only [Act.put]))
      (refine tkT 3 (v := ?_) ?_ hS9 ?_; rotate_left 1; (intro w' hSw; (try dsimp only at hSw); go_simp; (try rw [if_pos (by omega)])); (try rfl); (try dsimp only [Act.put]))
      (refine tkT 4 (v := ?_) ?_ hS9 ?_; rotate_left 1; (intro w' hSw; (try dsimp only at hSw); go_simp; (try rw [if_pos (by omega)])); (try rfl); (try dsimp only [Act.put]))
      (refine tkT 5 (v := ?_) ?_ hS9 ?_; rotate_left 1; (intro w' hSw; (try dsimp only at hSw); go_simp; (try rw [if_pos (by omega)])); (try rfl); (try dsimp only [Act.put]))
      (refine tkT 6 (v := ?_) ?_ hS9 ?_; rotate_left 1; (intro w' hSw; (try dsimp only at hSw); go_simp; (try rw [if_pos (by omega)])); (try rfl); (try dsimp only [Act.put]))
      (refine tkT 7 (v := ?_) ?_ hS9 ?_; rotate_left 1; (intro w' hSw; (try dsimp only at hSw); go_simp; (try rw [if_pos (by omega)])); (try rfl); (try dsimp only [Act.put]))
      (refine tkT 8 (v := ?_) ?_ hS9 ?_; rotate_left 1; (intro w' hSw; (try dsimp only at hSw); go_simp; (try rw [if_pos (by omega)])); (try rfl); (try dsimp only [Act.put]))
      (refine tkT 9 (v := ?_) ?_ hS9 ?_; rotate_left 1; (intro w' hSw; (try dsimp only at hSw); go_simp; (try rw [if_pos (by omega)])); (try rfl); (try dsimp only [Act.put]))
      (refine tkT 10 (v := ?_) ?_ hS9 ?_; rotate_left 1; (intro w' hSw; (try dsimp only at hSw); go_simp; (try rw [if_pos (by omega)])); (try rfl); (try dsimp only [Act.put]))
      (refine tkT 11 (v := ?_) ?_ hS9 ?_; rotate_left 1; (intro w' hSw; (try dsimp only at hSw); go_simp; (try rw [if_pos (by omega)])); (try rfl); (try dsimp only [Act.put]))
      (refine tkT 12 (v := ?_) ?_ hS9 ?_; rotate_left 1; (intro w' hSw; (try dsimp only at hSw); go_simp; (try rw [if_pos (by omega)])); (try rfl); (try dsimp only [Act.put]))
      (refine tkT 13 (v := ?_) ?_ hS9 ?_; rotate_left 1; (intro w' hSw; (try dsimp only at hSw); go_simp; (try rw [if_pos (by omega)])); (try rfl); (try dsimp only [Act.put]))
      (refine tkT 14 (v := ?_) ?_ hS9 ?_; rotate_left 1; (intro w' hSw; (try dsimp only at hSw); go_simp; (try rw [if_pos (by omega)])); (try rfl); (try dsimp only [Act.put]))
      (refine tkT 15 (v := ?_) ?_ hS9 ?_; rotate_left 1; (intro w' hSw; (try dsimp only at hSw); go_simp; (try rw [if_pos (by omega)])); (try rfl); (try dsimp only [Act.put]))
      (refine tkT 16 (v := ?_) ?_ hS9 ?_; rotate_left 1; (intro w' hSw; (try dsimp only at hSw); go_simp; (try rw [if_pos (by omega)])); (try rfl); (try dsimp only [Act.put]))
      (refine tkT 17 (v := ?_) ?_ hS9 ?_; rotate_left 1; (intro w' hSw; (try dsimp only at hSw); go_simp; (try rw [if_pos (by omega)])); (try rfl); (try dsimp only [Act.put]))
      (refine tkT 18 (v := ?_) ?_ hS9 ?_; rotate_left 1; (intro w' hSw; (try dsimp only at hSw); go_simp; (try rw [if_pos (by omega)])); (try rfl); (try dsimp only [Act.put]))
      (refine tkT 19 (v := ?_) ?_ hS9 ?_; rotate_left 1; (intro w' hSw; (try dsimp only at hSw); go_simp; (try rw [if_pos (by omega)])); (try rfl); (try dsimp only [Act.put]))
      have HR1 := hide (actOf_any e hf wd za da' zt dt (hza.bel X1.bel) (hzt.belM teVals_keeps X1.bel))
      refine wpTill_one (k := 20) (by kernel_rfl) ?_
      unfold wpOp
      go_simp
      refine Or.inl (HR1.out.mono ?_)
      rintro e' w3 ⟨hb3, x3, c3, x4, c4, rfl, hr3, hr4⟩
      have X3 := X1.below hb3
      have g4 := g3.bel egVals_keeps hb3
      have rv3 := rv1.belM inVals_keeps hb3
      have hS9 : w3.cell? ⟨o, 3, none⟩ = some (.slice vx i vc) ∧ w3.cell? ⟨g1, 3, none⟩ = some (.slice (some ⟨b, off, none⟩) ne ce) ∧ w3.cell? ⟨b, off + i * 6, none⟩ = some (.int .i64 e.fr) ∧ w3.cell? ⟨b, off + i * 6 + 1, none⟩ = some (.int .i64 e.tt) ∧ w3.cell? ⟨b, off + i * 6 + 2, none⟩ = some (.string (bs e.kind)) ∧ w3.cell? ⟨b, off + i * 6 + 3, none⟩ = some (.string (bs e.name)) ∧ w3.cell? ⟨b, off + i * 6 + 4, none⟩ = some (.slice za e.args.length da') ∧ w3.cell? ⟨b, off + i * 6 + 5, none⟩ = some (.slice zt e.tests.length dt) := ⟨X3.O.cell 3 _ rfl, X3.P.cell 3 _ rfl, (X3.bel.cell hlt).trans k0, (X3.bel.cell hlt).trans k1, (X3.bel.cell hlt).trans k2, (X3.bel.cell hlt).trans k3, (X3.bel.cell hlt).trans k4, (X3.bel.cell hlt).trans k5⟩
      refine ⟨hS9, ?_⟩
      (refine tkT 21 (v := ?_) ?_ hS9 ?_; rotate_left 1; (intro w' hSw; (try dsimp only at hSw); go_simp; (try rw [if_pos (by omega)])); (try rfl); (try dsimp only [Act.put]))
      refine wpTill_one (k := 22) (by kernel_rfl) ?_
      unfold wpOp
      go_simp
      have hbL := (Below.refl w3.heap.size w3).alloc (Nat.le_refl _) (.cells #[.int .i64 e.fr, .int .i64 e.tt, .string (bs e.kind), .string (bs e.name), .slice x3 e.args.length c3, .slice x4 e.tests.length c4] 69)
      have XL := X3.below hbL
      have gL := g4.bel egVals_keeps hbL
      have rvL := rv3.belM inVals_keeps hbL
      refine Or.inl ⟨⟨XL.O.cell 3 _ rfl, XL.P.cell 3 _ rfl, (XL.bel.cell hlt).trans k0, (XL.bel.cell hlt).trans k1, (XL.bel.cell hlt).trans k2, (XL.bel.cell hlt).trans k3, (XL.bel.cell hlt).trans k4, (XL.bel.cell hlt).trans k5⟩, ?_⟩
      refine wpTill_one (k := 23) (by kernel_rfl) ?_
      have hlo : ∀ q', (Value.slice vx i vc).ownBlock = some q' → M2 ≤ q' ∧ q' < wo.heap.size := fun q' e => g.own.lt q' e
      have sz3 := hb3.size
      have szd := hzd.out
      have szM := X.mM
      have hok : ∀ b, (fun b => wd.heap.size ≤ b) b → M2 ≤ b ∧ (Value.slice vx i vc).ownBlock ≠ some b := fun b k => ⟨by have k : wd.heap.size ≤ b := k; omega, fun e => by have := (hlo b e).2; have k : wd.heap.size ≤ b := k; omega⟩
      have hVL : egVals (w3.alloc (.cells #[.int .i64 e.fr, .int .i64 e.tt, .string (bs e.kind), .string (bs e.name), .slice x3 e.args.length c3, .slice x4 e.tests.length c4] 69)) (fun b => M2 ≤ b ∧ (Value.slice vx i vc).ownBlock ≠ some b) [.int .i64 e.fr, .int .i64 e.tt, .string (bs e.kind), .string (bs e.name), .slice x3 e.args.length c3, .slice x4 e.tests.length c4] e := ⟨x3, c3, x4, c4, rfl, (hr3.bel hbL).mono (fun b k _ => hok b k), hr4.keep teVals_keeps hbL.size (fun b _ hlt => hbL.block b hlt) (fun b k _ => hok b k)⟩
      refine wpOp_step rfl (fun K' hK => ?_)
      refine step_append_lies _ (by rfl) _ _ 31 (by rfl) M2 69 iE _ 6 96 Tryz.underlying31 hiE hzE0 hzE1 hzE2 rfl (by decide) (.slice vx i vc) i zss.flatten (by first | rfl | simp [Act.eval, Act.put]) (by have := gL.own; rw [htl.out] at this; exact this) ⟨w3.heap.size, 0, none⟩ 1 1 [.int .i64 e.fr, .int .i64 e.tt, .string (bs e.kind), .string (bs e.name), .slice x3 e.args.length c3, .slice x4 e.tests.length c4] (by first | rfl | simp [Act.eval, Act.put]) rfl (cells_new _ _ _) (by intro u hu; simp at hu; rcases hu with rfl | rfl | rfl | rfl | rfl | rfl <;> rfl) (by omega) (by unfold maxLen; omega) (by omega) (by have := XL.mM; omega) (w3.heap.size + 1) (by simp) ?_
      intro gB cap6 w6 own6 hg6 hat6 hlt6
      have g6 := gL.app egVals_keeps (n := i) rfl htl.out.symm hVL own6 hg6 (hat6.imp id (fun e => by rw [e]; simp))
      rw [htk.out] at g6
      have X6 := XL.far hg6 (fun j e => (hlo j e).1)
      have rv6 := rvL.farL inVals_keeps hg6 (fun j e => (hlo j e).1)
      have hS9 : w6.cell? ⟨o, 3, none⟩ = some (.slice vx i vc) ∧ w6.cell? ⟨g1, 3, none⟩ = some (.slice (some ⟨b, off, none⟩) ne ce) ∧ w6.cell? ⟨b, off + i * 6, none⟩ = some (.int .i64 e.fr) ∧ w6.cell? ⟨b, off + i * 6 + 1, none⟩ = some (.int .i64 e.tt) ∧ w6.cell? ⟨b, off + i * 6 + 2, none⟩ = some (.string (bs e.kind)) ∧ w6.cell? ⟨b, off + i * 6 + 3, none⟩ = some (.string (bs e.name)) ∧ w6.cell? ⟨b, off + i * 6 + 4, none⟩ = some (.slice za e.args.length da') ∧ w6.cell? ⟨b, off + i * 6 + 5, none⟩ = some (.slice zt e.tests.length dt) := ⟨X6.O.cell 3 _ rfl, X6.P.cell 3 _ rfl, (X6.bel.cell hlt).trans k0, (X6.bel.cell hlt).trans k1, (X6.bel.cell hlt).trans k2, (X6.bel.cell hlt).trans k3, (X6.bel.cell hlt).trans k4, (X6.bel.cell hlt).trans k5⟩
      have q6 := X6.O.cell 3 _ rfl
      have f6 := X6.O.fr 3
      refine hK _ _ ⟨fun _ => hS9, ?_⟩
      change wpTill _ _ _ _ _ _ _ _ (Act.put _ (some 73) _) _
      dsimp only [Act.put]
      (refine tkT 24 (v := ?_) ?_ hS9 ?_; rotate_left 1; (intro w' hSw; (try dsimp only at hSw); go_simp; (try rw [if_pos (by omega)])); (try rfl); (try dsimp only [Act.put]))
      refine wpTill_one (k := 25) (by kernel_rfl) ?_
      unfold wpOp
      go_simp
      refine Or.inl ⟨by kernel_rfl, ?_⟩
      have g7 := g6.set egVals_keeps (q := ⟨o, 3, none⟩) X.lt (.slice (some ⟨gB, 0, none⟩) (i + 1) cap6)
      have X7 := X6.set 3 (by simp) (.slice (some ⟨gB, 0, none⟩) (i + 1) cap6)
      have rv7 := rv6.setL inVals_keeps (j := 3) (.slice (some ⟨gB, 0, none⟩) (i + 1) cap6)
      obtain ⟨W7, hW7⟩ : ∃ X, X = w6.setCell ⟨o, 3, none⟩ (.slice (some ⟨gB, 0, none⟩) (i + 1) cap6) := ⟨_, rfl⟩
      rw [← hW7] at g7 X7 rv7 ⊢
      clear hW7 own6 hg6 hat6 hlt6 hS9 q6 f6 hK hVL gL XL rvL g3 X1 rv1 g6 X6 rv6 p3 HR1
      go_wp2_with fail
      go_roundg (ne - (i + 1))
      case measure => omega
      case rel => exact ⟨i + 1, _, _, by go_num, by omega, g7, X7, rv7⟩
end Go.Proofs.YtbfhaabpfkopdaaGreatDoor
