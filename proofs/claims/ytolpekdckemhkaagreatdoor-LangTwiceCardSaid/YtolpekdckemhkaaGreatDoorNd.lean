/- LangTwice: what it calls. -/
import Derived.Test.YtolpekdckemhkaaGreatDoorNz
import Derived.Test.YtolpekdckemhkaaGreatDoorNb
import Derived.Test.YtolpekdckemhkaaGreatDoorN9
namespace Go.Proofs.YtolpekdckemhkaaGreatDoor
open Go.RowKit
set_option linter.unusedVariables false

set_option maxRecDepth 20000 in
set_option maxHeartbeats 4000000 in
theorem noProgram_zero (w : World) : Calls Tryz.prog 19 #[.agg #[.slice none 0 0, .slice none 0 0, .slice none 0 0, .slice none 0 0]] w fun e w' => e = .returned (.bool true) ∧ Below w.heap.size w w' := by
  have hb := (Below.refl w.heap.size w).alloc (Nat.le_refl _) (.cells #[.slice none 0 0, .slice none 0 0, .slice none 0 0, .slice none 0 0] 37)
  go_enter Tryz.func19, Tryz.ntmps19
  go_wp2_with fail
  go_ret
  exact ⟨rfl, hb⟩
end Go.Proofs.YtolpekdckemhkaaGreatDoor

/- LangTwice: its walk. -/
namespace Go.Proofs.YtolpekdckemhkaaGreatDoor
open Go.RowKit
set_option linter.unusedVariables false

set_option maxRecDepth 20000 in
set_option maxHeartbeats 8000000 in
theorem langTwice_true (p : Pg) (v : Value) (s : Bs) (a : Nat → Addr) (w : World) (hS : Sents w a) (hL : LgW w) (h : PgFit p) (hV : PgV w Any v p) (hs : s.length ≤ maxLen) : Calls Tryz.prog 6 #[v, .string (bs s)] w fun e w' => e = .returned (.bool true) ∧ Below w.heap.size w w' := by
  have hV0 := hV
  obtain ⟨xv, cv, xa, ca, xp, cp, xm, cm, rfl, _, _, _, _⟩ := hV0
  have esz : ((bs s).size : Int) = (s.length : Int) := by rw [bs_size]
  unfold maxLen at hs
  have hb0 := (Below.refl w.heap.size w).alloc (Nat.le_refl _) (.cells #[.slice xv p.vars.length cv, .slice xa p.arrays.length ca, .slice xp p.procs.length cp, .slice xm p.main.length cm] 27)
  have G0 := BoxN.new w 27 [.slice xv p.vars.length cv, .slice xa p.arrays.length ca, .slice xp p.procs.length cp, .slice xm p.main.length cm]
  obtain ⟨W0, hW0⟩ : ∃ X, X = w.alloc (.cells #[.slice xv p.vars.length cv, .slice xa p.arrays.length ca, .slice xp p.procs.length cp, .slice xm p.main.length cm] 27) := ⟨_, rfl⟩
  have G0 : BoxN W0 w.heap.size [.slice xv p.vars.length cv, .slice xa p.arrays.length ca, .slice xp p.procs.length cp, .slice xm p.main.length cm] := by rw [hW0]; exact G0
  have hb0 : Below w.heap.size w W0 := by rw [hW0]; exact hb0
  have S0 := hS.below hb0
  have L0 := hL.below hb0
  have H1 := hide (one_any a W0 S0 L0)
  go_enter Tryz.func6, Tryz.ntmps6
  go_upto_region 1 with fail
  change Code.wp _ _ _ _ (w.alloc (.cells #[.slice xv p.vars.length cv, .slice xa p.arrays.length ca, .slice xp p.procs.length cp, .slice xm p.main.length cm] 27))
  rw [← hW0]
  clear hW0
  obtain ⟨g0, hg0⟩ : ∃ g, g = w.heap.size := ⟨_, rfl⟩
  rw [← hg0] at G0 ⊢
  clear hg0
  go_wp2_with fail
  refine H1.out.mono ?_
  rintro e' w1 ⟨rfl, hc1⟩
  have hb1 := hb0.trans (hc1.mono hb0.size)
  have S1 := S0.below hc1
  have L1 := L0.below hc1
  have G1 := G0.bel hc1
  have hV1 := (hV.bel hb0).bel hc1
  clear H1 G0 S0 L0 hb0 hc1
  by_cases hlong : 2000 < s.length
  · have hl' : (2000 : Int) < (s.length : Int) := by omega
    go_wp2_with fail
    go_ret
    exact ⟨rfl, hb1⟩
  have hl' : ¬ (2000 : Int) < (s.length : Int) := by omega
  have m0 := G1.cell 0 _ rfl
  have m1 := G1.cell 1 _ rfl
  have m2 := G1.cell 2 _ rfl
  have m3 := G1.cell 3 _ rfl
  have H2 := hide (programOf_any p h w1 _ hV1)
  go_wp2_with fail
  refine H2.out.mono ?_
  rintro e' w2 ⟨hc2, v2, rfl, hV2⟩
  have hb2 := hb1.trans (hc2.mono hb1.size)
  have S2 := S1.below hc2
  have L2 := L1.below hc2
  have G2 := G1.bel hc2
  have hVp := hV1.bel hc2
  clear m0 m1 m2 m3 H2
  cases et : textF p with
  | none =>
    have H3 := hide (text_none a p _ w2 S2 L2 h.sm hV2.any et)
    unfold errV at H3
    clear et
    go_wp2_with fail
    refine H3.out.mono ?_
    rintro e' w3 ⟨rfl, hc3⟩
    have hb3 := hb2.trans (hc3.mono hb2.size)
    have S3 := S2.below hc3
    have L3 := L2.below hc3
    cases er : readF s with
    | out => exact absurd er (readF_ends (by omega))
    | err c pos =>
      have HE := hide (read_err a s c pos w3 S3 L3 (by omega) er)
      clear er
      go_wp2_with fail
      refine HE.out.mono ?_
      rintro e' r1 ⟨hc1, N, rfl⟩
      have hx1 := (Below.refl r1.heap.size r1).alloc (Nat.le_refl _) (.cells #[.slice none 0 0, .slice none 0 0, .slice none 0 0, .slice none 0 0] 37)
      have HN := hide (noProgram_zero (r1.alloc (.cells #[.slice none 0 0, .slice none 0 0, .slice none 0 0, .slice none 0 0] 37)))
      have hb1 := hb3.trans ((hc1.trans (hx1.mono hc1.size)).mono hb3.size)
      go_wp2_with fail
      refine HN.out.mono ?_
      rintro e' r2 ⟨rfl, hc2⟩
      go_wp2_with fail
      go_ret
      exact ⟨rfl, hb1.trans (hc2.mono hb1.size)⟩
    | ok x d =>
      have hok := readF_ok (show s.length ≤ 4000 by omega) er
      have Er := hide er
      clear er
      have HR5 := hide (read_ok a s x _ w3 S3 L3 (by omega) Er.out)
      go_wp2_with fail
      refine HR5.out.mono ?_
      rintro e' r5 ⟨hc5, v5, rfl, hV5⟩
      have hV5' := hV5
      obtain ⟨yv5, dv5, ya5, da5, yp5, dp5, ym5, dm5, rfl, _, _, _, _⟩ := hV5'
      have hx5 := (Below.refl r5.heap.size r5).alloc (Nat.le_refl _) (.cells #[.slice yv5 x.vars.length dv5, .slice ya5 x.arrays.length da5, .slice yp5 x.procs.length dp5, .slice ym5 x.main.length dm5] 37)
      have G5 := BoxN.new r5 37 [.slice yv5 x.vars.length dv5, .slice ya5 x.arrays.length da5, .slice yp5 x.procs.length dp5, .slice ym5 x.main.length dm5]
      obtain ⟨X5, hX5⟩ : ∃ X, X = r5.alloc (.cells #[.slice yv5 x.vars.length dv5, .slice ya5 x.arrays.length da5, .slice yp5 x.procs.length dp5, .slice ym5 x.main.length dm5] 37) := ⟨_, rfl⟩
      have G5 : BoxN X5 r5.heap.size [.slice yv5 x.vars.length dv5, .slice ya5 x.arrays.length da5, .slice yp5 x.procs.length dp5, .slice ym5 x.main.length dm5] := by rw [hX5]; exact G5
      have hx5 : Below r5.heap.size r5 X5 := by rw [hX5]; exact hx5
      go_upto_region 10 with fail
      change Code.wp _ _ _ _ (r5.alloc (.cells #[.slice yv5 x.vars.length dv5, .slice ya5 x.arrays.length da5, .slice yp5 x.procs.length dp5, .slice ym5 x.main.length dm5] 37))
      rw [← hX5]
      clear hX5 HR5
      obtain ⟨g5, hg5⟩ : ∃ g, g = r5.heap.size := ⟨_, rfl⟩
      rw [← hg5] at G5 ⊢
      clear hg5
      have hb5 := hb3.trans ((hc5.trans (hx5.mono hc5.size)).mono hb3.size)
      have S5 := ((S3).below hc5).below hx5
      have L5 := ((L3).below hc5).below hx5
      have hV5 := hV5.bel hx5
      have u0 := G5.cell 0 _ rfl
      have u1 := G5.cell 1 _ rfl
      have u2 := G5.cell 2 _ rfl
      have u3 := G5.cell 3 _ rfl
      cases ex : textF x with
      | none =>
        have HT := hide (text_none a x _ X5 S5 L5 hok.sm hV5 ex)
        unfold errV at HT
        clear ex
        go_wp2_with fail
        refine HT.out.mono ?_
        rintro e' r6 ⟨rfl, hc6⟩
        have hb6 := hb5.trans (hc6.mono hb5.size)
        have HC := hide (coded_sent 2 (by omega) 3 a (a 2) rfl r6 (S5.below hc6))
        go_wp2_with fail
        refine HC.out.mono ?_
        rintro e' r7 ⟨rfl, hc7⟩
        go_wp2_with fail
        go_ret
        exact ⟨by simp, hb6.trans (hc7.mono hb6.size)⟩
      | some t2 =>
        obtain ⟨hw2, d2, hr2⟩ := textF_some ex
        have hl2 := textF_len ex
        have Ex2 := hide ex
        have Hr2 := hide hr2
        clear ex hw2 hr2
        have HT := hide (text_some a x t2 _ X5 S5 L5 hok.sm hV5 Ex2.out)
        go_wp2_with fail
        refine HT.out.mono ?_
        rintro e' r6 ⟨rfl, hc6⟩
        have hb6 := hb5.trans (hc6.mono hb5.size)
        have S6 := S5.below hc6
        have L6 := L5.below hc6
        have G5 := G5.bel hc6
        have hV5 := hV5.bel hc6
        clear u0 u1 u2 u3 HT
        have HR7 := hide (read_ok a t2 x _ r6 S6 L6 hl2 Hr2.out)
        go_wp2_with fail
        refine HR7.out.mono ?_
        rintro e' r7 ⟨hc7, v7, rfl, hV7⟩
        have hV7' := hV7
        obtain ⟨yv7, dv7, ya7, da7, yp7, dp7, ym7, dm7, rfl, _, _, _, _⟩ := hV7'
        have hx7 := (Below.refl r7.heap.size r7).alloc (Nat.le_refl _) (.cells #[.slice yv7 x.vars.length dv7, .slice ya7 x.arrays.length da7, .slice yp7 x.procs.length dp7, .slice ym7 x.main.length dm7] 37)
        have G7 := BoxN.new r7 37 [.slice yv7 x.vars.length dv7, .slice ya7 x.arrays.length da7, .slice yp7 x.procs.length dp7, .slice ym7 x.main.length dm7]
        obtain ⟨X7, hX7⟩ : ∃ X, X = r7.alloc (.cells #[.slice yv7 x.vars.length dv7, .slice ya7 x.arrays.length da7, .slice yp7 x.procs.length dp7, .slice ym7 x.main.length dm7] 37) := ⟨_, rfl⟩
        have G7 : BoxN X7 r7.heap.size [.slice yv7 x.vars.length dv7, .slice ya7 x.arrays.length da7, .slice yp7 x.procs.length dp7, .slice ym7 x.main.length dm7] := by rw [hX7]; exact G7
        have hx7 : Below r7.heap.size r7 X7 := by rw [hX7]; exact hx7
        go_upto_region 16 with fail
        change Code.wp _ _ _ _ (r7.alloc (.cells #[.slice yv7 x.vars.length dv7, .slice ya7 x.arrays.length da7, .slice yp7 x.procs.length dp7, .slice ym7 x.main.length dm7] 37))
        rw [← hX7]
        clear hX7 HR7
        obtain ⟨g7, hg7⟩ : ∃ g, g = r7.heap.size := ⟨_, rfl⟩
        rw [← hg7] at G7 ⊢
        clear hg7
        have hb7 := hb6.trans ((hc7.trans (hx7.mono hc7.size)).mono hb6.size)
        have S7 := ((S6).below hc7).below hx7
        have L7 := ((L6).below hc7).below hx7
        have hV7 := hV7.bel hx7
        have G5 := (G5.bel hc7).bel hx7
        have hV5 := (hV5.bel hc7).bel hx7
        have u0 := G7.cell 0 _ rfl
        have u1 := G7.cell 1 _ rfl
        have u2 := G7.cell 2 _ rfl
        have u3 := G7.cell 3 _ rfl
        have HT := hide (text_some a x t2 _ X7 S7 L7 hok.sm hV7 Ex2.out)
        go_wp2_with fail
        refine HT.out.mono ?_
        rintro e' r8 ⟨rfl, hc8⟩
        have hb8 := hb7.trans (hc8.mono hb7.size)
        have G5 := G5.bel hc8
        have G7 := G7.bel hc8
        have hV5 := hV5.bel hc8
        have hV7 := hV7.bel hc8
        clear u0 u1 u2 u3 HT
        have e0 : (t2 == t2) = true := by simp
        go_upto_region 17 with fail
        have hbd := (Below.refl r8.heap.size r8).drew
        have K5 := G5.bel hbd
        have K7 := G7.bel hbd
        have U5 := hV5.bel hbd
        have U7 := hV7.bel hbd
        have hb9 := hb8.trans (hbd.mono hb8.size)
        refine wp_region_held (S := fun w' => w'.cell? ⟨g5, 0, none⟩ = some (.slice yv5 x.vars.length dv5) ∧ w'.cell? ⟨g5, 1, none⟩ = some (.slice ya5 x.arrays.length da5) ∧ w'.cell? ⟨g5, 2, none⟩ = some (.slice yp5 x.procs.length dp5) ∧ w'.cell? ⟨g5, 3, none⟩ = some (.slice ym5 x.main.length dm5) ∧ w'.cell? ⟨g7, 0, none⟩ = some (.slice yv7 x.vars.length dv7) ∧ w'.cell? ⟨g7, 1, none⟩ = some (.slice ya7 x.arrays.length da7) ∧ w'.cell? ⟨g7, 2, none⟩ = some (.slice yp7 x.procs.length dp7) ∧ w'.cell? ⟨g7, 3, none⟩ = some (.slice ym7 x.main.length dm7)) (by kernel_rfl) ?_
        obtain ⟨wd, hwd⟩ : ∃ X, X = r8.drew := ⟨_, rfl⟩
        change wpAnyH _ _ _ _ _ _ _ _ r8.drew
        rw [← hwd] at K5 K7 U5 U7 hb9 ⊢
        clear hwd hbd
        have hS9 : wd.cell? ⟨g5, 0, none⟩ = some (.slice yv5 x.vars.length dv5) ∧ wd.cell? ⟨g5, 1, none⟩ = some (.slice ya5 x.arrays.length da5) ∧ wd.cell? ⟨g5, 2, none⟩ = some (.slice yp5 x.procs.length dp5) ∧ wd.cell? ⟨g5, 3, none⟩ = some (.slice ym5 x.main.length dm5) ∧ wd.cell? ⟨g7, 0, none⟩ = some (.slice yv7 x.vars.length dv7) ∧ wd.cell? ⟨g7, 1, none⟩ = some (.slice ya7 x.arrays.length da7) ∧ wd.cell? ⟨g7, 2, none⟩ = some (.slice yp7 x.procs.length dp7) ∧ wd.cell? ⟨g7, 3, none⟩ = some (.slice ym7 x.main.length dm7) := ⟨K5.cell 0 _ rfl, K5.cell 1 _ rfl, K5.cell 2 _ rfl, K5.cell 3 _ rfl, K7.cell 0 _ rfl, K7.cell 1 _ rfl, K7.cell 2 _ rfl, K7.cell 3 _ rfl⟩
        (refine tk 0 (v := ?_) ?_ hS9 ?_; rotate_left 1; (intro w' hSw; (try dsimp only at hSw); go_simp; (try rw [if_pos (by omega)])); (try rfl); (try dsimp only [Act.put]))
        (refine tk 1 (v := .bool true) ?_ hS9 ?_; (intro w' hSw; (try dsimp only at hSw); go_simp; (try simp)); (try dsimp only [Act.put]))
        (refine tk 2 (v := ?_) ?_ hS9 ?_; rotate_left 1; (intro w' hSw; (try dsimp only at hSw); go_simp; (try rw [if_pos (by omega)])); (try rfl); (try dsimp only [Act.put]))
        (refine tk 3 (v := ?_) ?_ hS9 ?_; rotate_left 1; (intro w' hSw; (try dsimp only at hSw); go_simp; (try rw [if_pos (by omega)])); (try rfl); (try dsimp only [Act.put]))
        (refine tk 4 (v := .bool true) ?_ hS9 ?_; (intro w' hSw; (try dsimp only at hSw); go_simp; (try simp)); (try dsimp only [Act.put]))
        (refine tk 5 (v := .bool true) ?_ hS9 ?_; (intro w' hSw; (try dsimp only at hSw); go_simp; (try simp)); (try dsimp only [Act.put]))
        (refine tk 6 (v := ?_) ?_ hS9 ?_; rotate_left 1; (intro w' hSw; (try dsimp only at hSw); go_simp; (try rw [if_pos (by omega)])); (try rfl); (try dsimp only [Act.put]))
        (refine tk 7 (v := ?_) ?_ hS9 ?_; rotate_left 1; (intro w' hSw; (try dsimp only at hSw); go_simp; (try rw [if_pos (by omega)])); (try rfl); (try dsimp only [Act.put]))
        (refine tk 8 (v := ?_) ?_ hS9 ?_; rotate_left 1; (intro w' hSw; (try dsimp only at hSw); go_simp; (try rw [if_pos (by omega)])); (try rfl); (try dsimp only [Act.put]))
        (refine tk 9 (v := .bool true) ?_ hS9 ?_; (intro w' hSw; (try dsimp only at hSw); go_simp; (try simp)); (try dsimp only [Act.put]))
        (refine tk 10 (v := .bool true) ?_ hS9 ?_; (intro w' hSw; (try dsimp only at hSw); go_simp; (try simp)); (try dsimp only [Act.put]))
        (refine tk 11 (v := ?_) ?_ hS9 ?_; rotate_left 1; (intro w' hSw; (try dsimp only at hSw); go_simp; (try rw [if_pos (by omega)])); (try rfl); (try dsimp only [Act.put]))
        (refine tk 12 (v := ?_) ?_ hS9 ?_; rotate_left 1; (intro w' hSw; (try dsimp only at hSw); go_simp; (try rw [if_pos (by omega)])); (try rfl); (try dsimp only [Act.put]))
        (refine tk 14 (v := ?_) ?_ hS9 ?_; rotate_left 1; (intro w' hSw; (try dsimp only at hSw); go_simp; (try rw [if_pos (by omega)])); (try rfl); (try dsimp only [Act.put]))
        have HB := hide (back_any x hok wd _ U5)
        refine wpAnyH_one (k := 13) (by kernel_rfl) ?_
        unfold wpOp
        go_simp
        refine Or.inl (HB.out.mono ?_)
        rintro e' z1 ⟨hz1, w5, rfl, Q5⟩
        have K5 := K5.bel hz1
        have K7 := K7.bel hz1
        have U7 := U7.bel hz1
        have hb9 := hb9.trans (hz1.mono hb9.size)
        have hS9 : z1.cell? ⟨g5, 0, none⟩ = some (.slice yv5 x.vars.length dv5) ∧ z1.cell? ⟨g5, 1, none⟩ = some (.slice ya5 x.arrays.length da5) ∧ z1.cell? ⟨g5, 2, none⟩ = some (.slice yp5 x.procs.length dp5) ∧ z1.cell? ⟨g5, 3, none⟩ = some (.slice ym5 x.main.length dm5) ∧ z1.cell? ⟨g7, 0, none⟩ = some (.slice yv7 x.vars.length dv7) ∧ z1.cell? ⟨g7, 1, none⟩ = some (.slice ya7 x.arrays.length da7) ∧ z1.cell? ⟨g7, 2, none⟩ = some (.slice yp7 x.procs.length dp7) ∧ z1.cell? ⟨g7, 3, none⟩ = some (.slice ym7 x.main.length dm7) := ⟨K5.cell 0 _ rfl, K5.cell 1 _ rfl, K5.cell 2 _ rfl, K5.cell 3 _ rfl, K7.cell 0 _ rfl, K7.cell 1 _ rfl, K7.cell 2 _ rfl, K7.cell 3 _ rfl⟩
        refine ⟨hS9, ?_⟩
        have HB := hide (back_any x hok z1 _ U7)
        refine wpAnyH_one (k := 15) (by kernel_rfl) ?_
        unfold wpOp
        go_simp
        refine Or.inl (HB.out.mono ?_)
        rintro e' z2 ⟨hz2, w7, rfl, Q7⟩
        have K5 := K5.bel hz2
        have K7 := K7.bel hz2
        have Q5 := Q5.bel hz2
        have hb9 := hb9.trans (hz2.mono hb9.size)
        have hS9 : z2.cell? ⟨g5, 0, none⟩ = some (.slice yv5 x.vars.length dv5) ∧ z2.cell? ⟨g5, 1, none⟩ = some (.slice ya5 x.arrays.length da5) ∧ z2.cell? ⟨g5, 2, none⟩ = some (.slice yp5 x.procs.length dp5) ∧ z2.cell? ⟨g5, 3, none⟩ = some (.slice ym5 x.main.length dm5) ∧ z2.cell? ⟨g7, 0, none⟩ = some (.slice yv7 x.vars.length dv7) ∧ z2.cell? ⟨g7, 1, none⟩ = some (.slice ya7 x.arrays.length da7) ∧ z2.cell? ⟨g7, 2, none⟩ = some (.slice yp7 x.procs.length dp7) ∧ z2.cell? ⟨g7, 3, none⟩ = some (.slice ym7 x.main.length dm7) := ⟨K5.cell 0 _ rfl, K5.cell 1 _ rfl, K5.cell 2 _ rfl, K5.cell 3 _ rfl, K7.cell 0 _ rfl, K7.cell 1 _ rfl, K7.cell 2 _ rfl, K7.cell 3 _ rfl⟩
        refine ⟨hS9, ?_⟩
        have HQ := hide (sameProgram_any z2 x hok.sm z2 w5 w7 (Below.refl _ _) Q5.any Q7.any)
        refine wpAnyH_one (k := 16) (by kernel_rfl) ?_
        unfold wpOp
        go_simp
        refine Or.inl (HQ.out.mono ?_)
        rintro e' z3 ⟨rfl, hz3⟩
        have K5 := K5.bel hz3
        have K7 := K7.bel hz3
        have hb9 := hb9.trans (hz3.mono hb9.size)
        have hS9 : z3.cell? ⟨g5, 0, none⟩ = some (.slice yv5 x.vars.length dv5) ∧ z3.cell? ⟨g5, 1, none⟩ = some (.slice ya5 x.arrays.length da5) ∧ z3.cell? ⟨g5, 2, none⟩ = some (.slice yp5 x.procs.length dp5) ∧ z3.cell? ⟨g5, 3, none⟩ = some (.slice ym5 x.main.length dm5) ∧ z3.cell? ⟨g7, 0, none⟩ = some (.slice yv7 x.vars.length dv7) ∧ z3.cell? ⟨g7, 1, none⟩ = some (.slice ya7 x.arrays.length da7) ∧ z3.cell? ⟨g7, 2, none⟩ = some (.slice yp7 x.procs.length dp7) ∧ z3.cell? ⟨g7, 3, none⟩ = some (.slice ym7 x.main.length dm7) := ⟨K5.cell 0 _ rfl, K5.cell 1 _ rfl, K5.cell 2 _ rfl, K5.cell 3 _ rfl, K7.cell 0 _ rfl, K7.cell 1 _ rfl, K7.cell 2 _ rfl, K7.cell 3 _ rfl⟩
        refine ⟨hS9, ?_⟩
        (refine tk 17 (v := ?_) ?_ hS9 ?_; rotate_left 1; (intro w' hSw; (try dsimp only at hSw); go_simp; (try rw [if_pos (by omega)])); (try rfl); (try dsimp only [Act.put]))
        refine wpAnyH_one (k := 18) (by kernel_rfl) ?_
        unfold wpOp
        go_simp
        refine Or.inl ⟨by kernel_rfl, ?_⟩
        clear hS9
        go_wp2_with fail
        go_ret
        exact ⟨rfl, hb9⟩
  | some t =>
    obtain ⟨hwt, d0, hrt⟩ := textF_some et
    have hlt := textF_len et
    have hok0 := readF_ok hlt hrt
    have H3 := hide (text_some a p t _ w2 S2 L2 h.sm hV2.any et)
    have Hrt := hide hrt
    clear hrt hwt et
    go_wp2_with fail
    refine H3.out.mono ?_
    rintro e' w3 ⟨rfl, hc3⟩
    have hb3 := hb2.trans (hc3.mono hb2.size)
    have S3 := S2.below hc3
    have L3 := L2.below hc3
    have G3 := G2.bel hc3
    have hVp := hVp.bel hc3
    clear H3
    have HR4 := hide (read_ok a t p _ w3 S3 L3 hlt Hrt.out)
    go_wp2_with fail
    refine HR4.out.mono ?_
    rintro e' r4 ⟨hc4, v4, rfl, hV4⟩
    have hV4' := hV4
    obtain ⟨yv4, dv4, ya4, da4, yp4, dp4, ym4, dm4, rfl, _, _, _, _⟩ := hV4'
    have hx4 := (Below.refl r4.heap.size r4).alloc (Nat.le_refl _) (.cells #[.slice yv4 p.vars.length dv4, .slice ya4 p.arrays.length da4, .slice yp4 p.procs.length dp4, .slice ym4 p.main.length dm4] 37)
    have G4 := BoxN.new r4 37 [.slice yv4 p.vars.length dv4, .slice ya4 p.arrays.length da4, .slice yp4 p.procs.length dp4, .slice ym4 p.main.length dm4]
    obtain ⟨X4, hX4⟩ : ∃ X, X = r4.alloc (.cells #[.slice yv4 p.vars.length dv4, .slice ya4 p.arrays.length da4, .slice yp4 p.procs.length dp4, .slice ym4 p.main.length dm4] 37) := ⟨_, rfl⟩
    have G4 : BoxN X4 r4.heap.size [.slice yv4 p.vars.length dv4, .slice ya4 p.arrays.length da4, .slice yp4 p.procs.length dp4, .slice ym4 p.main.length dm4] := by rw [hX4]; exact G4
    have hx4 : Below r4.heap.size r4 X4 := by rw [hX4]; exact hx4
    go_upto_region 7 with fail
    change Code.wp _ _ _ _ (r4.alloc (.cells #[.slice yv4 p.vars.length dv4, .slice ya4 p.arrays.length da4, .slice yp4 p.procs.length dp4, .slice ym4 p.main.length dm4] 37))
    rw [← hX4]
    clear hX4 HR4
    obtain ⟨g4, hg4⟩ : ∃ g, g = r4.heap.size := ⟨_, rfl⟩
    rw [← hg4] at G4 ⊢
    clear hg4
    have hb4 := hb3.trans ((hc4.trans (hx4.mono hc4.size)).mono hb3.size)
    have S4 := ((S3).below hc4).below hx4
    have L4 := ((L3).below hc4).below hx4
    have hV4 := hV4.bel hx4
    have G4' := (G3.bel hc4).bel hx4
    have hVp := (hVp.bel hc4).bel hx4
    have hbd := (Below.refl X4.heap.size X4).drew
    have K4 := G4.bel hbd
    have K0 := G4'.bel hbd
    have U4 := hV4.bel hbd
    have Up := hVp.bel hbd
    have S9 := S4.below hbd
    have L9 := L4.below hbd
    have hb9 := hb4.trans (hbd.mono hb4.size)
    refine wp_region_held (S := fun w' => w'.cell? ⟨g4, 0, none⟩ = some (.slice yv4 p.vars.length dv4) ∧ w'.cell? ⟨g4, 1, none⟩ = some (.slice ya4 p.arrays.length da4) ∧ w'.cell? ⟨g4, 2, none⟩ = some (.slice yp4 p.procs.length dp4) ∧ w'.cell? ⟨g4, 3, none⟩ = some (.slice ym4 p.main.length dm4) ∧ w'.cell? ⟨g0, 0, none⟩ = some (.slice xv p.vars.length cv) ∧ w'.cell? ⟨g0, 1, none⟩ = some (.slice xa p.arrays.length ca) ∧ w'.cell? ⟨g0, 2, none⟩ = some (.slice xp p.procs.length cp) ∧ w'.cell? ⟨g0, 3, none⟩ = some (.slice xm p.main.length cm)) (by kernel_rfl) ?_
    obtain ⟨wd, hwd⟩ : ∃ X, X = X4.drew := ⟨_, rfl⟩
    change wpAnyH _ _ _ _ _ _ _ _ X4.drew
    rw [← hwd] at K4 K0 U4 Up S9 L9 hb9 ⊢
    clear hwd hbd
    have hS9 : wd.cell? ⟨g4, 0, none⟩ = some (.slice yv4 p.vars.length dv4) ∧ wd.cell? ⟨g4, 1, none⟩ = some (.slice ya4 p.arrays.length da4) ∧ wd.cell? ⟨g4, 2, none⟩ = some (.slice yp4 p.procs.length dp4) ∧ wd.cell? ⟨g4, 3, none⟩ = some (.slice ym4 p.main.length dm4) ∧ wd.cell? ⟨g0, 0, none⟩ = some (.slice xv p.vars.length cv) ∧ wd.cell? ⟨g0, 1, none⟩ = some (.slice xa p.arrays.length ca) ∧ wd.cell? ⟨g0, 2, none⟩ = some (.slice xp p.procs.length cp) ∧ wd.cell? ⟨g0, 3, none⟩ = some (.slice xm p.main.length cm) := ⟨K4.cell 0 _ rfl, K4.cell 1 _ rfl, K4.cell 2 _ rfl, K4.cell 3 _ rfl, K0.cell 0 _ rfl, K0.cell 1 _ rfl, K0.cell 2 _ rfl, K0.cell 3 _ rfl⟩
    (refine tk 0 (v := ?_) ?_ hS9 ?_; rotate_left 1; (intro w' hSw; (try dsimp only at hSw); go_simp; (try rw [if_pos (by omega)])); (try rfl); (try dsimp only [Act.put]))
    (refine tk 1 (v := ?_) ?_ hS9 ?_; rotate_left 1; (intro w' hSw; (try dsimp only at hSw); go_simp; (try rw [if_pos (by omega)])); (try rfl); (try dsimp only [Act.put]))
    (refine tk 2 (v := ?_) ?_ hS9 ?_; rotate_left 1; (intro w' hSw; (try dsimp only at hSw); go_simp; (try rw [if_pos (by omega)])); (try rfl); (try dsimp only [Act.put]))
    (refine tk 3 (v := ?_) ?_ hS9 ?_; rotate_left 1; (intro w' hSw; (try dsimp only at hSw); go_simp; (try rw [if_pos (by omega)])); (try rfl); (try dsimp only [Act.put]))
    (refine tk 5 (v := ?_) ?_ hS9 ?_; rotate_left 1; (intro w' hSw; (try dsimp only at hSw); go_simp; (try rw [if_pos (by omega)])); (try rfl); (try dsimp only [Act.put]))
    have HB := hide (back_any p hok0 wd _ U4)
    refine wpAnyH_one (k := 4) (by kernel_rfl) ?_
    unfold wpOp
    go_simp
    refine Or.inl (HB.out.mono ?_)
    rintro e' z1 ⟨hz1, w5, rfl, Q5⟩
    have K4 := K4.bel hz1
    have K0 := K0.bel hz1
    have Up := Up.bel hz1
    have S9 := S9.below hz1
    have L9 := L9.below hz1
    have hb9 := hb9.trans (hz1.mono hb9.size)
    have hS9 : z1.cell? ⟨g4, 0, none⟩ = some (.slice yv4 p.vars.length dv4) ∧ z1.cell? ⟨g4, 1, none⟩ = some (.slice ya4 p.arrays.length da4) ∧ z1.cell? ⟨g4, 2, none⟩ = some (.slice yp4 p.procs.length dp4) ∧ z1.cell? ⟨g4, 3, none⟩ = some (.slice ym4 p.main.length dm4) ∧ z1.cell? ⟨g0, 0, none⟩ = some (.slice xv p.vars.length cv) ∧ z1.cell? ⟨g0, 1, none⟩ = some (.slice xa p.arrays.length ca) ∧ z1.cell? ⟨g0, 2, none⟩ = some (.slice xp p.procs.length cp) ∧ z1.cell? ⟨g0, 3, none⟩ = some (.slice xm p.main.length cm) := ⟨K4.cell 0 _ rfl, K4.cell 1 _ rfl, K4.cell 2 _ rfl, K4.cell 3 _ rfl, K0.cell 0 _ rfl, K0.cell 1 _ rfl, K0.cell 2 _ rfl, K0.cell 3 _ rfl⟩
    refine ⟨hS9, ?_⟩
    have HQ := hide (sameProgram_any z1 p hok0.sm z1 w5 _ (Below.refl _ _) Q5.any Up)
    refine wpAnyH_one (k := 6) (by kernel_rfl) ?_
    unfold wpOp
    go_simp
    refine Or.inl (HQ.out.mono ?_)
    rintro e' z3 ⟨rfl, hz3⟩
    have K4 := K4.bel hz3
    have K0 := K0.bel hz3
    have S9 := S9.below hz3
    have L9 := L9.below hz3
    have hb9 := hb9.trans (hz3.mono hb9.size)
    have hS9 : z3.cell? ⟨g4, 0, none⟩ = some (.slice yv4 p.vars.length dv4) ∧ z3.cell? ⟨g4, 1, none⟩ = some (.slice ya4 p.arrays.length da4) ∧ z3.cell? ⟨g4, 2, none⟩ = some (.slice yp4 p.procs.length dp4) ∧ z3.cell? ⟨g4, 3, none⟩ = some (.slice ym4 p.main.length dm4) ∧ z3.cell? ⟨g0, 0, none⟩ = some (.slice xv p.vars.length cv) ∧ z3.cell? ⟨g0, 1, none⟩ = some (.slice xa p.arrays.length ca) ∧ z3.cell? ⟨g0, 2, none⟩ = some (.slice xp p.procs.length cp) ∧ z3.cell? ⟨g0, 3, none⟩ = some (.slice xm p.main.length cm) := ⟨K4.cell 0 _ rfl, K4.cell 1 _ rfl, K4.cell 2 _ rfl, K4.cell 3 _ rfl, K0.cell 0 _ rfl, K0.cell 1 _ rfl, K0.cell 2 _ rfl, K0.cell 3 _ rfl⟩
    refine ⟨hS9, ?_⟩
    (refine tk 7 (v := ?_) ?_ hS9 ?_; rotate_left 1; (intro w' hSw; (try dsimp only at hSw); go_simp; (try rw [if_pos (by omega)])); (try rfl); (try dsimp only [Act.put]))
    refine wpAnyH_one (k := 8) (by kernel_rfl) ?_
    unfold wpOp
    go_simp
    refine Or.inl ⟨by kernel_rfl, ?_⟩
    clear hS9 K4 K0 Up U4 hV4 hVp G4 G4' HB HQ
    cases er : readF s with
    | out => exact absurd er (readF_ends (by omega))
    | err c pos =>
      have HE := hide (read_err a s c pos z3 S9 L9 (by omega) er)
      clear er
      go_wp2_with fail
      refine HE.out.mono ?_
      rintro e' r1 ⟨hc1, N, rfl⟩
      have hx1 := (Below.refl r1.heap.size r1).alloc (Nat.le_refl _) (.cells #[.slice none 0 0, .slice none 0 0, .slice none 0 0, .slice none 0 0] 37)
      have HN := hide (noProgram_zero (r1.alloc (.cells #[.slice none 0 0, .slice none 0 0, .slice none 0 0, .slice none 0 0] 37)))
      have hb1 := hb9.trans ((hc1.trans (hx1.mono hc1.size)).mono hb9.size)
      go_wp2_with fail
      refine HN.out.mono ?_
      rintro e' r2 ⟨rfl, hc2⟩
      go_wp2_with fail
      go_ret
      exact ⟨rfl, hb1.trans (hc2.mono hb1.size)⟩
    | ok x d =>
      have hok := readF_ok (show s.length ≤ 4000 by omega) er
      have Er := hide er
      clear er
      have HR5 := hide (read_ok a s x _ z3 S9 L9 (by omega) Er.out)
      go_wp2_with fail
      refine HR5.out.mono ?_
      rintro e' r5 ⟨hc5, v5, rfl, hV5⟩
      have hV5' := hV5
      obtain ⟨yv5, dv5, ya5, da5, yp5, dp5, ym5, dm5, rfl, _, _, _, _⟩ := hV5'
      have hx5 := (Below.refl r5.heap.size r5).alloc (Nat.le_refl _) (.cells #[.slice yv5 x.vars.length dv5, .slice ya5 x.arrays.length da5, .slice yp5 x.procs.length dp5, .slice ym5 x.main.length dm5] 37)
      have G5 := BoxN.new r5 37 [.slice yv5 x.vars.length dv5, .slice ya5 x.arrays.length da5, .slice yp5 x.procs.length dp5, .slice ym5 x.main.length dm5]
      obtain ⟨X5, hX5⟩ : ∃ X, X = r5.alloc (.cells #[.slice yv5 x.vars.length dv5, .slice ya5 x.arrays.length da5, .slice yp5 x.procs.length dp5, .slice ym5 x.main.length dm5] 37) := ⟨_, rfl⟩
      have G5 : BoxN X5 r5.heap.size [.slice yv5 x.vars.length dv5, .slice ya5 x.arrays.length da5, .slice yp5 x.procs.length dp5, .slice ym5 x.main.length dm5] := by rw [hX5]; exact G5
      have hx5 : Below r5.heap.size r5 X5 := by rw [hX5]; exact hx5
      go_upto_region 10 with fail
      change Code.wp _ _ _ _ (r5.alloc (.cells #[.slice yv5 x.vars.length dv5, .slice ya5 x.arrays.length da5, .slice yp5 x.procs.length dp5, .slice ym5 x.main.length dm5] 37))
      rw [← hX5]
      clear hX5 HR5
      obtain ⟨g5, hg5⟩ : ∃ g, g = r5.heap.size := ⟨_, rfl⟩
      rw [← hg5] at G5 ⊢
      clear hg5
      have hb5 := hb9.trans ((hc5.trans (hx5.mono hc5.size)).mono hb9.size)
      have S5 := ((S9).below hc5).below hx5
      have L5 := ((L9).below hc5).below hx5
      have hV5 := hV5.bel hx5
      have u0 := G5.cell 0 _ rfl
      have u1 := G5.cell 1 _ rfl
      have u2 := G5.cell 2 _ rfl
      have u3 := G5.cell 3 _ rfl
      cases ex : textF x with
      | none =>
        have HT := hide (text_none a x _ X5 S5 L5 hok.sm hV5 ex)
        unfold errV at HT
        clear ex
        go_wp2_with fail
        refine HT.out.mono ?_
        rintro e' r6 ⟨rfl, hc6⟩
        have hb6 := hb5.trans (hc6.mono hb5.size)
        have HC := hide (coded_sent 2 (by omega) 3 a (a 2) rfl r6 (S5.below hc6))
        go_wp2_with fail
        refine HC.out.mono ?_
        rintro e' r7 ⟨rfl, hc7⟩
        go_wp2_with fail
        go_ret
        exact ⟨by simp, hb6.trans (hc7.mono hb6.size)⟩
      | some t2 =>
        obtain ⟨hw2, d2, hr2⟩ := textF_some ex
        have hl2 := textF_len ex
        have Ex2 := hide ex
        have Hr2 := hide hr2
        clear ex hw2 hr2
        have HT := hide (text_some a x t2 _ X5 S5 L5 hok.sm hV5 Ex2.out)
        go_wp2_with fail
        refine HT.out.mono ?_
        rintro e' r6 ⟨rfl, hc6⟩
        have hb6 := hb5.trans (hc6.mono hb5.size)
        have S6 := S5.below hc6
        have L6 := L5.below hc6
        have G5 := G5.bel hc6
        have hV5 := hV5.bel hc6
        clear u0 u1 u2 u3 HT
        have HR7 := hide (read_ok a t2 x _ r6 S6 L6 hl2 Hr2.out)
        go_wp2_with fail
        refine HR7.out.mono ?_
        rintro e' r7 ⟨hc7, v7, rfl, hV7⟩
        have hV7' := hV7
        obtain ⟨yv7, dv7, ya7, da7, yp7, dp7, ym7, dm7, rfl, _, _, _, _⟩ := hV7'
        have hx7 := (Below.refl r7.heap.size r7).alloc (Nat.le_refl _) (.cells #[.slice yv7 x.vars.length dv7, .slice ya7 x.arrays.length da7, .slice yp7 x.procs.length dp7, .slice ym7 x.main.length dm7] 37)
        have G7 := BoxN.new r7 37 [.slice yv7 x.vars.length dv7, .slice ya7 x.arrays.length da7, .slice yp7 x.procs.length dp7, .slice ym7 x.main.length dm7]
        obtain ⟨X7, hX7⟩ : ∃ X, X = r7.alloc (.cells #[.slice yv7 x.vars.length dv7, .slice ya7 x.arrays.length da7, .slice yp7 x.procs.length dp7, .slice ym7 x.main.length dm7] 37) := ⟨_, rfl⟩
        have G7 : BoxN X7 r7.heap.size [.slice yv7 x.vars.length dv7, .slice ya7 x.arrays.length da7, .slice yp7 x.procs.length dp7, .slice ym7 x.main.length dm7] := by rw [hX7]; exact G7
        have hx7 : Below r7.heap.size r7 X7 := by rw [hX7]; exact hx7
        go_upto_region 16 with fail
        change Code.wp _ _ _ _ (r7.alloc (.cells #[.slice yv7 x.vars.length dv7, .slice ya7 x.arrays.length da7, .slice yp7 x.procs.length dp7, .slice ym7 x.main.length dm7] 37))
        rw [← hX7]
        clear hX7 HR7
        obtain ⟨g7, hg7⟩ : ∃ g, g = r7.heap.size := ⟨_, rfl⟩
        rw [← hg7] at G7 ⊢
        clear hg7
        have hb7 := hb6.trans ((hc7.trans (hx7.mono hc7.size)).mono hb6.size)
        have S7 := ((S6).below hc7).below hx7
        have L7 := ((L6).below hc7).below hx7
        have hV7 := hV7.bel hx7
        have G5 := (G5.bel hc7).bel hx7
        have hV5 := (hV5.bel hc7).bel hx7
        have u0 := G7.cell 0 _ rfl
        have u1 := G7.cell 1 _ rfl
        have u2 := G7.cell 2 _ rfl
        have u3 := G7.cell 3 _ rfl
        have HT := hide (text_some a x t2 _ X7 S7 L7 hok.sm hV7 Ex2.out)
        go_wp2_with fail
        refine HT.out.mono ?_
        rintro e' r8 ⟨rfl, hc8⟩
        have hb8 := hb7.trans (hc8.mono hb7.size)
        have G5 := G5.bel hc8
        have G7 := G7.bel hc8
        have hV5 := hV5.bel hc8
        have hV7 := hV7.bel hc8
        clear u0 u1 u2 u3 HT
        have e0 : (t2 == t2) = true := by simp
        go_upto_region 17 with fail
        have hbd := (Below.refl r8.heap.size r8).drew
        have K5 := G5.bel hbd
        have K7 := G7.bel hbd
        have U5 := hV5.bel hbd
        have U7 := hV7.bel hbd
        have hb9 := hb8.trans (hbd.mono hb8.size)
        refine wp_region_held (S := fun w' => w'.cell? ⟨g5, 0, none⟩ = some (.slice yv5 x.vars.length dv5) ∧ w'.cell? ⟨g5, 1, none⟩ = some (.slice ya5 x.arrays.length da5) ∧ w'.cell? ⟨g5, 2, none⟩ = some (.slice yp5 x.procs.length dp5) ∧ w'.cell? ⟨g5, 3, none⟩ = some (.slice ym5 x.main.length dm5) ∧ w'.cell? ⟨g7, 0, none⟩ = some (.slice yv7 x.vars.length dv7) ∧ w'.cell? ⟨g7, 1, none⟩ = some (.slice ya7 x.arrays.length da7) ∧ w'.cell? ⟨g7, 2, none⟩ = some (.slice yp7 x.procs.length dp7) ∧ w'.cell? ⟨g7, 3, none⟩ = some (.slice ym7 x.main.length dm7)) (by kernel_rfl) ?_
        obtain ⟨wd, hwd⟩ : ∃ X, X = r8.drew := ⟨_, rfl⟩
        change wpAnyH _ _ _ _ _ _ _ _ r8.drew
        rw [← hwd] at K5 K7 U5 U7 hb9 ⊢
        clear hwd hbd
        have hS9 : wd.cell? ⟨g5, 0, none⟩ = some (.slice yv5 x.vars.length dv5) ∧ wd.cell? ⟨g5, 1, none⟩ = some (.slice ya5 x.arrays.length da5) ∧ wd.cell? ⟨g5, 2, none⟩ = some (.slice yp5 x.procs.length dp5) ∧ wd.cell? ⟨g5, 3, none⟩ = some (.slice ym5 x.main.length dm5) ∧ wd.cell? ⟨g7, 0, none⟩ = some (.slice yv7 x.vars.length dv7) ∧ wd.cell? ⟨g7, 1, none⟩ = some (.slice ya7 x.arrays.length da7) ∧ wd.cell? ⟨g7, 2, none⟩ = some (.slice yp7 x.procs.length dp7) ∧ wd.cell? ⟨g7, 3, none⟩ = some (.slice ym7 x.main.length dm7) := ⟨K5.cell 0 _ rfl, K5.cell 1 _ rfl, K5.cell 2 _ rfl, K5.cell 3 _ rfl, K7.cell 0 _ rfl, K7.cell 1 _ rfl, K7.cell 2 _ rfl, K7.cell 3 _ rfl⟩
        (refine tk 0 (v := ?_) ?_ hS9 ?_; rotate_left 1; (intro w' hSw; (try dsimp only at hSw); go_simp; (try rw [if_pos (by omega)])); (try rfl); (try dsimp only [Act.put]))
        (refine tk 1 (v := .bool true) ?_ hS9 ?_; (intro w' hSw; (try dsimp only at hSw); go_simp; (try simp)); (try dsimp only [Act.put]))
        (refine tk 2 (v := ?_) ?_ hS9 ?_; rotate_left 1; (intro w' hSw; (try dsimp only at hSw); go_simp; (try rw [if_pos (by omega)])); (try rfl); (try dsimp only [Act.put]))
        (refine tk 3 (v := ?_) ?_ hS9 ?_; rotate_left 1; (intro w' hSw; (try dsimp only at hSw); go_simp; (try rw [if_pos (by omega)])); (try rfl); (try dsimp only [Act.put]))
        (refine tk 4 (v := .bool true) ?_ hS9 ?_; (intro w' hSw; (try dsimp only at hSw); go_simp; (try simp)); (try dsimp only [Act.put]))
        (refine tk 5 (v := .bool true) ?_ hS9 ?_; (intro w' hSw; (try dsimp only at hSw); go_simp; (try simp)); (try dsimp only [Act.put]))
        (refine tk 6 (v := ?_) ?_ hS9 ?_; rotate_left 1; (intro w' hSw; (try dsimp only at hSw); go_simp; (try rw [if_pos (by omega)])); (try rfl); (try dsimp only [Act.put]))
        (refine tk 7 (v := ?_) ?_ hS9 ?_; rotate_left 1; (intro w' hSw; (try dsimp only at hSw); go_simp; (try rw [if_pos (by omega)])); (try rfl); (try dsimp only [Act.put]))
        (refine tk 8 (v := ?_) ?_ hS9 ?_; rotate_left 1; (intro w' hSw; (try dsimp only at hSw); go_simp; (try rw [if_pos (by omega)])); (try rfl); (try dsimp only [Act.put]))
        (refine tk 9 (v := .bool true) ?_ hS9 ?_; (intro w' hSw; (try dsimp only at hSw); go_simp; (try simp)); (try dsimp only [Act.put]))
        (refine tk 10 (v := .bool true) ?_ hS9 ?_; (intro w' hSw; (try dsimp only at hSw); go_simp; (try simp)); (try dsimp only [Act.put]))
        (refine tk 11 (v := ?_) ?_ hS9 ?_; rotate_left 1; (intro w' hSw; (try dsimp only at hSw); go_simp; (try rw [if_pos (by omega)])); (try rfl); (try dsimp only [Act.put]))
        (refine tk 12 (v := ?_) ?_ hS9 ?_; rotate_left 1; (intro w' hSw; (try dsimp only at hSw); go_simp; (try rw [if_pos (by omega)])); (try rfl); (try dsimp only [Act.put]))
        (refine tk 14 (v := ?_) ?_ hS9 ?_; rotate_left 1; (intro w' hSw; (try dsimp only at hSw); go_simp; (try rw [if_pos (by omega)])); (try rfl); (try dsimp only [Act.put]))
        have HB := hide (back_any x hok wd _ U5)
        refine wpAnyH_one (k := 13) (by kernel_rfl) ?_
        unfold wpOp
        go_simp
        refine Or.inl (HB.out.mono ?_)
        rintro e' z1 ⟨hz1, w5, rfl, Q5⟩
        have K5 := K5.bel hz1
        have K7 := K7.bel hz1
        have U7 := U7.bel hz1
        have hb9 := hb9.trans (hz1.mono hb9.size)
        have hS9 : z1.cell? ⟨g5, 0, none⟩ = some (.slice yv5 x.vars.length dv5) ∧ z1.cell? ⟨g5, 1, none⟩ = some (.slice ya5 x.arrays.length da5) ∧ z1.cell? ⟨g5, 2, none⟩ = some (.slice yp5 x.procs.length dp5) ∧ z1.cell? ⟨g5, 3, none⟩ = some (.slice ym5 x.main.length dm5) ∧ z1.cell? ⟨g7, 0, none⟩ = some (.slice yv7 x.vars.length dv7) ∧ z1.cell? ⟨g7, 1, none⟩ = some (.slice ya7 x.arrays.length da7) ∧ z1.cell? ⟨g7, 2, none⟩ = some (.slice yp7 x.procs.length dp7) ∧ z1.cell? ⟨g7, 3, none⟩ = some (.slice ym7 x.main.length dm7) := ⟨K5.cell 0 _ rfl, K5.cell 1 _ rfl, K5.cell 2 _ rfl, K5.cell 3 _ rfl, K7.cell 0 _ rfl, K7.cell 1 _ rfl, K7.cell 2 _ rfl, K7.cell 3 _ rfl⟩
        refine ⟨hS9, ?_⟩
        have HB := hide (back_any x hok z1 _ U7)
        refine wpAnyH_one (k := 15) (by kernel_rfl) ?_
        unfold wpOp
        go_simp
        refine Or.inl (HB.out.mono ?_)
        rintro e' z2 ⟨hz2, w7, rfl, Q7⟩
        have K5 := K5.bel hz2
        have K7 := K7.bel hz2
        have Q5 := Q5.bel hz2
        have hb9 := hb9.trans (hz2.mono hb9.size)
        have hS9 : z2.cell? ⟨g5, 0, none⟩ = some (.slice yv5 x.vars.length dv5) ∧ z2.cell? ⟨g5, 1, none⟩ = some (.slice ya5 x.arrays.length da5) ∧ z2.cell? ⟨g5, 2, none⟩ = some (.slice yp5 x.procs.length dp5) ∧ z2.cell? ⟨g5, 3, none⟩ = some (.slice ym5 x.main.length dm5) ∧ z2.cell? ⟨g7, 0, none⟩ = some (.slice yv7 x.vars.length dv7) ∧ z2.cell? ⟨g7, 1, none⟩ = some (.slice ya7 x.arrays.length da7) ∧ z2.cell? ⟨g7, 2, none⟩ = some (.slice yp7 x.procs.length dp7) ∧ z2.cell? ⟨g7, 3, none⟩ = some (.slice ym7 x.main.length dm7) := ⟨K5.cell 0 _ rfl, K5.cell 1 _ rfl, K5.cell 2 _ rfl, K5.cell 3 _ rfl, K7.cell 0 _ rfl, K7.cell 1 _ rfl, K7.cell 2 _ rfl, K7.cell 3 _ rfl⟩
        refine ⟨hS9, ?_⟩
        have HQ := hide (sameProgram_any z2 x hok.sm z2 w5 w7 (Below.refl _ _) Q5.any Q7.any)
        refine wpAnyH_one (k := 16) (by kernel_rfl) ?_
        unfold wpOp
        go_simp
        refine Or.inl (HQ.out.mono ?_)
        rintro e' z3 ⟨rfl, hz3⟩
        have K5 := K5.bel hz3
        have K7 := K7.bel hz3
        have hb9 := hb9.trans (hz3.mono hb9.size)
        have hS9 : z3.cell? ⟨g5, 0, none⟩ = some (.slice yv5 x.vars.length dv5) ∧ z3.cell? ⟨g5, 1, none⟩ = some (.slice ya5 x.arrays.length da5) ∧ z3.cell? ⟨g5, 2, none⟩ = some (.slice yp5 x.procs.length dp5) ∧ z3.cell? ⟨g5, 3, none⟩ = some (.slice ym5 x.main.length dm5) ∧ z3.cell? ⟨g7, 0, none⟩ = some (.slice yv7 x.vars.length dv7) ∧ z3.cell? ⟨g7, 1, none⟩ = some (.slice ya7 x.arrays.length da7) ∧ z3.cell? ⟨g7, 2, none⟩ = some (.slice yp7 x.procs.length dp7) ∧ z3.cell? ⟨g7, 3, none⟩ = some (.slice ym7 x.main.length dm7) := ⟨K5.cell 0 _ rfl, K5.cell 1 _ rfl, K5.cell 2 _ rfl, K5.cell 3 _ rfl, K7.cell 0 _ rfl, K7.cell 1 _ rfl, K7.cell 2 _ rfl, K7.cell 3 _ rfl⟩
        refine ⟨hS9, ?_⟩
        (refine tk 17 (v := ?_) ?_ hS9 ?_; rotate_left 1; (intro w' hSw; (try dsimp only at hSw); go_simp; (try rw [if_pos (by omega)])); (try rfl); (try dsimp only [Act.put]))
        refine wpAnyH_one (k := 18) (by kernel_rfl) ?_
        unfold wpOp
        go_simp
        refine Or.inl ⟨by kernel_rfl, ?_⟩
        clear hS9
        go_wp2_with fail
        go_ret
        exact ⟨rfl, hb9⟩
end Go.Proofs.YtolpekdckemhkaaGreatDoor
