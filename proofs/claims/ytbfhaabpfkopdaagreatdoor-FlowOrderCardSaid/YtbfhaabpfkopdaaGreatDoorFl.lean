/- FlowOrder: its walk. -/
import Derived.Test.YtbfhaabpfkopdaaGreatDoorFk
import Derived.Test.YtbfhaabpfkopdaaGreatDoorKw
import Derived.Test.YtbfhaabpfkopdaaGreatDoorNz
namespace Go.Proofs.YtbfhaabpfkopdaaGreatDoor
open Go.RowKit
set_option linter.unusedVariables false

/-- Points that cannot be. -/
def badP (P : Int) : Bool := decide (P < 0) || decide (120 < P)
def badE (P : Int) (e : Eg) : Bool := decide (e.fr < 0) || (decide (e.tt < 0) || (decide (P ≤ e.fr) || decide (P ≤ e.tt)))
def badH (P h : Int) : Bool := decide (h < 0) || decide (P ≤ h)
theorem badE_egIn (P : Int) (e : Eg) : badE P e = !egIn P e := by
  unfold badE egIn inP
  by_cases h1 : e.fr < 0 <;> by_cases h2 : e.tt < 0 <;> by_cases h3 : P ≤ e.fr <;> by_cases h4 : P ≤ e.tt <;> simp [h1, h2, h3, h4] <;> omega
theorem badH_inP (P h : Int) : badH P h = !inP P h := by
  unfold badH inP
  by_cases h1 : h < 0 <;> by_cases h2 : P ≤ h <;> simp [h1, h2] <;> omega
def badG (P : Int) (E : List Eg) (H : List Int) : Bool := badP P || (E.any (badE P) || H.any (badH P))
theorem any_nall {α : Type} (f g : α → Bool) (h : ∀ x, f x = !g x) (l : List α) : l.any f = !l.all g := by
  induction l with
  | nil => rfl
  | cons x l ih => simp only [List.any_cons, List.all_cons, h, ih, Bool.not_and]
theorem badG_laidB (P : Int) (E : List Eg) (H : List Int) (h : E.length ≤ 400) : badG P E H = !laidB P E H := by
  unfold badG laidB badP
  rw [any_nall _ _ (badE_egIn P), any_nall _ _ (badH_inP P), decide_eq_true h]
  by_cases h1 : P < 0
  · have : ¬ 0 ≤ P := by omega
    simp [h1, this]
  · by_cases h2 : 120 < P
    · have h3 : ¬ P ≤ 120 := by omega
      simp [h1, h2, h3]
    · have h3 : P ≤ 120 := by omega
      have h4 : 0 ≤ P := by omega
      simp [h1, h2, h3, h4]
theorem any_take_more {α : Type} {l : List α} {i : Nat} {e : α} (h : l[i]? = some e) (f : α → Bool) : (l.take (i + 1)).any f = ((l.take i).any f || f e) := by
  rw [← take_more h]; simp
theorem ordL_len (n : Nat) (E : List Eg) (hin : ∀ e ∈ E, 0 ≤ e.tt ∧ e.tt < (n : Int)) : (ordL n E).length ≤ n := by
  by_cases hz : n = 0
  · subst hz; exact Nat.le_refl _
  · have hdg := dfs_go hin n 0 (List.replicate n false) (by simp) (by omega) (by omega) (by rw [List.getElem?_replicate, if_pos (by simpa using Nat.pos_of_ne_zero hz)]) (by rw [uns_new]; exact Nat.le_refl _)
    obtain ⟨_, o, q2, q3, _⟩ := hdg
    have q2 : (dfs E n 0 (List.replicate n false)).2 = [] ++ o := q2
    have q3 : o.length + uns (dfs E n 0 (List.replicate n false)).1 ≤ uns (List.replicate n false) := q3
    rw [uns_new] at q3
    unfold ordL
    rw [List.length_reverse, q2]
    simp
    omega
theorem Below.drewM {B : Nat} {w w' : World} (h : Below B w w') (n : Nat) : Below B w (w'.drewN n) := by
  induction n with
  | zero => exact h
  | succ n ih => exact ih.drew
set_option maxRecDepth 20000 in
set_option maxHeartbeats 16000000 in
theorem flowOrder_walk (xv xa xe xh : Option Addr) (cv na ca ne ce nh ch : Nat) (P : Int) (V : List Bs) (A : List Ar) (E : List Eg) (H : List Int) (a : Nat → Addr) (w : World) (hS : Sents w a) (hL : LgW w) (hv : RowAt strVals 1 w Any xv V) (ha : RowAt arVals 2 w Any xa A) (hE : RowAt egVals 6 w Any xe E) (hH : IntsAt w xh H) (hna : Hid (na = A.length)) (hne : Hid (ne = E.length)) (hnh : Hid (nh = H.length))
    (hlv : V.length * 16 ≤ 140737488355328) (hla : na * 24 ≤ 140737488355328) (hle : ne * 96 ≤ 140737488355328) (hlh : nh ≤ 4398046511104) (hfE : Hid (∀ (i : Nat) (e : Eg), E[i]? = some e → EgFit e)) :
    Calls Tryz.prog 6 #[.agg #[.slice xv V.length cv, .slice xa na ca, .int .i64 P, .slice xe ne ce, .slice xh nh ch]] w fun e w' => e = .returned (.bool true) ∧ Below w.heap.size w w' := by
  have hb0 := (Below.refl w.heap.size w).alloc (Nat.le_refl _) (.cells #[.slice xv V.length cv, .slice xa na ca, .int .i64 P, .slice xe ne ce, .slice xh nh ch] 46)
  have G0 := BoxN.new w 46 [.slice xv V.length cv, .slice xa na ca, .int .i64 P, .slice xe ne ce, .slice xh nh ch]
  obtain ⟨W0, hW0⟩ : ∃ X, X = w.alloc (.cells #[.slice xv V.length cv, .slice xa na ca, .int .i64 P, .slice xe ne ce, .slice xh nh ch] 46) := ⟨_, rfl⟩
  have G0 : BoxN W0 w.heap.size [.slice xv V.length cv, .slice xa na ca, .int .i64 P, .slice xe ne ce, .slice xh nh ch] := by rw [hW0]; exact G0
  have hb0 : Below w.heap.size w W0 := by rw [hW0]; exact hb0
  have S0 := hS.below hb0
  have L0 := hL.below hb0
  have H1 := hide (one_any a W0 S0 L0)
  go_enter Tryz.func6, Tryz.ntmps6
  go_upto_region 1 with fail
  change Code.wp _ _ _ _ (w.alloc (.cells #[.slice xv V.length cv, .slice xa na ca, .int .i64 P, .slice xe ne ce, .slice xh nh ch] 46))
  rw [← hW0]
  clear hW0
  obtain ⟨g1, hg1⟩ : ∃ g, g = w.heap.size := ⟨_, rfl⟩
  rw [← hg1] at G0 ⊢
  clear hg1
  go_wp2_with fail
  refine H1.out.mono ?_
  rintro e' w1 ⟨rfl, hc1⟩
  have hb1 := hb0.trans (hc1.mono hb0.size)
  have S1 := S0.below hc1
  have G1 := G0.bel hc1
  clear H1 G0 S0 L0 hb0 hc1
  have m2 := G1.cell 2 _ rfl
  have m3 := G1.cell 3 _ rfl
  have m4 := G1.cell 4 _ rfl
  by_cases h3 : 200 < ne
  · have h3' : (200 : Int) < (ne : Int) := by omega
    go_wp2_with fail
    go_ret
    exact ⟨rfl, hb1⟩
  have h3' : ¬ (200 : Int) < (ne : Int) := by omega
  by_cases h4 : 200 < nh
  · have h4' : (200 : Int) < (nh : Int) := by omega
    go_wp2_with fail
    go_ret
    exact ⟨rfl, hb1⟩
  have h4' : ¬ (200 : Int) < (nh : Int) := by omega
  by_cases h5 : 200 < P
  · go_wp2_with fail
    go_ret
    exact ⟨rfl, hb1⟩
  go_upto_region 4 with fail
  go_cut [4] (fun t wx => t = .bool (badP P) ∧ BoxN wx g1 [.slice xv V.length cv, .slice xa na ca, .int .i64 P, .slice xe ne ce, .slice xh nh ch] ∧ Sents wx a ∧ Below w.heap.size w wx)
  case first =>
    by_cases k1 : P < 0
    · have k2 : badP P = true := by simp [badP, k1]
      go_wp2_with fail
      go_meet
      case rel => exact ⟨by rw [k2], G1, S1, hb1⟩
    · by_cases k3 : 120 < P
      · have k2 : badP P = true := by simp [badP, k3]
        go_wp2_with fail
        go_meet
        case rel => exact ⟨by rw [k2], G1, S1, hb1⟩
      · have k2 : badP P = false := by simp [badP, k1, k3]
        go_wp2_with fail
        go_meet
        case rel => exact ⟨by rw [k2], G1, S1, hb1⟩
  case rest =>
  obtain ⟨rfl, G2, S2, hb2⟩ := hcut
  clear G1 S1 hb1 m2 m3 m4
  go_wp2_with fail
  go_loopg [4, 5] ne (fun gh bv iv wx => ∃ (i : Nat), i + gh = ne ∧ iv = .int .i64 i ∧ bv = .bool (badP P || (E.take i).any (badE P)) ∧ BoxN wx g1 [.slice xv V.length cv, .slice xa na ca, .int .i64 P, .slice xe ne ce, .slice xh nh ch] ∧ Sents wx a ∧ Below w.heap.size w wx)
  case atStart => exact ⟨0, by omega, rfl, by simp, G2, S2, hb2⟩
  case round =>
    clear G2 S2 hb2
    obtain ⟨i, hig, rfl, rfl, G, S, hb⟩ := hrel
    have m2 := G.cell 2 _ rfl
    have m3 := G.cell 3 _ rfl
    obtain ⟨bd, hbd⟩ : ∃ b, Hid (b = (badP P || (E.take i).any (badE P))) := ⟨_, rfl⟩
    rw [← hbd.out]
    by_cases hi : i < ne
    · have hi' : (i : Int) < (ne : Int) := by omega
      obtain ⟨e, he⟩ : ∃ e, E[i]? = some e := ⟨_, List.getElem?_eq_getElem (by rw [← hne.out]; exact hi)⟩
      obtain ⟨b, off, rfl, hlt, vs, hvl, vk, za, da', zt, dt, rfl, hza, hzt⟩ := hE.elem he
      have k0 := (hb.cell hlt).trans (vk 0 _ rfl)
      have k1 := (hb.cell hlt).trans (vk 1 _ rfl)
      simp only [Nat.add_zero] at k0
      have hmore := hide (any_take_more he (badE P))
      clear vk he hvl hza hzt
      go_upto_region 8 with fail
      cases bd
      case true =>
        go_wp2_with fail
        go_quiet (fail)
        go_wp2_with fail
        go_roundg (ne - (i + 1))
        case measure => omega
        case rel => exact ⟨i + 1, by omega, by go_num, by rw [hmore.out, ← Bool.or_assoc, ← hbd.out]; simp, G.bel (Below.drewM (Below.refl _ _) _), S.below (Below.drewM (Below.refl _ _) _), Below.drewM hb _⟩
      case false =>
        by_cases c1 : e.fr < 0
        · have cb : badE P e = true := by simp [badE, c1]
          go_wp2_with fail
          go_quiet (fail)
          go_wp2_with fail
          go_roundg (ne - (i + 1))
          case measure => omega
          case rel => exact ⟨i + 1, by omega, by go_num, by rw [hmore.out, ← Bool.or_assoc, ← hbd.out]; simp [cb], G.bel (Below.drewM (Below.refl _ _) _), S.below (Below.drewM (Below.refl _ _) _), Below.drewM hb _⟩
        by_cases c2 : e.tt < 0
        · have cb : badE P e = true := by simp [badE, c2]
          have hbx := (Below.refl wr.heap.size wr).drew
          have hbd' := hb.trans (hbx.mono hb.size)
          have Gd := G.bel hbx
          have Sd := S.below hbx
          refine wp_region_held (S := fun w' => w'.cell? ⟨g1, 2, none⟩ = some (.int .i64 P) ∧ w'.cell? ⟨g1, 3, none⟩ = some (.slice (some ⟨b, off, none⟩) ne ce) ∧ w'.cell? ⟨b, off + i * 6, none⟩ = some (.int .i64 e.fr) ∧ w'.cell? ⟨b, off + i * 6 + 1, none⟩ = some (.int .i64 e.tt)) (by kernel_rfl) ?_
          obtain ⟨wd, hwd⟩ : ∃ X, X = wr.drew := ⟨_, rfl⟩
          change wpAnyH _ _ _ _ _ _ _ _ wr.drew
          have hS9 : wd.cell? ⟨g1, 2, none⟩ = some (.int .i64 P) ∧ wd.cell? ⟨g1, 3, none⟩ = some (.slice (some ⟨b, off, none⟩) ne ce) ∧ wd.cell? ⟨b, off + i * 6, none⟩ = some (.int .i64 e.fr) ∧ wd.cell? ⟨b, off + i * 6 + 1, none⟩ = some (.int .i64 e.tt) := by rw [hwd]; exact ⟨m2, m3, k0, k1⟩
          rw [← hwd] at hbd' Gd Sd ⊢
          clear hwd hbx
          (refine tk 0 (v := ?_) ?_ hS9 ?_ (hw := by kernel_rfl); rotate_left 1; (intro w' hSw; (try dsimp only at hSw); go_simp; (try rw [if_pos (by omega)])); (try rfl); (try dsimp only [Act.put]))
          (refine tk 1 (v := ?_) ?_ hS9 ?_ (hw := by kernel_rfl); rotate_left 1; (intro w' hSw; (try dsimp only at hSw); go_simp; (try rw [if_pos (by omega)])); (try rfl); (try dsimp only [Act.put]))
          (refine tk 2 (v := ?_) ?_ hS9 ?_ (hw := by kernel_rfl); rotate_left 1; (intro w' hSw; (try dsimp only at hSw); go_simp; (try rw [if_pos (by omega)])); (try rfl); (try dsimp only [Act.put]))
          (refine tk 3 (v := ?_) ?_ hS9 ?_ (hw := by kernel_rfl); rotate_left 1; (intro w' hSw; (try dsimp only at hSw); go_simp; (try rw [if_pos (by omega)])); (try rfl); (try dsimp only [Act.put]))
          (refine tk 4 (v := ?_) ?_ hS9 ?_ (hw := by kernel_rfl); rotate_left 1; (intro w' hSw; (try dsimp only at hSw); go_simp; (try rw [if_pos (by omega)])); (try rfl); (try dsimp only [Act.put]))
          (refine tk 5 (v := ?_) ?_ hS9 ?_ (hw := by kernel_rfl); rotate_left 1; (intro w' hSw; (try dsimp only at hSw); go_simp; (try rw [if_pos (by omega)])); (try rfl); (try dsimp only [Act.put]))
          (refine tk 6 (v := ?_) ?_ hS9 ?_ (hw := by kernel_rfl); rotate_left 1; (intro w' hSw; (try dsimp only at hSw); go_simp; (try rw [if_pos (by omega)])); (try rfl); (try dsimp only [Act.put]))
          (refine tk 7 (v := ?_) ?_ hS9 ?_ (hw := by kernel_rfl); rotate_left 1; (intro w' hSw; (try dsimp only at hSw); go_simp; (try rw [if_pos (by omega)])); (try rfl); (try dsimp only [Act.put]))
          (refine tk 8 (v := .bool false) ?_ hS9 ?_ (hw := by kernel_rfl); (intro w' hSw; (try dsimp only at hSw); go_simp; (try simp); (try omega)); (try dsimp only [Act.put]))
          (refine tk 9 (v := .bool false) ?_ hS9 ?_ (hw := by kernel_rfl); (intro w' hSw; (try dsimp only at hSw); go_simp; (try simp); (try omega)); (try dsimp only [Act.put]))
          (refine tk 10 (v := ?_) ?_ hS9 ?_ (hw := by kernel_rfl); rotate_left 1; (intro w' hSw; (try dsimp only at hSw); go_simp; (try rw [if_pos (by omega)])); (try rfl); (try dsimp only [Act.put]))
          (refine tk 11 (v := ?_) ?_ hS9 ?_ (hw := by kernel_rfl); rotate_left 1; (intro w' hSw; (try dsimp only at hSw); go_simp; (try rw [if_pos (by omega)])); (try rfl); (try dsimp only [Act.put]))
          (refine tk 12 (v := ?_) ?_ hS9 ?_ (hw := by kernel_rfl); rotate_left 1; (intro w' hSw; (try dsimp only at hSw); go_simp; (try rw [if_pos (by omega)])); (try rfl); (try dsimp only [Act.put]))
          (refine tk 13 (v := ?_) ?_ hS9 ?_ (hw := by kernel_rfl); rotate_left 1; (intro w' hSw; (try dsimp only at hSw); go_simp; (try rw [if_pos (by omega)])); (try rfl); (try dsimp only [Act.put]))
          (refine tk 14 (v := ?_) ?_ hS9 ?_ (hw := by kernel_rfl); rotate_left 1; (intro w' hSw; (try dsimp only at hSw); go_simp; (try rw [if_pos (by omega)])); (try rfl); (try dsimp only [Act.put]))
          (refine tk 15 (v := ?_) ?_ hS9 ?_ (hw := by kernel_rfl); rotate_left 1; (intro w' hSw; (try dsimp only at hSw); go_simp; (try rw [if_pos (by omega)])); (try rfl); (try dsimp only [Act.put]))
          (refine tk 16 (v := ?_) ?_ hS9 ?_ (hw := by kernel_rfl); rotate_left 1; (intro w' hSw; (try dsimp only at hSw); go_simp; (try rw [if_pos (by omega)])); (try rfl); (try dsimp only [Act.put]))
          (refine tk 17 (v := .bool true) ?_ hS9 ?_ (hw := by kernel_rfl); (intro w' hSw; (try dsimp only at hSw); go_simp; (try simp); (try omega)); (try dsimp only [Act.put]))
          (refine tk 18 (v := .bool true) ?_ hS9 ?_ (hw := by kernel_rfl); (intro w' hSw; (try dsimp only at hSw); go_simp; (try simp); (try omega)); (try dsimp only [Act.put]))
          (refine tk 19 (v := ?_) ?_ hS9 ?_ (hw := by kernel_rfl); rotate_left 1; (intro w' hSw; (try dsimp only at hSw); go_simp; (try rw [if_pos (by omega)])); (try rfl); (try dsimp only [Act.put]))
          (refine wpAnyH_take (i := 20) (v := undef) rfl (by kernel_rfl) (by kernel_rfl) (by kernel_rfl) (fun _ _ _ h => h) (Or.inr ⟨by kernel_rfl, rfl⟩) hS9 ?_; (try dsimp only [Act.put]))
          (refine wpAnyH_take (i := 21) (v := undef) rfl (by kernel_rfl) (by kernel_rfl) (by kernel_rfl) (fun _ _ _ h => h) (Or.inr ⟨by kernel_rfl, rfl⟩) hS9 ?_; (try dsimp only [Act.put]))
          (refine wpAnyH_take (i := 22) (v := undef) rfl (by kernel_rfl) (by kernel_rfl) (by kernel_rfl) (fun _ _ _ h => h) (Or.inr ⟨by kernel_rfl, rfl⟩) hS9 ?_; (try dsimp only [Act.put]))
          (refine wpAnyH_take (i := 23) (v := undef) rfl (by kernel_rfl) (by kernel_rfl) (by kernel_rfl) (fun _ _ _ h => h) (Or.inr ⟨by kernel_rfl, rfl⟩) hS9 ?_; (try dsimp only [Act.put]))
          (refine wpAnyH_take (i := 24) (v := undef) rfl (by kernel_rfl) (by kernel_rfl) (by kernel_rfl) (fun _ _ _ h => h) (Or.inr ⟨by kernel_rfl, rfl⟩) hS9 ?_; (try dsimp only [Act.put]))
          (refine wpAnyH_take (i := 25) (v := undef) rfl (by kernel_rfl) (by kernel_rfl) (by kernel_rfl) (fun _ _ _ h => h) (Or.inr ⟨by kernel_rfl, rfl⟩) hS9 ?_; (try dsimp only [Act.put]))
          (refine wpAnyH_take (i := 26) (v := undef) rfl (by kernel_rfl) (by kernel_rfl) (by kernel_rfl) (fun _ _ _ h => h) (Or.inr ⟨by kernel_rfl, rfl⟩) hS9 ?_; (try dsimp only [Act.put]))
          (refine wpAnyH_take (i := 27) (v := undef) rfl (by kernel_rfl) (by kernel_rfl) (by kernel_rfl) (fun _ _ _ h => h) (Or.inr ⟨by kernel_rfl, rfl⟩) hS9 ?_; (try dsimp only [Act.put]))
          (refine wpAnyH_take (i := 28) (v := undef) rfl (by kernel_rfl) (by kernel_rfl) (by kernel_rfl) (fun _ _ _ h => h) (Or.inr ⟨by kernel_rfl, rfl⟩) hS9 ?_; (try dsimp only [Act.put]))
          (refine tk 29 (v := .bool true) ?_ hS9 ?_ (hw := by kernel_rfl); (intro w' hSw; (try dsimp only at hSw); go_simp; (try simp); (try omega)); (try dsimp only [Act.put]))
          (refine tk 30 (v := ?_) ?_ hS9 ?_ (hw := by kernel_rfl); rotate_left 1; (intro w' hSw; (try dsimp only at hSw); go_simp; (try rw [if_pos (by omega)])); (try rfl); (try dsimp only [Act.put]))
          (refine wpAnyH_take (i := 31) (v := undef) rfl (by kernel_rfl) (by kernel_rfl) (by kernel_rfl) (fun _ _ _ h => h) (Or.inr ⟨by kernel_rfl, rfl⟩) hS9 ?_; (try dsimp only [Act.put]))
          (refine wpAnyH_take (i := 32) (v := undef) rfl (by kernel_rfl) (by kernel_rfl) (by kernel_rfl) (fun _ _ _ h => h) (Or.inr ⟨by kernel_rfl, rfl⟩) hS9 ?_; (try dsimp only [Act.put]))
          (refine wpAnyH_take (i := 33) (v := undef) rfl (by kernel_rfl) (by kernel_rfl) (by kernel_rfl) (fun _ _ _ h => h) (Or.inr ⟨by kernel_rfl, rfl⟩) hS9 ?_; (try dsimp only [Act.put]))
          (refine wpAnyH_take (i := 34) (v := undef) rfl (by kernel_rfl) (by kernel_rfl) (by kernel_rfl) (fun _ _ _ h => h) (Or.inr ⟨by kernel_rfl, rfl⟩) hS9 ?_; (try dsimp only [Act.put]))
          (refine wpAnyH_take (i := 35) (v := undef) rfl (by kernel_rfl) (by kernel_rfl) (by kernel_rfl) (fun _ _ _ h => h) (Or.inr ⟨by kernel_rfl, rfl⟩) hS9 ?_; (try dsimp only [Act.put]))
          (refine wpAnyH_take (i := 36) (v := undef) rfl (by kernel_rfl) (by kernel_rfl) (by kernel_rfl) (fun _ _ _ h => h) (Or.inr ⟨by kernel_rfl, rfl⟩) hS9 ?_; (try dsimp only [Act.put]))
          (refine wpAnyH_take (i := 37) (v := undef) rfl (by kernel_rfl) (by kernel_rfl) (by kernel_rfl) (fun _ _ _ h => h) (Or.inr ⟨by kernel_rfl, rfl⟩) hS9 ?_; (try dsimp only [Act.put]))
          (refine wpAnyH_take (i := 38) (v := undef) rfl (by kernel_rfl) (by kernel_rfl) (by kernel_rfl) (fun _ _ _ h => h) (Or.inr ⟨by kernel_rfl, rfl⟩) hS9 ?_; (try dsimp only [Act.put]))
          (refine wpAnyH_take (i := 39) (v := undef) rfl (by kernel_rfl) (by kernel_rfl) (by kernel_rfl) (fun _ _ _ h => h) (Or.inr ⟨by kernel_rfl, rfl⟩) hS9 ?_; (try dsimp only [Act.put]))
          (refine tk 40 (v := .bool true) ?_ hS9 ?_ (hw := by kernel_rfl); (intro w' hSw; (try dsimp only at hSw); go_simp; (try simp); (try omega)); (try dsimp only [Act.put]))
          refine wpAnyH_one (k := 41) (by kernel_rfl) ?_
          unfold wpOp
          go_simp
          refine Or.inl ⟨by kernel_rfl, ?_⟩
          clear hS9
          go_wp2_with fail
          go_roundg (ne - (i + 1))
          case measure => omega
          case rel => exact ⟨i + 1, by omega, by go_num, by rw [hmore.out, ← Bool.or_assoc, ← hbd.out]; simp [cb], Gd, Sd, hbd'⟩
        by_cases c3 : P ≤ e.fr
        · have cb : badE P e = true := by simp [badE, c3]
          have hbx := (Below.refl wr.heap.size wr).drew
          have hbd' := hb.trans (hbx.mono hb.size)
          have Gd := G.bel hbx
          have Sd := S.below hbx
          refine wp_region_held (S := fun w' => w'.cell? ⟨g1, 2, none⟩ = some (.int .i64 P) ∧ w'.cell? ⟨g1, 3, none⟩ = some (.slice (some ⟨b, off, none⟩) ne ce) ∧ w'.cell? ⟨b, off + i * 6, none⟩ = some (.int .i64 e.fr) ∧ w'.cell? ⟨b, off + i * 6 + 1, none⟩ = some (.int .i64 e.tt)) (by kernel_rfl) ?_
          obtain ⟨wd, hwd⟩ : ∃ X, X = wr.drew := ⟨_, rfl⟩
          change wpAnyH _ _ _ _ _ _ _ _ wr.drew
          have hS9 : wd.cell? ⟨g1, 2, none⟩ = some (.int .i64 P) ∧ wd.cell? ⟨g1, 3, none⟩ = some (.slice (some ⟨b, off, none⟩) ne ce) ∧ wd.cell? ⟨b, off + i * 6, none⟩ = some (.int .i64 e.fr) ∧ wd.cell? ⟨b, off + i * 6 + 1, none⟩ = some (.int .i64 e.tt) := by rw [hwd]; exact ⟨m2, m3, k0, k1⟩
          rw [← hwd] at hbd' Gd Sd ⊢
          clear hwd hbx
          (refine tk 0 (v := ?_) ?_ hS9 ?_ (hw := by kernel_rfl); rotate_left 1; (intro w' hSw; (try dsimp only at hSw); go_simp; (try rw [if_pos (by omega)])); (try rfl); (try dsimp only [Act.put]))
          (refine tk 1 (v := ?_) ?_ hS9 ?_ (hw := by kernel_rfl); rotate_left 1; (intro w' hSw; (try dsimp only at hSw); go_simp; (try rw [if_pos (by omega)])); (try rfl); (try dsimp only [Act.put]))
          (refine tk 2 (v := ?_) ?_ hS9 ?_ (hw := by kernel_rfl); rotate_left 1; (intro w' hSw; (try dsimp only at hSw); go_simp; (try rw [if_pos (by omega)])); (try rfl); (try dsimp only [Act.put]))
          (refine tk 3 (v := ?_) ?_ hS9 ?_ (hw := by kernel_rfl); rotate_left 1; (intro w' hSw; (try dsimp only at hSw); go_simp; (try rw [if_pos (by omega)])); (try rfl); (try dsimp only [Act.put]))
          (refine tk 4 (v := ?_) ?_ hS9 ?_ (hw := by kernel_rfl); rotate_left 1; (intro w' hSw; (try dsimp only at hSw); go_simp; (try rw [if_pos (by omega)])); (try rfl); (try dsimp only [Act.put]))
          (refine tk 5 (v := ?_) ?_ hS9 ?_ (hw := by kernel_rfl); rotate_left 1; (intro w' hSw; (try dsimp only at hSw); go_simp; (try rw [if_pos (by omega)])); (try rfl); (try dsimp only [Act.put]))
          (refine tk 6 (v := ?_) ?_ hS9 ?_ (hw := by kernel_rfl); rotate_left 1; (intro w' hSw; (try dsimp only at hSw); go_simp; (try rw [if_pos (by omega)])); (try rfl); (try dsimp only [Act.put]))
          (refine tk 7 (v := ?_) ?_ hS9 ?_ (hw := by kernel_rfl); rotate_left 1; (intro w' hSw; (try dsimp only at hSw); go_simp; (try rw [if_pos (by omega)])); (try rfl); (try dsimp only [Act.put]))
          (refine tk 8 (v := .bool false) ?_ hS9 ?_ (hw := by kernel_rfl); (intro w' hSw; (try dsimp only at hSw); go_simp; (try simp); (try omega)); (try dsimp only [Act.put]))
          (refine tk 9 (v := .bool false) ?_ hS9 ?_ (hw := by kernel_rfl); (intro w' hSw; (try dsimp only at hSw); go_simp; (try simp); (try omega)); (try dsimp only [Act.put]))
          (refine tk 10 (v := ?_) ?_ hS9 ?_ (hw := by kernel_rfl); rotate_left 1; (intro w' hSw; (try dsimp only at hSw); go_simp; (try rw [if_pos (by omega)])); (try rfl); (try dsimp only [Act.put]))
          (refine tk 11 (v := ?_) ?_ hS9 ?_ (hw := by kernel_rfl); rotate_left 1; (intro w' hSw; (try dsimp only at hSw); go_simp; (try rw [if_pos (by omega)])); (try rfl); (try dsimp only [Act.put]))
          (refine tk 12 (v := ?_) ?_ hS9 ?_ (hw := by kernel_rfl); rotate_left 1; (intro w' hSw; (try dsimp only at hSw); go_simp; (try rw [if_pos (by omega)])); (try rfl); (try dsimp only [Act.put]))
          (refine tk 13 (v := ?_) ?_ hS9 ?_ (hw := by kernel_rfl); rotate_left 1; (intro w' hSw; (try dsimp only at hSw); go_simp; (try rw [if_pos (by omega)])); (try rfl); (try dsimp only [Act.put]))
          (refine tk 14 (v := ?_) ?_ hS9 ?_ (hw := by kernel_rfl); rotate_left 1; (intro w' hSw; (try dsimp only at hSw); go_simp; (try rw [if_pos (by omega)])); (try rfl); (try dsimp only [Act.put]))
          (refine tk 15 (v := ?_) ?_ hS9 ?_ (hw := by kernel_rfl); rotate_left 1; (intro w' hSw; (try dsimp only at hSw); go_simp; (try rw [if_pos (by omega)])); (try rfl); (try dsimp only [Act.put]))
          (refine tk 16 (v := ?_) ?_ hS9 ?_ (hw := by kernel_rfl); rotate_left 1; (intro w' hSw; (try dsimp only at hSw); go_simp; (try rw [if_pos (by omega)])); (try rfl); (try dsimp only [Act.put]))
          (refine tk 17 (v := .bool false) ?_ hS9 ?_ (hw := by kernel_rfl); (intro w' hSw; (try dsimp only at hSw); go_simp; (try simp); (try omega)); (try dsimp only [Act.put]))
          (refine tk 18 (v := .bool false) ?_ hS9 ?_ (hw := by kernel_rfl); (intro w' hSw; (try dsimp only at hSw); go_simp; (try simp); (try omega)); (try dsimp only [Act.put]))
          (refine tk 19 (v := ?_) ?_ hS9 ?_ (hw := by kernel_rfl); rotate_left 1; (intro w' hSw; (try dsimp only at hSw); go_simp; (try rw [if_pos (by omega)])); (try rfl); (try dsimp only [Act.put]))
          (refine tk 20 (v := ?_) ?_ hS9 ?_ (hw := by kernel_rfl); rotate_left 1; (intro w' hSw; (try dsimp only at hSw); go_simp; (try rw [if_pos (by omega)])); (try rfl); (try dsimp only [Act.put]))
          (refine tk 21 (v := ?_) ?_ hS9 ?_ (hw := by kernel_rfl); rotate_left 1; (intro w' hSw; (try dsimp only at hSw); go_simp; (try rw [if_pos (by omega)])); (try rfl); (try dsimp only [Act.put]))
          (refine tk 22 (v := ?_) ?_ hS9 ?_ (hw := by kernel_rfl); rotate_left 1; (intro w' hSw; (try dsimp only at hSw); go_simp; (try rw [if_pos (by omega)])); (try rfl); (try dsimp only [Act.put]))
          (refine tk 23 (v := ?_) ?_ hS9 ?_ (hw := by kernel_rfl); rotate_left 1; (intro w' hSw; (try dsimp only at hSw); go_simp; (try rw [if_pos (by omega)])); (try rfl); (try dsimp only [Act.put]))
          (refine tk 24 (v := ?_) ?_ hS9 ?_ (hw := by kernel_rfl); rotate_left 1; (intro w' hSw; (try dsimp only at hSw); go_simp; (try rw [if_pos (by omega)])); (try rfl); (try dsimp only [Act.put]))
          (refine tk 25 (v := ?_) ?_ hS9 ?_ (hw := by kernel_rfl); rotate_left 1; (intro w' hSw; (try dsimp only at hSw); go_simp; (try rw [if_pos (by omega)])); (try rfl); (try dsimp only [Act.put]))
          (refine tk 26 (v := ?_) ?_ hS9 ?_ (hw := by kernel_rfl); rotate_left 1; (intro w' hSw; (try dsimp only at hSw); go_simp; (try rw [if_pos (by omega)])); (try rfl); (try dsimp only [Act.put]))
          (refine tk 27 (v := ?_) ?_ hS9 ?_ (hw := by kernel_rfl); rotate_left 1; (intro w' hSw; (try dsimp only at hSw); go_simp; (try rw [if_pos (by omega)])); (try rfl); (try dsimp only [Act.put]))
          (refine tk 28 (v := .bool true) ?_ hS9 ?_ (hw := by kernel_rfl); (intro w' hSw; (try dsimp only at hSw); go_simp; (try simp); (try omega)); (try dsimp only [Act.put]))
          (refine tk 29 (v := .bool true) ?_ hS9 ?_ (hw := by kernel_rfl); (intro w' hSw; (try dsimp only at hSw); go_simp; (try simp); (try omega)); (try dsimp only [Act.put]))
          (refine tk 30 (v := ?_) ?_ hS9 ?_ (hw := by kernel_rfl); rotate_left 1; (intro w' hSw; (try dsimp only at hSw); go_simp; (try rw [if_pos (by omega)])); (try rfl); (try dsimp only [Act.put]))
          (refine wpAnyH_take (i := 31) (v := undef) rfl (by kernel_rfl) (by kernel_rfl) (by kernel_rfl) (fun _ _ _ h => h) (Or.inr ⟨by kernel_rfl, rfl⟩) hS9 ?_; (try dsimp only [Act.put]))
          (refine wpAnyH_take (i := 32) (v := undef) rfl (by kernel_rfl) (by kernel_rfl) (by kernel_rfl) (fun _ _ _ h => h) (Or.inr ⟨by kernel_rfl, rfl⟩) hS9 ?_; (try dsimp only [Act.put]))
          (refine wpAnyH_take (i := 33) (v := undef) rfl (by kernel_rfl) (by kernel_rfl) (by kernel_rfl) (fun _ _ _ h => h) (Or.inr ⟨by kernel_rfl, rfl⟩) hS9 ?_; (try dsimp only [Act.put]))
          (refine wpAnyH_take (i := 34) (v := undef) rfl (by kernel_rfl) (by kernel_rfl) (by kernel_rfl) (fun _ _ _ h => h) (Or.inr ⟨by kernel_rfl, rfl⟩) hS9 ?_; (try dsimp only [Act.put]))
          (refine wpAnyH_take (i := 35) (v := undef) rfl (by kernel_rfl) (by kernel_rfl) (by kernel_rfl) (fun _ _ _ h => h) (Or.inr ⟨by kernel_rfl, rfl⟩) hS9 ?_; (try dsimp only [Act.put]))
          (refine wpAnyH_take (i := 36) (v := undef) rfl (by kernel_rfl) (by kernel_rfl) (by kernel_rfl) (fun _ _ _ h => h) (Or.inr ⟨by kernel_rfl, rfl⟩) hS9 ?_; (try dsimp only [Act.put]))
          (refine wpAnyH_take (i := 37) (v := undef) rfl (by kernel_rfl) (by kernel_rfl) (by kernel_rfl) (fun _ _ _ h => h) (Or.inr ⟨by kernel_rfl, rfl⟩) hS9 ?_; (try dsimp only [Act.put]))
          (refine wpAnyH_take (i := 38) (v := undef) rfl (by kernel_rfl) (by kernel_rfl) (by kernel_rfl) (fun _ _ _ h => h) (Or.inr ⟨by kernel_rfl, rfl⟩) hS9 ?_; (try dsimp only [Act.put]))
          (refine wpAnyH_take (i := 39) (v := undef) rfl (by kernel_rfl) (by kernel_rfl) (by kernel_rfl) (fun _ _ _ h => h) (Or.inr ⟨by kernel_rfl, rfl⟩) hS9 ?_; (try dsimp only [Act.put]))
          (refine tk 40 (v := .bool true) ?_ hS9 ?_ (hw := by kernel_rfl); (intro w' hSw; (try dsimp only at hSw); go_simp; (try simp); (try omega)); (try dsimp only [Act.put]))
          refine wpAnyH_one (k := 41) (by kernel_rfl) ?_
          unfold wpOp
          go_simp
          refine Or.inl ⟨by kernel_rfl, ?_⟩
          clear hS9
          go_wp2_with fail
          go_roundg (ne - (i + 1))
          case measure => omega
          case rel => exact ⟨i + 1, by omega, by go_num, by rw [hmore.out, ← Bool.or_assoc, ← hbd.out]; simp [cb], Gd, Sd, hbd'⟩
        by_cases c4 : P ≤ e.tt
        · have cb : badE P e = true := by simp [badE, c4]
          go_wp2_with fail
          go_quiet (fail)
          go_wp2_with fail
          go_roundg (ne - (i + 1))
          case measure => omega
          case rel => exact ⟨i + 1, by omega, by go_num, by rw [hmore.out, ← Bool.or_assoc, ← hbd.out]; simp [cb], G.bel (Below.drewM (Below.refl _ _) _), S.below (Below.drewM (Below.refl _ _) _), Below.drewM hb _⟩
        have cb : badE P e = false := by simp only [badE, c1, c2, c3, c4]; rfl
        go_wp2_with fail
        go_quiet (fail)
        go_wp2_with fail
        go_roundg (ne - (i + 1))
        case measure => omega
        case rel => exact ⟨i + 1, by omega, by go_num, by rw [hmore.out, ← Bool.or_assoc, ← hbd.out]; (simp [cb]; omega), G.bel (Below.drewM (Below.refl _ _) _), S.below (Below.drewM (Below.refl _ _) _), Below.drewM hb _⟩
    have hi' : ¬ (i : Int) < (ne : Int) := by omega
    have hin : E.take i = E := List.take_of_length_le (by rw [← hne.out]; omega)
    rw [hin] at hbd
    clear hi
    go_wp2_with fail
    rename World => w5
    clear m2 m3 hi' hin hig
    go_loopg [4, 6] nh (fun gh bv iv wx => ∃ (i : Nat), i + gh = nh ∧ iv = .int .i64 i ∧ bv = .bool (bd || (H.take i).any (badH P)) ∧ BoxN wx g1 [.slice xv V.length cv, .slice xa na ca, .int .i64 P, .slice xe ne ce, .slice xh nh ch] ∧ Sents wx a ∧ Below w.heap.size w wx)
    case atStart => exact ⟨0, by omega, rfl, by simp, G, S, hb⟩
    case round =>
      clear G S hb
      obtain ⟨i, hig, rfl, rfl, G, S, hb⟩ := hrel
      have m2 := G.cell 2 _ rfl
      have m4 := G.cell 4 _ rfl
      obtain ⟨bj, hbj⟩ : ∃ b, Hid (b = (bd || (H.take i).any (badH P))) := ⟨_, rfl⟩
      rw [← hbj.out]
      by_cases hi : i < nh
      · have hi' : (i : Int) < (nh : Int) := by omega
        obtain ⟨e, he⟩ : ∃ e, H[i]? = some e := ⟨_, List.getElem?_eq_getElem (by rw [← hnh.out]; exact hi)⟩
        rcases hH with hnil | ⟨b, off, rfl, hlt, hc⟩
        · rw [hnil] at he; cases he
        have k0 := (hb.cell hlt).trans (hc i (by rw [← hnh.out]; exact hi))
        rw [List.getD_eq_getElem?_getD, he] at k0
        simp only [Option.getD_some] at k0
        have hmore := hide (any_take_more he (badH P))
        clear hc he
        cases bj
        case true =>
          go_wp2_with fail
          go_quiet (fail)
          go_wp2_with fail
          go_roundg (nh - (i + 1))
          case measure => omega
          case rel => exact ⟨i + 1, by omega, by go_num, by rw [hmore.out, ← Bool.or_assoc, ← hbj.out]; simp, G.bel (Below.drewM (Below.refl _ _) _), S.below (Below.drewM (Below.refl _ _) _), Below.drewM hb _⟩
        case false =>
          by_cases c1 : e < 0
          · have cb : badH P e = true := by simp [badH, c1]
            go_wp2_with fail
            go_quiet (fail)
            go_wp2_with fail
            go_roundg (nh - (i + 1))
            case measure => omega
            case rel => exact ⟨i + 1, by omega, by go_num, by rw [hmore.out, ← Bool.or_assoc, ← hbj.out]; simp [cb], G.bel (Below.drewM (Below.refl _ _) _), S.below (Below.drewM (Below.refl _ _) _), Below.drewM hb _⟩
          by_cases c2 : P ≤ e
          · have cb : badH P e = true := by simp [badH, c2]
            go_wp2_with fail
            go_quiet (fail)
            go_wp2_with fail
            go_roundg (nh - (i + 1))
            case measure => omega
            case rel => exact ⟨i + 1, by omega, by go_num, by rw [hmore.out, ← Bool.or_assoc, ← hbj.out]; simp [cb], G.bel (Below.drewM (Below.refl _ _) _), S.below (Below.drewM (Below.refl _ _) _), Below.drewM hb _⟩
          have cb : badH P e = false := by simp only [badH, c1, c2]; rfl
          go_wp2_with fail
          go_quiet (fail)
          go_wp2_with fail
          go_roundg (nh - (i + 1))
          case measure => omega
          case rel => exact ⟨i + 1, by omega, by go_num, by rw [hmore.out, ← Bool.or_assoc, ← hbj.out]; (simp [cb]; omega), G.bel (Below.drewM (Below.refl _ _) _), S.below (Below.drewM (Below.refl _ _) _), Below.drewM hb _⟩
      have hi' : ¬ (i : Int) < (nh : Int) := by omega
      have hin : H.take i = H := List.take_of_length_le (by rw [← hnh.out]; omega)
      rw [hin] at hbj
      have hlen : E.length ≤ 400 := by rw [← hne.out]; omega
      have hbl := badG_laidB P E H hlen
      have hbg : Hid (bj = badG P E H) := by rw [hbj.out, hbd.out]; unfold badG; exact (Bool.or_assoc _ _ _)
      clear hi hin hig
      have m0 := G.cell 0 _ rfl
      have m1 := G.cell 1 _ rfl
      have m3 := G.cell 3 _ rfl
      rename World => w6
      have HG := hide (graphOf_any xv xa xe xh cv na ca ne ce nh ch P V A E H w6 (hv.belM strVals_keeps hb) (ha.belM arVals_keeps hb) (hE.belM egVals_keeps hb) (hH.below hb) hna hne hnh hlv hla hle hlh hfE)
      go_wp2_with fail
      refine HG.out.mono ?_
      rintro e' w7 ⟨hb7, yv, mv, dv, ya, ma, da, ye, de, yh, dh, rfl, hE7, hH7⟩
      have S7 := S.below hb7
      have G7 := G.bel hb7
      have B7 := hb.trans (hb7.mono hb.size)
      have HO := hide (order_any yv ya ye yh mv dv ma da ne de nh dh P E H a w7 S7 hE7 hH7 hne hnh (by omega) (by omega))
      clear HG
      go_wp2_with fail
      refine HO.out.mono ?_
      rintro e' w8 ⟨hb8, hor⟩
      have S8 := S7.below hb8
      have G8 := G7.bel hb8
      have B8 := B7.trans (hb8.mono B7.size)
      clear HO m0 m1 m2 m3 m4
      rcases hor with ⟨hlb, rfl⟩ | ⟨hlb, x, cap, rfl, hI8⟩
      · have hbt : bj = true := by rw [hbg.out, hbl, hlb]; rfl
        subst hbt
        have HC := hide (coded_sent 2 (by decide) 3 a (a 2) rfl w8 S8)
        have hev : errV a 3 = .iface 421 (.pointer (some (a 2))) := rfl
        rw [hev]
        clear hev
        go_wp2_with fail
        refine HC.out.mono ?_
        rintro e' w9 ⟨rfl, hb9⟩
        have B9 := B8.trans (hb9.mono B8.size)
        clear HC
        go_wp2_with fail
        go_ret
        exact ⟨rfl, B9⟩
      · have hbt : bj = false := by rw [hbg.out, hbl, hlb]; rfl
        subst hbt
        have hl0 := hlb
        unfold laidB at hl0
        simp only [Bool.and_eq_true, decide_eq_true_eq, List.all_eq_true] at hl0
        obtain ⟨l1, l2, l3, l4, l5⟩ := hl0
        obtain ⟨n, rfl⟩ : ∃ n : Nat, P = (n : Int) := ⟨P.toNat, by omega⟩
        rw [Int.toNat_natCast] at hI8 ⊢
        have m0 := G8.cell 0 _ rfl
        have m1 := G8.cell 1 _ rfl
        have m2 := G8.cell 2 _ rfl
        have m3 := G8.cell 3 _ rfl
        have m4 := G8.cell 4 _ rfl
        have hin : ∀ e ∈ E, 0 ≤ e.tt ∧ e.tt < (n : Int) := fun e he => by have := l4 e he; simp only [egIn, inP, Bool.and_eq_true, decide_eq_true_eq] at this; exact this.2
        have hol := hide (ordL_len n E hin)
        have hn120 : n ≤ 120 := by omega
        have HR := hide (orderOf_any n xv xa xe xh V.length cv na ca ne ce nh ch E w8 (hide (hE.belM egVals_keeps B8)) hne (by omega) (by omega) (hide hin))
        clear l1 l2 l3 l4 l5 hlb hbl hbg
        go_wp2_with fail
        refine HR.out.mono ?_
        rintro e' w9 ⟨⟨y, cy, rfl, hI9⟩, hb9⟩
        have B9 := B8.trans (hb9.mono B8.size)
        have HQ := hide (sameInts_any x y _ cap _ cy (ordL n E) (ordL n E) w9 (hI8.below hb9) hI9 rfl rfl (by have := hol.out; omega))
        clear HR m0 m1 m2 m3 m4
        go_wp2_with fail
        refine HQ.out.mono ?_
        rintro e' w10 ⟨rfl, hb10⟩
        have B10 := B9.trans (hb10.mono B9.size)
        clear HQ
        go_wp2_with fail
        go_ret
        exact ⟨by simp, B10⟩
end Go.Proofs.YtbfhaabpfkopdaaGreatDoor
