/- Octagons: one bound more: the square of the reference's row; its closing (the bound may be twice as great). -/
import Derived.Test.YtofjjaabgfmnpaaDoorOq
import Derived.Test.YtofjjaabgfmnpaaDoorOv
import Derived.Test.YtofjjaabgfmnpaaDoorOg
import Derived.Test.YtofjjaabgfmnpaaDoorO1
namespace Go.Proofs.YtofjjaabgfmnpaaDoor
open Go.RowKit
set_option linter.unusedVariables false

/-- What a nearly near octagon that is right is. -/
structure NearP (n : Nat) (l : List Ce) : Prop where
  he : n % 2 = 0
  hn : n ≤ 8
  len : l.length = n * n
  good : goodL l
  small : ∀ i, i < l.length → (l.getD i ceZ).m.natAbs ≤ 4194304
  coh : Coh n (matOf n l)
theorem NearP.sz {n : Nat} {l : List Ce} (h : NearP n l) : Sz n 4194304 (matOf n l) := sz_mat h.len h.small
theorem NearP.szt {n : Nat} {l : List Ce} (h : NearP n l) : Sz n 1099511627776 (tg n (matOf n l)) := (sz_tg h.sz h.hn h.he).mono (by omega)
theorem NearP.few {n : Nat} {l : List Ce} (h : NearP n l) : l.length ≤ 64 := by rw [h.len]; exact Nat.mul_le_mul h.hn h.hn
theorem NearP.inR {n : Nat} {l : List Ce} (h : NearP n l) : InR l := fun x hx => by have := h.small x hx; omega
theorem NearP.beg {n : Nat} {l : List Ce} (h : NearP n l) : BegO wrap64 n 4194304 (matOf n l) := by
  refine ⟨h.hn, h.he, by decide, h.coh, fun v hv => ?_, h.sz⟩
  have e : 191 ^ 5 * 4194304 = 1066170694032687104 := by decide
  rw [e] at hv
  unfold wrap64
  omega

theorem NearP.gd {n : Nat} {l : List Ce} (h : NearP n l) : Gd l := by
  intro x hx k
  have := h.good x hx
  rw [bd_no (by rw [k]; simp)] at this
  rw [this]; rfl
theorem closedNearP (N : Int) (n len c : Nat) (x : Option Addr) (l : List Ce) (W : World) (hN : 2 * N = n) (h2 : 2 ≤ n) (h : NearP n l) (hl : Hid (len = l.length)) (hA : CsAt W x l) :
    Calls Tryd.prog 25 #[(.agg #[.int .i64 N, (.slice x len c)])] W fun e w' => NrPost W N len (NoNeg n (tg n (matOf n l))) (rowOf n (tg n (matOf n l))) e w' := by
  have one : 1 ≤ l.length := by rw [h.len]; exact Nat.mul_le_mul (show 1 ≤ n by omega) (show 1 ≤ n by omega)
  obtain ⟨b, off, rfl, hR⟩ := row_of hA one
  have B := h.beg
  have hDl : (diagL n l n).length = n * n := by rw [diagL_len, h.len]
  have st := matOf_start h.len
  have rt := matOf_rt h.he hDl st
  have nn : ∀ t, (∀ i, i < n → leB (some 0) (matOf n (rtL n (diagL n l n) t) i i)) → NoNeg n (rO wrap64 n (start (matOf n l)) t) := fun t k i hi => by rw [← rt t i i hi hi]; exact k i hi
  refine (closedOct_any N n b off c len l W hN ⟨h2, h.hn⟩ h.he hR hl (by show _ = _; rw [hl.out]; exact h.len) h.inR ?_).mono ?_
  · intro k p q hp hq
    rw [rt 5 p q hp hq, rt 6 p q hp hq]
    have e : rO wrap64 n (start (matOf n l)) 6 = rO wrap64 n (start (matOf n l)) 5 := B.sixth (nn 5 k)
    rw [e]
    exact leB_refl _
  · rintro e w' ⟨hb, ⟨t, i, ht, hi, hneg, rfl⟩ | ⟨t, g, cap, ht, hpos, hsame, rfl, hg, hF, hR'⟩⟩
    · refine ⟨hb, .inl ⟨fun hN' => ?_, rfl⟩⟩
      have hs := (tg_some h.he h.coh).2 hN'
      obtain ⟨r, hr⟩ := oRnd_pre n (n - i) i
      rw [show i + (n - i) = n by omega] at hr
      have k := B.never hs ht hr i hi
      have ok := pre_ok (n := n) (i := i) (by omega)
      have e := matOf_run h.he (oRnd n i) (rtL n (diagL n l n) t) (rO wrap64 n (start (matOf n l)) t) (by rw [rtL_len]; exact hDl) ok (rt t) i i hi hi
      rw [← e] at k
      have G : Gd (runL n (rtL n (diagL n l n) t) (oRnd n i)) := Gd.run h.he _ _ (by rw [rtL_len]; exact hDl) ok ((h.gd.diag h.len n (Nat.le_refl n)).rt h.he hDl t)
      have hx : i * n + i < (runL n (rtL n (diagL n l n) t) (oRnd n i)).length := by rw [runL_len, rtL_len, hDl]; exact idx_in hi hi
      have gc := G _ hx
      unfold matOf at k
      obtain ⟨⟨ch, cm⟩, hc⟩ : ∃ C, C = (runL n (rtL n (diagL n l n) t) (oRnd n i)).getD (i * n + i) ceZ := ⟨_, rfl⟩
      rw [← hc] at k gc hneg
      cases ch
      · have := gc rfl
        simp at hneg this
        omega
      · simp [Ce.bd, leB] at k
        simp at hneg
        omega
    · obtain ⟨hs, hE⟩ := B.done ht (nn t hpos) (fun p q hp hq => by rw [← rt t p q hp hq, ← rt (t + 1) p q hp hq, hsame]; exact leB_refl _)
      have hyes := (tg_some h.he h.coh).1 hs
      have G := (h.gd.diag h.len n (Nat.le_refl n)).rt h.he hDl t
      have hLl : (rtL n (diagL n l n) t).length = n * n := by rw [rtL_len, hDl]
      have sz := h.szt
      have eL : (rtL n (diagL n l n) t).map clipC = rowOf n (tg n (matOf n l)) := by
        refine extO (by rw [List.length_map, hLl]) fun p hp => ?_
        have n0 : 0 < n := by omega
        have hpi := Nat.div_lt_of_lt_mul hp
        have hpj := Nat.mod_lt p n0
        have e : p / n * n + p % n = p := by rw [Nat.mul_comm]; exact Nat.div_add_mod _ _
        have e1 : ((rtL n (diagL n l n) t).map clipC).getD p ceZ = clipC ((rtL n (diagL n l n) t).getD p ceZ) := by
          simp [show p < (rtL n (diagL n l n) t).length by omega]
        have e2 : (rtL n (diagL n l n) t).getD p ceZ = ceOf (tg n (matOf n l) (p / n) (p % n)) := by
          rw [G.cell (by omega), ← hE _ _ hpi hpj, ← rt t _ _ hpi hpj]
          unfold matOf; rw [e]
        rw [e1, e2]
        have s := sz _ _ hpi hpj
        cases hc : tg n (matOf n l) (p / n) (p % n) with
        | none => simp [ceOf, clipC]
        | some v =>
          have := s v hc
          have a1 : ¬ 1099511627776 < v := by omega
          have a2 : ¬ v < -1099511627776 := by omega
          simp [clipC, ceOf, a1, a2]
      rw [eL] at hR'
      exact ⟨hb, .inr ⟨hyes, g, cap, rfl, hg, hF, hR'⟩⟩

/-- A row with one cell lowered, as a square. -/
theorem mat_low {n : Nat} {l : List Ce} (hl : l.length = n * n) {i j : Nat} (hi : i < n) (hj : j < n) (c : Int) (p q : Nat) (hp : p < n) (hq : q < n) : matOf n (lowL l (i * n + j) c) p q = grdM (matOf n l) i j c p q := by
  have hx : i * n + j < l.length := by rw [hl]; exact idx_in hi hj
  unfold matOf lowL grdM setM
  rw [getD_set hx]
  by_cases e : p = i ∧ q = j
  · obtain ⟨rfl, rfl⟩ := e
    rw [if_pos rfl, if_pos ⟨rfl, rfl⟩, lowC_bd]
  · rw [if_neg e, if_neg]
    intro h
    apply e
    obtain ⟨a1, a2⟩ := div_at (i := p) hq
    obtain ⟨b1, b2⟩ := div_at (i := i) hj
    rw [h] at a1 a2
    exact ⟨a1.symm.trans b1, a2.symm.trans b2⟩
theorem mat_bd {n : Nat} (he : n % 2 = 0) {l : List Ce} (hl : l.length = n * n) {i j : Nat} (hi : i < n) (hj : j < n) (c : Int) (p q : Nat) (hp : p < n) (hq : q < n) : matOf n (bdL n l i j c) p q = gdM (matOf n l) (bar j) i c p q := by
  unfold bdL gdM
  rw [mat_low (by rw [lowL_len]; exact hl) (bar_lt he hi) hj c p q hp hq, bar_bar]
  unfold grdM setM
  rw [mat_low hl (bar_lt he hj) hi c p q hp hq, mat_low hl (bar_lt he hj) hi c (bar i) j (bar_lt he hi) hj]
  rfl
theorem bd_gd {a b : Int} (ha : a = 1 ∨ a = -1 ∨ a = 0) (hb : b = 1 ∨ b = -1 ∨ b = 0) (h0 : ¬ (a = 0 ∧ b = 0)) (x y : Nat) (c : Int) : gFr a x b y = bar (bd2 a x b y) ∧ gTo a x b y = bd1 a x b y ∧ gC a b c = bdC a b c := by
  obtain ⟨x1, x2⟩ := bar_even x
  obtain ⟨y1, y2⟩ := bar_even y
  rcases ha with rfl | rfl | rfl <;> rcases hb with rfl | rfl | rfl <;> first | (exact absurd ⟨rfl, rfl⟩ h0) | simp [gFr, gTo, gC, bd1, bd2, bdI, bdC, idxN, x1, x2, y1, y2]
theorem lowC_small {a : Ce} {c : Int} {B : Nat} (ha : a.m.natAbs ≤ B) (hc : c.natAbs ≤ B) : (lowC a c).m.natAbs ≤ B := by
  unfold lowC; split
  · exact ha
  · exact hc
theorem lowC_good {a : Ce} {c : Int} (ha : a = ceOf a.bd) : lowC a c = ceOf (lowC a c).bd := by
  unfold lowC; split
  · exact ha
  · simp [Ce.bd, ceOf]
theorem low_at {l : List Ce} {k : Nat} (hk : k < l.length) (c : Int) (i : Nat) : (lowL l k c).getD i ceZ = if i = k then lowC (l.getD k ceZ) c else l.getD i ceZ := by unfold lowL; rw [getD_set hk]
theorem low_near {l : List Ce} {k : Nat} (hk : k < l.length) {c : Int} {B : Nat} (hc : c.natAbs ≤ B) (h : ∀ i, i < l.length → (l.getD i ceZ).m.natAbs ≤ B) (g : goodL l) : (∀ i, i < (lowL l k c).length → ((lowL l k c).getD i ceZ).m.natAbs ≤ B) ∧ goodL (lowL l k c) := by
  refine ⟨fun i hi => ?_, fun i hi => ?_⟩
  · rw [lowL_len] at hi
    rw [low_at hk]
    split
    · exact lowC_small (h k hk) hc
    · exact h i hi
  · rw [lowL_len] at hi
    rw [low_at hk]
    split
    · exact lowC_good (g k hk)
    · exact g i hi
theorem NearO.bd {n : Nat} {l : List Ce} (h : NearO n l) {i j : Nat} (hi : i < n) (hj : j < n) {c : Int} (hc : c.natAbs ≤ 4194304) : NearP n (bdL n l i j c) := by
  have k1 : bar j * n + i < l.length := by rw [h.len]; exact idx_in (bar_lt h.he hj) hi
  have k2 : bar i * n + j < (lowL l (bar j * n + i) c).length := by rw [lowL_len, h.len]; exact idx_in (bar_lt h.he hi) hj
  obtain ⟨a1, a2⟩ := low_near k1 hc (fun i hi => Nat.le_trans (h.small i hi) (by omega)) h.good
  obtain ⟨b1, b2⟩ := low_near k2 hc a1 a2
  refine ⟨h.he, h.hn, by rw [bdL_len]; exact h.len, b2, b1, fun p q hp hq => ?_⟩
  rw [mat_bd h.he h.len hi hj c p q hp hq, mat_bd h.he h.len hi hj c _ _ (bar_lt h.he hq) (bar_lt h.he hp)]
  exact coh_gd h.coh p q hp hq
/-- A bound of nothing: that 0 is at most c. -/
theorem gd_self {n : Nat} (he : n % 2 = 0) {m : Mat} (hm : Coh n m) {p : Nat} (hp : p < n) (c : Int) :
    (c < 0 → ¬ NoNeg n (tg n (gdM m p p c))) ∧ (0 ≤ c → (NoNeg n (tg n (gdM m p p c)) ↔ NoNeg n (tg n m)) ∧ (NoNeg n (tg n m) → tellL n (tg n (gdM m p p c)) = tellL n (tg n m))) := by
  have key : ∀ y, OPt n (gdM m p p c) y ↔ OPt n m y ∧ y p - y p ≤ c := fun y => opt_gr he hp hp
  have hg : Coh n (gdM m p p c) := coh_gd hm
  refine ⟨fun h hN => ?_, fun h => ?_⟩
  · obtain ⟨y, hy⟩ := (tg_some he hg).2 hN
    have := ((key y).1 hy).2
    omega
  · have same : ∀ y, OPt n (gdM m p p c) y ↔ OPt n m y := fun y => by rw [key]; exact ⟨fun k => k.1, fun k => ⟨k, by omega⟩⟩
    have hiff : NoNeg n (tg n (gdM m p p c)) ↔ NoNeg n (tg n m) := by
      rw [← tg_some he hg, ← tg_some he hm]
      exact ⟨fun ⟨y, hy⟩ => ⟨y, (same y).1 hy⟩, fun ⟨y, hy⟩ => ⟨y, (same y).2 hy⟩⟩
    refine ⟨hiff, fun hN => ?_⟩
    apply tellL_congr
    intro i j hi hj
    exact (tg_tight he hg (hiff.2 hN)).unique (tg_tight he hm hN) (fun y => by rw [tg_pt he, tg_pt he]; exact same y) hi hj
end Go.Proofs.YtofjjaabgfmnpaaDoor
