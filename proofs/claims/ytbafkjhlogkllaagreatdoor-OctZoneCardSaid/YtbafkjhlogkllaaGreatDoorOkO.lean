/- Octagons: the reference's closing of a near one is the tight square. -/
import Derived.Test.YtbafkjhlogkllaaGreatDoorOoO
import Derived.Test.YtbafkjhlogkllaaGreatDoorOnO
import Derived.Test.YtbafkjhlogkllaaGreatDoorXdO
import Derived.Test.YtbafkjhlogkllaaGreatDoorYjO
import Derived.Test.YtbafkjhlogkllaaGreatDoorObO
import Derived.Test.YtbafkjhlogkllaaGreatDoorOvO
import Derived.Test.YtbafkjhlogkllaaGreatDoorOgO
import Derived.Test.YtbafkjhlogkllaaGreatDoorO1
import Derived.Test.YtbafkjhlogkllaaGreatDoorOi
namespace Go.Proofs.YtbafkjhlogkllaaGreatDoor.Oc
open Go.RowKit
set_option linter.unusedVariables false

/-- What a near octagon that is right is. -/
structure NearO (n : Nat) (l : List Ce) : Prop where
  he : n % 2 = 0
  hn : n ≤ 8
  len : l.length = n * n
  good : goodL l
  small : ∀ i, i < l.length → (l.getD i ceZ).m.natAbs ≤ 1048576
  coh : Coh n (matOf n l)
theorem near_sizeO {l : List Ce} {B : Int} (h : nearL l B = true) : ∀ i, i < l.length → (l.getD i ceZ).m.natAbs ≤ B.natAbs := by
  intro i hi
  have e : l.getD i ceZ = l[i] := by simp [hi]
  rw [e]
  unfold nearL at h
  simp only [Bool.not_eq_true', List.any_eq_false] at h
  have := h l[i] (List.getElem_mem hi)
  simp [farC, farB] at this
  omega
theorem nearO {N : Int} {l : List Ce} (h : zErr N l = 0) (k : nearL l 1048576 = true) : NearO (nOf N) l := by
  obtain ⟨z1, z2, z3, z4, z5, z6⟩ := zErr_0 h
  exact ⟨z2, z3, z4, z5, by simpa using near_sizeO k, coh_mat (zErr_coh h)⟩
theorem NearO.sz {n : Nat} {l : List Ce} (h : NearO n l) : Sz n 1048576 (matOf n l) := sz_mat h.len h.small
theorem NearO.szt {n : Nat} {l : List Ce} (h : NearO n l) : Sz n 1099511627776 (tg n (matOf n l)) := (sz_tg h.sz h.hn h.he).mono (by omega)
theorem NearO.few {n : Nat} {l : List Ce} (h : NearO n l) : l.length ≤ 64 := by rw [h.len]; exact Nat.mul_le_mul h.hn h.hn
theorem NearO.inR {n : Nat} {l : List Ce} (h : NearO n l) : InR l := fun x hx => by have := h.small x hx; omega
theorem NearO.beg {n : Nat} {l : List Ce} (h : NearO n l) : BegO wrap64 n 1048576 (matOf n l) := by
  refine ⟨h.hn, h.he, by decide, h.coh, fun v hv => ?_, h.sz⟩
  have e : 191 ^ 5 * 1048576 = 266542673508171776 := by decide
  rw [e] at hv
  unfold wrap64
  omega

/-- A cell that says nothing has no number. -/
def Gd (L : List Ce) : Prop := ∀ x, x < L.length → (L.getD x ceZ).h = false → (L.getD x ceZ).m = 0
theorem Gd.low {L : List Ce} (h : Gd L) {x : Nat} (hx : x < L.length) {most : Int} : Gd (lowL L x most) := by
  intro y hy
  rw [lowL_len] at hy
  unfold lowL
  rw [getD_set hx]
  split
  · unfold lowC
    split
    · exact h x hx
    · intro k; simp at k
  · exact h y hy
theorem Gd.app {n : Nat} (he : n % 2 = 0) {L : List Ce} (hL : L.length = n * n) (h : Gd L) {o : Op} (ho : o.ok n) : Gd (appL n L o) := by
  cases o with
  | tig i =>
    simp only [appL, tigL]
    split
    · exact h.low (by rw [hL]; exact idx_in ho (bar_lt he ho))
    · exact h
  | str i j =>
    simp only [appL, strL]
    split
    · exact h.low (by rw [hL]; exact idx_in ho.1 ho.2)
    · exact h
  | rel i j k =>
    simp only [appL, relL]
    split
    · exact h.low (by rw [hL]; exact idx_in ho.1 ho.2.1)
    · exact h
theorem Gd.run {n : Nat} (he : n % 2 = 0) : ∀ (l : List Op) (L : List Ce), L.length = n * n → (∀ o ∈ l, o.ok n) → Gd L → Gd (runL n L l) := by
  intro l
  induction l with
  | nil => intro L _ _ h; exact h
  | cons o l ih => intro L hL hl h; exact ih _ (by rw [appL_len]; exact hL) (fun o' h' => hl o' (List.mem_cons_of_mem _ h')) (h.app he hL (hl o (List.mem_cons_self ..)))
theorem Gd.rt {n : Nat} (he : n % 2 = 0) {L : List Ce} (hL : L.length = n * n) (h : Gd L) : ∀ t, Gd (rtL n L t) := by
  intro t
  induction t with
  | zero => exact h
  | succ t ih => exact Gd.run he _ _ (by rw [rtL_len]; exact hL) (fun o ho => all_ops.1 ho) ih
theorem Gd.diag {n : Nat} {L : List Ce} (hL : L.length = n * n) (h : Gd L) : ∀ k, k ≤ n → Gd (diagL n L k) := by
  intro k
  induction k with
  | zero => intro _; exact h
  | succ k ih => intro hk; exact (ih (by omega)).low (by rw [diagL_len, hL]; exact idx_in (by omega) (by omega))
theorem NearO.gd {n : Nat} {l : List Ce} (h : NearO n l) : Gd l := by
  intro x hx k
  have := h.good x hx
  rw [bd_no (by rw [k]; simp)] at this
  rw [this]; rfl
theorem Gd.cell {L : List Ce} (h : Gd L) {x : Nat} (hx : x < L.length) : L.getD x ceZ = ceOf (L.getD x ceZ).bd := by
  have k := h x hx
  obtain ⟨⟨ch, cm⟩, hc⟩ : ∃ C, C = L.getD x ceZ := ⟨_, rfl⟩
  rw [← hc] at k ⊢
  cases ch
  · have : cm = 0 := k rfl
    subst this; rfl
  · rfl

theorem oRnd_pre (n : Nat) : ∀ k i, ∃ r, oRnd n (i + k) = oRnd n i ++ r := by
  intro k
  induction k with
  | zero => intro i; exact ⟨[], by simp⟩
  | succ k ih =>
    intro i
    obtain ⟨r, hr⟩ := ih i
    exact ⟨r ++ oRow n (i + k) n, by rw [← List.append_assoc, ← hr]; rfl⟩

theorem rowO_len (n : Nat) (d : Mat) : (rowOf n d).length = n * n := by simp [rowOf]
theorem rowO_get {n : Nat} {d : Mat} {p : Nat} (hp : p < n * n) : (rowOf n d).getD p ceZ = ceOf (d (p / n) (p % n)) := by simp [rowOf, hp]
theorem extO {n : Nat} {F : List Ce} {d : Mat} (hL : F.length = n * n) (h : ∀ p, p < n * n → F.getD p ceZ = ceOf (d (p / n) (p % n))) : F = rowOf n d := by
  apply List.ext_getElem?
  intro p
  by_cases hp : p < n * n
  · have e1 : F[p]? = some (F.getD p ceZ) := by simp [show p < F.length by omega]
    have e2 : (rowOf n d)[p]? = some ((rowOf n d).getD p ceZ) := by simp [show p < (rowOf n d).length by rw [rowO_len]; exact hp]
    rw [e1, e2, h p hp, rowO_get hp]
  · rw [List.getElem?_eq_none (by omega), List.getElem?_eq_none (by rw [rowO_len]; omega)]

theorem closedNearO (N : Int) (n len c : Nat) (x : Option Addr) (l : List Ce) (W : World) (hN : 2 * N = n) (h2 : 2 ≤ n) (h : NearO n l) (hl : Hid (len = l.length)) (hA : CsAt W x l) :
    Calls Tryz.prog 11 #[(.agg #[.int .i64 N, (.slice x len c)])] W fun e w' => NrPost W N len (NoNeg n (tg n (matOf n l))) (rowOf n (tg n (matOf n l))) e w' := by
  have one : 1 ≤ l.length := by rw [h.len]; exact Nat.mul_le_mul (show 1 ≤ n by omega) (show 1 ≤ n by omega)
  obtain ⟨b, off, rfl, hR⟩ := row_of hA one
  have B := h.beg
  have hDl : (diagL n l n).length = n * n := by rw [diagL_len, h.len]
  have st := matOf_start h.len
  have rt := matOf_rt h.he hDl st
  have nn : ∀ t, (∀ i, i < n → leB (some 0) (matOf n (rtL n (diagL n l n) t) i i)) → NoNeg n (rO wrap64 n (start (matOf n l)) t) := fun t k i hi => by rw [← rt t i i hi hi]; exact k i hi
  refine (closedOct_any N n b off c len l W hN ⟨h2, Nat.le_trans h.hn (by omega)⟩ h.he hR hl (by show _ = _; rw [hl.out]; exact h.len) h.inR ?_).mono ?_
  · intro k p q hp hq
    rw [rt 5 p q hp hq, rt 6 p q hp hq]
    have e : rO wrap64 n (start (matOf n l)) 6 = rO wrap64 n (start (matOf n l)) 5 := B.sixth (nn 5 k)
    rw [e]
    exact leB_refl _
  · rintro e w' ⟨hb, ⟨t, i, ht, hi, hneg, rfl⟩ | ⟨t, g, cap, ht, hpos, hsame, rfl, hg, hF, hR'⟩⟩
    · refine ⟨hb, .inl ⟨fun hN' => ?_, rfl⟩⟩
      have hs := (tg_some h.he h.coh).2 hN'
      obtain ⟨r, hr⟩ := oRnd_pre n (n - i) i
      rw [show i + (n - i) = n by omega] at hr
      have k := B.never hs ht hr i hi
      have ok := pre_ok (n := n) (i := i) (by omega)
      have e := matOf_run h.he (oRnd n i) (rtL n (diagL n l n) t) (rO wrap64 n (start (matOf n l)) t) (by rw [rtL_len]; exact hDl) ok (rt t) i i hi hi
      rw [← e] at k
      have G : Gd (runL n (rtL n (diagL n l n) t) (oRnd n i)) := Gd.run h.he _ _ (by rw [rtL_len]; exact hDl) ok ((h.gd.diag h.len n (Nat.le_refl n)).rt h.he hDl t)
      have hx : i * n + i < (runL n (rtL n (diagL n l n) t) (oRnd n i)).length := by rw [runL_len, rtL_len, hDl]; exact idx_in hi hi
      have gc := G _ hx
      unfold matOf at k
      obtain ⟨⟨ch, cm⟩, hc⟩ : ∃ C, C = (runL n (rtL n (diagL n l n) t) (oRnd n i)).getD (i * n + i) ceZ := ⟨_, rfl⟩
      rw [← hc] at k gc hneg
      cases ch
      · have := gc rfl
        simp at hneg this
        omega
      · simp [Ce.bd, leB] at k
        simp at hneg
        omega
    · obtain ⟨hs, hE⟩ := B.done ht (nn t hpos) (fun p q hp hq => by rw [← rt t p q hp hq, ← rt (t + 1) p q hp hq, hsame]; exact leB_refl _)
      have hyes := (tg_some h.he h.coh).1 hs
      have G := (h.gd.diag h.len n (Nat.le_refl n)).rt h.he hDl t
      have hLl : (rtL n (diagL n l n) t).length = n * n := by rw [rtL_len, hDl]
      have sz := h.szt
      have eL : (rtL n (diagL n l n) t).map clipC = rowOf n (tg n (matOf n l)) := by
        refine extO (by rw [List.length_map, hLl]) fun p hp => ?_
        have n0 : 0 < n := by omega
        have hpi := Nat.div_lt_of_lt_mul hp
        have hpj := Nat.mod_lt p n0
        have e : p / n * n + p % n = p := by rw [Nat.mul_comm]; exact Nat.div_add_mod _ _
        have e1 : ((rtL n (diagL n l n) t).map clipC).getD p ceZ = clipC ((rtL n (diagL n l n) t).getD p ceZ) := by
          simp [show p < (rtL n (diagL n l n) t).length by omega]
        have e2 : (rtL n (diagL n l n) t).getD p ceZ = ceOf (tg n (matOf n l) (p / n) (p % n)) := by
          rw [G.cell (by omega), ← hE _ _ hpi hpj, ← rt t _ _ hpi hpj]
          unfold matOf; rw [e]
        rw [e1, e2]
        have s := sz _ _ hpi hpj
        cases hc : tg n (matOf n l) (p / n) (p % n) with
        | none => simp [ceOf, clipC]
        | some v =>
          have := s v hc
          have a1 : ¬ 1099511627776 < v := by omega
          have a2 : ¬ v < -1099511627776 := by omega
          simp [clipC, ceOf, a1, a2]
      rw [eL] at hR'
      exact ⟨hb, .inr ⟨hyes, g, cap, rfl, hg, hF, hR'⟩⟩
end Go.Proofs.YtbafkjhlogkllaaGreatDoor.Oc

/- Octagons: one bound more: the square of the reference's row; its closing (the bound may be twice as great). -/
namespace Go.Proofs.YtbafkjhlogkllaaGreatDoor.Oc
open Go.RowKit
set_option linter.unusedVariables false

/-- What a nearly near octagon that is right is. -/
structure NearP (n : Nat) (l : List Ce) : Prop where
  he : n % 2 = 0
  hn : n ≤ 8
  len : l.length = n * n
  good : goodL l
  small : ∀ i, i < l.length → (l.getD i ceZ).m.natAbs ≤ 4194304
  coh : Coh n (matOf n l)
theorem NearP.sz {n : Nat} {l : List Ce} (h : NearP n l) : Sz n 4194304 (matOf n l) := sz_mat h.len h.small
theorem NearP.szt {n : Nat} {l : List Ce} (h : NearP n l) : Sz n 1099511627776 (tg n (matOf n l)) := (sz_tg h.sz h.hn h.he).mono (by omega)
theorem NearP.few {n : Nat} {l : List Ce} (h : NearP n l) : l.length ≤ 64 := by rw [h.len]; exact Nat.mul_le_mul h.hn h.hn
theorem NearP.inR {n : Nat} {l : List Ce} (h : NearP n l) : InR l := fun x hx => by have := h.small x hx; omega
theorem NearP.beg {n : Nat} {l : List Ce} (h : NearP n l) : BegO wrap64 n 4194304 (matOf n l) := by
  refine ⟨h.hn, h.he, by decide, h.coh, fun v hv => ?_, h.sz⟩
  have e : 191 ^ 5 * 4194304 = 1066170694032687104 := by decide
  rw [e] at hv
  unfold wrap64
  omega

theorem NearP.gd {n : Nat} {l : List Ce} (h : NearP n l) : Gd l := by
  intro x hx k
  have := h.good x hx
  rw [bd_no (by rw [k]; simp)] at this
  rw [this]; rfl
theorem closedNearP (N : Int) (n len c : Nat) (x : Option Addr) (l : List Ce) (W : World) (hN : 2 * N = n) (h2 : 2 ≤ n) (h : NearP n l) (hl : Hid (len = l.length)) (hA : CsAt W x l) :
    Calls Tryz.prog 11 #[(.agg #[.int .i64 N, (.slice x len c)])] W fun e w' => NrPost W N len (NoNeg n (tg n (matOf n l))) (rowOf n (tg n (matOf n l))) e w' := by
  have one : 1 ≤ l.length := by rw [h.len]; exact Nat.mul_le_mul (show 1 ≤ n by omega) (show 1 ≤ n by omega)
  obtain ⟨b, off, rfl, hR⟩ := row_of hA one
  have B := h.beg
  have hDl : (diagL n l n).length = n * n := by rw [diagL_len, h.len]
  have st := matOf_start h.len
  have rt := matOf_rt h.he hDl st
  have nn : ∀ t, (∀ i, i < n → leB (some 0) (matOf n (rtL n (diagL n l n) t) i i)) → NoNeg n (rO wrap64 n (start (matOf n l)) t) := fun t k i hi => by rw [← rt t i i hi hi]; exact k i hi
  refine (closedOct_any N n b off c len l W hN ⟨h2, Nat.le_trans h.hn (by omega)⟩ h.he hR hl (by show _ = _; rw [hl.out]; exact h.len) h.inR ?_).mono ?_
  · intro k p q hp hq
    rw [rt 5 p q hp hq, rt 6 p q hp hq]
    have e : rO wrap64 n (start (matOf n l)) 6 = rO wrap64 n (start (matOf n l)) 5 := B.sixth (nn 5 k)
    rw [e]
    exact leB_refl _
  · rintro e w' ⟨hb, ⟨t, i, ht, hi, hneg, rfl⟩ | ⟨t, g, cap, ht, hpos, hsame, rfl, hg, hF, hR'⟩⟩
    · refine ⟨hb, .inl ⟨fun hN' => ?_, rfl⟩⟩
      have hs := (tg_some h.he h.coh).2 hN'
      obtain ⟨r, hr⟩ := oRnd_pre n (n - i) i
      rw [show i + (n - i) = n by omega] at hr
      have k := B.never hs ht hr i hi
      have ok := pre_ok (n := n) (i := i) (by omega)
      have e := matOf_run h.he (oRnd n i) (rtL n (diagL n l n) t) (rO wrap64 n (start (matOf n l)) t) (by rw [rtL_len]; exact hDl) ok (rt t) i i hi hi
      rw [← e] at k
      have G : Gd (runL n (rtL n (diagL n l n) t) (oRnd n i)) := Gd.run h.he _ _ (by rw [rtL_len]; exact hDl) ok ((h.gd.diag h.len n (Nat.le_refl n)).rt h.he hDl t)
      have hx : i * n + i < (runL n (rtL n (diagL n l n) t) (oRnd n i)).length := by rw [runL_len, rtL_len, hDl]; exact idx_in hi hi
      have gc := G _ hx
      unfold matOf at k
      obtain ⟨⟨ch, cm⟩, hc⟩ : ∃ C, C = (runL n (rtL n (diagL n l n) t) (oRnd n i)).getD (i * n + i) ceZ := ⟨_, rfl⟩
      rw [← hc] at k gc hneg
      cases ch
      · have := gc rfl
        simp at hneg this
        omega
      · simp [Ce.bd, leB] at k
        simp at hneg
        omega
    · obtain ⟨hs, hE⟩ := B.done ht (nn t hpos) (fun p q hp hq => by rw [← rt t p q hp hq, ← rt (t + 1) p q hp hq, hsame]; exact leB_refl _)
      have hyes := (tg_some h.he h.coh).1 hs
      have G := (h.gd.diag h.len n (Nat.le_refl n)).rt h.he hDl t
      have hLl : (rtL n (diagL n l n) t).length = n * n := by rw [rtL_len, hDl]
      have sz := h.szt
      have eL : (rtL n (diagL n l n) t).map clipC = rowOf n (tg n (matOf n l)) := by
        refine extO (by rw [List.length_map, hLl]) fun p hp => ?_
        have n0 : 0 < n := by omega
        have hpi := Nat.div_lt_of_lt_mul hp
        have hpj := Nat.mod_lt p n0
        have e : p / n * n + p % n = p := by rw [Nat.mul_comm]; exact Nat.div_add_mod _ _
        have e1 : ((rtL n (diagL n l n) t).map clipC).getD p ceZ = clipC ((rtL n (diagL n l n) t).getD p ceZ) := by
          simp [show p < (rtL n (diagL n l n) t).length by omega]
        have e2 : (rtL n (diagL n l n) t).getD p ceZ = ceOf (tg n (matOf n l) (p / n) (p % n)) := by
          rw [G.cell (by omega), ← hE _ _ hpi hpj, ← rt t _ _ hpi hpj]
          unfold matOf; rw [e]
        rw [e1, e2]
        have s := sz _ _ hpi hpj
        cases hc : tg n (matOf n l) (p / n) (p % n) with
        | none => simp [ceOf, clipC]
        | some v =>
          have := s v hc
          have a1 : ¬ 1099511627776 < v := by omega
          have a2 : ¬ v < -1099511627776 := by omega
          simp [clipC, ceOf, a1, a2]
      rw [eL] at hR'
      exact ⟨hb, .inr ⟨hyes, g, cap, rfl, hg, hF, hR'⟩⟩

/-- A row with one cell lowered, as a square. -/
theorem mat_low {n : Nat} {l : List Ce} (hl : l.length = n * n) {i j : Nat} (hi : i < n) (hj : j < n) (c : Int) (p q : Nat) (hp : p < n) (hq : q < n) : matOf n (lowL l (i * n + j) c) p q = grdM (matOf n l) i j c p q := by
  have hx : i * n + j < l.length := by rw [hl]; exact idx_in hi hj
  unfold matOf lowL grdM setM
  rw [getD_set hx]
  by_cases e : p = i ∧ q = j
  · obtain ⟨rfl, rfl⟩ := e
    rw [if_pos rfl, if_pos ⟨rfl, rfl⟩, lowC_bd]
  · rw [if_neg e, if_neg]
    intro h
    apply e
    obtain ⟨a1, a2⟩ := div_at (i := p) hq
    obtain ⟨b1, b2⟩ := div_at (i := i) hj
    rw [h] at a1 a2
    exact ⟨a1.symm.trans b1, a2.symm.trans b2⟩
theorem mat_bd {n : Nat} (he : n % 2 = 0) {l : List Ce} (hl : l.length = n * n) {i j : Nat} (hi : i < n) (hj : j < n) (c : Int) (p q : Nat) (hp : p < n) (hq : q < n) : matOf n (bdL n l i j c) p q = gdM (matOf n l) (bar j) i c p q := by
  unfold bdL gdM
  rw [mat_low (by rw [lowL_len]; exact hl) (bar_lt he hi) hj c p q hp hq, bar_bar]
  unfold grdM setM
  rw [mat_low hl (bar_lt he hj) hi c p q hp hq, mat_low hl (bar_lt he hj) hi c (bar i) j (bar_lt he hi) hj]
  rfl
theorem bd_gd {a b : Int} (ha : a = 1 ∨ a = -1 ∨ a = 0) (hb : b = 1 ∨ b = -1 ∨ b = 0) (h0 : ¬ (a = 0 ∧ b = 0)) (x y : Nat) (c : Int) : gFr a x b y = bar (bd2 a x b y) ∧ gTo a x b y = bd1 a x b y ∧ gC a b c = bdC a b c := by
  obtain ⟨x1, x2⟩ := bar_even x
  obtain ⟨y1, y2⟩ := bar_even y
  rcases ha with rfl | rfl | rfl <;> rcases hb with rfl | rfl | rfl <;> first | (exact absurd ⟨rfl, rfl⟩ h0) | simp [gFr, gTo, gC, bd1, bd2, bdI, bdC, idxN, x1, x2, y1, y2]
theorem lowC_small {a : Ce} {c : Int} {B : Nat} (ha : a.m.natAbs ≤ B) (hc : c.natAbs ≤ B) : (lowC a c).m.natAbs ≤ B := by
  unfold lowC; split
  · exact ha
  · exact hc
theorem lowC_good {a : Ce} {c : Int} (ha : a = ceOf a.bd) : lowC a c = ceOf (lowC a c).bd := by
  unfold lowC; split
  · exact ha
  · simp [Ce.bd, ceOf]
theorem low_at {l : List Ce} {k : Nat} (hk : k < l.length) (c : Int) (i : Nat) : (lowL l k c).getD i ceZ = if i = k then lowC (l.getD k ceZ) c else l.getD i ceZ := by unfold lowL; rw [getD_set hk]
theorem low_near {l : List Ce} {k : Nat} (hk : k < l.length) {c : Int} {B : Nat} (hc : c.natAbs ≤ B) (h : ∀ i, i < l.length → (l.getD i ceZ).m.natAbs ≤ B) (g : goodL l) : (∀ i, i < (lowL l k c).length → ((lowL l k c).getD i ceZ).m.natAbs ≤ B) ∧ goodL (lowL l k c) := by
  refine ⟨fun i hi => ?_, fun i hi => ?_⟩
  · rw [lowL_len] at hi
    rw [low_at hk]
    split
    · exact lowC_small (h k hk) hc
    · exact h i hi
  · rw [lowL_len] at hi
    rw [low_at hk]
    split
    · exact lowC_good (g k hk)
    · exact g i hi
theorem NearO.bd {n : Nat} {l : List Ce} (h : NearO n l) {i j : Nat} (hi : i < n) (hj : j < n) {c : Int} (hc : c.natAbs ≤ 4194304) : NearP n (bdL n l i j c) := by
  have k1 : bar j * n + i < l.length := by rw [h.len]; exact idx_in (bar_lt h.he hj) hi
  have k2 : bar i * n + j < (lowL l (bar j * n + i) c).length := by rw [lowL_len, h.len]; exact idx_in (bar_lt h.he hi) hj
  obtain ⟨a1, a2⟩ := low_near k1 hc (fun i hi => Nat.le_trans (h.small i hi) (by omega)) h.good
  obtain ⟨b1, b2⟩ := low_near k2 hc a1 a2
  refine ⟨h.he, h.hn, by rw [bdL_len]; exact h.len, b2, b1, fun p q hp hq => ?_⟩
  rw [mat_bd h.he h.len hi hj c p q hp hq, mat_bd h.he h.len hi hj c _ _ (bar_lt h.he hq) (bar_lt h.he hp)]
  exact coh_gd h.coh p q hp hq
/-- A bound of nothing: that 0 is at most c. -/
theorem gd_self {n : Nat} (he : n % 2 = 0) {m : Mat} (hm : Coh n m) {p : Nat} (hp : p < n) (c : Int) :
    (c < 0 → ¬ NoNeg n (tg n (gdM m p p c))) ∧ (0 ≤ c → (NoNeg n (tg n (gdM m p p c)) ↔ NoNeg n (tg n m)) ∧ (NoNeg n (tg n m) → tellL n (tg n (gdM m p p c)) = tellL n (tg n m))) := by
  have key : ∀ y, OPt n (gdM m p p c) y ↔ OPt n m y ∧ y p - y p ≤ c := fun y => opt_gr he hp hp
  have hg : Coh n (gdM m p p c) := coh_gd hm
  refine ⟨fun h hN => ?_, fun h => ?_⟩
  · obtain ⟨y, hy⟩ := (tg_some he hg).2 hN
    have := ((key y).1 hy).2
    omega
  · have same : ∀ y, OPt n (gdM m p p c) y ↔ OPt n m y := fun y => by rw [key]; exact ⟨fun k => k.1, fun k => ⟨k, by omega⟩⟩
    have hiff : NoNeg n (tg n (gdM m p p c)) ↔ NoNeg n (tg n m) := by
      rw [← tg_some he hg, ← tg_some he hm]
      exact ⟨fun ⟨y, hy⟩ => ⟨y, (same y).1 hy⟩, fun ⟨y, hy⟩ => ⟨y, (same y).2 hy⟩⟩
    refine ⟨hiff, fun hN => ?_⟩
    apply tellL_congr
    intro i j hi hj
    exact (tg_tight he hg (hiff.2 hN)).unique (tg_tight he hm hN) (fun y => by rw [tg_pt he, tg_pt he]; exact same y) hi hj
end Go.Proofs.YtbafkjhlogkllaaGreatDoor.Oc

/- Octagons: one variable more, that is another one or its opposite or nothing, and a number: one round is enough. Plain facts. -/
namespace Go.Proofs.YtbafkjhlogkllaaGreatDoor.Oc
set_option linter.unusedVariables false

/-- The opposite of a place, or of nothing. -/
def obar : Option Nat → Option Nat
  | none => none
  | some i => some (bar i)
theorem obar_lt {n : Nat} (he : n % 2 = 0) {a : Option Nat} (h : oLt n a) : oLt n (obar a) := by
  cases a with
  | none => trivial
  | some i => exact bar_lt he h
theorem obar_obar (a : Option Nat) : obar (obar a) = a := by
  cases a with
  | none => rfl
  | some i => show some (bar (bar i)) = _; rw [bar_bar]
theorem oix_bar {s : Int} (hs : s = 1 ∨ s = -1 ∨ s = 0) (y : Nat) : oix (-s) y = obar (oix s y) := by
  obtain ⟨e1, e2⟩ := bar_even y
  rcases hs with rfl | rfl | rfl <;> simp [oix, obar, e1, e2]
theorem stO_bar {x y : Nat} {s : Int} (hs : s = 1 ∨ s = -1 ∨ s = 0) (i : Nat) : stO x s y (bar i) = obar (stO x s y i) := by
  obtain ⟨e1, e2⟩ := bar_even x
  unfold stO
  by_cases h1 : i = 2 * x
  · rw [if_pos h1, h1, e1, if_neg (by omega), if_pos rfl, oix_bar hs]
  · by_cases h2 : i = 2 * x + 1
    · rw [if_neg h1, if_pos h2, h2, e2, if_pos rfl, oix_bar hs, obar_obar]
    · have b1 : bar i ≠ 2 * x := fun h => h2 (by have := congrArg bar h; rw [bar_bar, e1] at this; exact this)
      have b2 : bar i ≠ 2 * x + 1 := fun h => h1 (by have := congrArg bar h; rw [bar_bar, e2] at this; exact this)
      rw [if_neg h1, if_neg h2, if_neg b1, if_neg b2]; rfl
def tpM (d : Mat) (a : Option Nat) : Bd := halfB (apM d (obar a) a)
theorem ap_diag {n : Nat} {d : Mat} (h : Tight n d) {a : Option Nat} (ha : oLt n a) : apM d a a = some 0 := by
  cases a with
  | none => rfl
  | some i => exact h.clo.diag i ha
theorem ap_coh {n : Nat} {d : Mat} (h : Tight n d) {a b : Option Nat} (ha : oLt n a) (hb : oLt n b) : apM d (obar b) (obar a) = apM d a b := by
  cases a with
  | none =>
    cases b with
    | none => rfl
    | some j => show topB d (bar (bar j)) = topB d j; rw [bar_bar]
  | some i =>
    cases b with
    | none => rfl
    | some j => exact (h.coh i j ha hb).symm
theorem tp_some (d : Mat) (i : Nat) : tpM d (some i) = topB d i := rfl
theorem top_tri {n : Nat} {d : Mat} (h : Tight n d) {j k : Nat} (hj : j < n) (hk : k < n) : leB (topB d j) (addB (topB d k) (d k j)) := by
  have he := h.even
  have t1 := h.clo.tri (bar j) j k (bar_lt he hj) hj hk
  have t2 := h.clo.tri (bar j) k (bar k) (bar_lt he hj) hk (bar_lt he hk)
  have e := h.coh k j hk hj
  have p := h.par k
  unfold topB
  cases e1 : d k j with
  | none => cases halfB (d (bar k) k) <;> cases halfB (d (bar j) j) <;> simp [addB, leB]
  | some v =>
    cases e2 : d (bar k) k with
    | none => cases halfB (d (bar j) j) <;> simp [halfB, addB, leB]
    | some u =>
      have pu := p u hk e2
      rw [e1] at e t1
      rw [← e, e2] at t2
      cases e3 : d (bar j) k with
      | none => rw [e3] at t2; simp [addB, leB] at t2
      | some z =>
        rw [e3] at t1 t2
        cases e4 : d (bar j) j with
        | none => rw [e4] at t1; simp [addB, leB] at t1
        | some r =>
          rw [e4] at t1
          simp [addB, leB] at t1 t2
          simp [halfB, addB, leB]
          omega
theorem top_zero {n : Nat} {d : Mat} (h : Tight n d) {k : Nat} (hk : k < n) : leB (some 0) (addB (topB d (bar k)) (topB d k)) := by
  have he := h.even
  have t1 := h.clo.tri k k (bar k) hk hk (bar_lt he hk)
  rw [h.clo.diag k hk] at t1
  have p1 := h.par k
  have p2 := h.par (bar k)
  rw [bar_bar] at p2
  unfold topB
  rw [bar_bar]
  cases e1 : d k (bar k) with
  | none => simp [halfB, addB, leB]
  | some u =>
    cases e2 : d (bar k) k with
    | none => simp [halfB, addB, leB]
    | some v =>
      have := p1 v hk e2
      have := p2 u (bar_lt he hk) e1
      rw [e1, e2] at t1
      simp [addB, leB] at t1
      simp [halfB, addB, leB]
      omega
theorem ap_tri {n : Nat} {d : Mat} (h : Tight n d) {a b k : Option Nat} (ha : oLt n a) (hb : oLt n b) (hk : oLt n k) : leB (apM d a b) (addB (apM d a k) (apM d k b)) := by
  have he := h.even
  cases a with
  | none =>
    cases b with
    | none =>
      cases k with
      | none => simp [apM, addB, leB]
      | some k =>
        have := top_zero h (bar_lt he hk)
        rw [bar_bar] at this
        exact this
    | some j =>
      cases k with
      | none => show leB (topB d j) (addB (some 0) (topB d j)); rw [zero_addB]; exact leB_refl _
      | some k => exact top_tri h hb hk
  | some i =>
    cases b with
    | none =>
      cases k with
      | none => show leB (topB d (bar i)) (addB (topB d (bar i)) (some 0)); rw [addB_zero]; exact leB_refl _
      | some k =>
        have := top_tri h (bar_lt he ha) (bar_lt he hk)
        rw [h.coh _ _ (bar_lt he hk) (bar_lt he ha), bar_bar, bar_bar] at this
        show leB (topB d (bar i)) (addB (d i k) (topB d (bar k)))
        cases e1 : topB d (bar i) <;> cases e2 : d i k <;> cases e3 : topB d (bar k) <;> simp_all [addB, leB] <;> omega
    | some j =>
      cases k with
      | none => exact h.str i j ha hb
      | some k => exact h.clo.tri i j k ha hb hk
theorem ap_str {n : Nat} {d : Mat} (h : Tight n d) {a b : Option Nat} (ha : oLt n a) (hb : oLt n b) : leB (apM d a b) (addB (tpM d (obar a)) (tpM d b)) := by
  cases a with
  | none =>
    cases b with
    | none => simp [tpM, obar, apM, halfB, addB, leB]
    | some j =>
      show leB (topB d j) (addB (halfB (some 0)) (topB d j))
      have : halfB (some 0) = some 0 := rfl
      rw [this, zero_addB]; exact leB_refl _
  | some i =>
    cases b with
    | none =>
      show leB (topB d (bar i)) (addB (topB d (bar i)) (halfB (some 0)))
      have : halfB (some 0) = some 0 := rfl
      rw [this, addB_zero]; exact leB_refl _
    | some j => exact h.str i j ha hb
theorem ap_par {n : Nat} {d : Mat} (h : Tight n d) {a : Option Nat} (ha : oLt n a) {v : Int} (hv : apM d (obar a) a = some v) : v % 2 = 0 := by
  cases a with
  | none => have : (0 : Int) = v := by simpa [obar, apM] using hv
            omega
  | some i => exact h.par i v ha hv

/-- What is moved is tight, wherever the places come from. -/
theorem tight_mv {n m : Nat} {d : Mat} (h : Tight n d) (hm : m % 2 = 0) {x y : Nat} {s c : Int} (hs : s = 1 ∨ s = -1 ∨ s = 0) (hst : ∀ i, i < m → oLt n (stO x s y i)) : Tight m (mvO d x s y c) := by
  have he := h.even
  have top : ∀ j, topB (mvO d x s y c) j = addB (tpM d (stO x s y j)) (some (shO x c j)) := by
    intro j
    unfold topB tpM mvO
    rw [stO_bar hs, shO_bar, show shO x c j - -shO x c j = shO x c j + shO x c j by omega, half_two]
  refine ⟨hm, ⟨fun i hi => ?_, fun i j l hi hj hl => ?_⟩, fun i j hi hj => ?_, fun i j hi hj => ?_, fun i v hi hv => ?_⟩
  · unfold mvO
    rw [Int.sub_self, ap_diag h (hst i hi)]
    rfl
  · unfold mvO
    have := ap_tri h (hst i hi) (hst j hj) (hst l hl)
    revert this
    cases apM d (stO x s y i) (stO x s y j) <;> cases apM d (stO x s y i) (stO x s y l) <;> cases apM d (stO x s y l) (stO x s y j) <;> simp [leB, addB] <;> omega
  · unfold mvO
    rw [stO_bar hs, stO_bar hs, shO_bar, shO_bar, ap_coh h (hst i hi) (hst j hj)]
    congr 2
    omega
  · rw [top, top, stO_bar hs, shO_bar]
    have := ap_str h (hst i hi) (hst j hj)
    revert this
    unfold mvO
    cases apM d (stO x s y i) (stO x s y j) <;> cases tpM d (obar (stO x s y i)) <;> cases tpM d (stO x s y j) <;> simp [leB, addB] <;> omega
  · unfold mvO at hv
    rw [stO_bar hs, shO_bar] at hv
    cases e : apM d (obar (stO x s y i)) (stO x s y i) with
    | none => rw [e] at hv; simp [addB] at hv
    | some u =>
      have := ap_par h (hst i hi) e
      rw [e] at hv
      simp [addB] at hv
      omega
/-- A list of rules, place by place, each of which has what it lacks by then. -/
inductive Pl2 (g : Int → Int) (n : Nat) (S F : Mat) : List Op → Prop
  | nil : Pl2 g n S F []
  | tig {l : List Op} {i : Nat} : Pl2 g n S F l → i < n → bar i < n → Fix n F (.tig i) → Pl2 g n S F (l ++ [.tig i])
  | place {l q : List Op} {i j : Nat} : Pl2 g n S F l → i < n → j < n → (∀ o ∈ q, o.in n ∧ o.r = i ∧ o.c = j ∧ ¬ o.isT ∧ Fix n F o) → (leB (runO g S l i j) (F i j) ∨ ∃ o ∈ q, leB (o.val id (runO g S l)) (F i j)) → Pl2 g n S F (l ++ q)
theorem _root_.Go.Proofs.YtbafkjhlogkllaaGreatDoor.Fin0.at {g : Int → Int} {n m : Nat} {S F d : Mat} (f : Fin0 g n m S F) (P : PF n S F d) : Fin0 g n m d F := by
  refine ⟨f.sz, f.hg, f.diag, fun i hi => ?_, P.par⟩
  have a := P.low i i hi hi
  have b := P.up i i hi hi
  rw [f.diag i hi] at a
  rw [f.sdiag i hi] at b
  exact leB_antisymm b a
theorem _root_.Go.Proofs.YtbafkjhlogkllaaGreatDoor.PF.cur {g : Int → Int} {n m : Nat} {S F d : Mat} (f : Fin0 g n m S F) (P : PF n S F d) {i j : Nat} (hi : i < n) (hj : j < n) : Cur n m d F d i j :=
  ⟨fun p q hp hq _ => P.par p q hp hq, P.low, fun p q _ _ => leB_refl _, fun v hv => by
    rcases P.par i j hi hj with k | k
    · rw [k] at hv; cases hv
    · rw [k] at hv; have := f.sz i j hi hj v hv; omega⟩
theorem Pl2.run {g : Int → Int} {n m : Nat} {S F : Mat} (f : Fin0 g n m S F) {l : List Op} (h : Pl2 g n S F l) : PF n S F (runO g S l) := by
  induction h with
  | nil => exact Pl.run f .nil
  | @tig l i _ hi hb hF ih =>
    rw [runO_append]
    show PF n S F (Op.app g (runO g S l) (.tig i))
    have e : ∀ p q, p < n → q < n → Op.app g (runO g S l) (.tig i) p q = runO g S l p q := by
      intro p q hp hq
      unfold Op.app setM
      split
      · rename_i k
        rw [k.1, k.2]
        simp only [Op.r, Op.c, Op.val]
        rcases ih.par i (bar i) hi hb with z | z
        · rw [z]; rfl
        · rw [z]
          have := hF
          unfold Fix at this
          simp only [Op.r, Op.c, Op.val] at this
          exact leB_antisymm (minB_left _ _) (le_minB (leB_refl _) this)
      · rfl
    exact ⟨fun p q hp hq => by rw [e p q hp hq]; exact ih.par p q hp hq, fun p q hp hq => by rw [e p q hp hq]; exact ih.low p q hp hq, fun p q hp hq => by rw [e p q hp hq]; exact ih.up p q hp hq⟩
  | @place l q i j _ hi hj hq hw ih =>
    rw [runO_append]
    obtain ⟨c1, c2⟩ := (ih.cur f hi hj).run (f.at ih) hi hj q _ hq
    refine ⟨fun p q hp hq => ?_, c1.low, fun p q hp hq => leB_trans (c1.up p q hp hq) (ih.up p q hp hq)⟩
    by_cases e : p = i ∧ q = j
    · right
      rw [e.1, e.2]
      refine leB_antisymm ?_ (c1.low i j hi hj)
      rcases hw with h | ⟨o, ho, h⟩
      · exact leB_trans (c1.up i j hi hj) h
      · exact leB_trans (c2 o ho) h
    · exact c1.par p q hp hq e
theorem Pl2.end {g : Int → Int} {n m : Nat} {S F : Mat} (f : Fin0 g n m S F) {l : List Op} (h : Pl2 g n S F l) : ∀ o ∈ l, ¬ o.isT → leB (runO g S l o.r o.c) (F o.r o.c) := by
  induction h with
  | nil => intro o ho; cases ho
  | @tig l i' hl hi' hb hF ih =>
    intro o ho hT
    rcases List.mem_append.1 ho with q | q
    · rw [runO_append]
      exact leB_trans (runO_le g _ _ _ _) (ih o q hT)
    · simp at q
      subst q
      exact absurd trivial hT
  | @place l q i' j' hl hi' hj' hq hw ih =>
    intro o ho hT
    rw [runO_append]
    rcases List.mem_append.1 ho with z | z
    · exact leB_trans (runO_le g _ _ _ _) (ih o z hT)
    · obtain ⟨_, r1, r2, _, _⟩ := hq o z
      rw [r1, r2]
      have P := hl.run f
      obtain ⟨c1, c2⟩ := (P.cur f hi' hj').run (f.at P) hi' hj' q _ hq
      rcases hw with h | ⟨o', ho', h⟩
      · exact leB_trans (c1.up i' j' hi' hj') h
      · exact leB_trans (c2 o' ho') h
theorem fix_rel {n : Nat} {F : Mat} (T : Tight n F) {i j k : Nat} (hi : i < n) (hj : j < n) (hk : k < n) : Fix n F (.rel i j k) := by
  show leB (F i j) (sumB id (F i k) (F k j))
  rw [sumB_id]; exact T.clo.tri i j k hi hj hk
theorem fix_tig {n : Nat} {F : Mat} (he : n % 2 = 0) (T : Tight n F) {i : Nat} (hi : i < n) : Fix n F (.tig i) := by
  show leB (F i (bar i)) (evenB (F i (bar i)))
  cases e : F i (bar i) with
  | none => simp [evenB, leB]
  | some v =>
    have := T.par (bar i) v (bar_lt he hi) (by rw [bar_bar]; exact e)
    simp [evenB, leB]
    omega
theorem fix_str {n : Nat} {F : Mat} (he : n % 2 = 0) (T : Tight n F) {i j : Nat} (hi : i < n) (hj : j < n) : Fix n F (.str i j) := by
  show leB (F i j) (halfB (sumB id (F i (bar i)) (F (bar j) j)))
  rw [sumB_id]
  have s := T.str i j hi hj
  unfold topB at s
  rw [bar_bar] at s
  have p1 := T.par (bar i)
  have p2 := T.par j
  rw [bar_bar] at p1
  revert s
  cases e1 : F i (bar i) with
  | none => intro s; simp [addB, halfB, leB]
  | some u =>
    cases e2 : F (bar j) j with
    | none => intro s; simp [addB, halfB, leB]
    | some v =>
      have := p1 u (bar_lt he hi) e1
      have := p2 v hj e2
      cases F i j <;> simp [addB, halfB, leB]
      omega
/-- One round of an octagon's rules, where each cell lacks but one step, or one more through a row above. -/
theorem oct_pl {g : Int → Int} {n m : Nat} {S F : Mat} (he : n % 2 = 0) (f : Fin0 g n m S F) (T : Tight n F)
    (hw : ∀ i j, i < n → j < n → leB (S i j) (F i j) ∨ (∃ k, k < n ∧ leB (addB (S i k) (S k j)) (F i j)) ∨ leB (halfB (addB (S i (bar i)) (S (bar j) j))) (F i j) ∨ ∃ k, k < i ∧ leB (addB (S i k) (F k j)) (F i j)) :
    ∀ i, i ≤ n → Pl2 g n S F (oRnd n i) := by
  have fixR : ∀ i j k, i < n → j < n → k < n → Fix n F (.rel i j k) := fun i j k hi hj hk => fix_rel T hi hj hk
  have fixT : ∀ i, i < n → Fix n F (.tig i) := fun i hi => fix_tig he T hi
  have fixS : ∀ i j, i < n → j < n → Fix n F (.str i j) := fun i j hi hj => fix_str he T hi hj
  intro i
  induction i with
  | zero => intro _; exact .nil
  | succ i ih =>
    intro hi
    have P0 := ih (by omega)
    have key : ∀ j, j ≤ n → Pl2 g n S F (oRnd n i ++ oRow n i j) := by
      intro j
      induction j with
      | zero => intro _; exact .tig P0 (by omega) (bar_lt he (by omega)) (fixT i (by omega))
      | succ j ihj =>
        intro hj
        have P1 := ihj (by omega)
        show Pl2 g n S F (oRnd n i ++ (oRow n i j ++ (.str i j :: oRel i j n)))
        rw [← List.append_assoc]
        have hin : ∀ k, k < n → (Op.rel i j k).in n := fun k hk => ⟨by omega, by omega, hk⟩
        have hstr : (Op.str i j).in n := ⟨by omega, by omega, bar_lt he (show i < n by omega), bar_lt he (show j < n by omega)⟩
        refine .place (i := i) (j := j) P1 (by omega) (by omega) ?_ ?_
        · intro o ho
          rcases List.mem_cons.1 ho with rfl | ho
          · exact ⟨hstr, rfl, rfl, fun h => h, fixS i j (by omega) (by omega)⟩
          · obtain ⟨k, hk, rfl⟩ := mem_oRel.1 ho
            exact ⟨hin k hk, rfl, rfl, fun h => h, fixR i j k (by omega) (by omega) hk⟩
        · have up : ∀ p q, p < n → q < n → leB (runO g S (oRnd n i ++ oRow n i j) p q) (S p q) := fun p q _ _ => runO_le g S _ p q
          rcases hw i j (by omega) (by omega) with h | ⟨k, hk, h⟩ | h | ⟨k, hk, h⟩
          · exact .inl (leB_trans (up i j (by omega) (by omega)) h)
          · refine .inr ⟨.rel i j k, List.mem_cons_of_mem _ (mem_oRel.2 ⟨k, hk, rfl⟩), leB_trans (val_mono' up (hin k hk)) ?_⟩
            show leB (sumB id _ _) _
            rw [sumB_id]; exact h
          · refine .inr ⟨.str i j, List.mem_cons_self .., leB_trans (val_mono' up hstr) ?_⟩
            show leB (halfB (sumB id _ _)) _
            rw [sumB_id]; exact h
          · refine .inr ⟨.rel i j k, List.mem_cons_of_mem _ (mem_oRel.2 ⟨k, by omega, rfl⟩), ?_⟩
            have mem : Op.str k j ∈ oRnd n i ++ oRow n i j := by
              refine List.mem_append.2 (.inl (mem_oRnd.2 ⟨k, hk, ?_⟩))
              have : ∀ t, j < t → Op.str k j ∈ oRow n k t := by
                intro t
                induction t with
                | zero => intro h; omega
                | succ t iht =>
                  intro h
                  show _ ∈ oRow n k t ++ _
                  by_cases e : j = t
                  · subst e; exact List.mem_append.2 (.inr (List.mem_cons_self ..))
                  · exact List.mem_append.2 (.inl (iht (by omega)))
              exact this n (by omega)
            have e := P1.end f _ mem (fun h => h)
            show leB (sumB id _ _) _
            rw [sumB_id]
            exact leB_trans (addB_mono (up i k (by omega) (by omega)) e) h
    have := key n (Nat.le_refl n)
    exact this
/-- So after one round, and after each more. -/
theorem oct_round {g : Int → Int} {n m : Nat} {S F : Mat} (he : n % 2 = 0) (f : Fin0 g n m S F) (T : Tight n F)
    (hw : ∀ i j, i < n → j < n → leB (S i j) (F i j) ∨ (∃ k, k < n ∧ leB (addB (S i k) (S k j)) (F i j)) ∨ leB (halfB (addB (S i (bar i)) (S (bar j) j))) (F i j) ∨ ∃ k, k < i ∧ leB (addB (S i k) (F k j)) (F i j)) :
    ∀ t i j, i < n → j < n → rO g n S (t + 1) i j = F i j := by
  have P := oct_pl he f T hw n (Nat.le_refl n)
  have inn : ∀ o ∈ oRnd n n, o.in n ∧ Fix n F o := by
    intro o ho
    have ok := all_ops.1 ho
    cases o with
    | tig i => exact ⟨⟨ok, bar_lt he ok⟩, fix_tig he T ok⟩
    | str i j => exact ⟨⟨ok.1, ok.2, bar_lt he ok.1, bar_lt he ok.2⟩, fix_str he T ok.1 ok.2⟩
    | rel i j k => exact ⟨ok, fix_rel T ok.1 ok.2.1 ok.2.2⟩
  intro t
  induction t with
  | zero =>
    intro i j hi hj
    show runO g S (oRnd n n) i j = F i j
    exact leB_antisymm (P.end f (.str i j) (all_ops.2 ⟨hi, hj⟩) (fun h => h)) ((P.run f).low i j hi hj)
  | succ t ih =>
    intro i j hi hj
    exact fin_stays f ih (oRnd n n) inn i j hi hj
/-- And no number on the way lies below nothing at a place of itself. -/
theorem oct_never {g : Int → Int} {n m : Nat} {S F : Mat} (he : n % 2 = 0) (f : Fin0 g n m S F) (T : Tight n F)
    (hw : ∀ i j, i < n → j < n → leB (S i j) (F i j) ∨ (∃ k, k < n ∧ leB (addB (S i k) (S k j)) (F i j)) ∨ leB (halfB (addB (S i (bar i)) (S (bar j) j))) (F i j) ∨ ∃ k, k < i ∧ leB (addB (S i k) (F k j)) (F i j)) :
    ∀ t i, i < n → leB (some 0) (runO g (rO g n S t) (oRnd n i) i i) := by
  intro t i hi
  cases t with
  | zero =>
    have := ((oct_pl he f T hw i (by omega)).run f).low i i hi hi
    rw [f.diag i hi] at this
    exact this
  | succ t =>
    have inn : ∀ o ∈ oRnd n i, o.in n ∧ Fix n F o := by
      intro o ho
      have ok : o.ok n := by
        obtain ⟨p, hp, h⟩ := mem_oRnd.1 ho
        exact all_ops.1 (mem_oRnd.2 ⟨p, by omega, h⟩)
      cases o with
      | tig i => exact ⟨⟨ok, bar_lt he ok⟩, fix_tig he T ok⟩
      | str i j => exact ⟨⟨ok.1, ok.2, bar_lt he ok.1, bar_lt he ok.2⟩, fix_str he T ok.1 ok.2⟩
      | rel i j k => exact ⟨ok, fix_rel T ok.1 ok.2.1 ok.2.2⟩
    rw [fin_stays f (oct_round he f T hw t) (oRnd n i) inn i i hi hi, f.diag i hi]
    exact leB_refl _
/-- A square with one variable more that is another one, or its opposite, and a number. -/
def qI (n iy i : Nat) : Nat := if i = n then iy else if i = n + 1 then bar iy else i
def hI (n : Nat) (c : Int) (i : Nat) : Int := if i = n then c else if i = n + 1 then -c else 0
def S1 (n iy : Nat) (c : Int) (d : Mat) : Mat := fun i j => if i = j then some 0 else if i < n ∧ j < n then d i j else if i = iy ∧ j = n then some c else if i = n ∧ j = iy then some (-c) else if i = bar iy ∧ j = n + 1 then some (-c) else if i = n + 1 ∧ j = bar iy then some c else none
/-- Likewise, a number alone. -/
def S0 (n : Nat) (c : Int) (d : Mat) : Mat := fun i j => if i = j then some 0 else if i < n ∧ j < n then d i j else if i = n + 1 ∧ j = n then some (2 * c) else if i = n ∧ j = n + 1 then some (-(2 * c)) else none
theorem S1_old {n iy : Nat} {c : Int} {d : Mat} (T : Tight n d) {i j : Nat} (hi : i < n) (hj : j < n) : S1 n iy c d i j = d i j := by
  unfold S1
  by_cases e : i = j
  · rw [if_pos e, ← e, T.clo.diag i hi]
  · rw [if_neg e, if_pos ⟨hi, hj⟩]
theorem S0_old {n : Nat} {c : Int} {d : Mat} (T : Tight n d) {i j : Nat} (hi : i < n) (hj : j < n) : S0 n c d i j = d i j := by
  unfold S0
  by_cases e : i = j
  · rw [if_pos e, ← e, T.clo.diag i hi]
  · rw [if_neg e, if_pos ⟨hi, hj⟩]
theorem S1_new {n iy : Nat} (he : n % 2 = 0) (c : Int) (d : Mat) (hiy : iy < n) : S1 n iy c d iy n = some c ∧ S1 n iy c d n iy = some (-c) ∧ S1 n iy c d (bar iy) (n + 1) = some (-c) ∧ S1 n iy c d (n + 1) (bar iy) = some c := by
  have hb := bar_lt he hiy
  have hne := bar_ne iy
  refine ⟨?_, ?_, ?_, ?_⟩ <;> unfold S1
  · rw [if_neg (by omega), if_neg (by omega), if_pos ⟨rfl, rfl⟩]
  · rw [if_neg (by omega), if_neg (by omega), if_neg (by omega), if_pos ⟨rfl, rfl⟩]
  · rw [if_neg (by omega), if_neg (by omega), if_neg (by omega), if_neg (by omega), if_pos ⟨rfl, rfl⟩]
  · rw [if_neg (by omega), if_neg (by omega), if_neg (by omega), if_neg (by omega), if_neg (by omega), if_pos ⟨rfl, rfl⟩]
theorem add_shift (a : Bd) (u v w : Int) (h : u + v = w) : addB (addB a (some u)) (some v) = addB a (some w) := by rw [addB_some2, h]
theorem addB_comm' (a b : Bd) : addB a b = addB b a := by cases a <;> cases b <;> simp [addB, Int.add_comm]
theorem hw1 {n iy : Nat} {d F : Mat} {c : Int} (T : Tight n d) (hiy : iy < n) (hF : ∀ i j, i < n + 2 → j < n + 2 → F i j = addB (d (qI n iy i) (qI n iy j)) (some (hI n c j - hI n c i))) :
    (∀ i j, i < n + 2 → j < n + 2 → S1 n iy c d i j = none ∨ S1 n iy c d i j = F i j) ∧
    (∀ i j, i < n + 2 → j < n + 2 → leB (S1 n iy c d i j) (F i j) ∨ (∃ k, k < n + 2 ∧ leB (addB (S1 n iy c d i k) (S1 n iy c d k j)) (F i j)) ∨ leB (halfB (addB (S1 n iy c d i (bar i)) (S1 n iy c d (bar j) j))) (F i j) ∨ ∃ k, k < i ∧ leB (addB (S1 n iy c d i k) (F k j)) (F i j)) := by
  have he := T.even
  have hb := bar_lt he hiy
  have hne := bar_ne iy
  obtain ⟨s1, s2, s3, s4⟩ := S1_new he c d hiy
  have q0 : ∀ i, i < n → qI n iy i = i := fun i hi => by unfold qI; rw [if_neg (by omega), if_neg (by omega)]
  have q1 : qI n iy n = iy := by unfold qI; rw [if_pos rfl]
  have q2 : qI n iy (n + 1) = bar iy := by unfold qI; rw [if_neg (by omega), if_pos rfl]
  have h0 : ∀ i, i < n → hI n c i = 0 := fun i hi => by unfold hI; rw [if_neg (by omega), if_neg (by omega)]
  have h1 : hI n c n = c := by unfold hI; rw [if_pos rfl]
  have h2 : hI n c (n + 1) = -c := by unfold hI; rw [if_neg (by omega), if_pos rfl]
  have ql : ∀ i, i < n + 2 → qI n iy i < n := fun i hi => by unfold qI; split; exact hiy; split; exact hb; omega
  have Fd : ∀ i, i < n + 2 → F i i = some 0 := fun i hi => by rw [hF i i hi hi, T.clo.diag _ (ql i hi), Int.sub_self]; rfl
  have Fo : ∀ i j, i < n → j < n → F i j = d i j := fun i j hi hj => by rw [hF i j (by omega) (by omega), q0 i hi, q0 j hj, h0 i hi, h0 j hj, Int.sub_self, addB_zero]
  have F1 : ∀ i, i < n → F i n = addB (d i iy) (some c) := fun i hi => by rw [hF i n (by omega) (by omega), q0 i hi, q1, h0 i hi, h1, Int.sub_zero]
  have F2 : ∀ i, i < n → F i (n + 1) = addB (d i (bar iy)) (some (-c)) := fun i hi => by rw [hF i (n + 1) (by omega) (by omega), q0 i hi, q2, h0 i hi, h2, Int.sub_zero]
  have F3 : ∀ j, j < n → F n j = addB (d iy j) (some (-c)) := fun j hj => by rw [hF n j (by omega) (by omega), q0 j hj, q1, h0 j hj, h1, Int.zero_sub]
  have F4 : ∀ j, j < n → F (n + 1) j = addB (d (bar iy) j) (some c) := fun j hj => by rw [hF (n + 1) j (by omega) (by omega), q0 j hj, q2, h0 j hj, h2, Int.zero_sub, Int.neg_neg]
  have F5 : F n (n + 1) = addB (d iy (bar iy)) (some (-c - c)) := by rw [hF n (n + 1) (by omega) (by omega), q1, q2, h1, h2]
  have F6 : F (n + 1) n = addB (d (bar iy) iy) (some (c - -c)) := by rw [hF (n + 1) n (by omega) (by omega), q1, q2, h1, h2]
  have dg1 := T.clo.diag iy hiy
  have dg2 := T.clo.diag (bar iy) hb
  constructor
  · intro i j hi hj
    unfold S1
    by_cases e : i = j
    · rw [if_pos e]; right; rw [← e, Fd i hi]
    rw [if_neg e]
    by_cases k0 : i < n ∧ j < n
    · rw [if_pos k0]; right; rw [Fo i j k0.1 k0.2]
    rw [if_neg k0]
    by_cases k1 : i = iy ∧ j = n
    · rw [if_pos k1]; right; rw [k1.1, k1.2, F1 iy hiy, dg1, zero_addB]
    rw [if_neg k1]
    by_cases k2 : i = n ∧ j = iy
    · rw [if_pos k2]; right; rw [k2.1, k2.2, F3 iy hiy, dg1, zero_addB]
    rw [if_neg k2]
    by_cases k3 : i = bar iy ∧ j = n + 1
    · rw [if_pos k3]; right; rw [k3.1, k3.2, F2 _ hb, dg2, zero_addB]
    rw [if_neg k3]
    by_cases k4 : i = n + 1 ∧ j = bar iy
    · rw [if_pos k4]; right; rw [k4.1, k4.2, F4 _ hb, dg2, zero_addB]
    rw [if_neg k4]; left; rfl
  · intro i j hi hj
    by_cases e : i = j
    · left
      subst e
      rw [Fd i hi]
      unfold S1; rw [if_pos rfl]; exact leB_refl _
    by_cases i1 : i < n
    · by_cases j1 : j < n
      · left; rw [S1_old T i1 j1, Fo i j i1 j1]; exact leB_refl _
      · by_cases j2 : j = n
        · subst j2
          exact .inr (.inl ⟨iy, by omega, by rw [S1_old T i1 hiy, s1, F1 i i1]; exact leB_refl _⟩)
        · obtain rfl : j = n + 1 := by omega
          exact .inr (.inl ⟨bar iy, by omega, by rw [S1_old T i1 hb, s3, F2 i i1]; exact leB_refl _⟩)
    · by_cases i2 : i = n
      · subst i2
        by_cases j1 : j < i
        · exact .inr (.inl ⟨iy, by omega, by rw [s2, S1_old T hiy j1, F3 j j1, addB_comm']; exact leB_refl _⟩)
        · obtain rfl : j = i + 1 := by omega
          exact .inr (.inr (.inr ⟨iy, hiy, by rw [s2, F2 iy hiy, F5, addB_comm', add_shift _ _ _ (-c - c) (by omega)]; exact leB_refl _⟩))
      · obtain rfl : i = n + 1 := by omega
        by_cases j1 : j < n
        · exact .inr (.inl ⟨bar iy, by omega, by rw [s4, S1_old T hb j1, F4 j j1, addB_comm']; exact leB_refl _⟩)
        · obtain rfl : j = n := by omega
          exact .inr (.inr (.inr ⟨bar iy, by omega, by rw [s4, F1 _ hb, F6, addB_comm', add_shift _ _ _ (c - -c) (by omega)]; exact leB_refl _⟩))
theorem hw0 {n : Nat} {d F : Mat} {c : Int} (T : Tight n d) (Fo : ∀ i j, i < n → j < n → F i j = d i j) (Fd : ∀ i, i < n + 2 → F i i = some 0)
    (F1 : ∀ i, i < n → F i n = addB (topB d (bar i)) (some c)) (F2 : ∀ i, i < n → F i (n + 1) = addB (topB d (bar i)) (some (-c))) (F3 : ∀ j, j < n → F n j = addB (topB d j) (some (-c))) (F4 : ∀ j, j < n → F (n + 1) j = addB (topB d j) (some c))
    (F5 : F n (n + 1) = some (-(2 * c))) (F6 : F (n + 1) n = some (2 * c)) :
    (∀ i j, i < n + 2 → j < n + 2 → S0 n c d i j = none ∨ S0 n c d i j = F i j) ∧
    (∀ i j, i < n + 2 → j < n + 2 → leB (S0 n c d i j) (F i j) ∨ (∃ k, k < n + 2 ∧ leB (addB (S0 n c d i k) (S0 n c d k j)) (F i j)) ∨ leB (halfB (addB (S0 n c d i (bar i)) (S0 n c d (bar j) j))) (F i j) ∨ ∃ k, k < i ∧ leB (addB (S0 n c d i k) (F k j)) (F i j)) := by
  have he := T.even
  have b1 : bar n = n + 1 := by unfold bar; rw [if_pos he]
  have b2 : bar (n + 1) = n := by unfold bar; rw [if_neg (by omega)]; omega
  have s5 : S0 n c d n (n + 1) = some (-(2 * c)) := by unfold S0; rw [if_neg (by omega), if_neg (by omega), if_neg (by omega), if_pos ⟨rfl, rfl⟩]
  have s6 : S0 n c d (n + 1) n = some (2 * c) := by unfold S0; rw [if_neg (by omega), if_neg (by omega), if_pos ⟨rfl, rfl⟩]
  have half : ∀ (a : Bd) (v : Int), leB (halfB (addB a (some (2 * v)))) (addB (halfB a) (some v)) := fun a v => by
    rw [show 2 * v = v + v by omega, half_two]; exact leB_refl _
  constructor
  · intro i j hi hj
    unfold S0
    by_cases e : i = j
    · rw [if_pos e]; right; rw [← e, Fd i hi]
    rw [if_neg e]
    by_cases k0 : i < n ∧ j < n
    · rw [if_pos k0]; right; rw [Fo i j k0.1 k0.2]
    rw [if_neg k0]
    by_cases k1 : i = n + 1 ∧ j = n
    · rw [if_pos k1]; right; rw [k1.1, k1.2, F6]
    rw [if_neg k1]
    by_cases k2 : i = n ∧ j = n + 1
    · rw [if_pos k2]; right; rw [k2.1, k2.2, F5]
    rw [if_neg k2]; left; rfl
  · intro i j hi hj
    by_cases e : i = j
    · left
      subst e
      rw [Fd i hi]
      unfold S0; rw [if_pos rfl]; exact leB_refl _
    by_cases i1 : i < n
    · by_cases j1 : j < n
      · left; rw [S0_old T i1 j1, Fo i j i1 j1]; exact leB_refl _
      · refine .inr (.inr (.inl ?_))
        have hbi := bar_lt he i1
        rw [S0_old T i1 hbi]
        by_cases j2 : j = n
        · subst j2
          rw [b1, s6, F1 i i1]
          have := half (d i (bar i)) c
          unfold topB
          rw [bar_bar]
          exact this
        · obtain rfl : j = n + 1 := by omega
          rw [b2, s5, F2 i i1]
          have := half (d i (bar i)) (-c)
          unfold topB
          rw [bar_bar, show -(2 * c) = 2 * -c by omega]
          exact this
    · by_cases i2 : i = n
      · subst i2
        by_cases j1 : j < i
        · refine .inr (.inr (.inl ?_))
          rw [b1, s5, S0_old T (bar_lt he j1) j1, F3 j j1, addB_comm', show -(2 * c) = 2 * -c by omega]
          exact half (d (bar j) j) (-c)
        · obtain rfl : j = i + 1 := by omega
          left; rw [s5, F5]; exact leB_refl _
      · obtain rfl : i = n + 1 := by omega
        by_cases j1 : j < n
        · refine .inr (.inr (.inl ?_))
          rw [b2, s6, S0_old T (bar_lt he j1) j1, F4 j j1, addB_comm']
          exact half (d (bar j) j) c
        · obtain rfl : j = n := by omega
          left; rw [s6, F6]; exact leB_refl _
end Go.Proofs.YtbafkjhlogkllaaGreatDoor.Oc

/- Octagons: one variable more: the big square, and what its closing comes to. Plain facts. -/
namespace Go.Proofs.YtbafkjhlogkllaaGreatDoor.Oc
set_option linter.unusedVariables false
/-- A square with room for one variable more. -/
def extM (n : Nat) (d : Mat) : Mat := fun i j => if i < n ∧ j < n then d i j else none
def gd2 (d : Mat) (p q : Nat) (c : Int) : Mat := grM (grM d p q c) (bar q) (bar p) c
theorem gr_at (d : Mat) (p q : Nat) (c : Int) (i j : Nat) : grM d p q c i j = if i = p ∧ j = q then minB (d i j) (some c) else d i j := by
  unfold grM setM
  by_cases h : i = p ∧ j = q
  · rw [if_pos h, if_pos h, h.1, h.2]
  · rw [if_neg h, if_neg h]
theorem ext_no {n : Nat} {d : Mat} {i j : Nat} (h : ¬ (i < n ∧ j < n)) : extM n d i j = none := by unfold extM; rw [if_neg h]
theorem min_none (c : Int) : minB none (some c) = some c := rfl
theorem big1 {n iy : Nat} {d : Mat} {c : Int} (T : Tight n d) (hiy : iy < n) {i j : Nat} (hi : i < n + 2) (hj : j < n + 2) : start (gd2 (gd2 (extM n d) iy n c) (bar iy) (n + 1) (-c)) i j = S1 n iy c d i j := by
  have he := T.even
  have hb := bar_lt he hiy
  have hne := bar_ne iy
  have b1 : bar n = n + 1 := by unfold bar; rw [if_pos he]
  have b2 : bar (n + 1) = n := by unfold bar; rw [if_neg (by omega)]; omega
  have G : ∀ i j, gd2 (gd2 (extM n d) iy n c) (bar iy) (n + 1) (-c) i j = if i = n ∧ j = iy then some (-c) else if i = bar iy ∧ j = n + 1 then some (-c) else if i = n + 1 ∧ j = bar iy then some c else if i = iy ∧ j = n then some c else extM n d i j := by
    intro i j
    unfold gd2
    rw [b1, b2, bar_bar]
    simp only [gr_at]
    by_cases k1 : i = n ∧ j = iy
    · rw [if_pos k1, if_pos k1, if_neg (by omega), if_neg (by omega), if_neg (by omega), ext_no (by omega)]; rfl
    rw [if_neg k1, if_neg k1]
    by_cases k2 : i = bar iy ∧ j = n + 1
    · rw [if_pos k2, if_pos k2, if_neg (by omega), if_neg (by omega), ext_no (by omega)]; rfl
    rw [if_neg k2, if_neg k2]
    by_cases k3 : i = n + 1 ∧ j = bar iy
    · rw [if_pos k3, if_pos k3, if_neg (by omega), ext_no (by omega)]; rfl
    rw [if_neg k3, if_neg k3]
    by_cases k4 : i = iy ∧ j = n
    · rw [if_pos k4, if_pos k4, ext_no (by omega)]; rfl
    rw [if_neg k4, if_neg k4]
  unfold start S1
  by_cases e : i = j
  · rw [if_pos e, if_pos e, G, if_neg (by omega), if_neg (by omega), if_neg (by omega), if_neg (by omega)]
    unfold extM
    by_cases k : i < n ∧ j < n
    · rw [if_pos k, ← e, T.clo.diag i k.1]; rfl
    · rw [if_neg k]; rfl
  rw [if_neg e, if_neg e, G]
  by_cases k0 : i < n ∧ j < n
  · rw [if_pos k0, if_neg (by omega), if_neg (by omega), if_neg (by omega), if_neg (by omega)]
    unfold extM; rw [if_pos k0]
  rw [if_neg k0, ext_no k0]
  by_cases k1 : i = iy ∧ j = n
  · simp only [if_pos k1]
    rw [if_neg (by omega), if_neg (by omega), if_neg (by omega)]
  simp only [if_neg k1]
theorem big0 {n : Nat} {d : Mat} {c : Int} (T : Tight n d) {i j : Nat} (hi : i < n + 2) (hj : j < n + 2) : start (gd2 (gd2 (extM n d) (n + 1) n (2 * c)) n (n + 1) (2 * -c)) i j = S0 n c d i j := by
  have he := T.even
  have b1 : bar n = n + 1 := by unfold bar; rw [if_pos he]
  have b2 : bar (n + 1) = n := by unfold bar; rw [if_neg (by omega)]; omega
  have G : ∀ i j, gd2 (gd2 (extM n d) (n + 1) n (2 * c)) n (n + 1) (2 * -c) i j = if i = n ∧ j = n + 1 then some (-(2 * c)) else if i = n + 1 ∧ j = n then some (2 * c) else extM n d i j := by
    intro i j
    unfold gd2
    rw [b1, b2]
    simp only [gr_at]
    by_cases k1 : i = n ∧ j = n + 1
    · rw [if_pos k1, if_pos k1, if_neg (by omega), ext_no (by omega), min_none, show 2 * -c = -(2 * c) by omega]
      simp [k1, minB]
    rw [if_neg k1, if_neg k1]
    by_cases k2 : i = n + 1 ∧ j = n
    · rw [if_pos k2, if_pos k2, ext_no (by omega), min_none]
      simp [k2, minB]
    rw [if_neg k2, if_neg k2]
    simp [k1, k2]
  unfold start S0
  by_cases e : i = j
  · rw [if_pos e, if_pos e, G, if_neg (by omega), if_neg (by omega)]
    unfold extM
    by_cases k : i < n ∧ j < n
    · rw [if_pos k, ← e, T.clo.diag i k.1]; rfl
    · rw [if_neg k]; rfl
  rw [if_neg e, if_neg e, G]
  by_cases k0 : i < n ∧ j < n
  · rw [if_pos k0, if_neg (by omega), if_neg (by omega)]
    unfold extM; rw [if_pos k0]
  rw [if_neg k0, ext_no k0]
  by_cases k1 : i = n + 1 ∧ j = n
  · simp only [if_pos k1]
    rw [if_neg (by omega)]
  simp only [if_neg k1]

/-- What the reference's big square is, ahead of its closing. -/
def begM (n : Nat) (s : Int) (y : Nat) (c : Int) (d : Mat) : Mat :=
  if s = 0 then gd2 (gd2 (extM n d) (n + 1) n (2 * c)) n (n + 1) (2 * -c)
  else gd2 (gd2 (extM n d) (if s = 1 then 2 * y else 2 * y + 1) n c) (bar (if s = 1 then 2 * y else 2 * y + 1)) (n + 1) (-c)
/-- The big square, closed: the variable moved. -/
theorem big_done {g : Int → Int} {n m x y : Nat} {d : Mat} {s c : Int} (T : Tight n d) (hx : 2 * x = n) (hy : 2 * y + 1 < n) (hs : s = 1 ∨ s = -1 ∨ s = 0) (hm : ∀ i j, i < n → j < n → ∀ v, d i j = some v → v.natAbs ≤ m) (hcm : c.natAbs ≤ m) (hg : ∀ v : Int, v.natAbs ≤ 12 * m → g v = v) :
    (∀ t i j, i < n + 2 → j < n + 2 → rO g (n + 2) (start (begM n s y c d)) (t + 1) i j = mvO d x s y c i j) ∧ (∀ t i, i < n + 2 → leB (some 0) (runO g (rO g (n + 2) (start (begM n s y c d)) t) (oRnd (n + 2) i) i i)) ∧ Tight (n + 2) (mvO d x s y c) ∧ ∀ i j, i < n + 2 → j < n + 2 → ∀ v, mvO d x s y c i j = some v → v.natAbs ≤ 3 * m := by
  have he := T.even
  have he2 : (n + 2) % 2 = 0 := by omega
  have oixl : oLt n (oix s y) := oix_lt hy s
  have oixl' : oLt n (oix (-s) y) := oix_lt hy (-s)
  have st0 : ∀ i, i < n → stO x s y i = some i := fun i hi => by unfold stO; rw [if_neg (by omega), if_neg (by omega)]
  have st1 : stO x s y n = oix s y := by unfold stO; rw [if_pos hx.symm]
  have st2 : stO x s y (n + 1) = oix (-s) y := by unfold stO; rw [if_neg (by omega), if_pos (by omega)]
  have hst : ∀ i, i < n + 2 → oLt n (stO x s y i) := fun i hi => by
    by_cases h1 : i < n
    · rw [st0 i h1]; exact h1
    · by_cases h2 : i = n
      · rw [h2, st1]; exact oixl
      · rw [show i = n + 1 by omega, st2]; exact oixl'
  have sh0 : ∀ i, i < n → shO x c i = 0 := fun i hi => by unfold shO; rw [if_neg (by omega), if_neg (by omega)]
  have sh1 : shO x c n = c := by unfold shO; rw [if_pos hx.symm]
  have sh2 : shO x c (n + 1) = -c := by unfold shO; rw [if_neg (by omega), if_pos (by omega)]
  have shl : ∀ i, (shO x c i).natAbs ≤ m := fun i => by unfold shO; split; exact hcm; split; omega; omega
  have TF := tight_mv T he2 (x := x) (y := y) (c := c) hs hst
  have apl : ∀ a b, oLt n a → oLt n b → ∀ v, apM d a b = some v → v.natAbs ≤ m := by
    have top : ∀ j, j < n → ∀ v, topB d j = some v → v.natAbs ≤ m := by
      intro j hj v hv
      unfold topB at hv
      cases e : d (bar j) j with
      | none => rw [e] at hv; cases hv
      | some u =>
        have := hm _ _ (bar_lt he hj) hj u e
        rw [e] at hv
        simp [halfB] at hv
        omega
    intro a b ha hb v hv
    cases a with
    | none =>
      cases b with
      | none => have : (0 : Int) = v := by simpa [apM] using hv
                omega
      | some j => exact top j hb v hv
    | some i =>
      cases b with
      | none => exact top _ (bar_lt he ha) v hv
      | some j => exact hm i j ha hb v hv
  have szF : ∀ i j, i < n + 2 → j < n + 2 → ∀ v, mvO d x s y c i j = some v → v.natAbs ≤ 3 * m := by
    intro i j hi hj v hv
    unfold mvO at hv
    have a1 := shl i
    have a2 := shl j
    cases e : apM d (stO x s y i) (stO x s y j) with
    | none => rw [e] at hv; cases hv
    | some u =>
      have := apl _ _ (hst i hi) (hst j hj) u e
      rw [e] at hv
      simp [addB] at hv
      omega
  have fin : ∀ S : Mat, (∀ i, i < n + 2 → S i i = some 0) → (∀ i j, i < n + 2 → j < n + 2 → S i j = none ∨ S i j = mvO d x s y c i j) → Fin0 g (n + 2) (3 * m) S (mvO d x s y c) := fun S h1 h2 =>
    ⟨szF, fun v hv => hg v (by omega), fun i hi => TF.clo.diag i hi, h1, h2⟩
  have main : ∀ S : Mat, (∀ i j, i < n + 2 → j < n + 2 → start (begM n s y c d) i j = S i j) → (∀ i, i < n + 2 → S i i = some 0) → (∀ i j, i < n + 2 → j < n + 2 → S i j = none ∨ S i j = mvO d x s y c i j) →
      (∀ i j, i < n + 2 → j < n + 2 → leB (S i j) (mvO d x s y c i j) ∨ (∃ k, k < n + 2 ∧ leB (addB (S i k) (S k j)) (mvO d x s y c i j)) ∨ leB (halfB (addB (S i (bar i)) (S (bar j) j))) (mvO d x s y c i j) ∨ ∃ k, k < i ∧ leB (addB (S i k) (mvO d x s y c k j)) (mvO d x s y c i j)) →
      (∀ t i j, i < n + 2 → j < n + 2 → rO g (n + 2) (start (begM n s y c d)) (t + 1) i j = mvO d x s y c i j) ∧ (∀ t i, i < n + 2 → leB (some 0) (runO g (rO g (n + 2) (start (begM n s y c d)) t) (oRnd (n + 2) i) i i)) := by
    intro S e d0 p w
    have f := fin (start (begM n s y c d)) (fun i hi => by rw [e i i hi hi]; exact d0 i hi) (fun i j hi hj => by rw [e i j hi hj]; exact p i j hi hj)
    have w' : ∀ i j, i < n + 2 → j < n + 2 → leB (start (begM n s y c d) i j) (mvO d x s y c i j) ∨ (∃ k, k < n + 2 ∧ leB (addB (start (begM n s y c d) i k) (start (begM n s y c d) k j)) (mvO d x s y c i j)) ∨ leB (halfB (addB (start (begM n s y c d) i (bar i)) (start (begM n s y c d) (bar j) j))) (mvO d x s y c i j) ∨ ∃ k, k < i ∧ leB (addB (start (begM n s y c d) i k) (mvO d x s y c k j)) (mvO d x s y c i j) := by
      intro i j hi hj
      rcases w i j hi hj with h | ⟨k, hk, h⟩ | h | ⟨k, hk, h⟩
      · exact .inl (by rw [e i j hi hj]; exact h)
      · exact .inr (.inl ⟨k, hk, by rw [e i k hi hk, e k j hk hj]; exact h⟩)
      · exact .inr (.inr (.inl (by rw [e i _ hi (bar_lt he2 hi), e _ j (bar_lt he2 hj) hj]; exact h)))
      · exact .inr (.inr (.inr ⟨k, hk, by rw [e i k hi (by omega)]; exact h⟩))
    exact ⟨oct_round he2 f TF w', oct_never he2 f TF w'⟩
  refine (fun (k : _ ∧ _) => ⟨k.1, k.2, TF, szF⟩) ?_
  by_cases h0 : s = 0
  · subst h0
    have o0 : oix 0 y = none := rfl
    have o0' : oix (-0) y = none := rfl
    rw [o0] at st1
    rw [o0'] at st2
    have eb : begM n 0 y c d = gd2 (gd2 (extM n d) (n + 1) n (2 * c)) n (n + 1) (2 * -c) := by unfold begM; rw [if_pos rfl]
    have w := hw0 (F := mvO d x 0 y c) (c := c) T (fun i j hi hj => by unfold mvO; rw [st0 i hi, st0 j hj, sh0 i hi, sh0 j hj, Int.sub_self, addB_zero]; rfl) (fun i hi => TF.clo.diag i hi)
      (fun i hi => by unfold mvO; rw [st0 i hi, st1, sh0 i hi, sh1, Int.sub_zero]; rfl) (fun i hi => by unfold mvO; rw [st0 i hi, st2, sh0 i hi, sh2, Int.sub_zero]; rfl)
      (fun j hj => by unfold mvO; rw [st0 j hj, st1, sh0 j hj, sh1, Int.zero_sub]; rfl) (fun j hj => by unfold mvO; rw [st0 j hj, st2, sh0 j hj, sh2, Int.zero_sub, Int.neg_neg]; rfl)
      (by unfold mvO; rw [st1, st2, sh1, sh2]; simp [apM, addB]; omega) (by unfold mvO; rw [st1, st2, sh1, sh2]; simp [apM, addB]; omega)
    exact main (S0 n c d) (fun i j hi hj => by rw [eb]; exact big0 T hi hj) (fun i hi => by unfold S0; rw [if_pos rfl]) w.1 w.2
  · obtain ⟨iy, hiyd⟩ : ∃ k, k = if s = 1 then 2 * y else 2 * y + 1 := ⟨_, rfl⟩
    have hiy : iy < n := by rw [hiyd]; split <;> omega
    have o1 : oix s y = some iy := by
      rw [hiyd]
      rcases hs with rfl | rfl | rfl
      · rfl
      · rfl
      · exact absurd rfl h0
    have o2 : oix (-s) y = some (bar iy) := by rw [oix_bar hs, o1]; rfl
    rw [o1] at st1
    rw [o2] at st2
    have eb : begM n s y c d = gd2 (gd2 (extM n d) iy n c) (bar iy) (n + 1) (-c) := by unfold begM; rw [if_neg h0, ← hiyd]
    have sq : ∀ i, i < n + 2 → stO x s y i = some (qI n iy i) := fun i hi => by
      unfold qI
      by_cases h1 : i = n
      · rw [if_pos h1, h1, st1]
      · by_cases h2 : i = n + 1
        · rw [if_neg h1, if_pos h2, h2, st2]
        · rw [if_neg h1, if_neg h2, st0 i (by omega)]
    have sI : ∀ i, i < n + 2 → shO x c i = hI n c i := fun i hi => by
      unfold hI
      by_cases h1 : i = n
      · rw [if_pos h1, h1, sh1]
      · by_cases h2 : i = n + 1
        · rw [if_neg h1, if_pos h2, h2, sh2]
        · rw [if_neg h1, if_neg h2, sh0 i (by omega)]
    have w := hw1 (F := mvO d x s y c) (c := c) T hiy (fun i j hi hj => by unfold mvO; rw [sq i hi, sq j hj, sI i hi, sI j hj]; rfl)
    exact main (S1 n iy c d) (fun i j hi hj => by rw [eb]; exact big1 T hiy hi hj) (fun i hi => by unfold S1; rw [if_pos rfl]) w.1 w.2
end Go.Proofs.YtbafkjhlogkllaaGreatDoor.Oc

/- Octagons: one variable more: lists against squares; the reference's closing of the big octagon. -/
namespace Go.Proofs.YtbafkjhlogkllaaGreatDoor.Oc
open Go.RowKit
set_option linter.unusedVariables false

/-- The first k cells copied into a wider square. -/
def bgO (n m : Nat) (l : List Ce) : Nat → List Ce
  | 0 => List.replicate (m * m) ceZ
  | k + 1 => (bgO n m l k).set (k / n * m + k % n) (l.getD k ceZ)
theorem bgO_len (n m : Nat) (l : List Ce) : ∀ k, (bgO n m l k).length = m * m := by
  intro k
  induction k with
  | zero => simp [bgO]
  | succ k ih => simp only [bgO, List.length_set, ih]
theorem bgO_idx {n m k : Nat} (hnm : n ≤ m) (hk : k < n * n) : k / n < n ∧ k % n < n ∧ k / n * m + k % n < m * m := by
  have n0 : 0 < n := Nat.pos_of_ne_zero (fun e => by subst e; simp at hk)
  have h1 : k / n < n := Nat.div_lt_of_lt_mul hk
  have h2 : k % n < n := Nat.mod_lt _ n0
  exact ⟨h1, h2, idx_in (by omega) (by omega)⟩
theorem bgO_at {n m : Nat} {l : List Ce} (hnm : n ≤ m) : ∀ k, k ≤ n * n → ∀ p q, p < m → q < m → (bgO n m l k).getD (p * m + q) ceZ = if p < n ∧ q < n ∧ p * n + q < k then l.getD (p * n + q) ceZ else ceZ := by
  intro k
  induction k with
  | zero =>
    intro _ p q hp hq
    rw [if_neg (by omega)]
    have := idx_in hp hq
    simp [bgO, this]
  | succ k ih =>
    intro hk p q hp hq
    obtain ⟨h1, h2, h3⟩ := bgO_idx hnm (show k < n * n by omega)
    show ((bgO n m l k).set _ _).getD _ _ = _
    rw [getD_set (by rw [bgO_len]; exact h3)]
    have ek : k / n * n + k % n = k := by rw [Nat.mul_comm]; exact Nat.div_add_mod _ _
    by_cases e : p = k / n ∧ q = k % n
    · rw [if_pos ((idx_inj hq (by omega)).2 e), e.1, e.2, ek, if_pos ⟨h1, h2, by omega⟩]
    · rw [if_neg (fun h => e ((idx_inj hq (by omega)).1 h)), ih (by omega) p q hp hq]
      by_cases c : p < n ∧ q < n ∧ p * n + q < k
      · rw [if_pos c, if_pos ⟨c.1, c.2.1, by omega⟩]
      · rw [if_neg c, if_neg]
        rintro ⟨c1, c2, c3⟩
        have : p * n + q = k := by
          apply Nat.le_antisymm (by omega)
          apply Nat.le_of_not_lt
          intro h
          exact c ⟨c1, c2, h⟩
        rw [← ek] at this
        exact e ((idx_inj c2 h2).1 this)
theorem bgO_mat {n m : Nat} {l : List Ce} (hnm : n ≤ m) {p q : Nat} (hp : p < m) (hq : q < m) : matOf m (bgO n m l (n * n)) p q = extM n (matOf n l) p q := by
  unfold matOf extM
  rw [bgO_at hnm _ (Nat.le_refl _) p q hp hq]
  by_cases c : p < n ∧ q < n
  · rw [if_pos ⟨c.1, c.2, idx_in c.1 c.2⟩, if_pos c]
  · rw [if_neg (fun h => c ⟨h.1, h.2.1⟩), if_neg c]; rfl
theorem Gd.set {L : List Ce} (h : Gd L) {k : Nat} {C : Ce} (hC : C.h = false → C.m = 0) : Gd (L.set k C) := by
  intro x hx
  rw [List.length_set] at hx
  by_cases hk : k < L.length
  · rw [getD_set hk]
    split
    · exact hC
    · exact h x hx
  · rw [List.set_eq_of_length_le (by omega)]; exact h x hx
theorem Gd.bg {n m : Nat} {l : List Ce} (h : Gd l) : ∀ k, Gd (bgO n m l k) := by
  intro k
  induction k with
  | zero => intro x hx _; simp [bgO, List.getD, List.getElem?_replicate]; split <;> rfl
  | succ k ih =>
    refine ih.set ?_
    by_cases hk : k < l.length
    · exact h k hk
    · intro _; rw [List.getD, List.getElem?_eq_none (by omega)]; rfl
theorem InR.set {L : List Ce} (h : InR L) {k : Nat} {C : Ce} (hC : -9223372036854775808 ≤ C.m ∧ C.m ≤ 9223372036854775807) : InR (L.set k C) := by
  intro x hx
  rw [List.length_set] at hx
  by_cases hk : k < L.length
  · rw [getD_set hk]
    split
    · exact hC
    · exact h x hx
  · rw [List.set_eq_of_length_le (by omega)]; exact h x hx
theorem InR.bg {n m : Nat} {l : List Ce} (h : InR l) : ∀ k, InR (bgO n m l k) := by
  intro k
  induction k with
  | zero =>
    intro x hx
    have : (bgO n m l 0).getD x ceZ = ceZ := by simp [bgO, List.getD, List.getElem?_replicate]; split <;> rfl
    rw [this]; decide
  | succ k ih =>
    refine ih.set ?_
    by_cases hk : k < l.length
    · exact h k hk
    · rw [List.getD, List.getElem?_eq_none (by omega)]; decide
/-- The big square with both bounds. -/
def asO (n : Nat) (l : List Ce) (x : Nat) (s : Int) (y : Nat) (c : Int) : List Ce :=
  bdL (n + 2) (bdL (n + 2) (bgO n (n + 2) l (n * n)) (bd1 1 x (-s) y) (bd2 1 x (-s) y) (bdC 1 (-s) c)) (bd1 (-1) x s y) (bd2 (-1) x s y) (bdC (-1) s (-c))
theorem asO_len (n : Nat) (l : List Ce) (x : Nat) (s : Int) (y : Nat) (c : Int) : (asO n l x s y c).length = (n + 2) * (n + 2) := by unfold asO; rw [bdL_len, bdL_len, bgO_len]
theorem gd_cong {m : Nat} (he : m % 2 = 0) {d e : Mat} (h : ∀ p q, p < m → q < m → d p q = e p q) {i j : Nat} (hi : i < m) (hj : j < m) (c : Int) : ∀ p q, p < m → q < m → gdM d i j c p q = gd2 e i j c p q := by
  intro p q hp hq
  have g : ∀ (a b : Mat) (i j : Nat), i < m → j < m → (∀ p q, p < m → q < m → a p q = b p q) → ∀ p q, p < m → q < m → grdM a i j c p q = grM b i j c p q := by
    intro a b i j hi hj hab p q hp hq
    unfold grdM grM setM
    rw [hab i j hi hj, hab p q hp hq]
  exact g _ _ _ _ (bar_lt he hj) (bar_lt he hi) (g d e i j hi hj h) p q hp hq
theorem asO_mat {n x y : Nat} {l : List Ce} {s c : Int} (he : n % 2 = 0) (hx : 2 * x = n) (hy : 2 * y + 1 < n) (hs : s = 1 ∨ s = -1 ∨ s = 0) : ∀ p q, p < n + 2 → q < n + 2 → matOf (n + 2) (asO n l x s y c) p q = begM n s y c (matOf n l) p q := by
  have he2 : (n + 2) % 2 = 0 := by omega
  have hx2 : 2 * x + 1 < n + 2 := by omega
  have hy2 : 2 * y + 1 < n + 2 := by omega
  obtain ⟨y1, y2⟩ := bar_even y
  obtain ⟨x1, x2⟩ := bar_even x
  rw [hx] at x1 x2
  intro p q hp hq
  unfold asO
  rw [mat_bd he2 (by rw [bdL_len, bgO_len]) (bd1_lt hx2 hy2) (bd2_lt hx2 hy2) _ p q hp hq]
  have in1 : ∀ p q, p < n + 2 → q < n + 2 → matOf (n + 2) (bdL (n + 2) (bgO n (n + 2) l (n * n)) (bd1 1 x (-s) y) (bd2 1 x (-s) y) (bdC 1 (-s) c)) p q = gd2 (extM n (matOf n l)) (bar (bd2 1 x (-s) y)) (bd1 1 x (-s) y) (bdC 1 (-s) c) p q := by
    intro p q hp hq
    rw [mat_bd he2 (bgO_len _ _ _ _) (bd1_lt hx2 hy2) (bd2_lt hx2 hy2) _ p q hp hq]
    exact gd_cong he2 (fun p q hp hq => bgO_mat (by omega) hp hq) (bar_lt he2 (bd2_lt hx2 hy2)) (bd1_lt hx2 hy2) _ p q hp hq
  rw [gd_cong he2 in1 (bar_lt he2 (bd2_lt hx2 hy2)) (bd1_lt hx2 hy2) _ p q hp hq]
  unfold begM
  rcases hs with rfl | rfl | rfl
  · simp [bd1, bd2, bdC, bdI, hx, y1, y2]
  · simp [bd1, bd2, bdC, bdI, hx, y1, y2]
  · simp [bd1, bd2, bdC, bdI, hx, x1, x2]
theorem asO_gd {n x y : Nat} {l : List Ce} {s c : Int} (he : n % 2 = 0) (hx : 2 * x = n) (hy : 2 * y + 1 < n) (h : Gd l) (k : InR l) (hc : c.natAbs ≤ 1048576) : Gd (asO n l x s y c) ∧ InR (asO n l x s y c) := by
  have he2 : (n + 2) % 2 = 0 := by omega
  have hx2 : 2 * x + 1 < n + 2 := by omega
  have hy2 : 2 * y + 1 < n + 2 := by omega
  have step : ∀ (L : List Ce) (i j : Nat) (v : Int), L.length = (n + 2) * (n + 2) → i < n + 2 → j < n + 2 → v.natAbs ≤ 2097152 → Gd L → InR L → Gd (bdL (n + 2) L i j v) ∧ InR (bdL (n + 2) L i j v) := by
    intro L i j v hL hi hj hv g r
    have p1 : bar j * (n + 2) + i < L.length := by rw [hL]; exact idx_in (bar_lt he2 hj) hi
    have p2 : bar i * (n + 2) + j < (lowL L (bar j * (n + 2) + i) v).length := by rw [lowL_len, hL]; exact idx_in (bar_lt he2 hi) hj
    exact ⟨(g.low p1).low p2, (r.low p1 (by omega)).low p2 (by omega)⟩
  have v1 : (bdC 1 (-s) c).natAbs ≤ 2097152 := by unfold bdC; split <;> omega
  have v2 : (bdC (-1) s (-c)).natAbs ≤ 2097152 := by unfold bdC; split <;> omega
  obtain ⟨a1, a2⟩ := step _ (bd1 1 x (-s) y) (bd2 1 x (-s) y) _ (bgO_len n (n + 2) l (n * n)) (bd1_lt hx2 hy2) (bd2_lt hx2 hy2) v1 (h.bg _) (k.bg _)
  exact step _ _ _ _ (by rw [bdL_len, bgO_len]) (bd1_lt hx2 hy2) (bd2_lt hx2 hy2) v2 a1 a2

/-- What is read of the big square. -/
def swI (n x i : Nat) : Nat := if i / 2 = x then n + i % 2 else i
def ouO (n : Nat) (F : List Ce) (x : Nat) : Nat → List Ce
  | 0 => List.replicate (n * n) ceZ
  | k + 1 => (ouO n F x k).set k (F.getD (swI n x (k / n) * (n + 2) + swI n x (k % n)) ceZ)
theorem ouO_len (n : Nat) (F : List Ce) (x : Nat) : ∀ k, (ouO n F x k).length = n * n := by
  intro k
  induction k with
  | zero => simp [ouO]
  | succ k ih => simp only [ouO, List.length_set, ih]
theorem swI_lt {n x i : Nat} (hi : i < n) : swI n x i < n + 2 := by unfold swI; split <;> omega
theorem ouO_at {n : Nat} {F : List Ce} {x : Nat} : ∀ k, k ≤ n * n → ∀ p, p < k → (ouO n F x k).getD p ceZ = F.getD (swI n x (p / n) * (n + 2) + swI n x (p % n)) ceZ := by
  intro k
  induction k with
  | zero => intro _ p hp; omega
  | succ k ih =>
    intro hk p hp
    show ((ouO n F x k).set k _).getD p ceZ = _
    rw [getD_set (by rw [ouO_len]; omega)]
    by_cases e : p = k
    · rw [if_pos e, e]
    · rw [if_neg e]; exact ih (by omega) p (by omega)
theorem mv_sw {n x x0 y : Nat} {d : Mat} {s c : Int} (hx0 : 2 * x0 = n) {i j : Nat} (hi : i < n) (hj : j < n) : mvO d x0 s y c (swI n x i) (swI n x j) = mvO d x s y c i j := by
  have st : ∀ i, i < n → stO x0 s y (swI n x i) = stO x s y i := by
    intro i hi
    unfold swI stO
    by_cases h : i / 2 = x
    · rw [if_pos h]
      by_cases k : i % 2 = 0
      · rw [if_pos (by omega), if_pos (by omega)]
      · rw [if_neg (by omega), if_pos (by omega), if_neg (by omega), if_pos (by omega)]
    · rw [if_neg h, if_neg (by omega), if_neg (by omega), if_neg (by omega), if_neg (by omega)]
  have sh : ∀ i, i < n → shO x0 c (swI n x i) = shO x c i := by
    intro i hi
    unfold swI shO
    by_cases h : i / 2 = x
    · rw [if_pos h]
      by_cases k : i % 2 = 0
      · rw [if_pos (by omega), if_pos (by omega)]
      · rw [if_neg (by omega), if_pos (by omega), if_neg (by omega), if_pos (by omega)]
    · rw [if_neg h, if_neg (by omega), if_neg (by omega), if_neg (by omega), if_neg (by omega)]
  unfold mvO
  rw [st i hi, st j hj, sh i hi, sh j hj]
theorem ou_allO {n x x0 y : Nat} {d : Mat} {s c : Int} (hx0 : 2 * x0 = n) : ouO n (rowOf (n + 2) (mvO d x0 s y c)) x (n * n) = rowOf n (mvO d x s y c) := by
  refine extO (ouO_len _ _ _ _) fun p hp => ?_
  have n0 : 0 < n := Nat.pos_of_ne_zero (fun z => by subst z; simp at hp)
  have hi := Nat.div_lt_of_lt_mul hp
  have hj := Nat.mod_lt p n0
  rw [ouO_at _ (Nat.le_refl _) p hp, rowO_get (idx_in (swI_lt hi) (swI_lt hj))]
  obtain ⟨e1, e2⟩ := div_at (n := n + 2) (i := swI n x (p / n)) (swI_lt (x := x) hj)
  rw [e1, e2, mv_sw hx0 hi hj]

/-- The reference's closing of an octagon of which each place is come to in one round. -/
theorem closedBig (N : Int) (n len c b off : Nat) (l : List Ce) (W : World) (hN : 2 * N = n) (hn : 2 ≤ n ∧ n ≤ 10) (he : n % 2 = 0) (hLl : l.length = n * n) (gd : Gd l) (inR : InR l) (S F : Mat) (mat : ∀ p q, p < n → q < n → matOf n l p q = S p q) (r : ∀ t i j, i < n → j < n → rO wrap64 n (start S) (t + 1) i j = F i j) (nv : ∀ t i, i < n → leB (some 0) (runO wrap64 (rO wrap64 n (start S) t) (oRnd n i) i i)) (sz : ∀ i j, i < n → j < n → ∀ v, F i j = some v → v.natAbs ≤ 1099511627776) (hl : Hid (len = l.length)) (hR : RowC W b off l) :
    Calls Tryz.prog 11 #[(.agg #[.int .i64 N, (.slice (some ⟨b, off, none⟩) len c)])] W fun e w' => NrPost W N len True (rowOf n F) e w' := by
  have hDl : (diagL n l n).length = n * n := by rw [diagL_len, hLl]
  have st : ∀ p q, p < n → q < n → matOf n (diagL n l n) p q = start S p q := by
    intro p q hp hq
    rw [matOf_start hLl p q hp hq]
    unfold start
    rw [mat p q hp hq]
  have rt := matOf_rt he hDl st
  refine (closedOct_any N n b off c len l W hN hn he hR hl (by show _ = _; rw [hl.out]; exact hLl) inR ?_).mono ?_
  · intro k p q hp hq
    rw [rt 5 p q hp hq, rt 6 p q hp hq]
    rw [r 4 p q hp hq, r 5 p q hp hq]
    exact leB_refl _
  · rintro e w' ⟨hb, ⟨t, i, ht, hi, hneg, rfl⟩ | ⟨t, g, cap, ht, hpos, hsame, rfl, hg, hF, hR'⟩⟩
    · exfalso
      have k := nv t i hi
      have ok := pre_ok (n := n) (i := i) (by omega)
      have e := matOf_run he (oRnd n i) (rtL n (diagL n l n) t) (rO wrap64 n (start S) t) (by rw [rtL_len]; exact hDl) ok (rt t) i i hi hi
      rw [← e] at k
      have G : Gd (runL n (rtL n (diagL n l n) t) (oRnd n i)) := Gd.run he _ _ (by rw [rtL_len]; exact hDl) ok ((gd.diag hLl n (Nat.le_refl n)).rt he hDl t)
      have hx : i * n + i < (runL n (rtL n (diagL n l n) t) (oRnd n i)).length := by rw [runL_len, rtL_len, hDl]; exact idx_in hi hi
      have gc := G _ hx
      unfold matOf at k
      obtain ⟨⟨ch, cm⟩, hc⟩ : ∃ C, C = (runL n (rtL n (diagL n l n) t) (oRnd n i)).getD (i * n + i) ceZ := ⟨_, rfl⟩
      rw [← hc] at k gc hneg
      cases ch
      · have := gc rfl
        simp at hneg this
        omega
      · simp [Ce.bd, leB] at k
        simp at hneg
        omega
    · have hE : ∀ p q, p < n → q < n → matOf n (rtL n (diagL n l n) t) p q = F p q := fun p q hp hq => by
        rw [← hsame, rt (t + 1) p q hp hq]
        exact r t p q hp hq
      have G := (gd.diag hLl n (Nat.le_refl n)).rt he hDl t
      have hLt : (rtL n (diagL n l n) t).length = n * n := by rw [rtL_len, hDl]
      have eL : (rtL n (diagL n l n) t).map clipC = rowOf n F := by
        refine extO (by rw [List.length_map, hLt]) fun p hp => ?_
        have n0 : 0 < n := by omega
        have hpi := Nat.div_lt_of_lt_mul hp
        have hpj := Nat.mod_lt p n0
        have e : p / n * n + p % n = p := by rw [Nat.mul_comm]; exact Nat.div_add_mod _ _
        have e1 : ((rtL n (diagL n l n) t).map clipC).getD p ceZ = clipC ((rtL n (diagL n l n) t).getD p ceZ) := by
          simp [show p < (rtL n (diagL n l n) t).length by omega]
        have e2 : (rtL n (diagL n l n) t).getD p ceZ = ceOf (F (p / n) (p % n)) := by
          rw [G.cell (by omega), ← hE _ _ hpi hpj]
          unfold matOf; rw [e]
        rw [e1, e2]
        have s := sz _ _ hpi hpj
        cases hc : F (p / n) (p % n) with
        | none => simp [ceOf, clipC]
        | some v =>
          have := s v hc
          have a1 : ¬ 1099511627776 < v := by omega
          have a2 : ¬ v < -1099511627776 := by omega
          simp [clipC, ceOf, a1, a2]
      rw [eL] at hR'
      exact ⟨hb, .inr ⟨trivial, g, cap, rfl, hg, hF, hR'⟩⟩
end Go.Proofs.YtbafkjhlogkllaaGreatDoor.Oc
