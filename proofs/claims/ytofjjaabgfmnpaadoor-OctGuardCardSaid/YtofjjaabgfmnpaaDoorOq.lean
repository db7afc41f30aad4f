/- Octagons: the reference's closing of a near one is the tight square. -/
import Derived.Test.YtofjjaabgfmnpaaDoorOo
import Derived.Test.YtofjjaabgfmnpaaDoorOn
import Derived.Test.YtofjjaabgfmnpaaDoorXc
import Derived.Test.YtofjjaabgfmnpaaDoorYj
import Derived.Test.YtofjjaabgfmnpaaDoorOb
namespace Go.Proofs.YtofjjaabgfmnpaaDoor
open Go.RowKit
set_option linter.unusedVariables false

/-- What a near octagon that is right is. -/
structure NearO (n : Nat) (l : List Ce) : Prop where
  he : n % 2 = 0
  hn : n ≤ 8
  len : l.length = n * n
  good : goodL l
  small : ∀ i, i < l.length → (l.getD i ceZ).m.natAbs ≤ 1048576
  coh : Coh n (matOf n l)
theorem near_sizeO {l : List Ce} {B : Int} (h : nearL l B = true) : ∀ i, i < l.length → (l.getD i ceZ).m.natAbs ≤ B.natAbs := by
  intro i hi
  have e : l.getD i ceZ = l[i] := by simp [hi]
  rw [e]
  unfold nearL at h
  simp only [Bool.not_eq_true', List.any_eq_false] at h
  have := h l[i] (List.getElem_mem hi)
  simp [farC, farB] at this
  omega
theorem nearO {N : Int} {l : List Ce} (h : zErr N l = 0) (k : nearL l 1048576 = true) : NearO (nOf N) l := by
  obtain ⟨z1, z2, z3, z4, z5, z6⟩ := zErr_0 h
  exact ⟨z2, z3, z4, z5, by simpa using near_sizeO k, coh_mat (zErr_coh h)⟩
theorem NearO.sz {n : Nat} {l : List Ce} (h : NearO n l) : Sz n 1048576 (matOf n l) := sz_mat h.len h.small
theorem NearO.szt {n : Nat} {l : List Ce} (h : NearO n l) : Sz n 1099511627776 (tg n (matOf n l)) := (sz_tg h.sz h.hn h.he).mono (by omega)
theorem NearO.few {n : Nat} {l : List Ce} (h : NearO n l) : l.length ≤ 64 := by rw [h.len]; exact Nat.mul_le_mul h.hn h.hn
theorem NearO.inR {n : Nat} {l : List Ce} (h : NearO n l) : InR l := fun x hx => by have := h.small x hx; omega
theorem NearO.beg {n : Nat} {l : List Ce} (h : NearO n l) : BegO wrap64 n 1048576 (matOf n l) := by
  refine ⟨h.hn, h.he, by decide, h.coh, fun v hv => ?_, h.sz⟩
  have e : 191 ^ 5 * 1048576 = 266542673508171776 := by decide
  rw [e] at hv
  unfold wrap64
  omega

/-- A cell that says nothing has no number. -/
def Gd (L : List Ce) : Prop := ∀ x, x < L.length → (L.getD x ceZ).h = false → (L.getD x ceZ).m = 0
theorem Gd.low {L : List Ce} (h : Gd L) {x : Nat} (hx : x < L.length) {most : Int} : Gd (lowL L x most) := by
  intro y hy
  rw [lowL_len] at hy
  unfold lowL
  rw [getD_set hx]
  split
  · unfold lowC
    split
    · exact h x hx
    · intro k; simp at k
  · exact h y hy
theorem Gd.app {n : Nat} (he : n % 2 = 0) {L : List Ce} (hL : L.length = n * n) (h : Gd L) {o : Op} (ho : o.ok n) : Gd (appL n L o) := by
  cases o with
  | tig i =>
    simp only [appL, tigL]
    split
    · exact h.low (by rw [hL]; exact idx_in ho (bar_lt he ho))
    · exact h
  | str i j =>
    simp only [appL, strL]
    split
    · exact h.low (by rw [hL]; exact idx_in ho.1 ho.2)
    · exact h
  | rel i j k =>
    simp only [appL, relL]
    split
    · exact h.low (by rw [hL]; exact idx_in ho.1 ho.2.1)
    · exact h
theorem Gd.run {n : Nat} (he : n % 2 = 0) : ∀ (l : List Op) (L : List Ce), L.length = n * n → (∀ o ∈ l, o.ok n) → Gd L → Gd (runL n L l) := by
  intro l
  induction l with
  | nil => intro L _ _ h; exact h
  | cons o l ih => intro L hL hl h; exact ih _ (by rw [appL_len]; exact hL) (fun o' h' => hl o' (List.mem_cons_of_mem _ h')) (h.app he hL (hl o (List.mem_cons_self ..)))
theorem Gd.rt {n : Nat} (he : n % 2 = 0) {L : List Ce} (hL : L.length = n * n) (h : Gd L) : ∀ t, Gd (rtL n L t) := by
  intro t
  induction t with
  | zero => exact h
  | succ t ih => exact Gd.run he _ _ (by rw [rtL_len]; exact hL) (fun o ho => all_ops.1 ho) ih
theorem Gd.diag {n : Nat} {L : List Ce} (hL : L.length = n * n) (h : Gd L) : ∀ k, k ≤ n → Gd (diagL n L k) := by
  intro k
  induction k with
  | zero => intro _; exact h
  | succ k ih => intro hk; exact (ih (by omega)).low (by rw [diagL_len, hL]; exact idx_in (by omega) (by omega))
theorem NearO.gd {n : Nat} {l : List Ce} (h : NearO n l) : Gd l := by
  intro x hx k
  have := h.good x hx
  rw [bd_no (by rw [k]; simp)] at this
  rw [this]; rfl
theorem Gd.cell {L : List Ce} (h : Gd L) {x : Nat} (hx : x < L.length) : L.getD x ceZ = ceOf (L.getD x ceZ).bd := by
  have k := h x hx
  obtain ⟨⟨ch, cm⟩, hc⟩ : ∃ C, C = L.getD x ceZ := ⟨_, rfl⟩
  rw [← hc] at k ⊢
  cases ch
  · have : cm = 0 := k rfl
    subst this; rfl
  · rfl

theorem oRnd_pre (n : Nat) : ∀ k i, ∃ r, oRnd n (i + k) = oRnd n i ++ r := by
  intro k
  induction k with
  | zero => intro i; exact ⟨[], by simp⟩
  | succ k ih =>
    intro i
    obtain ⟨r, hr⟩ := ih i
    exact ⟨r ++ oRow n (i + k) n, by rw [← List.append_assoc, ← hr]; rfl⟩

theorem rowO_len (n : Nat) (d : Mat) : (rowOf n d).length = n * n := by simp [rowOf]
theorem rowO_get {n : Nat} {d : Mat} {p : Nat} (hp : p < n * n) : (rowOf n d).getD p ceZ = ceOf (d (p / n) (p % n)) := by simp [rowOf, hp]
theorem extO {n : Nat} {F : List Ce} {d : Mat} (hL : F.length = n * n) (h : ∀ p, p < n * n → F.getD p ceZ = ceOf (d (p / n) (p % n))) : F = rowOf n d := by
  apply List.ext_getElem?
  intro p
  by_cases hp : p < n * n
  · have e1 : F[p]? = some (F.getD p ceZ) := by simp [show p < F.length by omega]
    have e2 : (rowOf n d)[p]? = some ((rowOf n d).getD p ceZ) := by simp [show p < (rowOf n d).length by rw [rowO_len]; exact hp]
    rw [e1, e2, h p hp, rowO_get hp]
  · rw [List.getElem?_eq_none (by omega), List.getElem?_eq_none (by rw [rowO_len]; omega)]

theorem closedNearO (N : Int) (n len c : Nat) (x : Option Addr) (l : List Ce) (W : World) (hN : 2 * N = n) (h2 : 2 ≤ n) (h : NearO n l) (hl : Hid (len = l.length)) (hA : CsAt W x l) :
    Calls Tryd.prog 25 #[(.agg #[.int .i64 N, (.slice x len c)])] W fun e w' => NrPost W N len (NoNeg n (tg n (matOf n l))) (rowOf n (tg n (matOf n l))) e w' := by
  have one : 1 ≤ l.length := by rw [h.len]; exact Nat.mul_le_mul (show 1 ≤ n by omega) (show 1 ≤ n by omega)
  obtain ⟨b, off, rfl, hR⟩ := row_of hA one
  have B := h.beg
  have hDl : (diagL n l n).length = n * n := by rw [diagL_len, h.len]
  have st := matOf_start h.len
  have rt := matOf_rt h.he hDl st
  have nn : ∀ t, (∀ i, i < n → leB (some 0) (matOf n (rtL n (diagL n l n) t) i i)) → NoNeg n (rO wrap64 n (start (matOf n l)) t) := fun t k i hi => by rw [← rt t i i hi hi]; exact k i hi
  refine (closedOct_any N n b off c len l W hN ⟨h2, h.hn⟩ h.he hR hl (by show _ = _; rw [hl.out]; exact h.len) h.inR ?_).mono ?_
  · intro k p q hp hq
    rw [rt 5 p q hp hq, rt 6 p q hp hq]
    have e : rO wrap64 n (start (matOf n l)) 6 = rO wrap64 n (start (matOf n l)) 5 := B.sixth (nn 5 k)
    rw [e]
    exact leB_refl _
  · rintro e w' ⟨hb, ⟨t, i, ht, hi, hneg, rfl⟩ | ⟨t, g, cap, ht, hpos, hsame, rfl, hg, hF, hR'⟩⟩
    · refine ⟨hb, .inl ⟨fun hN' => ?_, rfl⟩⟩
      have hs := (tg_some h.he h.coh).2 hN'
      obtain ⟨r, hr⟩ := oRnd_pre n (n - i) i
      rw [show i + (n - i) = n by omega] at hr
      have k := B.never hs ht hr i hi
      have ok := pre_ok (n := n) (i := i) (by omega)
      have e := matOf_run h.he (oRnd n i) (rtL n (diagL n l n) t) (rO wrap64 n (start (matOf n l)) t) (by rw [rtL_len]; exact hDl) ok (rt t) i i hi hi
      rw [← e] at k
      have G : Gd (runL n (rtL n (diagL n l n) t) (oRnd n i)) := Gd.run h.he _ _ (by rw [rtL_len]; exact hDl) ok ((h.gd.diag h.len n (Nat.le_refl n)).rt h.he hDl t)
      have hx : i * n + i < (runL n (rtL n (diagL n l n) t) (oRnd n i)).length := by rw [runL_len, rtL_len, hDl]; exact idx_in hi hi
      have gc := G _ hx
      unfold matOf at k
      obtain ⟨⟨ch, cm⟩, hc⟩ : ∃ C, C = (runL n (rtL n (diagL n l n) t) (oRnd n i)).getD (i * n + i) ceZ := ⟨_, rfl⟩
      rw [← hc] at k gc hneg
      cases ch
      · have := gc rfl
        simp at hneg this
        omega
      · simp [Ce.bd, leB] at k
        simp at hneg
        omega
    · obtain ⟨hs, hE⟩ := B.done ht (nn t hpos) (fun p q hp hq => by rw [← rt t p q hp hq, ← rt (t + 1) p q hp hq, hsame]; exact leB_refl _)
      have hyes := (tg_some h.he h.coh).1 hs
      have G := (h.gd.diag h.len n (Nat.le_refl n)).rt h.he hDl t
      have hLl : (rtL n (diagL n l n) t).length = n * n := by rw [rtL_len, hDl]
      have sz := h.szt
      have eL : (rtL n (diagL n l n) t).map clipC = rowOf n (tg n (matOf n l)) := by
        refine extO (by rw [List.length_map, hLl]) fun p hp => ?_
        have n0 : 0 < n := by omega
        have hpi := Nat.div_lt_of_lt_mul hp
        have hpj := Nat.mod_lt p n0
        have e : p / n * n + p % n = p := by rw [Nat.mul_comm]; exact Nat.div_add_mod _ _
        have e1 : ((rtL n (diagL n l n) t).map clipC).getD p ceZ = clipC ((rtL n (diagL n l n) t).getD p ceZ) := by
          simp [show p < (rtL n (diagL n l n) t).length by omega]
        have e2 : (rtL n (diagL n l n) t).getD p ceZ = ceOf (tg n (matOf n l) (p / n) (p % n)) := by
          rw [G.cell (by omega), ← hE _ _ hpi hpj, ← rt t _ _ hpi hpj]
          unfold matOf; rw [e]
        rw [e1, e2]
        have s := sz _ _ hpi hpj
        cases hc : tg n (matOf n l) (p / n) (p % n) with
        | none => simp [ceOf, clipC]
        | some v =>
          have := s v hc
          have a1 : ¬ 1099511627776 < v := by omega
          have a2 : ¬ v < -1099511627776 := by omega
          simp [clipC, ceOf, a1, a2]
      rw [eL] at hR'
      exact ⟨hb, .inr ⟨hyes, g, cap, rfl, hg, hF, hR'⟩⟩
end Go.Proofs.YtofjjaabgfmnpaaDoor
