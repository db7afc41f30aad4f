/- Octagons: the reference's closing of a near one is the tight square. -/
import Derived.Test.YtkaodfmfkafjfaaDoorOo
import Derived.Test.YtkaodfmfkafjfaaDoorOn
import Derived.Test.YtkaodfmfkafjfaaDoorXc
import Derived.Test.YtkaodfmfkafjfaaDoorYj
import Derived.Test.YtkaodfmfkafjfaaDoorOb
import Derived.Test.YtkaodfmfkafjfaaDoorXf
import Derived.Test.YtkaodfmfkafjfaaDoorXa
import Derived.Test.YtkaodfmfkafjfaaDoorXd
import Derived.Test.YtkaodfmfkafjfaaDoorXe
namespace Go.Proofs.YtkaodfmfkafjfaaDoor
open Go.RowKit
set_option linter.unusedVariables false

/-- What a near octagon that is right is. -/
structure NearO (n : Nat) (l : List Ce) : Prop where
  he : n % 2 = 0
  hn : n ≤ 8
  len : l.length = n * n
  good : goodL l
  small : ∀ i, i < l.length → (l.getD i ceZ).m.natAbs ≤ 1048576
  coh : Coh n (matOf n l)
theorem near_sizeO {l : List Ce} {B : Int} (h : nearL l B = true) : ∀ i, i < l.length → (l.getD i ceZ).m.natAbs ≤ B.natAbs := by
  intro i hi
  have e : l.getD i ceZ = l[i] := by simp [hi]
  rw [e]
  unfold nearL at h
  simp only [Bool.not_eq_true', List.any_eq_false] at h
  have := h l[i] (List.getElem_mem hi)
  simp [farC, farB] at this
  omega
theorem nearO {N : Int} {l : List Ce} (h : zErr N l = 0) (k : nearL l 1048576 = true) : NearO (nOf N) l := by
  obtain ⟨z1, z2, z3, z4, z5, z6⟩ := zErr_0 h
  exact ⟨z2, z3, z4, z5, by simpa using near_sizeO k, coh_mat (zErr_coh h)⟩
theorem NearO.sz {n : Nat} {l : List Ce} (h : NearO n l) : Sz n 1048576 (matOf n l) := sz_mat h.len h.small
theorem NearO.szt {n : Nat} {l : List Ce} (h : NearO n l) : Sz n 1099511627776 (tg n (matOf n l)) := (sz_tg h.sz h.hn h.he).mono (by omega)
theorem NearO.few {n : Nat} {l : List Ce} (h : NearO n l) : l.length ≤ 64 := by rw [h.len]; exact Nat.mul_le_mul h.hn h.hn
theorem NearO.inR {n : Nat} {l : List Ce} (h : NearO n l) : InR l := fun x hx => by have := h.small x hx; omega
theorem NearO.beg {n : Nat} {l : List Ce} (h : NearO n l) : BegO wrap64 n 1048576 (matOf n l) := by
  refine ⟨h.hn, h.he, by decide, h.coh, fun v hv => ?_, h.sz⟩
  have e : 191 ^ 5 * 1048576 = 266542673508171776 := by decide
  rw [e] at hv
  unfold wrap64
  omega

/-- A cell that says nothing has no number. -/
def Gd (L : List Ce) : Prop := ∀ x, x < L.length → (L.getD x ceZ).h = false → (L.getD x ceZ).m = 0
theorem Gd.low {L : List Ce} (h : Gd L) {x : Nat} (hx : x < L.length) {most : Int} : Gd (lowL L x most) := by
  intro y hy
  rw [lowL_len] at hy
  unfold lowL
  rw [getD_set hx]
  split
  · unfold lowC
    split
    · exact h x hx
    · intro k; simp at k
  · exact h y hy
theorem Gd.app {n : Nat} (he : n % 2 = 0) {L : List Ce} (hL : L.length = n * n) (h : Gd L) {o : Op} (ho : o.ok n) : Gd (appL n L o) := by
  cases o with
  | tig i =>
    simp only [appL, tigL]
    split
    · exact h.low (by rw [hL]; exact idx_in ho (bar_lt he ho))
    · exact h
  | str i j =>
    simp only [appL, strL]
    split
    · exact h.low (by rw [hL]; exact idx_in ho.1 ho.2)
    · exact h
  | rel i j k =>
    simp only [appL, relL]
    split
    · exact h.low (by rw [hL]; exact idx_in ho.1 ho.2.1)
    · exact h
theorem Gd.run {n : Nat} (he : n % 2 = 0) : ∀ (l : List Op) (L : List Ce), L.length = n * n → (∀ o ∈ l, o.ok n) → Gd L → Gd (runL n L l) := by
  intro l
  induction l with
  | nil => intro L _ _ h; exact h
  | cons o l ih => intro L hL hl h; exact ih _ (by rw [appL_len]; exact hL) (fun o' h' => hl o' (List.mem_cons_of_mem _ h')) (h.app he hL (hl o (List.mem_cons_self ..)))
theorem Gd.rt {n : Nat} (he : n % 2 = 0) {L : List Ce} (hL : L.length = n * n) (h : Gd L) : ∀ t, Gd (rtL n L t) := by
  intro t
  induction t with
  | zero => exact h
  | succ t ih => exact Gd.run he _ _ (by rw [rtL_len]; exact hL) (fun o ho => all_ops.1 ho) ih
theorem Gd.diag {n : Nat} {L : List Ce} (hL : L.length = n * n) (h : Gd L) : ∀ k, k ≤ n → Gd (diagL n L k) := by
  intro k
  induction k with
  | zero => intro _; exact h
  | succ k ih => intro hk; exact (ih (by omega)).low (by rw [diagL_len, hL]; exact idx_in (by omega) (by omega))
theorem NearO.gd {n : Nat} {l : List Ce} (h : NearO n l) : Gd l := by
  intro x hx k
  have := h.good x hx
  rw [bd_no (by rw [k]; simp)] at this
  rw [this]; rfl
theorem Gd.cell {L : List Ce} (h : Gd L) {x : Nat} (hx : x < L.length) : L.getD x ceZ = ceOf (L.getD x ceZ).bd := by
  have k := h x hx
  obtain ⟨⟨ch, cm⟩, hc⟩ : ∃ C, C = L.getD x ceZ := ⟨_, rfl⟩
  rw [← hc] at k ⊢
  cases ch
  · have : cm = 0 := k rfl
    subst this; rfl
  · rfl

theorem oRnd_pre (n : Nat) : ∀ k i, ∃ r, oRnd n (i + k) = oRnd n i ++ r := by
  intro k
  induction k with
  | zero => intro i; exact ⟨[], by simp⟩
  | succ k ih =>
    intro i
    obtain ⟨r, hr⟩ := ih i
    exact ⟨r ++ oRow n (i + k) n, by rw [← List.append_assoc, ← hr]; rfl⟩

theorem rowO_len (n : Nat) (d : Mat) : (rowOf n d).length = n * n := by simp [rowOf]
theorem rowO_get {n : Nat} {d : Mat} {p : Nat} (hp : p < n * n) : (rowOf n d).getD p ceZ = ceOf (d (p / n) (p % n)) := by simp [rowOf, hp]
theorem extO {n : Nat} {F : List Ce} {d : Mat} (hL : F.length = n * n) (h : ∀ p, p < n * n → F.getD p ceZ = ceOf (d (p / n) (p % n))) : F = rowOf n d := by
  apply List.ext_getElem?
  intro p
  by_cases hp : p < n * n
  · have e1 : F[p]? = some (F.getD p ceZ) := by simp [show p < F.length by omega]
    have e2 : (rowOf n d)[p]? = some ((rowOf n d).getD p ceZ) := by simp [show p < (rowOf n d).length by rw [rowO_len]; exact hp]
    rw [e1, e2, h p hp, rowO_get hp]
  · rw [List.getElem?_eq_none (by omega), List.getElem?_eq_none (by rw [rowO_len]; omega)]

theorem closedNearO (N : Int) (n len c : Nat) (x : Option Addr) (l : List Ce) (W : World) (hN : 2 * N = n) (h2 : 2 ≤ n) (h : NearO n l) (hl : Hid (len = l.length)) (hA : CsAt W x l) :
    Calls Tryd.prog 25 #[(.agg #[.int .i64 N, (.slice x len c)])] W fun e w' => NrPost W N len (NoNeg n (tg n (matOf n l))) (rowOf n (tg n (matOf n l))) e w' := by
  have one : 1 ≤ l.length := by rw [h.len]; exact Nat.mul_le_mul (show 1 ≤ n by omega) (show 1 ≤ n by omega)
  obtain ⟨b, off, rfl, hR⟩ := row_of hA one
  have B := h.beg
  have hDl : (diagL n l n).length = n * n := by rw [diagL_len, h.len]
  have st := matOf_start h.len
  have rt := matOf_rt h.he hDl st
  have nn : ∀ t, (∀ i, i < n → leB (some 0) (matOf n (rtL n (diagL n l n) t) i i)) → NoNeg n (rO wrap64 n (start (matOf n l)) t) := fun t k i hi => by rw [← rt t i i hi hi]; exact k i hi
  refine (closedOct_any N n b off c len l W hN ⟨h2, h.hn⟩ h.he hR hl (by show _ = _; rw [hl.out]; exact h.len) h.inR ?_).mono ?_
  · intro k p q hp hq
    rw [rt 5 p q hp hq, rt 6 p q hp hq]
    have e : rO wrap64 n (start (matOf n l)) 6 = rO wrap64 n (start (matOf n l)) 5 := B.sixth (nn 5 k)
    rw [e]
    exact leB_refl _
  · rintro e w' ⟨hb, ⟨t, i, ht, hi, hneg, rfl⟩ | ⟨t, g, cap, ht, hpos, hsame, rfl, hg, hF, hR'⟩⟩
    · refine ⟨hb, .inl ⟨fun hN' => ?_, rfl⟩⟩
      have hs := (tg_some h.he h.coh).2 hN'
      obtain ⟨r, hr⟩ := oRnd_pre n (n - i) i
      rw [show i + (n - i) = n by omega] at hr
      have k := B.never hs ht hr i hi
      have ok := pre_ok (n := n) (i := i) (by omega)
      have e := matOf_run h.he (oRnd n i) (rtL n (diagL n l n) t) (rO wrap64 n (start (matOf n l)) t) (by rw [rtL_len]; exact hDl) ok (rt t) i i hi hi
      rw [← e] at k
      have G : Gd (runL n (rtL n (diagL n l n) t) (oRnd n i)) := Gd.run h.he _ _ (by rw [rtL_len]; exact hDl) ok ((h.gd.diag h.len n (Nat.le_refl n)).rt h.he hDl t)
      have hx : i * n + i < (runL n (rtL n (diagL n l n) t) (oRnd n i)).length := by rw [runL_len, rtL_len, hDl]; exact idx_in hi hi
      have gc := G _ hx
      unfold matOf at k
      obtain ⟨⟨ch, cm⟩, hc⟩ : ∃ C, C = (runL n (rtL n (diagL n l n) t) (oRnd n i)).getD (i * n + i) ceZ := ⟨_, rfl⟩
      rw [← hc] at k gc hneg
      cases ch
      · have := gc rfl
        simp at hneg this
        omega
      · simp [Ce.bd, leB] at k
        simp at hneg
        omega
    · obtain ⟨hs, hE⟩ := B.done ht (nn t hpos) (fun p q hp hq => by rw [← rt t p q hp hq, ← rt (t + 1) p q hp hq, hsame]; exact leB_refl _)
      have hyes := (tg_some h.he h.coh).1 hs
      have G := (h.gd.diag h.len n (Nat.le_refl n)).rt h.he hDl t
      have hLl : (rtL n (diagL n l n) t).length = n * n := by rw [rtL_len, hDl]
      have sz := h.szt
      have eL : (rtL n (diagL n l n) t).map clipC = rowOf n (tg n (matOf n l)) := by
        refine extO (by rw [List.length_map, hLl]) fun p hp => ?_
        have n0 : 0 < n := by omega
        have hpi := Nat.div_lt_of_lt_mul hp
        have hpj := Nat.mod_lt p n0
        have e : p / n * n + p % n = p := by rw [Nat.mul_comm]; exact Nat.div_add_mod _ _
        have e1 : ((rtL n (diagL n l n) t).map clipC).getD p ceZ = clipC ((rtL n (diagL n l n) t).getD p ceZ) := by
          simp [show p < (rtL n (diagL n l n) t).length by omega]
        have e2 : (rtL n (diagL n l n) t).getD p ceZ = ceOf (tg n (matOf n l) (p / n) (p % n)) := by
          rw [G.cell (by omega), ← hE _ _ hpi hpj, ← rt t _ _ hpi hpj]
          unfold matOf; rw [e]
        rw [e1, e2]
        have s := sz _ _ hpi hpj
        cases hc : tg n (matOf n l) (p / n) (p % n) with
        | none => simp [ceOf, clipC]
        | some v =>
          have := s v hc
          have a1 : ¬ 1099511627776 < v := by omega
          have a2 : ¬ v < -1099511627776 := by omega
          simp [clipC, ceOf, a1, a2]
      rw [eL] at hR'
      exact ⟨hb, .inr ⟨hyes, g, cap, rfl, hg, hF, hR'⟩⟩
end Go.Proofs.YtkaodfmfkafjfaaDoor

/- Octagons: joins, meets, what lies in what: the statement. -/
namespace Go.Proofs.YtkaodfmfkafjfaaDoor
open Go.RowKit
set_option linter.unusedVariables false

theorem joinC_of (a b : Bd) : joinC (ceOf a) (ceOf b) = ceOf (maxB a b) := by
  cases a with
  | none => simp [joinC, ceOf, maxB, ceZ]
  | some u =>
    cases b with
    | none => simp [joinC, ceOf, maxB, ceZ]
    | some v =>
      simp only [joinC, ceOf, maxB]
      by_cases h : u < v
      · simp [h]; omega
      · simp [h]; omega
/-- Two rows joined. -/
theorem joinK_row (n : Nat) (A B : Mat) : joinK (rowOf n A) (rowOf n B) (n * n) = rowOf n (fun i j => maxB (A i j) (B i j)) := by
  refine extO (by rw [joinK_len, rowO_len]) fun p hp => ?_
  rw [joinK_at _ _ _ _ (by rw [rowO_len]; omega), if_pos hp, rowO_get hp, rowO_get hp, joinC_of]

theorem metC_bd {a b : Ce} (hb : b = ceOf b.bd) : (metC a b).bd = minB a.bd b.bd := by
  unfold metC
  cases e : b.h with
  | false =>
    have : b.bd = none := by unfold Ce.bd; rw [e]; rfl
    rw [this]; simp; cases a.bd <;> rfl
  | true =>
    have : b.bd = some b.m := by unfold Ce.bd; rw [e]; rfl
    rw [this, if_pos rfl, lowC_bd]
theorem metC_good {a b : Ce} (ha : a = ceOf a.bd) : metC a b = ceOf (metC a b).bd := by
  unfold metC
  split
  · unfold lowC
    split
    · exact ha
    · simp [Ce.bd, ceOf]
  · exact ha
theorem metC_small {a b : Ce} {B : Nat} (ha : a.m.natAbs ≤ B) (hb : b.m.natAbs ≤ B) : (metC a b).m.natAbs ≤ B := by
  unfold metC
  split
  · unfold lowC
    split
    · exact ha
    · exact hb
  · exact ha
theorem inC_of {a : Bd} {b : Ce} (ha : OkB a) (hb : OkB b.bd) : inC (ceOf a) b ↔ encB a ≤ encB b.bd := by
  rw [enc_le ha hb]
  unfold inC Ce.bd
  cases e : b.h with
  | false => cases a <;> simp [leB]
  | true => cases a <;> simp [leB, ceOf]

theorem twoO_pair (N : Int) (l : List Ce) (M : Int) (m : List Ce) : twoO N l M m = pairErr N l M m := by
  unfold twoO pairErr
  simp only [firstE]
  by_cases h1 : zErr N l = 0
  · by_cases h2 : zErr M m = 0
    · by_cases h3 : N = M <;> simp [h1, h2, h3]
    · simp [h1, h2]
  · simp [h1]
theorem tellO_near {n : Nat} {d : Mat} (h : Sz n 1099511627776 d) : tellL n d = rowOf n d := tellL_near h
theorem NearO.met {n : Nat} {l m : List Ce} (h : NearO n l) (k : NearO n m) : NearO n (metK l m l.length) ∧ ∀ i j, i < n → j < n → matOf n (metK l m l.length) i j = With2 minB (matOf n l) (matOf n m) i j := by
  have at_ : ∀ i, i < l.length → (metK l m l.length).getD i ceZ = metC (l.getD i ceZ) (m.getD i ceZ) := fun i hi => by rw [metK_at _ _ _ _ (Nat.le_refl _), if_pos hi]
  have hlm : l.length = m.length := by rw [h.len, k.len]
  have mat : ∀ i j, i < n → j < n → matOf n (metK l m l.length) i j = With2 minB (matOf n l) (matOf n m) i j := by
    intro i j hi hj
    have hp : i * n + j < l.length := by rw [h.len]; exact idx_in hi hj
    unfold matOf With2
    rw [at_ _ hp]
    exact metC_bd (k.good _ (by omega))
  refine ⟨⟨h.he, h.hn, by rw [metK_len]; exact h.len, ?_, ?_, ?_⟩, mat⟩
  · intro i hi
    rw [metK_len] at hi
    rw [at_ i hi]
    exact metC_good (h.good i hi)
  · intro i hi
    rw [metK_len] at hi
    rw [at_ i hi]
    exact metC_small (h.small i hi) (k.small i (by omega))
  · intro i j hi hj
    rw [mat i j hi hj, mat _ _ (bar_lt h.he hj) (bar_lt h.he hi)]
    unfold With2
    rw [h.coh i j hi hj, k.coh i j hi hj]
theorem near_inO {n : Nat} {l m : List Ce} (h : NearO n l) (k : NearO n m) : ((NoNeg n (tg n (matOf n l)) → ∀ i, i < n * n → inC ((rowOf n (tg n (matOf n l))).getD i ceZ) (m.getD i ceZ)) ↔ wiB n (matOf n l) (matOf n m) = true) := by
  have key : ∀ p, p < n * n → (inC ((rowOf n (tg n (matOf n l))).getD p ceZ) (m.getD p ceZ) ↔ encM (tg n (matOf n l)) (p / n) (p % n) ≤ encM (matOf n m) (p / n) (p % n)) := by
    intro p hp
    have n0 : 0 < n := Nat.pos_of_ne_zero (fun z => by subst z; simp at hp)
    have hi := Nat.div_lt_of_lt_mul hp
    have hj := Nat.mod_lt p n0
    have e : p / n * n + p % n = p := by rw [Nat.mul_comm]; exact Nat.div_add_mod _ _
    rw [rowO_get hp]
    have o1 : OkB (tg n (matOf n l) (p / n) (p % n)) := h.szt.ok (by omega) hi hj
    have o2 : OkB (matOf n m (p / n) (p % n)) := k.sz.ok (by omega) hi hj
    have e2 : matOf n m (p / n) (p % n) = (m.getD p ceZ).bd := by unfold matOf; rw [e]
    rw [e2] at o2
    show _ ↔ encB _ ≤ encB (matOf n m (p / n) (p % n))
    rw [e2]
    exact inC_of o1 o2
  unfold wiB
  by_cases hN : NoNeg n (tg n (matOf n l))
  · rw [nnB_yes hN]
    unfold inB
    simp only [Bool.not_true, Bool.false_or, decide_eq_true_iff]
    exact ⟨fun hh p hp => (key p hp).1 (hh hN p hp), fun hh _ p hp => (key p hp).2 (hh p hp)⟩
  · rw [nnB_no hN]
    simp [hN]
theorem tell_cong {n : Nat} (he : n % 2 = 0) {c d : Mat} (hc : Coh n c) (h : ∀ i j, i < n → j < n → c i j = d i j) (hN : NoNeg n (tg n c)) : tellL n (tg n c) = tellL n (tg n d) := tellL_congr ((tg_congr he hc h).2 hN)

set_option maxHeartbeats 2000000 in
theorem octLattice_true (N : Int) (x : Option Addr) (c : Nat) (l : List Ce) (M : Int) (y : Option Addr) (c' : Nat) (m : List Ce) (a : Nat → Addr) (w : World) (hS : Sents w a)
    (hN : -9223372036854775808 ≤ N ∧ N ≤ 9223372036854775807) (hA : CsAt w x l) (hlen : l.length ≤ 9223372036854775807) (hma : ∀ A ∈ l, -9223372036854775808 ≤ A.m ∧ A.m ≤ 9223372036854775807)
    (hM : -9223372036854775808 ≤ M ∧ M ≤ 9223372036854775807) (hB : CsAt w y m) (hlen' : m.length ≤ 9223372036854775807) (hmb : ∀ A ∈ m, -9223372036854775808 ≤ A.m ∧ A.m ≤ 9223372036854775807) :
    Calls Tryd.prog 4 #[(.agg #[.int .i64 N, (.slice x l.length c)]), (.agg #[.int .i64 M, (.slice y m.length c')])] w fun e w' => e = .returned (.bool true) ∧ Below w.heap.size w w' := by
  obtain ⟨n, hn⟩ : ∃ n, n = nOf N := ⟨_, rfl⟩
  have hrng : 0 ≤ pairErr N l M m ∧ pairErr N l M m ≤ 8 := by rw [← twoO_pair]; exact twoO_range N l M m
  have near2 : pairErr N l M m = 0 → nearL l 1048576 = true → nearL m 1048576 = true → N = M ∧ 2 * N = n ∧ NearO n l ∧ NearO n m ∧ m.length = l.length := by
    intro h k k'
    obtain ⟨h1, h2, rfl⟩ := pairErr_0 h
    have z := nearO h1 k
    have z' := nearO h2 k'
    rw [← hn] at z z'
    exact ⟨rfl, by rw [hn]; exact (zErr_0 h1).1, z, z', by rw [z.len, z'.len]⟩
  have zero : ∀ {l : List Ce}, n = 0 → NearO n l → l = [] := fun h0 z => List.eq_nil_of_length_eq_zero (by rw [z.len, h0])
  have nn0 : ∀ d : Mat, n = 0 → NoNeg n d := fun d h0 i hi => by omega
  have tl0 : ∀ d : Mat, n = 0 → tellL n d = [] := fun d h0 => List.eq_nil_of_length_eq_zero (by rw [tellL_len, h0])
  refine lattice_by N M x y c c' l.length m.length l m a w hS hA hB rfl rfl hlen hlen' (pairErr N l M m) hrng (NoNeg n (tg n (matOf n l))) (NoNeg n (tg n (matOf n m))) (NoNeg n (tg n (With2 minB (matOf n l) (matOf n m)))) (tellL n (joinM n (matOf n l) (matOf n m))) (tellL n (tg n (With2 minB (matOf n l) (matOf n m)))) (metK l m l.length) (wiB n (matOf n l) (matOf n m)) ?_ ?_ ?_ ?_ ?_ ?_ ?_ ?_
  · intro h1 h2 W k1 k2
    rw [← twoO_pair]
    exact twoOcts_any N M x y c l.length c' m.length l m W hN hM k1 k2 rfl rfl (by omega) (by omega)
  · intro h1 h2 W z1 z2 c1 c2 hs k1 k2
    have hg := join_any N M z1 z2 l.length c1 m.length c2 l m a W hs.errs (hs.cell 3 (by omega)) k1 k2 rfl rfl (by omega) (by omega)
    rw [← hn] at hg
    refine hg.mono ?_
    rintro e w' ⟨hb, h | h | h⟩
    · exact ⟨0, none, 0, 0, _, [], h.2, .inl rfl, ⟨rfl, by omega, .inl ⟨h.1, rfl, rfl, rfl⟩⟩, hb⟩
    · exact ⟨0, none, 0, 0, 4, [], h.2.2, .inl rfl, ⟨rfl, by omega, .inr ⟨h.1, .inl ⟨h.2.1.1, h.2.1.2, rfl, rfl, rfl⟩⟩⟩, hb⟩
    · obtain ⟨h0, hem, g5, cp5, rfl, hg5, hR5⟩ := h
      have z4 : l.length = n * n := by rw [hn]; exact (zErr_0 (pairErr_0 h0).1).2.2.2.1
      refine ⟨N, _, _, cp5, 0, _, rfl, .inr ⟨g5, rfl, hg5, hR5⟩, ⟨by rw [tellL_len]; exact z4, by omega, .inr ⟨h0, .inr ⟨?_, rfl, rfl, rfl⟩⟩⟩, hb⟩
      apply Classical.byContradiction
      intro k
      exact hem ⟨fun q => k (.inl q), fun q => k (.inr q)⟩
  · intro h1 h2 W z1 z2 c1 c2 hs k1 k2
    have hg := meet_any N M z1 z2 l.length c1 m.length c2 l m a W hs.errs k1 k2 rfl rfl (by omega) (by omega)
    rw [← hn] at hg
    refine hg.mono ?_
    rintro e w' ⟨hb, h | h | h⟩
    · exact ⟨0, none, 0, 0, false, _, [], h.2, .inl rfl, ⟨rfl, by omega, .inl ⟨h.1, rfl, rfl, rfl, rfl⟩⟩, hb⟩
    · exact ⟨0, none, 0, 0, false, 0, [], h.2.2, .inl rfl, ⟨rfl, by omega, .inr ⟨h.1, rfl, .inl ⟨h.2.1, rfl, rfl, rfl⟩⟩⟩, hb⟩
    · obtain ⟨h0, hok, g5, cp5, rfl, hg5, hR5⟩ := h
      have z4 : l.length = n * n := by rw [hn]; exact (zErr_0 (pairErr_0 h0).1).2.2.2.1
      exact ⟨N, _, _, cp5, true, 0, _, rfl, .inr ⟨g5, rfl, hg5, hR5⟩, ⟨by rw [tellL_len]; exact z4, by omega, .inr ⟨h0, rfl, .inr ⟨hok, rfl, rfl, rfl⟩⟩⟩, hb⟩
  · intro h1 h2 W z1 z2 c1 c2 hs k1 k2
    have hg := zwithin_any N M z1 z2 l.length c1 m.length c2 l m a W hs.errs k1 k2 rfl rfl (by omega) (by omega)
    rw [← hn] at hg
    refine hg.mono ?_
    rintro e w' ⟨hb, h | h⟩
    · exact ⟨false, _, h.2, rfl, fun _ => rfl, fun k => absurd k h.1, hb⟩
    · exact ⟨_, 0, h.2, h.1.symm, fun k => absurd h.1 k, fun _ => rfl, hb⟩
  · intro h1 h2 h0 ka kb W k1 k2
    obtain ⟨rfl, hNn, za, zb, hlm⟩ := near2 h0 ka kb
    by_cases hz : n = 0
    · obtain rfl := zero hz za
      obtain rfl := zero hz zb
      obtain rfl : N = 0 := by omega
      refine (joinedOct_zero x y c c' W).mono ?_
      rintro e w' ⟨x5, c5, rfl, hb⟩
      exact ⟨0, x5, 0, c5, true, [], rfl, .inl rfl, ⟨rfl, by omega, .inr ⟨.inl (nn0 _ hz), rfl, rfl, (tl0 _ hz).symm⟩⟩, hb⟩
    have h2n : 2 ≤ n := by have := za.he; omega
    rw [hlm]
    refine (joinedZone_any N x y l.length c c' l m (rowOf n (tg n (matOf n l))) (rowOf n (tg n (matOf n m))) (NoNeg n (tg n (matOf n l))) (NoNeg n (tg n (matOf n m))) W k1 k2 (by show _ = _; rw [rowO_len, za.len]) (by show _ = _; rw [rowO_len, za.len]) (by omega)
      (fun W h => closedNearO N n l.length c x l W hNn h2n za rfl h) (fun W h => closedNearO N n l.length c' y m W hNn h2n zb (by show _ = _; rw [hlm]) h)).mono ?_
    have rJ : tellL n (fun i j => maxB (tg n (matOf n l) i j) (tg n (matOf n m) i j)) = rowOf n (fun i j => maxB (tg n (matOf n l) i j) (tg n (matOf n m) i j)) := by
      apply tellL_near
      have s1 := za.szt
      have s2 := zb.szt
      intro i j hi hj v hv
      have t1 := s1 i j hi hj
      have t2 := s2 i j hi hj
      cases e1 : tg n (matOf n l) i j with
      | none => simp [e1, maxB] at hv
      | some u =>
        cases e2 : tg n (matOf n m) i j with
        | none => simp [e1, e2, maxB] at hv
        | some u' =>
          simp [e1, e2, maxB] at hv
          have := t1 u e1
          have := t2 u' e2
          omega
    rintro e w' ⟨hb, h | h⟩
    · exact ⟨0, none, 0, 0, false, [], h.2.2, .inl rfl, ⟨rfl, by omega, .inl ⟨h.1, h.2.1, rfl⟩⟩, hb⟩
    · obtain ⟨hok, g, cap, L, rfl, hR, hL⟩ := h
      have eL : L = tellL n (joinM n (matOf n l) (matOf n m)) := by
        rcases hL with ⟨q1, rfl⟩ | ⟨q1, q2, rfl⟩ | ⟨q1, q2, rfl⟩
        · rw [joinM_b q1, tellO_near zb.szt]
        · rw [joinM_a q1 q2, tellO_near za.szt]
        · rw [joinM_ab q1 q2, za.len, joinK_row, rJ]
      exact ⟨N, _, _, cap, true, L, rfl, .inr ⟨g, 0, rfl, hR⟩, ⟨by rw [eL, tellL_len, za.len], by omega, .inr ⟨hok, rfl, rfl, eL⟩⟩, hb⟩
  · intro h1 h2 h0 ka kb W k1 k2
    obtain ⟨rfl, hNn, za, zb, hlm⟩ := near2 h0 ka kb
    by_cases hz : n = 0
    · obtain rfl := zero hz za
      obtain rfl := zero hz zb
      obtain rfl : N = 0 := by omega
      refine (metOct_zero x y c c' W).mono ?_
      rintro e w' ⟨x5, c5, rfl, hb⟩
      exact ⟨x5, c5, rfl, .inl rfl, hb⟩
    have one : 1 ≤ n * n := Nat.mul_le_mul (show 1 ≤ n by omega) (show 1 ≤ n by omega)
    obtain ⟨b, off, rfl, hR⟩ := row_of k1 (by rw [za.len]; exact one)
    obtain ⟨b', off', rfl, hQ⟩ := row_of k2 (by rw [zb.len]; exact one)
    rw [hlm]
    refine (metZone_any N b off c b' off' c' l.length l m W hR hQ rfl (by show _ = _; rw [hlm]) (by rw [za.len]; have := za.few; rw [za.len] at this; omega)).mono ?_
    rintro e w' ⟨hb, g, cap, rfl, hR'⟩
    exact ⟨_, _, rfl, .inr ⟨g, 0, rfl, hR'⟩, hb⟩
  · intro h1 h2 h0 ka kb W x7 c7 hc7
    obtain ⟨rfl, hNn, za, zb, hlm⟩ := near2 h0 ka kb
    obtain ⟨zm, em⟩ := za.met zb
    by_cases hz : n = 0
    · obtain rfl := zero hz za
      obtain rfl : N = 0 := by omega
      refine (closedOct_zero x7 c7 W).mono ?_
      rintro e w' ⟨x5, c5, rfl, hb⟩
      exact ⟨0, x5, 0, c5, true, [], rfl, .inl rfl, ⟨rfl, by omega, .inr ⟨nn0 _ hz, rfl, rfl, (tl0 _ hz).symm⟩⟩, hb⟩
    have h2n : 2 ≤ n := by have := za.he; omega
    have f1 := (tg_congr zm.he zm.coh em).1
    refine (closedNearO N n l.length c7 x7 _ W hNn h2n zm (by show _ = _; rw [metK_len]) hc7).mono ?_
    rintro e w' ⟨hb, h | h⟩
    · exact ⟨0, none, 0, 0, false, [], h.2, .inl rfl, ⟨rfl, by omega, .inl ⟨fun q => h.1 (f1.2 q), rfl, rfl, rfl⟩⟩, hb⟩
    · obtain ⟨hok, g, cap, rfl, _, _, hR⟩ := h
      rw [← tellO_near zm.szt, tell_cong zm.he zm.coh em hok] at hR
      exact ⟨N, _, _, cap, true, _, rfl, .inr ⟨g, 0, rfl, hR⟩, ⟨by rw [tellL_len, za.len], by omega, .inr ⟨f1.1 hok, rfl, rfl, rfl⟩⟩, hb⟩
  · intro h1 h2 h0 ka kb W k1 k2
    obtain ⟨rfl, hNn, za, zb, hlm⟩ := near2 h0 ka kb
    by_cases hz : n = 0
    · have hw : wiB n (matOf n l) (matOf n m) = true := (near_inO za zb).1 (fun _ i hi => by rw [hz] at hi; simp at hi)
      obtain rfl := zero hz za
      obtain rfl := zero hz zb
      obtain rfl : N = 0 := by omega
      rw [hw]
      exact octIn_zero x y c c' W
    have h2n : 2 ≤ n := by have := za.he; omega
    have one : 1 ≤ n * n := Nat.mul_le_mul (show 1 ≤ n by omega) (show 1 ≤ n by omega)
    obtain ⟨b', off', rfl, hQ⟩ := row_of k2 (by rw [zb.len]; exact one)
    rw [hlm]
    refine (zoneIn_any N x b' off' l.length c c' l (rowOf n (tg n (matOf n l))) m (NoNeg n (tg n (matOf n l))) W k1 hQ (by show _ = _; rw [rowO_len, za.len]) (by show _ = _; rw [hlm]) (by omega)
      (fun W h => closedNearO N n l.length c x l W hNn h2n za rfl h)).mono ?_
    rintro e w' ⟨r, rfl, hr, hb⟩
    rw [za.len] at hr
    have := hr.trans (near_inO za zb)
    refine ⟨?_, hb⟩
    cases r <;> cases hh : wiB n (matOf n l) (matOf n m) <;> simp [hh] at this ⊢
end Go.Proofs.YtkaodfmfkafjfaaDoor
