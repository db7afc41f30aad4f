/- Zones: closing over and over, as a machine does it (sums may wrap round): plain facts. -/
import Derived.Test.YtmdbgmkbkmckfaaDoorZa
namespace Go.Proofs.YtmdbgmkbkmckfaaDoor
set_option linter.unusedVariables false

/-- One cell set anew. -/
def setM (d : Mat) (i j : Nat) (b : Bd) : Mat := fun p q => if p = i ∧ q = j then b else d p q
/-- One way tried: g is what a sum becomes. -/
def sumB (g : Int → Int) : Bd → Bd → Bd
  | some a, some b => some (g (a + b))
  | _, _ => none
def relax (g : Int → Int) (d : Mat) (i j k : Nat) : Mat := setM d i j (minB (d i j) (sumB g (d i k) (d k j)))
/-- The first p ways of a round. -/
def sweep (g : Int → Int) (n : Nat) (d : Mat) : Nat → Mat
  | 0 => d
  | p + 1 => relax g (sweep g n d p) (p / n / n) (p / n % n) (p % n)
def rounds (g : Int → Int) (n : Nat) (d : Mat) : Nat → Mat
  | 0 => d
  | t + 1 => sweep g n (rounds g n d t) (n * n * n)

theorem relax_le (g : Int → Int) (d : Mat) (i j k p q : Nat) : leB (relax g d i j k p q) (d p q) := by
  unfold relax setM; split
  · rename_i h; rw [h.1, h.2]; exact minB_left _ _
  · exact leB_refl _
theorem sweep_le (g : Int → Int) (n : Nat) (d : Mat) {p q : Nat} (h : p ≤ q) (i j : Nat) : leB (sweep g n d q i j) (sweep g n d p i j) := by
  induction q with
  | zero =>
    obtain rfl : p = 0 := by omega
    exact leB_refl _
  | succ q ih =>
    by_cases e : p = q + 1
    · subst e; exact leB_refl _
    · exact leB_trans (relax_le _ _ _ _ _ _ _) (ih (by omega))
theorem rounds_le (g : Int → Int) (n : Nat) (d : Mat) {p q : Nat} (h : p ≤ q) (i j : Nat) : leB (rounds g n d q i j) (rounds g n d p i j) := by
  induction q with
  | zero =>
    obtain rfl : p = 0 := by omega
    exact leB_refl _
  | succ q ih =>
    by_cases e : p = q + 1
    · subst e; exact leB_refl _
    · exact leB_trans (sweep_le g n _ (Nat.zero_le _) i j) (ih (by omega))

/-- How great the cells of a round may become, of five variables. -/
def tab : Nat → Nat → Nat
  | 0, 1 => 2 | 0, 2 => 3 | 0, 3 => 4 | 0, 4 => 5
  | 1, 0 => 2 | 1, 2 => 5 | 1, 3 => 6 | 1, 4 => 7
  | 2, 0 => 3 | 2, 1 => 5 | 2, 3 => 11 | 2, 4 => 12
  | 3, 0 => 4 | 3, 1 => 6 | 3, 2 => 11 | 3, 4 => 23
  | 4, 0 => 5 | 4, 1 => 7 | 4, 2 => 12 | 4, 3 => 23
  | _, _ => 1

theorem tab_fin : ∀ i j k : Fin 5, (k.val = i.val ∨ k.val = j.val ∨ i.val = j.val) ∨ (if k.val < j.val then tab i.val k.val else 1) + (if k.val < i.val then tab k.val j.val else 1) ≤ tab i.val j.val := by decide
theorem tab_ok (i : Nat) (hi : i < 5) (j : Nat) (hj : j < 5) (k : Nat) (hk : k < 5) (h1 : k ≠ i) (h2 : k ≠ j) (h3 : i ≠ j) : (if k < j then tab i k else 1) + (if k < i then tab k j else 1) ≤ tab i j :=
  (tab_fin ⟨i, hi⟩ ⟨j, hj⟩ ⟨k, hk⟩).resolve_left (by rintro (h | h | h) <;> contradiction)
theorem tab_pos : ∀ i, i < 5 → ∀ j, j < 5 → 1 ≤ tab i j := by decide
theorem tab_le : ∀ i, i < 5 → ∀ j, j < 5 → tab i j ≤ 23 := by decide

/-- What is held within a round: at place P (of n times n) all that lies behind is as it was. -/
structure Mg (n m : Nat) (P : Nat) (d : Mat) : Prop where
  diag : ∀ i, i < n → d i i = some 0
  old : ∀ i j, i < n → j < n → P < i * n + j → ∀ v, d i j = some v → v.natAbs ≤ m
  new : ∀ i j, i < n → j < n → i * n + j ≤ P → ∀ v, d i j = some v → v.natAbs ≤ tab i j * m

theorem Mg.more {n m P : Nat} {d : Mat} (hn : n ≤ 5) (h : Mg n m P d) : Mg n m (P + 1) d := by
  refine ⟨h.diag, fun i j hi hj hP => h.old i j hi hj (by omega), fun i j hi hj hP v hv => ?_⟩
  by_cases e : i * n + j ≤ P
  · exact h.new i j hi hj e v hv
  · have := h.old i j hi hj (by omega) v hv
    have t := tab_pos i (by omega) j (by omega)
    exact Nat.le_trans this (Nat.le_mul_of_pos_left m t)

theorem Mg.all {n m P : Nat} {d : Mat} (hn : n ≤ 5) (h : Mg n m P d) {i j : Nat} (hi : i < n) (hj : j < n) {v : Int} (hv : d i j = some v) : v.natAbs ≤ 23 * m := by
  by_cases e : i * n + j ≤ P
  · exact Nat.le_trans (h.new i j hi hj e v hv) (Nat.mul_le_mul_right m (tab_le i (by omega) j (by omega)))
  · have := h.old i j hi hj (by omega) v hv; omega

theorem row_lt {n i j k : Nat} (hj : j < n) (h : k < i) : k * n + j ≤ i * n + j := by
  have := Nat.mul_le_mul_right n (Nat.le_of_lt h)
  omega

/-- What is found of sums that do not wrap round. -/
def NoWrap (g : Int → Int) (m : Nat) : Prop := ∀ v : Int, v.natAbs ≤ 46 * m → g v = v

/-- One way tried keeps sizes, as long as no diagonal cell falls. -/
theorem Mg.relax {g : Int → Int} {n m : Nat} {d : Mat} (hn : n ≤ 5) (hg : NoWrap g m) {i j k : Nat} (hi : i < n) (hj : j < n) (hk : k < n) (h : Mg n m (i * n + j) d) (hN : ∀ p, p < n → leB (some 0) (relax g d i j k p p)) : Mg n m (i * n + j) (relax g d i j k) := by
  have dg : ∀ p, p < n → Go.Proofs.YtmdbgmkbkmckfaaDoor.relax g d i j k p p = some 0 := by
    intro p hp
    have h1 := relax_le g d i j k p p
    rw [h.diag p hp] at h1
    exact leB_antisymm h1 (hN p hp)
  have key : ∀ v, i ≠ j → Go.Proofs.YtmdbgmkbkmckfaaDoor.relax g d i j k i j = some v → v.natAbs ≤ tab i j * m := by
    intro v hij hv
    unfold Go.Proofs.YtmdbgmkbkmckfaaDoor.relax setM at hv
    rw [if_pos ⟨rfl, rfl⟩] at hv
    rcases minB_cases (d i j) (sumB g (d i k) (d k j)) with e | e
    · rw [e] at hv; exact h.new i j hi hj (Nat.le_refl _) v hv
    · rw [e] at hv
      cases ha : d i k with
      | none => rw [ha] at hv; cases hv
      | some a =>
        cases hb : d k j with
        | none => rw [ha, hb] at hv; cases hv
        | some b =>
          rw [ha, hb] at hv
          have A := h.all hn hi hk ha
          have B := h.all hn hk hj hb
          have gv : g (a + b) = a + b := hg _ (by omega)
          have hv' : a + b = v := by simpa [sumB, gv] using hv
          by_cases k1 : k = i
          · subst k1
            rw [h.diag k hi] at ha
            obtain rfl : 0 = a := by simpa using ha
            have : v = b := by omega
            rw [this]
            exact h.new k j hi hj (Nat.le_refl _) b hb
          · by_cases k2 : k = j
            · subst k2
              rw [h.diag k hj] at hb
              obtain rfl : 0 = b := by simpa using hb
              have : v = a := by omega
              rw [this]
              exact h.new i k hi hj (Nat.le_refl _) a ha
            · have T := tab_ok i (by omega) j (by omega) k (by omega) k1 k2 hij
              have a1 : a.natAbs ≤ (if k < j then tab i k else 1) * m := by
                split
                · exact h.new i k hi hk (by omega) a ha
                · have := h.old i k hi hk (by omega) a ha; omega
              have b1 : b.natAbs ≤ (if k < i then tab k j else 1) * m := by
                split
                · exact h.new k j hk hj (row_lt hj (by assumption)) b hb
                · have hk' : i + 1 ≤ k := by omega
                  have := Nat.mul_le_mul_right n hk'
                  have := h.old k j hk hj (by rw [Nat.add_mul] at this; omega) b hb
                  omega
              have : v.natAbs ≤ a.natAbs + b.natAbs := by omega
              have M := Nat.mul_le_mul_right m T
              rw [Nat.add_mul] at M
              omega
  have oth : ∀ p q, ¬ (p = i ∧ q = j) → Go.Proofs.YtmdbgmkbkmckfaaDoor.relax g d i j k p q = d p q := by
    intro p q hpq
    unfold Go.Proofs.YtmdbgmkbkmckfaaDoor.relax setM
    rw [if_neg hpq]
  refine ⟨dg, fun p q hp hq hP v hv => ?_, fun p q hp hq hP v hv => ?_⟩
  · by_cases e : p = i ∧ q = j
    · rw [e.1, e.2] at hP; omega
    · rw [oth p q e] at hv; exact h.old p q hp hq hP v hv
  · by_cases e : p = i ∧ q = j
    · obtain ⟨rfl, rfl⟩ := e
      by_cases hij : p = q
      · subst hij
        rw [dg p hp] at hv
        obtain rfl : 0 = v := by simpa using hv
        simp
      · exact key v hij hv
    · rw [oth p q e] at hv; exact h.new p q hp hq hP v hv

/-- No point is lost. -/
def Sound (n : Nat) (z d : Mat) : Prop := ∀ x, Pt n z x → Pt n d x

theorem sum_add {g : Int → Int} {a b : Bd} (h : ∀ x y, a = some x → b = some y → g (x + y) = x + y) : sumB g a b = addB a b := by
  cases a with
  | none => rfl
  | some x =>
    cases b with
    | none => rfl
    | some y => simp [sumB, addB, h x y rfl rfl]

theorem Mg.sum {g : Int → Int} {n m P : Nat} {d : Mat} (hn : n ≤ 5) (hg : NoWrap g m) (h : Mg n m P d) {i j k : Nat} (hi : i < n) (hj : j < n) (hk : k < n) : sumB g (d i k) (d k j) = addB (d i k) (d k j) :=
  sum_add fun x y hx hy => hg _ (by have := h.all hn hi hk hx; have := h.all hn hk hj hy; omega)

theorem Sound.relax {g : Int → Int} {n : Nat} {z d : Mat} (h : Sound n z d) {i j k : Nat} (hi : i < n) (hj : j < n) (hk : k < n) (e : sumB g (d i k) (d k j) = addB (d i k) (d k j)) : Sound n z (relax g d i j k) := by
  intro x hx p q hp hq
  have H := h x hx
  unfold Go.Proofs.YtmdbgmkbkmckfaaDoor.relax setM
  split
  · rename_i c
    rw [c.1, c.2, e]
    refine okB_min (H i j hi hj) ?_
    have := okB_add (H i k hi hk) (H k j hk hj)
    rwa [show x k - x i + (x j - x k) = x j - x i by omega] at this
  · exact H p q hp hq

theorem place {n p : Nat} (h : p < n * n * n) : p / n / n < n ∧ p / n % n < n ∧ p % n < n ∧ p / n / n * n + p / n % n = p / n := by
  have n0 : 0 < n := by
    rcases Nat.eq_zero_or_pos n with e | e
    · subst e; simp at h
    · exact e
  refine ⟨?_, Nat.mod_lt _ n0, Nat.mod_lt _ n0, ?_⟩
  · rw [Nat.div_div_eq_div_mul]
    exact Nat.div_lt_of_lt_mul h
  · rw [Nat.mul_comm]; exact Nat.div_add_mod _ _

theorem sweep_run {g : Int → Int} {n m : Nat} {z d : Mat} (hn : n ≤ 5) (hg : NoWrap g m) (h0 : Mg n m 0 d) (hs : Sound n z d) (hQ : ∀ p, p ≤ n * n * n → Sound n z (sweep g n d p) → NoNeg n (sweep g n d p)) :
    ∀ p, p ≤ n * n * n → Mg n m (p / n) (sweep g n d p) ∧ Sound n z (sweep g n d p) := by
  intro p
  induction p with
  | zero => intro _; exact ⟨by rw [Nat.zero_div]; exact h0, hs⟩
  | succ p ih =>
    intro hp
    obtain ⟨M, S⟩ := ih (by omega)
    obtain ⟨hi, hj, hk, e⟩ := place (show p < n * n * n by omega)
    have S' : Sound n z (sweep g n d (p + 1)) := S.relax hi hj hk (M.sum hn hg hi hj hk)
    have N := hQ (p + 1) hp S'
    have M' : Mg n m (p / n) (sweep g n d (p + 1)) := by
      rw [← e] at M ⊢
      exact M.relax hn hg hi hj hk N
    refine ⟨?_, S'⟩
    have n0 : 0 < n := by omega
    by_cases c : (p + 1) / n = p / n
    · rw [c]; exact M'
    · have : (p + 1) / n = p / n + 1 := by
        have := Nat.succ_div (a := p) (b := n)
        split at this <;> omega
      rw [this]; exact M'.more hn

theorem sweep_end {g : Int → Int} {n m : Nat} {z d : Mat} (hn : n ≤ 5) (hg : NoWrap g m) (h0 : Mg n m 0 d) (hs : Sound n z d) (hQ : ∀ p, p ≤ n * n * n → Sound n z (sweep g n d p) → NoNeg n (sweep g n d p)) :
    Mg n (23 * m) 0 (sweep g n d (n * n * n)) ∧ Sound n z (sweep g n d (n * n * n)) ∧ ∀ i j k, i < n → j < n → k < n → leB (sweep g n d (n * n * n) i j) (addB (d i k) (d k j)) := by
  have R := sweep_run hn hg h0 hs hQ
  obtain ⟨M, S⟩ := R (n * n * n) (Nat.le_refl _)
  refine ⟨⟨M.diag, fun i j hi hj _ v hv => M.all hn hi hj hv, fun i j hi hj _ v hv => ?_⟩, S, ?_⟩
  · have := M.all hn hi hj hv
    have t := tab_pos i (by omega) j (by omega)
    exact Nat.le_trans this (Nat.le_mul_of_pos_left _ t)
  · intro i j k hi hj hk
    have p1 : (i * n + j) * n + k < n * n * n := by
      have a : i * n + j + 1 ≤ n * n := by
        have := Nat.mul_le_mul_right n (show i + 1 ≤ n from hi)
        rw [Nat.add_mul] at this; omega
      have := Nat.mul_le_mul_right n a
      rw [Nat.add_mul (i * n + j) 1 n] at this
      omega
    have n0 : 0 < n := by omega
    have e1 : ((i * n + j) * n + k) / n = i * n + j := by rw [Nat.mul_comm, Nat.mul_add_div n0, Nat.div_eq_of_lt hk]; rfl
    have e2 : ((i * n + j) * n + k) % n = k := by rw [Nat.mul_comm, Nat.mul_add_mod, Nat.mod_eq_of_lt hk]
    have e3 : (i * n + j) / n = i := by rw [Nat.mul_comm, Nat.mul_add_div n0, Nat.div_eq_of_lt hj]; rfl
    have e4 : (i * n + j) % n = j := by rw [Nat.mul_comm, Nat.mul_add_mod, Nat.mod_eq_of_lt hj]
    refine leB_trans (sweep_le g n d p1 i j) ?_
    show leB (Go.Proofs.YtmdbgmkbkmckfaaDoor.relax g _ _ _ _ i j) _
    rw [e1, e2, e3, e4]
    obtain ⟨M1, _⟩ := R ((i * n + j) * n + k) (by omega)
    unfold Go.Proofs.YtmdbgmkbkmckfaaDoor.relax setM
    rw [if_pos ⟨rfl, rfl⟩, M1.sum hn hg hi hj hk]
    exact leB_trans (minB_right _ _) (addB_mono (sweep_le g n d (Nat.zero_le _) i k) (sweep_le g n d (Nat.zero_le _) k j))

theorem rounds_run {g : Int → Int} {n m : Nat} {z d : Mat} (hn : n ≤ 5) (T : Nat) (hg : NoWrap g (23 ^ T * m)) (h0 : Mg n m 0 d) (hs : Sound n z d) (hQ : ∀ t p, t < T → p ≤ n * n * n → Sound n z (sweep g n (rounds g n d t) p) → NoNeg n (sweep g n (rounds g n d t) p)) :
    ∀ t, t ≤ T → Mg n (23 ^ t * m) 0 (rounds g n d t) ∧ Sound n z (rounds g n d t) ∧ (∀ s, s < t → ∀ i j k, i < n → j < n → k < n → leB (rounds g n d (s + 1) i j) (addB (rounds g n d s i k) (rounds g n d s k j))) := by
  intro t
  induction t with
  | zero => intro _; exact ⟨by rw [Nat.pow_zero, Nat.one_mul]; exact h0, hs, fun s h => by omega⟩
  | succ t ih =>
    intro ht
    obtain ⟨M, S, W⟩ := ih (by omega)
    have hg' : NoWrap g (23 ^ t * m) := by
      intro v hv
      apply hg
      have : 23 ^ t ≤ 23 ^ T := Nat.pow_le_pow_right (by omega) (by omega)
      have := Nat.mul_le_mul_right m this
      omega
    obtain ⟨M', S', W'⟩ := sweep_end hn hg' M S (fun p hp => hQ t p (by omega) hp)
    refine ⟨?_, S', ?_⟩
    · have : 23 ^ (t + 1) * m = 23 * (23 ^ t * m) := by rw [Nat.pow_succ, Nat.mul_comm (23 ^ t) 23, Nat.mul_assoc]
      rw [this]; exact M'
    · intro s hs i j k hi hj hk
      by_cases e : s = t
      · subst e; exact W' i j k hi hj hk
      · exact W s (by omega) i j k hi hj hk

/-- Rounds come to what FLOYD and WARSHALL come to. -/
theorem rounds_fw {g : Int → Int} {n : Nat} {c : Mat} {T : Nat} (W : ∀ s, s < T → ∀ i j k, i < n → j < n → k < n → leB (rounds g n (start c) (s + 1) i j) (addB (rounds g n (start c) s i k) (rounds g n (start c) s k j))) :
    ∀ t, t ≤ T → t ≤ n → ∀ i j, i < n → j < n → leB (rounds g n (start c) t i j) (fw c t i j) := by
  intro t
  induction t with
  | zero => intro _ _ i j _ _; exact leB_refl _
  | succ t ih =>
    intro h1 h2 i j hi hj
    have I := ih (by omega) (by omega)
    refine le_minB (leB_trans (rounds_le g n _ (Nat.le_succ t) i j) (I i j hi hj)) ?_
    exact leB_trans (W t (by omega) i j t hi hj (by omega)) (addB_mono (I i t hi (by omega)) (I t j (by omega) hj))

/-- What closing over and over, T times or more, comes to. -/
theorem closing {g : Int → Int} {n m T : Nat} {z : Mat} (hn : n ≤ 5) (hT : n ≤ T) (hg : NoWrap g (23 ^ T * m)) (hz : ∀ i j, i < n → j < n → ∀ v, z i j = some v → v.natAbs ≤ m) :
    (NoNeg n (rounds g n (start z) T) ↔ ∃ x, Pt n z x) ∧ (NoNeg n (rounds g n (start z) T) → ∀ i j, i < n → j < n → rounds g n (start z) T i j = fw z n i j) ∧ ((∃ i, i < n ∧ ¬ leB (some 0) (z i i)) ∨ Mg n m 0 (start z)) := by
  have mg : (∀ i, i < n → leB (some 0) (z i i)) → Mg n m 0 (start z) := by
    intro hd
    have dg : ∀ i, i < n → start z i i = some 0 := by
      intro i hi
      refine leB_antisymm (start_diag z i) ?_
      unfold start; rw [if_pos rfl]
      exact le_minB (hd i hi) (leB_refl _)
    have cell : ∀ i j, i < n → j < n → ∀ v, start z i j = some v → v.natAbs ≤ m := by
      intro i j hi hj v hv
      by_cases e : i = j
      · subst e
        rw [dg i hi] at hv
        obtain rfl : 0 = v := by simpa using hv
        simp
      · unfold start at hv; rw [if_neg e] at hv
        exact hz i j hi hj v hv
    refine ⟨dg, fun i j hi hj _ => cell i j hi hj, fun i j hi hj _ v hv => ?_⟩
    have := cell i j hi hj v hv
    exact Nat.le_trans this (Nat.le_mul_of_pos_left _ (tab_pos i (by omega) j (by omega)))
  have s0 : Sound n z (start z) := fun x hx => start_pt.2 hx
  have core : Mg n m 0 (start z) → (∀ t p, t < T → p ≤ n * n * n → Sound n z (sweep g n (rounds g n (start z) t) p) → NoNeg n (sweep g n (rounds g n (start z) t) p)) → Sound n z (rounds g n (start z) T) ∧ ∀ i j, i < n → j < n → leB (rounds g n (start z) T i j) (fw z n i j) := by
    intro M hQ
    obtain ⟨_, S, W⟩ := rounds_run hn T hg M s0 hQ T (Nat.le_refl _)
    exact ⟨S, fun i j hi hj => leB_trans (rounds_le g n _ hT i j) (rounds_fw W n hT (Nat.le_refl _) i j hi hj)⟩
  have nn : ∀ {d : Mat}, Sound n z d → (∃ x, Pt n z x) → NoNeg n d := by
    rintro d S ⟨x, hx⟩ i hi
    have := S x hx i i hi hi
    cases h : d i i with
    | none => trivial
    | some v => rw [h] at this; simp [okB] at this; simpa [leB] using this
  have zd : NoNeg n (rounds g n (start z) T) → ∀ i, i < n → leB (some 0) (z i i) := by
    intro N i hi
    have h1 := leB_trans (N i hi) (rounds_le g n (start z) (Nat.zero_le T) i i)
    have h2 : leB (start z i i) (z i i) := by unfold start; rw [if_pos rfl]; exact minB_left _ _
    exact leB_trans h1 h2
  have later : NoNeg n (rounds g n (start z) T) → ∀ t p, t < T → p ≤ n * n * n → NoNeg n (sweep g n (rounds g n (start z) t) p) := by
    intro N t p ht hp
    refine N.mono fun i _ => leB_trans (rounds_le g n _ (show t + 1 ≤ T from ht) i i) ?_
    exact sweep_le g n _ hp i i
  have A : NoNeg n (rounds g n (start z) T) → (∃ x, Pt n z x) ∧ ∀ i j, i < n → j < n → rounds g n (start z) T i j = fw z n i j := by
    intro N
    obtain ⟨S, L⟩ := core (mg (zd N)) (fun t p ht hp _ => later N t p ht hp)
    have NF : NoNeg n (fw z n) := N.mono fun i hi => L i i hi hi
    exact ⟨fw_some.2 NF, fun i j hi hj => closed_of_le S L NF hi hj⟩
  refine ⟨⟨fun N => (A N).1, fun hx => ?_⟩, fun N => (A N).2, ?_⟩
  · have hd : ∀ i, i < n → leB (some 0) (z i i) := nn (fun x hx => hx) hx
    obtain ⟨S, _⟩ := core (mg hd) (fun t p _ _ S => nn S hx)
    exact nn S hx
  · by_cases hd : ∀ i, i < n → leB (some 0) (z i i)
    · exact .inr (mg hd)
    · left
      apply Classical.byContradiction
      intro h
      apply hd
      intro i hi
      apply Classical.byContradiction
      intro k
      exact h ⟨i, hi, k⟩

end Go.Proofs.YtmdbgmkbkmckfaaDoor
