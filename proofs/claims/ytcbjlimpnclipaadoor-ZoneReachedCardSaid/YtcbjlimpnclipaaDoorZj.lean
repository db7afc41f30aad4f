/- Zones: what the reference's closing comes to, for cells that are right and near. -/
import Derived.Test.YtcbjlimpnclipaaDoorZh
namespace Go.Proofs.YtcbjlimpnclipaaDoor
open Go.RowKit
set_option linter.unusedVariables false

theorem wrap64_in (v : Int) (h : v.natAbs ≤ 4611686018427387904) : wrap64 v = v := by unfold wrap64; omega

theorem fw_bd {n m : Nat} {z : Mat} (hz : ∀ i j, i < n → j < n → ∀ v, z i j = some v → v.natAbs ≤ m) : ∀ k, k ≤ n → ∀ i j, i < n → j < n → ∀ v, fw z k i j = some v → v.natAbs ≤ 2 ^ k * m := by
  intro k
  induction k with
  | zero =>
    intro _ i j hi hj v hv
    rw [Nat.pow_zero, Nat.one_mul]
    have hv' : start z i j = some v := hv
    unfold start at hv'
    by_cases e : i = j
    · rw [if_pos e] at hv'
      rcases minB_cases (z i j) (some 0) with c | c
      · rw [c] at hv'; exact hz i j hi hj v hv'
      · rw [c] at hv'
        obtain rfl : 0 = v := by simpa using hv'
        simp
    · rw [if_neg e] at hv'; exact hz i j hi hj v hv'
  | succ k ih =>
    intro hk i j hi hj v hv
    have I := ih (by omega)
    have e : 2 ^ (k + 1) * m = 2 ^ k * m + 2 ^ k * m := by rw [Nat.pow_succ, Nat.mul_assoc, Nat.mul_comm 2 m, ← Nat.mul_assoc]; omega
    have hv' : minB (fw z k i j) (addB (fw z k i k) (fw z k k j)) = some v := hv
    rcases minB_cases (fw z k i j) (addB (fw z k i k) (fw z k k j)) with c | c
    · rw [c] at hv'
      have := I i j hi hj v hv'
      omega
    · rw [c] at hv'
      cases h1 : fw z k i k with
      | none => rw [h1] at hv'; cases hv'
      | some a =>
        cases h2 : fw z k k j with
        | none => rw [h1, h2] at hv'; cases hv'
        | some b =>
          rw [h1, h2] at hv'
          have e1 := I i k hi (by omega) a h1
          have e2 := I k j (by omega) hj b h2
          have : a + b = v := by simpa [addB] using hv'
          omega

/-- A row of cells out of bounds. -/
def rowOf (n : Nat) (d : Mat) : List Ce := (List.range (n * n)).map fun p => ceOf (d (p / n) (p % n))
theorem rowOf_len (n : Nat) (d : Mat) : (rowOf n d).length = n * n := by simp [rowOf]

/-- Cells without a bound have no number. -/
def goodL (l : List Ce) : Prop := ∀ i, i < l.length → l.getD i ceZ = ceOf (l.getD i ceZ).bd

theorem good_low {l : List Ce} (h : goodL l) {k : Nat} (hk : k < l.length) (most : Int) : goodL (lowL l k most) := by
  intro i hi
  rw [lowL_len] at hi
  unfold lowL
  rw [getD_set hk]
  by_cases e : i = k
  · rw [if_pos e]
    unfold lowC
    split
    · exact h k hk
    · simp [Ce.bd, ceOf]
  · rw [if_neg e]; exact h i hi
theorem good_diag {n : Nat} {l : List Ce} (hL : l.length = n * n) (h : goodL l) : ∀ k, k ≤ n → goodL (diagL n l k) := by
  intro k
  induction k with
  | zero => intro _; exact h
  | succ k ih => intro hk; exact good_low (ih (by omega)) (by rw [diagL_len, hL]; exact idx_in (by omega) (by omega)) 0
theorem good_sweep {n : Nat} {l : List Ce} (hL : l.length = n * n) (h : goodL l) : ∀ p, p ≤ n * n * n → goodL (sweepL n l p) := by
  intro p
  induction p with
  | zero => intro _; exact h
  | succ p ih =>
    intro hp
    obtain ⟨hi, hj, hk, _⟩ := place (show p < n * n * n by omega)
    show goodL (relL n _ _ _ _)
    unfold relL
    split
    · exact good_low (ih (by omega)) (by rw [sweepL_len, hL]; exact idx_in hi hj) _
    · exact ih (by omega)
theorem good_rounds {n : Nat} {l : List Ce} (hL : l.length = n * n) (h : goodL l) : ∀ t, goodL (roundsL n l t) := by
  intro t
  induction t with
  | zero => exact h
  | succ t ih => exact good_sweep (by rw [roundsL_len]; exact hL) ih (n * n * n) (Nat.le_refl _)

theorem row_is {n : Nat} {F : List Ce} {d : Mat} (hL : F.length = n * n) (hg : goodL F) (h : ∀ i j, i < n → j < n → matOf n F i j = d i j) : F = rowOf n d := by
  apply List.ext_getElem?
  intro p
  by_cases hp : p < n * n
  · have n0 : 0 < n := by
      rcases Nat.eq_zero_or_pos n with e | e
      · subst e; simp at hp
      · exact e
    have hi : p / n < n := Nat.div_lt_of_lt_mul hp
    have hj : p % n < n := Nat.mod_lt _ n0
    have e : p / n * n + p % n = p := by rw [Nat.mul_comm]; exact Nat.div_add_mod _ _
    have k1 := h (p / n) (p % n) hi hj
    unfold matOf at k1
    rw [e] at k1
    have k2 := hg p (by omega)
    rw [k1] at k2
    have k3 : F[p]? = some (F.getD p ceZ) := by simp [show p < F.length by omega]
    rw [k3, k2]
    simp [rowOf, hp]
  · rw [List.getElem?_eq_none (by omega), List.getElem?_eq_none (by rw [rowOf_len]; omega)]

theorem clip_near {l : List Ce} (h : ∀ i, i < l.length → (l.getD i ceZ).m.natAbs ≤ 1099511627776) : l.map clipC = l := by
  apply List.ext_getElem?
  intro i
  by_cases hi : i < l.length
  · have := h i hi
    have e : l.getD i ceZ = l[i] := by simp [hi]
    rw [e] at this
    simp only [List.getElem?_map, List.getElem?_eq_getElem hi, Option.map_some]
    unfold clipC
    rw [if_neg (by omega), if_neg (by omega)]
  · rw [List.getElem?_eq_none (by simp; omega), List.getElem?_eq_none (by omega)]

/-- What closing comes to. -/
theorem closed_row {n : Nat} {l : List Ce} (hn : n ≤ 5) (hL : l.length = n * n) (hg : goodL l) (hm : ∀ i, i < l.length → (l.getD i ceZ).m.natAbs ≤ 1048576) :
    ((∃ i, i < n ∧ ((roundsL n (diagL n l n) (n + 1)).getD (i * n + i) ceZ).m < 0) ↔ ¬ ∃ x, Pt n (matOf n l) x) ∧
    ((∃ x, Pt n (matOf n l) x) → (roundsL n (diagL n l n) (n + 1)).map clipC = rowOf n (fw (matOf n l) n)) := by
  obtain ⟨F, hF⟩ : ∃ F, F = roundsL n (diagL n l n) (n + 1) := ⟨_, rfl⟩
  rw [← hF]
  have hDl : (diagL n l n).length = n * n := by rw [diagL_len]; exact hL
  have hFl : F.length = n * n := by rw [hF, roundsL_len]; exact hDl
  have hFg : goodL F := by rw [hF]; exact good_rounds hDl (good_diag hL hg n (Nat.le_refl _)) _
  have hz : ∀ i j, i < n → j < n → ∀ v, matOf n l i j = some v → v.natAbs ≤ 1048576 := by
    intro i j hi hj v hv
    have := hm (i * n + j) (by rw [hL]; exact idx_in hi hj)
    unfold matOf Ce.bd at hv
    split at hv
    · obtain rfl : (l.getD (i * n + j) ceZ).m = v := by simpa using hv
      exact this
    · cases hv
  have hw : NoWrap wrap64 (23 ^ (n + 1) * 1048576) := by
    intro v hv
    apply wrap64_in
    have : 23 ^ (n + 1) ≤ 23 ^ 6 := Nat.pow_le_pow_right (by omega) (by omega)
    have e : (23 : Nat) ^ 6 = 148035889 := by decide
    omega
  obtain ⟨c1, c2, _⟩ := closing (z := matOf n l) (T := n + 1) hn (by omega) hw hz
  have hM : ∀ p q, p < n → q < n → matOf n F p q = rounds wrap64 n (start (matOf n l)) (n + 1) p q := by
    intro p q hp hq
    rw [hF]
    exact matOf_rounds hDl (matOf_start hL) (n + 1) p q hp hq
  have dia : ∀ i, i < n → ∃ v, rounds wrap64 n (start (matOf n l)) (n + 1) i i = some v ∧ (F.getD (i * n + i) ceZ).m = v := by
    intro i hi
    have h1 := leB_trans (rounds_le wrap64 n (start (matOf n l)) (Nat.zero_le (n + 1)) i i) (start_diag (matOf n l) i)
    cases h2 : rounds wrap64 n (start (matOf n l)) (n + 1) i i with
    | none => rw [h2] at h1; cases h1
    | some v =>
      refine ⟨v, rfl, ?_⟩
      have h3 := hM i i hi hi
      rw [h2] at h3
      unfold matOf Ce.bd at h3
      split at h3
      · simpa using h3
      · cases h3
  have neg : (∃ i, i < n ∧ (F.getD (i * n + i) ceZ).m < 0) ↔ ¬ NoNeg n (rounds wrap64 n (start (matOf n l)) (n + 1)) := by
    constructor
    · rintro ⟨i, hi, h⟩ N
      obtain ⟨v, e1, e2⟩ := dia i hi
      have := N i hi
      rw [e1] at this
      simp [leB] at this
      omega
    · intro N
      apply Classical.byContradiction
      intro h
      apply N
      intro i hi
      obtain ⟨v, e1, e2⟩ := dia i hi
      rw [e1]
      have : ¬ v < 0 := fun k => h ⟨i, hi, by omega⟩
      simp [leB]; omega
  refine ⟨neg.trans (not_congr c1), fun hx => ?_⟩
  have hN := c1.2 hx
  have E : F = rowOf n (fw (matOf n l) n) := row_is hFl hFg fun i j hi hj => (hM i j hi hj).trans (c2 hN i j hi hj)
  rw [clip_near, E]
  intro p hp
  rw [hFl] at hp
  have n0 : 0 < n := by
    rcases Nat.eq_zero_or_pos n with e | e
    · subst e; simp at hp
    · exact e
  have hi : p / n < n := Nat.div_lt_of_lt_mul hp
  have hj : p % n < n := Nat.mod_lt _ n0
  rw [E]
  have e : (rowOf n (fw (matOf n l) n)).getD p ceZ = ceOf (fw (matOf n l) n (p / n) (p % n)) := by simp [rowOf, hp]
  rw [e]
  cases h : fw (matOf n l) n (p / n) (p % n) with
  | none => simp [ceOf]
  | some v =>
    have := fw_bd hz n (Nat.le_refl _) (p / n) (p % n) hi hj v h
    have h2 : 2 ^ n ≤ 2 ^ 5 := Nat.pow_le_pow_right (by omega) hn
    have h3 : (2 : Nat) ^ 5 = 32 := by decide
    simp [ceOf]
    omega

end Go.Proofs.YtcbjlimpnclipaaDoor
