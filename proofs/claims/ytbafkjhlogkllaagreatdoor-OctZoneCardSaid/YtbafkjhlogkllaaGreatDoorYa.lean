/- Zones: what the reference's closing comes to, for cells that are right and near. -/
import Derived.Test.YtbafkjhlogkllaaGreatDoorZh
namespace Go.Proofs.YtbafkjhlogkllaaGreatDoor
open Go.RowKit
set_option linter.unusedVariables false

theorem wrap64_in (v : Int) (h : v.natAbs ≤ 4611686018427387904) : wrap64 v = v := by unfold wrap64; omega

theorem fw_bd {n m : Nat} {z : Mat} (hz : ∀ i j, i < n → j < n → ∀ v, z i j = some v → v.natAbs ≤ m) : ∀ k, k ≤ n → ∀ i j, i < n → j < n → ∀ v, fw z k i j = some v → v.natAbs ≤ 2 ^ k * m := by
  intro k
  induction k with
  | zero =>
    intro _ i j hi hj v hv
    rw [Nat.pow_zero, Nat.one_mul]
    have hv' : start z i j = some v := hv
    unfold start at hv'
    by_cases e : i = j
    · rw [if_pos e] at hv'
      rcases minB_cases (z i j) (some 0) with c | c
      · rw [c] at hv'; exact hz i j hi hj v hv'
      · rw [c] at hv'
        obtain rfl : 0 = v := by simpa using hv'
        simp
    · rw [if_neg e] at hv'; exact hz i j hi hj v hv'
  | succ k ih =>
    intro hk i j hi hj v hv
    have I := ih (by omega)
    have e : 2 ^ (k + 1) * m = 2 ^ k * m + 2 ^ k * m := by rw [Nat.pow_succ, Nat.mul_assoc, Nat.mul_comm 2 m, ← Nat.mul_assoc]; omega
    have hv' : minB (fw z k i j) (addB (fw z k i k) (fw z k k j)) = some v := hv
    rcases minB_cases (fw z k i j) (addB (fw z k i k) (fw z k k j)) with c | c
    · rw [c] at hv'
      have := I i j hi hj v hv'
      omega
    · rw [c] at hv'
      cases h1 : fw z k i k with
      | none => rw [h1] at hv'; cases hv'
      | some a =>
        cases h2 : fw z k k j with
        | none => rw [h1, h2] at hv'; cases hv'
        | some b =>
          rw [h1, h2] at hv'
          have e1 := I i k hi (by omega) a h1
          have e2 := I k j (by omega) hj b h2
          have : a + b = v := by simpa [addB] using hv'
          omega

/-- A row of cells out of bounds. -/
def rowOf (n : Nat) (d : Mat) : List Ce := (List.range (n * n)).map fun p => ceOf (d (p / n) (p % n))
theorem rowOf_len (n : Nat) (d : Mat) : (rowOf n d).length = n * n := by simp [rowOf]

/-- Cells without a bound have no number. -/
def goodL (l : List Ce) : Prop := ∀ i, i < l.length → l.getD i ceZ = ceOf (l.getD i ceZ).bd

theorem good_low {l : List Ce} (h : goodL l) {k : Nat} (hk : k < l.length) (most : Int) : goodL (lowL l k most) := by
  intro i hi
  rw [lowL_len] at hi
  unfold lowL
  rw [getD_set hk]
  by_cases e : i = k
  · rw [if_pos e]
    unfold lowC
    split
    · exact h k hk
    · simp [Ce.bd, ceOf]
  · rw [if_neg e]; exact h i hi
theorem good_diag {n : Nat} {l : List Ce} (hL : l.length = n * n) (h : goodL l) : ∀ k, k ≤ n → goodL (diagL n l k) := by
  intro k
  induction k with
  | zero => intro _; exact h
  | succ k ih => intro hk; exact good_low (ih (by omega)) (by rw [diagL_len, hL]; exact idx_in (by omega) (by omega)) 0
theorem good_sweep {n : Nat} {l : List Ce} (hL : l.length = n * n) (h : goodL l) : ∀ p, p ≤ n * n * n → goodL (sweepL n l p) := by
  intro p
  induction p with
  | zero => intro _; exact h
  | succ p ih =>
    intro hp
    obtain ⟨hi, hj, hk, _⟩ := place (show p < n * n * n by omega)
    show goodL (relL n _ _ _ _)
    unfold relL
    split
    · exact good_low (ih (by omega)) (by rw [sweepL_len, hL]; exact idx_in hi hj) _
    · exact ih (by omega)
theorem good_rounds {n : Nat} {l : List Ce} (hL : l.length = n * n) (h : goodL l) : ∀ t, goodL (roundsL n l t) := by
  intro t
  induction t with
  | zero => exact h
  | succ t ih => exact good_sweep (by rw [roundsL_len]; exact hL) ih (n * n * n) (Nat.le_refl _)

theorem row_is {n : Nat} {F : List Ce} {d : Mat} (hL : F.length = n * n) (hg : goodL F) (h : ∀ i j, i < n → j < n → matOf n F i j = d i j) : F = rowOf n d := by
  apply List.ext_getElem?
  intro p
  by_cases hp : p < n * n
  · have n0 : 0 < n := by
      rcases Nat.eq_zero_or_pos n with e | e
      · subst e; simp at hp
      · exact e
    have hi : p / n < n := Nat.div_lt_of_lt_mul hp
    have hj : p % n < n := Nat.mod_lt _ n0
    have e : p / n * n + p % n = p := by rw [Nat.mul_comm]; exact Nat.div_add_mod _ _
    have k1 := h (p / n) (p % n) hi hj
    unfold matOf at k1
    rw [e] at k1
    have k2 := hg p (by omega)
    rw [k1] at k2
    have k3 : F[p]? = some (F.getD p ceZ) := by simp [show p < F.length by omega]
    rw [k3, k2]
    simp [rowOf, hp]
  · rw [List.getElem?_eq_none (by omega), List.getElem?_eq_none (by rw [rowOf_len]; omega)]

theorem clip_near {l : List Ce} (h : ∀ i, i < l.length → (l.getD i ceZ).m.natAbs ≤ 1099511627776) : l.map clipC = l := by
  apply List.ext_getElem?
  intro i
  by_cases hi : i < l.length
  · have := h i hi
    have e : l.getD i ceZ = l[i] := by simp [hi]
    rw [e] at this
    simp only [List.getElem?_map, List.getElem?_eq_getElem hi, Option.map_some]
    unfold clipC
    rw [if_neg (by omega), if_neg (by omega)]
  · rw [List.getElem?_eq_none (by simp; omega), List.getElem?_eq_none (by omega)]

/-- What closing comes to. -/
theorem closed_row {n : Nat} {l : List Ce} (hn : n ≤ 5) (hL : l.length = n * n) (hg : goodL l) (hm : ∀ i, i < l.length → (l.getD i ceZ).m.natAbs ≤ 1048576) :
    ((∃ i, i < n ∧ ((roundsL n (diagL n l n) (n + 1)).getD (i * n + i) ceZ).m < 0) ↔ ¬ ∃ x, Pt n (matOf n l) x) ∧
    ((∃ x, Pt n (matOf n l) x) → (roundsL n (diagL n l n) (n + 1)).map clipC = rowOf n (fw (matOf n l) n)) := by
  obtain ⟨F, hF⟩ : ∃ F, F = roundsL n (diagL n l n) (n + 1) := ⟨_, rfl⟩
  rw [← hF]
  have hDl : (diagL n l n).length = n * n := by rw [diagL_len]; exact hL
  have hFl : F.length = n * n := by rw [hF, roundsL_len]; exact hDl
  have hFg : goodL F := by rw [hF]; exact good_rounds hDl (good_diag hL hg n (Nat.le_refl _)) _
  have hz : ∀ i j, i < n → j < n → ∀ v, matOf n l i j = some v → v.natAbs ≤ 1048576 := by
    intro i j hi hj v hv
    have := hm (i * n + j) (by rw [hL]; exact idx_in hi hj)
    unfold matOf Ce.bd at hv
    split at hv
    · obtain rfl : (l.getD (i * n + j) ceZ).m = v := by simpa using hv
      exact this
    · cases hv
  have hw : NoWrap wrap64 (23 ^ (n + 1) * 1048576) := by
    intro v hv
    apply wrap64_in
    have : 23 ^ (n + 1) ≤ 23 ^ 6 := Nat.pow_le_pow_right (by omega) (by omega)
    have e : (23 : Nat) ^ 6 = 148035889 := by decide
    omega
  obtain ⟨c1, c2, _⟩ := closing (z := matOf n l) (T := n + 1) hn (by omega) hw hz
  have hM : ∀ p q, p < n → q < n → matOf n F p q = rounds wrap64 n (start (matOf n l)) (n + 1) p q := by
    intro p q hp hq
    rw [hF]
    exact matOf_rounds hDl (matOf_start hL) (n + 1) p q hp hq
  have dia : ∀ i, i < n → ∃ v, rounds wrap64 n (start (matOf n l)) (n + 1) i i = some v ∧ (F.getD (i * n + i) ceZ).m = v := by
    intro i hi
    have h1 := leB_trans (rounds_le wrap64 n (start (matOf n l)) (Nat.zero_le (n + 1)) i i) (start_diag (matOf n l) i)
    cases h2 : rounds wrap64 n (start (matOf n l)) (n + 1) i i with
    | none => rw [h2] at h1; cases h1
    | some v =>
      refine ⟨v, rfl, ?_⟩
      have h3 := hM i i hi hi
      rw [h2] at h3
      unfold matOf Ce.bd at h3
      split at h3
      · simpa using h3
      · cases h3
  have neg : (∃ i, i < n ∧ (F.getD (i * n + i) ceZ).m < 0) ↔ ¬ NoNeg n (rounds wrap64 n (start (matOf n l)) (n + 1)) := by
    constructor
    · rintro ⟨i, hi, h⟩ N
      obtain ⟨v, e1, e2⟩ := dia i hi
      have := N i hi
      rw [e1] at this
      simp [leB] at this
      omega
    · intro N
      apply Classical.byContradiction
      intro h
      apply N
      intro i hi
      obtain ⟨v, e1, e2⟩ := dia i hi
      rw [e1]
      have : ¬ v < 0 := fun k => h ⟨i, hi, by omega⟩
      simp [leB]; omega
  refine ⟨neg.trans (not_congr c1), fun hx => ?_⟩
  have hN := c1.2 hx
  have E : F = rowOf n (fw (matOf n l) n) := row_is hFl hFg fun i j hi hj => (hM i j hi hj).trans (c2 hN i j hi hj)
  rw [clip_near, E]
  intro p hp
  rw [hFl] at hp
  have n0 : 0 < n := by
    rcases Nat.eq_zero_or_pos n with e | e
    · subst e; simp at hp
    · exact e
  have hi : p / n < n := Nat.div_lt_of_lt_mul hp
  have hj : p % n < n := Nat.mod_lt _ n0
  rw [E]
  have e : (rowOf n (fw (matOf n l) n)).getD p ceZ = ceOf (fw (matOf n l) n (p / n) (p % n)) := by simp [rowOf, hp]
  rw [e]
  cases h : fw (matOf n l) n (p / n) (p % n) with
  | none => simp [ceOf]
  | some v =>
    have := fw_bd hz n (Nat.le_refl _) (p / n) (p % n) hi hj v h
    have h2 : 2 ^ n ≤ 2 ^ 5 := Nat.pow_le_pow_right (by omega) hn
    have h3 : (2 : Nat) ^ 5 = 32 := by decide
    simp [ceOf]
    omega

end Go.Proofs.YtbafkjhlogkllaaGreatDoor

/- Zones: the program's squares of bounds as numbers, and what is told of them: plain facts. -/
namespace Go.Proofs.YtbafkjhlogkllaaGreatDoor
open Go.RowKit
set_option linter.unusedVariables false

/-- A bound as the program writes it. -/
def encB : Bd → Int
  | none => 9223372036854775807
  | some m => m
/-- All bounds are at most so great. -/
def Sz (n m : Nat) (d : Mat) : Prop := ∀ i j, i < n → j < n → ∀ v, d i j = some v → v.natAbs ≤ m
def OkB (b : Bd) : Prop := ∀ v, b = some v → v.natAbs ≤ 2305843009213693952

theorem Sz.mono {n m m' : Nat} {d : Mat} (h : Sz n m d) (k : m ≤ m') : Sz n m' d := fun i j hi hj v hv => Nat.le_trans (h i j hi hj v hv) k
theorem Sz.ok {n m : Nat} {d : Mat} (h : Sz n m d) (hm : m ≤ 2305843009213693952) {i j : Nat} (hi : i < n) (hj : j < n) : OkB (d i j) := fun v hv => Nat.le_trans (h i j hi hj v hv) hm
theorem Sz.fw {n m : Nat} {d : Mat} (h : Sz n m d) {k : Nat} (hk : k ≤ n) : Sz n (2 ^ k * m) (fw d k) := fun i j hi hj v hv => fw_bd h k hk i j hi hj v hv
theorem Sz.fw5 {n m : Nat} {d : Mat} (h : Sz n m d) (hn : n ≤ 5) {k : Nat} (hk : k ≤ n) : Sz n (32 * m) (Go.Proofs.YtbafkjhlogkllaaGreatDoor.fw d k) := by
  refine (h.fw hk).mono (Nat.mul_le_mul_right _ ?_)
  have : 2 ^ k ≤ 2 ^ 5 := Nat.pow_le_pow_right (by omega) (by omega)
  have e : (2 : Nat) ^ 5 = 32 := by decide
  omega

theorem Sz.fw8 {n m : Nat} {d : Mat} (h : Sz n m d) (hn : n ≤ 8) {k : Nat} (hk : k ≤ n) : Sz n (256 * m) (Go.Proofs.YtbafkjhlogkllaaGreatDoor.fw d k) := by
  refine (h.fw hk).mono (Nat.mul_le_mul_right _ ?_)
  have : 2 ^ k ≤ 2 ^ 8 := Nat.pow_le_pow_right (by omega) (by omega)
  have e : (2 : Nat) ^ 8 = 256 := by decide
  omega

theorem enc_none {b : Bd} (h : OkB b) : encB b = 9223372036854775807 ↔ b = none := by
  cases b with
  | none => simp [encB]
  | some v => have := h v rfl; simp [encB]; omega
theorem enc_rng {b : Bd} (h : OkB b) : -2305843009213693952 ≤ encB b ∧ encB b ≤ 9223372036854775807 := by
  cases b with
  | none => simp [encB]
  | some v => have := h v rfl; simp [encB]; omega
theorem enc_sum {b : Bd} (h : OkB b) : encB b = 9223372036854775807 ∨ (-2305843009213693952 ≤ encB b ∧ encB b ≤ 2305843009213693952) := by
  cases b with
  | none => simp [encB]
  | some v => have := h v rfl; simp [encB]; omega
theorem enc_le {a b : Bd} (ha : OkB a) (hb : OkB b) : encB a ≤ encB b ↔ leB a b := by
  cases a with
  | none =>
    cases b with
    | none => simp [encB, leB]
    | some v => have := hb v rfl; simp [encB, leB]; omega
  | some u =>
    have := ha u rfl
    cases b with
    | none => simp [encB, leB]; omega
    | some v => simp [encB, leB]
theorem enc_min {a b : Bd} (ha : OkB a) (hb : OkB b) : encB (minB a b) = if encB b < encB a then encB b else encB a := by
  cases a with
  | none =>
    cases b with
    | none => simp [encB, minB]
    | some v => have := hb v rfl; simp [encB, minB]; omega
  | some u =>
    have := ha u rfl
    cases b with
    | none => simp [encB, minB]; omega
    | some v => simp only [encB, minB]; by_cases h : v < u <;> simp [h] <;> omega
def plusI (x y : Int) : Int := if x = 9223372036854775807 ∨ y = 9223372036854775807 then 9223372036854775807 else x + y
theorem enc_add {a b : Bd} (ha : OkB a) (hb : OkB b) : encB (addB a b) = plusI (encB a) (encB b) := by
  unfold plusI
  cases a with
  | none => simp [encB, addB]
  | some u =>
    have := ha u rfl
    cases b with
    | none => simp [encB, addB]
    | some v => have := hb v rfl; rw [if_neg (by simp only [encB]; omega)]; simp [encB, addB]
theorem ok_add {a b : Bd} (ha : OkB a) (hb : OkB b) : plusI (encB a) (encB b) = 9223372036854775807 ∨ (-4611686018427387904 ≤ plusI (encB a) (encB b) ∧ plusI (encB a) (encB b) ≤ 4611686018427387904) := by
  have h1 := enc_sum ha
  have h2 := enc_sum hb
  unfold plusI; split <;> omega

/-- What is told of a bound. -/
def tellC : Bd → Ce
  | none => ⟨false, 0⟩
  | some m => if 1099511627776 < m then ⟨false, 0⟩ else ⟨true, if m < -1099511627776 then -1099511627776 else m⟩
def tellI (v : Int) : Ce := if 1099511627776 < v then ⟨false, 0⟩ else ⟨true, if v < -1099511627776 then -1099511627776 else v⟩
theorem tell_enc (b : Bd) : tellI (encB b) = tellC b := by
  cases b with
  | none => simp [tellI, tellC, encB]
  | some v => rfl
def tellL (n : Nat) (d : Mat) : List Ce := (List.range (n * n)).map fun p => tellC (d (p / n) (p % n))
theorem tellL_len (n : Nat) (d : Mat) : (tellL n d).length = n * n := by simp [tellL]
theorem tell_near {b : Bd} (h : ∀ v, b = some v → v.natAbs ≤ 1099511627776) : tellC b = ceOf b := by
  cases b with
  | none => rfl
  | some v => have := h v rfl; simp only [tellC, ceOf]; rw [if_neg (by omega), if_neg (by omega)]
theorem tellL_near {n : Nat} {d : Mat} (h : Sz n 1099511627776 d) : tellL n d = rowOf n d := by
  unfold tellL rowOf
  apply List.map_congr_left
  intro p hp
  have hp := List.mem_range.1 hp
  have n0 : 0 < n := by
    rcases Nat.eq_zero_or_pos n with e | e
    · subst e; simp at hp
    · exact e
  exact tell_near (h _ _ (Nat.div_lt_of_lt_mul hp) (Nat.mod_lt _ n0))
theorem div_at {n i j : Nat} (hj : j < n) : (i * n + j) / n = i ∧ (i * n + j) % n = j :=
  ⟨by rw [Nat.mul_comm, Nat.mul_add_div (by omega), Nat.div_eq_of_lt hj]; rfl, by rw [Nat.mul_comm, Nat.mul_add_mod, Nat.mod_eq_of_lt hj]⟩
theorem tellL_at {n : Nat} {d : Mat} {i j : Nat} (hi : i < n) (hj : j < n) : (tellL n d).getD (i * n + j) ceZ = tellC (d i j) := by
  have h := idx_in hi hj
  obtain ⟨e1, e2⟩ := div_at (i := i) hj
  simp [tellL, h, e1, e2]
theorem rowOf_at {n : Nat} {d : Mat} {i j : Nat} (hi : i < n) (hj : j < n) : (rowOf n d).getD (i * n + j) ceZ = ceOf (d i j) := by
  have h := idx_in hi hj
  obtain ⟨e1, e2⟩ := div_at (i := i) hj
  simp [rowOf, h, e1, e2]
theorem mat_row {n : Nat} {d : Mat} {i j : Nat} (hi : i < n) (hj : j < n) : matOf n (rowOf n d) i j = d i j := by
  unfold matOf; rw [rowOf_at hi hj, bd_ceOf]
/-- What is told allows no less. -/
theorem tell_weak (b : Bd) : leB b (tellC b).bd := by
  cases b with
  | none => simp [tellC, Ce.bd, leB]
  | some m =>
    simp only [tellC]
    split
    · simp [Ce.bd, leB]
    · split <;> simp [Ce.bd, leB]; omega
theorem Pt.tell {n : Nat} {d : Mat} {x : Nat → Int} (h : Pt n d x) : Pt n (matOf n (tellL n d)) x := by
  intro i j hi hj
  unfold matOf; rw [tellL_at hi hj]
  exact okB_mono (h i j hi hj) (tell_weak _)
theorem tell_good (n : Nat) (d : Mat) : goodL (tellL n d) := by
  intro i hi
  rw [tellL_len] at hi
  have : (tellL n d).getD i ceZ = tellC (d (i / n) (i % n)) := by simp [tellL, hi]
  rw [this]
  cases d (i / n) (i % n) with
  | none => rfl
  | some m => simp only [tellC]; split <;> simp [Ce.bd, ceOf]
theorem tell_size (n : Nat) (d : Mat) {i : Nat} (hi : i < n * n) : ((tellL n d).getD i ceZ).m.natAbs ≤ 1099511627776 := by
  have : (tellL n d).getD i ceZ = tellC (d (i / n) (i % n)) := by simp [tellL, hi]
  rw [this]
  cases d (i / n) (i % n) with
  | none => simp [tellC]
  | some m =>
    simp only [tellC]; split
    · simp
    · split <;> simp <;> omega

/-- A closed square's diagonal is 0. -/
theorem fw_diag0 {n : Nat} {c : Mat} (hN : NoNeg n (fw c n)) {i : Nat} (hi : i < n) : fw c n i i = some 0 :=
  leB_antisymm (leB_trans (fw_le (Nat.zero_le n) i i) (start_diag c i)) (hN i hi)

theorem fw_same {n : Nat} {c : Mat} (hc : Closed n c) (h0 : ∃ x, Pt n c x) {i j : Nat} (hi : i < n) (hj : j < n) : fw c n i j = c i j :=
  (closed_of_le (c := c) (d := c) (fun x h => h) (fun i j hi hj => hc.least hi hj fun y hy => (fw_pt (Nat.le_refl n)).2 hy i j hi hj) (fw_some.1 h0) hi hj).symm

theorem pt_congr {n : Nat} {c d : Mat} (h : ∀ i j, i < n → j < n → c i j = d i j) {x : Nat → Int} : Pt n c x ↔ Pt n d x :=
  ⟨fun k i j hi hj => by rw [← h i j hi hj]; exact k i j hi hj, fun k i j hi hj => by rw [h i j hi hj]; exact k i j hi hj⟩
theorem fw_congr {n : Nat} {c d : Mat} (h : ∀ i j, i < n → j < n → c i j = d i j) : ∀ k, k ≤ n → ∀ i j, i < n → j < n → fw c k i j = fw d k i j := by
  intro k
  induction k with
  | zero =>
    intro _ i j hi hj
    show start c i j = start d i j
    unfold start; rw [h i j hi hj]
  | succ k ih =>
    intro hk i j hi hj
    show minB (fw c k i j) (addB (fw c k i k) (fw c k k j)) = minB (fw d k i j) (addB (fw d k i k) (fw d k k j))
    rw [ih (by omega) i j hi hj, ih (by omega) i k hi (by omega), ih (by omega) k j (by omega) hj]
theorem tellL_congr {n : Nat} {c d : Mat} (h : ∀ i j, i < n → j < n → c i j = d i j) : tellL n c = tellL n d := by
  unfold tellL
  apply List.map_congr_left
  intro p hp
  have hp := List.mem_range.1 hp
  have n0 : 0 < n := by
    rcases Nat.eq_zero_or_pos n with e | e
    · subst e; simp at hp
    · exact e
  simp only [h _ _ (Nat.div_lt_of_lt_mul hp) (Nat.mod_lt _ n0)]

end Go.Proofs.YtbafkjhlogkllaaGreatDoor
