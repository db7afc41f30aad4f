/- Zones: the program's squares of bounds as numbers, and what is told of them: plain facts. -/
import Derived.Test.YtmdbgmkbkmckfaaDoorZj
namespace Go.Proofs.YtmdbgmkbkmckfaaDoor
open Go.RowKit
set_option linter.unusedVariables false

/-- A bound as the program writes it. -/
def encB : Bd → Int
  | none => 9223372036854775807
  | some m => m
/-- All bounds are at most so great. -/
def Sz (n m : Nat) (d : Mat) : Prop := ∀ i j, i < n → j < n → ∀ v, d i j = some v → v.natAbs ≤ m
def OkB (b : Bd) : Prop := ∀ v, b = some v → v.natAbs ≤ 2305843009213693952

theorem Sz.mono {n m m' : Nat} {d : Mat} (h : Sz n m d) (k : m ≤ m') : Sz n m' d := fun i j hi hj v hv => Nat.le_trans (h i j hi hj v hv) k
theorem Sz.ok {n m : Nat} {d : Mat} (h : Sz n m d) (hm : m ≤ 2305843009213693952) {i j : Nat} (hi : i < n) (hj : j < n) : OkB (d i j) := fun v hv => Nat.le_trans (h i j hi hj v hv) hm
theorem Sz.fw {n m : Nat} {d : Mat} (h : Sz n m d) {k : Nat} (hk : k ≤ n) : Sz n (2 ^ k * m) (fw d k) := fun i j hi hj v hv => fw_bd h k hk i j hi hj v hv
theorem Sz.fw5 {n m : Nat} {d : Mat} (h : Sz n m d) (hn : n ≤ 5) {k : Nat} (hk : k ≤ n) : Sz n (32 * m) (Go.Proofs.YtmdbgmkbkmckfaaDoor.fw d k) := by
  refine (h.fw hk).mono (Nat.mul_le_mul_right _ ?_)
  have : 2 ^ k ≤ 2 ^ 5 := Nat.pow_le_pow_right (by omega) (by omega)
  have e : (2 : Nat) ^ 5 = 32 := by decide
  omega

theorem enc_none {b : Bd} (h : OkB b) : encB b = 9223372036854775807 ↔ b = none := by
  cases b with
  | none => simp [encB]
  | some v => have := h v rfl; simp [encB]; omega
theorem enc_rng {b : Bd} (h : OkB b) : -2305843009213693952 ≤ encB b ∧ encB b ≤ 9223372036854775807 := by
  cases b with
  | none => simp [encB]
  | some v => have := h v rfl; simp [encB]; omega
theorem enc_sum {b : Bd} (h : OkB b) : encB b = 9223372036854775807 ∨ (-2305843009213693952 ≤ encB b ∧ encB b ≤ 2305843009213693952) := by
  cases b with
  | none => simp [encB]
  | some v => have := h v rfl; simp [encB]; omega
theorem enc_le {a b : Bd} (ha : OkB a) (hb : OkB b) : encB a ≤ encB b ↔ leB a b := by
  cases a with
  | none =>
    cases b with
    | none => simp [encB, leB]
    | some v => have := hb v rfl; simp [encB, leB]; omega
  | some u =>
    have := ha u rfl
    cases b with
    | none => simp [encB, leB]; omega
    | some v => simp [encB, leB]
theorem enc_min {a b : Bd} (ha : OkB a) (hb : OkB b) : encB (minB a b) = if encB b < encB a then encB b else encB a := by
  cases a with
  | none =>
    cases b with
    | none => simp [encB, minB]
    | some v => have := hb v rfl; simp [encB, minB]; omega
  | some u =>
    have := ha u rfl
    cases b with
    | none => simp [encB, minB]; omega
    | some v => simp only [encB, minB]; by_cases h : v < u <;> simp [h] <;> omega
def plusI (x y : Int) : Int := if x = 9223372036854775807 ∨ y = 9223372036854775807 then 9223372036854775807 else x + y
theorem enc_add {a b : Bd} (ha : OkB a) (hb : OkB b) : encB (addB a b) = plusI (encB a) (encB b) := by
  unfold plusI
  cases a with
  | none => simp [encB, addB]
  | some u =>
    have := ha u rfl
    cases b with
    | none => simp [encB, addB]
    | some v => have := hb v rfl; rw [if_neg (by simp only [encB]; omega)]; simp [encB, addB]
theorem ok_add {a b : Bd} (ha : OkB a) (hb : OkB b) : plusI (encB a) (encB b) = 9223372036854775807 ∨ (-4611686018427387904 ≤ plusI (encB a) (encB b) ∧ plusI (encB a) (encB b) ≤ 4611686018427387904) := by
  have h1 := enc_sum ha
  have h2 := enc_sum hb
  unfold plusI; split <;> omega

/-- What is told of a bound. -/
def tellC : Bd → Ce
  | none => ⟨false, 0⟩
  | some m => if 1099511627776 < m then ⟨false, 0⟩ else ⟨true, if m < -1099511627776 then -1099511627776 else m⟩
def tellI (v : Int) : Ce := if 1099511627776 < v then ⟨false, 0⟩ else ⟨true, if v < -1099511627776 then -1099511627776 else v⟩
theorem tell_enc (b : Bd) : tellI (encB b) = tellC b := by
  cases b with
  | none => simp [tellI, tellC, encB]
  | some v => rfl
def tellL (n : Nat) (d : Mat) : List Ce := (List.range (n * n)).map fun p => tellC (d (p / n) (p % n))
theorem tellL_len (n : Nat) (d : Mat) : (tellL n d).length = n * n := by simp [tellL]
theorem tell_near {b : Bd} (h : ∀ v, b = some v → v.natAbs ≤ 1099511627776) : tellC b = ceOf b := by
  cases b with
  | none => rfl
  | some v => have := h v rfl; simp only [tellC, ceOf]; rw [if_neg (by omega), if_neg (by omega)]
theorem tellL_near {n : Nat} {d : Mat} (h : Sz n 1099511627776 d) : tellL n d = rowOf n d := by
  unfold tellL rowOf
  apply List.map_congr_left
  intro p hp
  have hp := List.mem_range.1 hp
  have n0 : 0 < n := by
    rcases Nat.eq_zero_or_pos n with e | e
    · subst e; simp at hp
    · exact e
  exact tell_near (h _ _ (Nat.div_lt_of_lt_mul hp) (Nat.mod_lt _ n0))
theorem div_at {n i j : Nat} (hj : j < n) : (i * n + j) / n = i ∧ (i * n + j) % n = j :=
  ⟨by rw [Nat.mul_comm, Nat.mul_add_div (by omega), Nat.div_eq_of_lt hj]; rfl, by rw [Nat.mul_comm, Nat.mul_add_mod, Nat.mod_eq_of_lt hj]⟩
theorem tellL_at {n : Nat} {d : Mat} {i j : Nat} (hi : i < n) (hj : j < n) : (tellL n d).getD (i * n + j) ceZ = tellC (d i j) := by
  have h := idx_in hi hj
  obtain ⟨e1, e2⟩ := div_at (i := i) hj
  simp [tellL, h, e1, e2]
theorem rowOf_at {n : Nat} {d : Mat} {i j : Nat} (hi : i < n) (hj : j < n) : (rowOf n d).getD (i * n + j) ceZ = ceOf (d i j) := by
  have h := idx_in hi hj
  obtain ⟨e1, e2⟩ := div_at (i := i) hj
  simp [rowOf, h, e1, e2]
theorem mat_row {n : Nat} {d : Mat} {i j : Nat} (hi : i < n) (hj : j < n) : matOf n (rowOf n d) i j = d i j := by
  unfold matOf; rw [rowOf_at hi hj, bd_ceOf]
/-- What is told allows no less. -/
theorem tell_weak (b : Bd) : leB b (tellC b).bd := by
  cases b with
  | none => simp [tellC, Ce.bd, leB]
  | some m =>
    simp only [tellC]
    split
    · simp [Ce.bd, leB]
    · split <;> simp [Ce.bd, leB]; omega
theorem Pt.tell {n : Nat} {d : Mat} {x : Nat → Int} (h : Pt n d x) : Pt n (matOf n (tellL n d)) x := by
  intro i j hi hj
  unfold matOf; rw [tellL_at hi hj]
  exact okB_mono (h i j hi hj) (tell_weak _)
theorem tell_good (n : Nat) (d : Mat) : goodL (tellL n d) := by
  intro i hi
  rw [tellL_len] at hi
  have : (tellL n d).getD i ceZ = tellC (d (i / n) (i % n)) := by simp [tellL, hi]
  rw [this]
  cases d (i / n) (i % n) with
  | none => rfl
  | some m => simp only [tellC]; split <;> simp [Ce.bd, ceOf]
theorem tell_size (n : Nat) (d : Mat) {i : Nat} (hi : i < n * n) : ((tellL n d).getD i ceZ).m.natAbs ≤ 1099511627776 := by
  have : (tellL n d).getD i ceZ = tellC (d (i / n) (i % n)) := by simp [tellL, hi]
  rw [this]
  cases d (i / n) (i % n) with
  | none => simp [tellC]
  | some m =>
    simp only [tellC]; split
    · simp
    · split <;> simp <;> omega

/-- A closed square's diagonal is 0. -/
theorem fw_diag0 {n : Nat} {c : Mat} (hN : NoNeg n (fw c n)) {i : Nat} (hi : i < n) : fw c n i i = some 0 :=
  leB_antisymm (leB_trans (fw_le (Nat.zero_le n) i i) (start_diag c i)) (hN i hi)

theorem fw_same {n : Nat} {c : Mat} (hc : Closed n c) (h0 : ∃ x, Pt n c x) {i j : Nat} (hi : i < n) (hj : j < n) : fw c n i j = c i j :=
  (closed_of_le (c := c) (d := c) (fun x h => h) (fun i j hi hj => hc.least hi hj fun y hy => (fw_pt (Nat.le_refl n)).2 hy i j hi hj) (fw_some.1 h0) hi hj).symm

theorem pt_congr {n : Nat} {c d : Mat} (h : ∀ i j, i < n → j < n → c i j = d i j) {x : Nat → Int} : Pt n c x ↔ Pt n d x :=
  ⟨fun k i j hi hj => by rw [← h i j hi hj]; exact k i j hi hj, fun k i j hi hj => by rw [h i j hi hj]; exact k i j hi hj⟩
theorem fw_congr {n : Nat} {c d : Mat} (h : ∀ i j, i < n → j < n → c i j = d i j) : ∀ k, k ≤ n → ∀ i j, i < n → j < n → fw c k i j = fw d k i j := by
  intro k
  induction k with
  | zero =>
    intro _ i j hi hj
    show start c i j = start d i j
    unfold start; rw [h i j hi hj]
  | succ k ih =>
    intro hk i j hi hj
    show minB (fw c k i j) (addB (fw c k i k) (fw c k k j)) = minB (fw d k i j) (addB (fw d k i k) (fw d k k j))
    rw [ih (by omega) i j hi hj, ih (by omega) i k hi (by omega), ih (by omega) k j (by omega) hj]
theorem tellL_congr {n : Nat} {c d : Mat} (h : ∀ i j, i < n → j < n → c i j = d i j) : tellL n c = tellL n d := by
  unfold tellL
  apply List.map_congr_left
  intro p hp
  have hp := List.mem_range.1 hp
  have n0 : 0 < n := by
    rcases Nat.eq_zero_or_pos n with e | e
    · subst e; simp at hp
    · exact e
  simp only [h _ _ (Nat.div_lt_of_lt_mul hp) (Nat.mod_lt _ n0)]

end Go.Proofs.YtmdbgmkbkmckfaaDoor
