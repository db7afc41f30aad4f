/- Zones: a variable becomes another one and a number: the rows of the reference. -/
import Derived.Test.YtkngedinomngbaaDoorXm
import Derived.Test.YtkngedinomngbaaDoorXn
import Derived.Test.YtkngedinomngbaaDoorYa
namespace Go.Proofs.YtkngedinomngbaaDoor
open Go.RowKit
set_option linter.unusedVariables false

/-- The first k cells are laid into the wider square. -/
def bgL (n : Nat) (l : List Ce) : Nat → List Ce
  | 0 => List.replicate ((n + 1) * (n + 1)) ceZ
  | k + 1 => (bgL n l k).set (k / n * (n + 1) + k % n) (l.getD k ceZ)
theorem bgL_len (n : Nat) (l : List Ce) : ∀ k, (bgL n l k).length = (n + 1) * (n + 1) := by
  intro k
  induction k with
  | zero => simp [bgL]
  | succ k ih => simp only [bgL, List.length_set, ih]
theorem bg_idx {n k : Nat} (hk : k < n * n) : k / n < n ∧ k % n < n ∧ k / n * (n + 1) + k % n < (n + 1) * (n + 1) := by
  have n0 : 0 < n := Nat.pos_of_ne_zero (fun e => by subst e; simp at hk)
  have h1 : k / n < n := Nat.div_lt_of_lt_mul hk
  have h2 : k % n < n := Nat.mod_lt _ n0
  exact ⟨h1, h2, idx_in (by omega) (by omega)⟩
theorem bgL_at {n : Nat} {l : List Ce} : ∀ k, k ≤ n * n → ∀ p q, p < n + 1 → q < n + 1 → (bgL n l k).getD (p * (n + 1) + q) ceZ = if p < n ∧ q < n ∧ p * n + q < k then l.getD (p * n + q) ceZ else ceZ := by
  intro k
  induction k with
  | zero =>
    intro _ p q hp hq
    rw [if_neg (by omega)]
    have := idx_in hp hq
    simp [bgL, this]
  | succ k ih =>
    intro hk p q hp hq
    obtain ⟨h1, h2, h3⟩ := bg_idx (show k < n * n by omega)
    show ((bgL n l k).set _ _).getD _ _ = _
    rw [getD_set (by rw [bgL_len]; exact h3)]
    have ek : k / n * n + k % n = k := by rw [Nat.mul_comm]; exact Nat.div_add_mod _ _
    by_cases e : p = k / n ∧ q = k % n
    · rw [if_pos ((idx_inj hq (by omega)).2 e), e.1, e.2, ek, if_pos ⟨h1, h2, by omega⟩]
    · rw [if_neg (fun h => e ((idx_inj hq (by omega)).1 h)), ih (by omega) p q hp hq]
      by_cases c : p < n ∧ q < n ∧ p * n + q < k
      · rw [if_pos c, if_pos ⟨c.1, c.2.1, by omega⟩]
      · rw [if_neg c, if_neg]
        rintro ⟨c1, c2, c3⟩
        have : p * n + q = k := by
          apply Nat.le_antisymm (by omega)
          apply Nat.le_of_not_lt
          intro h
          exact c ⟨c1, c2, h⟩
        rw [← ek] at this
        exact e ((idx_inj c2 h2).1 this)
/-- The wider square: the new variable is y and c. -/
def asL (n : Nat) (l : List Ce) (y : Nat) (c : Int) : List Ce := ((bgL n l (n * n)).set (y * (n + 1) + n) ⟨true, c⟩).set (n * (n + 1) + y) ⟨true, -c⟩
theorem asL_len (n : Nat) (l : List Ce) (y : Nat) (c : Int) : (asL n l y c).length = (n + 1) * (n + 1) := by unfold asL; rw [List.length_set, List.length_set, bgL_len]
theorem asL_mat {n y : Nat} {l : List Ce} {c : Int} (hy : y < n) (p q : Nat) (hp : p < n + 1) (hq : q < n + 1) : matOf (n + 1) (asL n l y c) p q = bigM n y c (matOf n l) p q := by
  have i1 : y * (n + 1) + n < (n + 1) * (n + 1) := idx_in (by omega) (by omega)
  have i2 : n * (n + 1) + y < (n + 1) * (n + 1) := idx_in (by omega) (by omega)
  unfold matOf asL bigM
  rw [getD_set (by rw [List.length_set, bgL_len]; exact i2), getD_set (by rw [bgL_len]; exact i1)]
  by_cases e1 : p = n ∧ q = y
  · rw [if_pos ((idx_inj hq (by omega)).2 e1), if_neg (by omega), if_neg (by omega), if_pos e1]; rfl
  · rw [if_neg (fun h => e1 ((idx_inj hq (by omega)).1 h))]
    by_cases e2 : p = y ∧ q = n
    · rw [if_pos ((idx_inj hq (by omega)).2 e2), if_neg (by omega), if_pos e2]; rfl
    · rw [if_neg (fun h => e2 ((idx_inj hq (by omega)).1 h)), bgL_at (n * n) (Nat.le_refl _) p q hp hq]
      by_cases c1 : p < n ∧ q < n
      · rw [if_pos ⟨c1.1, c1.2, idx_in c1.1 c1.2⟩, if_pos c1]
      · rw [if_neg (fun h => c1 ⟨h.1, h.2.1⟩), if_neg c1, if_neg e2, if_neg e1]; rfl

theorem good_set {l : List Ce} (h : goodL l) (k : Nat) {C : Ce} (hC : C = ceOf C.bd) : goodL (l.set k C) := by
  intro i hi
  rw [List.length_set] at hi
  by_cases hk : k < l.length
  · rw [getD_set hk]
    split
    · exact hC
    · exact h i hi
  · rw [List.set_eq_of_length_le (by omega)]; exact h i hi
theorem good_zero (n : Nat) : goodL (List.replicate n ceZ) := by
  intro i hi
  have : (List.replicate n ceZ).getD i ceZ = ceZ := by simp at hi; simp [hi]
  rw [this]; rfl
theorem good_getD {l : List Ce} (h : goodL l) (k : Nat) : l.getD k ceZ = ceOf (l.getD k ceZ).bd := by
  by_cases hk : k < l.length
  · exact h k hk
  · have : l.getD k ceZ = ceZ := by simp [Nat.le_of_not_lt hk]
    rw [this]; rfl
theorem good_bg {n : Nat} {l : List Ce} (h : goodL l) : ∀ k, goodL (bgL n l k) := by
  intro k
  induction k with
  | zero => exact good_zero _
  | succ k ih => exact good_set ih _ (good_getD h k)
theorem good_as {n y : Nat} {l : List Ce} {c : Int} (h : goodL l) : goodL (asL n l y c) := good_set (good_set (good_bg h _) _ rfl) _ rfl
/-- What closing it comes to. -/
theorem as_closed {n y : Nat} {l : List Ce} {c : Int} (hl : l.length = n * n) (hg : goodL l) (hc : Closed n (matOf n l)) (hy : y < n) (hs : ∀ i j, i < n → j < n → ∀ v, matOf n l i j = some v → v.natAbs ≤ 33554432) (hcm : c.natAbs ≤ 33554432) :
    roundsL (n + 1) (diagL (n + 1) (asL n l y c) (n + 1)) (n + 1 + 1) = rowOf (n + 1) (mvM (matOf n l) n y c) := by
  have hL := asL_len n l y c
  have hDl : (diagL (n + 1) (asL n l y c) (n + 1)).length = (n + 1) * (n + 1) := by rw [diagL_len]; exact hL
  refine row_is (by rw [roundsL_len]; exact hDl) (good_rounds hDl (good_diag hL (good_as hg) _ (Nat.le_refl _)) _) fun p q hp hq => ?_
  have st : ∀ p q, p < n + 1 → q < n + 1 → matOf (n + 1) (diagL (n + 1) (asL n l y c) (n + 1)) p q = start (bigM n y c (matOf n l)) p q := by
    intro p q hp hq
    rw [matOf_start hL p q hp hq]
    unfold start
    rw [asL_mat hy p q hp hq]
  rw [matOf_rounds hDl st (n + 1 + 1) p q hp hq]
  exact big_closed hc hy hs hcm (fun v hv => wrap64_in v (by omega)) (n + 1) p q hp hq
/-- The cells that are taken out of it. -/
def ouL (n : Nat) (F : List Ce) (x : Nat) : Nat → List Ce
  | 0 => List.replicate (n * n) ceZ
  | k + 1 => (ouL n F x k).set k (F.getD ((if k / n = x then n else k / n) * (n + 1) + (if k % n = x then n else k % n)) ceZ)
theorem ouL_len (n : Nat) (F : List Ce) (x : Nat) : ∀ k, (ouL n F x k).length = n * n := by
  intro k
  induction k with
  | zero => simp [ouL]
  | succ k ih => simp only [ouL, List.length_set, ih]
theorem ouL_at {n : Nat} {F : List Ce} {x : Nat} : ∀ k, k ≤ n * n → ∀ p, p < k → (ouL n F x k).getD p ceZ = F.getD ((if p / n = x then n else p / n) * (n + 1) + (if p % n = x then n else p % n)) ceZ := by
  intro k
  induction k with
  | zero => intro _ p hp; omega
  | succ k ih =>
    intro hk p hp
    show ((ouL n F x k).set _ _).getD _ _ = _
    rw [getD_set (by rw [ouL_len]; omega)]
    by_cases e : p = k
    · rw [if_pos e, e]
    · rw [if_neg e]; exact ih (by omega) p (by omega)
theorem ou_all {n x y : Nat} {d : Mat} {c : Int} (hy : y < n) : ouL n (rowOf (n + 1) (mvM d n y c)) x (n * n) = rowOf n (mvM d x y c) := by
  apply List.ext_getElem?
  intro p
  by_cases hp : p < n * n
  · obtain ⟨h1, h2, _⟩ := bg_idx hp
    have e1 : (ouL n (rowOf (n + 1) (mvM d n y c)) x (n * n))[p]? = some ((ouL n (rowOf (n + 1) (mvM d n y c)) x (n * n)).getD p ceZ) := by simp [show p < (ouL n (rowOf (n + 1) (mvM d n y c)) x (n * n)).length by rw [ouL_len]; exact hp]
    have a1 : (if p / n = x then n else p / n) < n + 1 := by split <;> omega
    have a2 : (if p % n = x then n else p % n) < n + 1 := by split <;> omega
    rw [e1, ouL_at (n * n) (Nat.le_refl _) p hp, rowOf_at a1 a2, big_out hy h1 h2]
    simp [rowOf, hp]
  · rw [List.getElem?_eq_none (by rw [ouL_len]; omega), List.getElem?_eq_none (by rw [rowOf_len]; omega)]
end Go.Proofs.YtkngedinomngbaaDoor
