/- Zones: what is widened over and over: bounds become fewer. -/
import Derived.Test.YthnjnieocjpjiaaDoorYr
import Derived.Test.YthnjnieocjpjiaaDoorYs
namespace Go.Proofs.YthnjnieocjpjiaaDoor
open Go.RowKit
set_option linter.unusedVariables false

/-- How many cells have a bound. -/
def cnt (l : List Ce) : Nat := l.countP (fun c => c.h)
theorem cnt_le (l : List Ce) : cnt l ≤ l.length := List.countP_le_length

/-- Cells that are kept or dropped. -/
theorem cnt_drop : ∀ (a b : List Ce), a.length = b.length → (∀ i, i < a.length → a.getD i ceZ = ceOf (a.getD i ceZ).bd) → (∀ i, i < a.length → b.getD i ceZ = a.getD i ceZ ∨ b.getD i ceZ = ceZ) → cnt b ≤ cnt a ∧ (b = a ∨ cnt b < cnt a) := by
  intro a
  induction a with
  | nil => intro b hl _ _; cases b with
    | nil => exact ⟨Nat.le_refl _, .inl rfl⟩
    | cons x b => simp at hl
  | cons x a ih =>
    intro b hl hg h
    cases b with
    | nil => simp at hl
    | cons y b =>
      have i1 := ih b (by simpa using hl) (fun i hi => by have := hg (i + 1) (by simpa using hi); simpa using this) (fun i hi => by have := h (i + 1) (by simpa using hi); simpa using this)
      have h0 := h 0 (by simp)
      have g0 := hg 0 (by simp)
      simp at h0 g0
      have e1 : cnt (x :: a) = cnt a + (if x.h then 1 else 0) := by simp [cnt, List.countP_cons]
      have e2 : cnt (y :: b) = cnt b + (if y.h then 1 else 0) := by simp [cnt, List.countP_cons]
      rw [e1, e2]
      rcases h0 with rfl | rfl
      · refine ⟨by omega, ?_⟩
        rcases i1.2 with rfl | hlt
        · exact .inl rfl
        · exact .inr (by omega)
      · by_cases hx : x.h = true
        · refine ⟨by simp [ceZ, hx]; omega, .inr ?_⟩
          simp [ceZ, hx]; omega
        · have hx' : x = ceZ := by
            rw [g0]
            simp at hx
            simp [Ce.bd, hx, ceOf, ceZ]
          subst hx'
          refine ⟨by omega, ?_⟩
          rcases i1.2 with rfl | hlt
          · exact .inl rfl
          · exact .inr (by omega)

theorem list_row {n : Nat} {l : List Ce} (hL : l.length = n * n) {d : Mat} (h : ∀ i j, i < n → j < n → l.getD (i * n + j) ceZ = tellC (d i j)) : l = tellL n d := by
  apply List.ext_getElem?
  intro q
  by_cases hq : q < n * n
  · have n0 : 0 < n := by
      rcases Nat.eq_zero_or_pos n with e | e
      · subst e; simp at hq
      · exact e
    have hi : q / n < n := Nat.div_lt_of_lt_mul hq
    have hj : q % n < n := Nat.mod_lt _ n0
    have e : q / n * n + q % n = q := by rw [Nat.mul_comm]; exact Nat.div_add_mod _ _
    have k := h (q / n) (q % n) hi hj
    have k2 := tellL_at (d := d) hi hj
    rw [e] at k k2
    have e1 : l[q]? = some (l.getD q ceZ) := by simp [show q < l.length by omega]
    have e2 : (tellL n d)[q]? = some ((tellL n d).getD q ceZ) := by simp [tellL_len, hq]
    rw [e1, e2, k, k2]
  · rw [List.getElem?_eq_none (by omega), List.getElem?_eq_none (by rw [tellL_len]; omega)]

/-- A right zone, told, is itself. -/
theorem tell_self {N : Int} {l : List Ce} (h : zErr N l = 0) : tellL (nOf N) (matOf (nOf N) l) = l := by
  obtain ⟨z1, z2, z3, z4, z5, z6⟩ := zErr_0 h
  refine (list_row z4 fun i j hi hj => ?_).symm
  have hx := idx_in hi hj
  have hx2 : i * nOf N + j < l.length := by rw [z4]; exact hx
  have g := z5 _ hx2
  have m := z6 _ hx2
  show _ = tellC ((l.getD (i * nOf N + j) ceZ).bd)
  rw [tell_near, ← g]
  intro v hv
  revert hv
  unfold Ce.bd
  split
  · intro hv
    obtain rfl : (l.getD (i * nOf N + j) ceZ).m = v := by simpa using hv
    exact m
  · intro hv; cases hv

theorem told_some {n : Nat} {d : Mat} {x : Nat → Int} (h : Pt n d x) : NoNeg n (fw (matOf n (tellL n d)) n) := fw_some.1 ⟨x, h.tell⟩
theorem kept_le {a b : Bd} : leB a (keptB a b) := by
  unfold keptB; split
  · cases a <;> simp [leB]
  · exact leB_refl _

/-- One widening. -/
theorem wid_step {N : Int} {l m : List Ce} (h : pairErr N l N m = 0) :
    zErr N (tellL (nOf N) (widM (nOf N) (matOf (nOf N) l) (matOf (nOf N) m))) = 0 ∧ (tellL (nOf N) (widM (nOf N) (matOf (nOf N) l) (matOf (nOf N) m))).length = l.length ∧
    ((¬ NoNeg (nOf N) (fw (matOf (nOf N) l) (nOf N)) → tellL (nOf N) (widM (nOf N) (matOf (nOf N) l) (matOf (nOf N) m)) = l ∨ NoNeg (nOf N) (fw (matOf (nOf N) (tellL (nOf N) (widM (nOf N) (matOf (nOf N) l) (matOf (nOf N) m)))) (nOf N)))) ∧
    (NoNeg (nOf N) (fw (matOf (nOf N) l) (nOf N)) → NoNeg (nOf N) (fw (matOf (nOf N) (tellL (nOf N) (widM (nOf N) (matOf (nOf N) l) (matOf (nOf N) m)))) (nOf N)) ∧ cnt (tellL (nOf N) (widM (nOf N) (matOf (nOf N) l) (matOf (nOf N) m))) ≤ cnt l ∧ (tellL (nOf N) (widM (nOf N) (matOf (nOf N) l) (matOf (nOf N) m)) = l ∨ cnt (tellL (nOf N) (widM (nOf N) (matOf (nOf N) l) (matOf (nOf N) m))) < cnt l)) := by
  obtain ⟨h1, h2, _⟩ := pairErr_0 h
  obtain ⟨z1, z2, z3, z4, z5, z6⟩ := zErr_0 h1
  have self := tell_self h1
  generalize hn : nOf N = n at *
  refine ⟨tell_right z1 ⟨z2, z3⟩ _, by rw [tellL_len]; exact z4.symm, ?_, ?_⟩
  · intro hA
    by_cases hB : NoNeg n (fw (matOf n m) n)
    · right
      rw [widM_b hB hA]
      obtain ⟨x, hx⟩ := fw_some.2 hB
      exact told_some ((fw_pt (Nat.le_refl n)).2 hx)
    · left
      rw [widM_a hB]; exact self
  · intro hA
    by_cases hB : NoNeg n (fw (matOf n m) n)
    · rw [widM_ab hB hA]
      obtain ⟨x, hx⟩ := fw_some.2 hA
      refine ⟨told_some (x := x) (fun i j hi hj => okB_mono (hx i j hi hj) kept_le), ?_⟩
      refine cnt_drop l _ (by rw [tellL_len]; exact z4) z5 fun q hq => ?_
      have hq2 : q < n * n := by omega
      have n0 : 0 < n := by omega
      have hi : q / n < n := Nat.div_lt_of_lt_mul hq2
      have hj : q % n < n := Nat.mod_lt _ n0
      have e : q / n * n + q % n = q := by rw [Nat.mul_comm]; exact Nat.div_add_mod _ _
      have k2 := tellL_at (d := fun i j => keptB (matOf n l i j) (fw (matOf n m) n i j)) hi hj
      have k3 := tellL_at (d := matOf n l) hi hj
      rw [self] at k3
      rw [e] at k2 k3
      rw [k2, k3]
      unfold keptB
      split
      · right; rfl
      · left; rfl
    · rw [widM_a hB, self]
      exact ⟨hA, Nat.le_refl _, .inl rfl⟩

end Go.Proofs.YthnjnieocjpjiaaDoor
