/- Zones: cells as lists, and what closing does with them. -/
import Derived.Test.YtmdbgmkbkmckfaaDoorZe
import Derived.Deep.AppendLies
import Derived.Laws.OwnMore
namespace Go.Proofs.YtmdbgmkbkmckfaaDoor
open Go.RowKit
set_option linter.unusedVariables false

/-- The cells of a row, one by one. -/
def cellsV (l : List Ce) : List Value := l.flatMap fun c => [Value.bool c.h, Value.int .i64 c.m]
theorem cellsV_len (l : List Ce) : (cellsV l).length = l.length * 2 := by
  induction l with
  | nil => rfl
  | cons c l ih => simp only [cellsV, List.flatMap_cons, List.length_append, List.length_cons, List.length_nil] at *; omega
theorem cellsV_at (l : List Ce) (i : Nat) (hi : i < l.length) : (cellsV l)[i * 2]? = some (.bool (l.getD i ceZ).h) ∧ (cellsV l)[i * 2 + 1]? = some (.int .i64 (l.getD i ceZ).m) := by
  induction l generalizing i with
  | nil => simp at hi
  | cons c l ih =>
    cases i with
    | zero => exact ⟨rfl, rfl⟩
    | succ i =>
      have := ih i (by simpa using hi)
      rw [show (i + 1) * 2 = i * 2 + 1 + 1 by omega]
      exact this
theorem cellsV_one (l : List Ce) : ∀ u ∈ cellsV l, u.oneCell' = true := by
  intro u hu
  obtain ⟨c, _, hc⟩ := List.mem_flatMap.1 hu
  simp at hc
  rcases hc with rfl | rfl <;> rfl

theorem RowC.news {w : World} {b off : Nat} {l : List Ce} (h : RowC w b off l) : ∀ j u, (cellsV l)[j]? = some u → w.cell? ((⟨b, off, none⟩ : Addr).add j) = some u := by
  intro j u hj
  have hjl : j < l.length * 2 := by
    rcases Nat.lt_or_ge j (l.length * 2) with o | o
    · exact o
    · rw [List.getElem?_eq_none (by rw [cellsV_len]; exact o)] at hj; cases hj
  have ea : (⟨b, off, none⟩ : Addr).add j = ⟨b, off + j, none⟩ := by
    unfold Addr.add; split
    · rename_i h0; subst h0; simp
    · rfl
  rw [ea]
  obtain ⟨c1, c2⟩ := cellsV_at l (j / 2) (by omega)
  rcases (by omega : j = j / 2 * 2 ∨ j = j / 2 * 2 + 1) with e | e
  · rw [e] at hj ⊢
    rw [c1] at hj
    rw [← hj]; exact h.has (j / 2) (by omega)
  · rw [e] at hj ⊢
    rw [c2] at hj
    rw [← hj]; exact h.most (j / 2) (by omega)

theorem RowC.of_own {w : World} {base : Nat} {e : TypeId} {g n cap : Nat} {l : List Ce} (h : w.ownsRow base e 2 (.slice (some ⟨g, 0, none⟩) n cap) n (cellsV l)) (hn : n = l.length) (hg : g < w.heap.size) : RowC w g 0 l ∧ ∀ o, w.frozen? ⟨g, o, none⟩ = false := by
  refine ⟨⟨hg, fun i hi => ?_, fun i hi => ?_⟩, fun o => h.frozenAt o⟩
  · rw [Nat.zero_add]; exact (h.cellAt (i * 2) (by omega)).trans (cellsV_at l i hi).1
  · rw [Nat.zero_add]; exact (h.cellAt (i * 2 + 1) (by omega)).trans (cellsV_at l i hi).2

/-- One way tried, in a row. -/
def relL (n : Nat) (L : List Ce) (i j k : Nat) : List Ce :=
  if (L.getD (i * n + k) ceZ).h = true ∧ (L.getD (k * n + j) ceZ).h = true then lowL L (i * n + j) (wrap64 ((L.getD (i * n + k) ceZ).m + (L.getD (k * n + j) ceZ).m)) else L
def sweepL (n : Nat) (L : List Ce) : Nat → List Ce
  | 0 => L
  | p + 1 => relL n (sweepL n L p) (p / n / n) (p / n % n) (p % n)
def roundsL (n : Nat) (L : List Ce) : Nat → List Ce
  | 0 => L
  | t + 1 => sweepL n (roundsL n L t) (n * n * n)
/-- The diagonal lowered to 0, up to k. -/
def diagL (n : Nat) (L : List Ce) : Nat → List Ce
  | 0 => L
  | k + 1 => lowL (diagL n L k) (k * n + k) 0

theorem relL_len (n : Nat) (L : List Ce) (i j k : Nat) : (relL n L i j k).length = L.length := by
  unfold relL; split
  · exact lowL_len _ _ _
  · rfl
theorem sweepL_len (n : Nat) (L : List Ce) (p : Nat) : (sweepL n L p).length = L.length := by
  induction p with
  | zero => rfl
  | succ p ih => exact (relL_len _ _ _ _ _).trans ih
theorem roundsL_len (n : Nat) (L : List Ce) (t : Nat) : (roundsL n L t).length = L.length := by
  induction t with
  | zero => rfl
  | succ t ih => exact (sweepL_len _ _ _).trans ih
theorem diagL_len (n : Nat) (L : List Ce) (k : Nat) : (diagL n L k).length = L.length := by
  induction k with
  | zero => rfl
  | succ k ih => exact (lowL_len _ _ _).trans ih

/-- The bounds of a row of cells. -/
def matOf (n : Nat) (L : List Ce) : Mat := fun i j => (L.getD (i * n + j) ceZ).bd

theorem lowC_bd (c : Ce) (most : Int) : (lowC c most).bd = minB c.bd (some most) := by
  obtain ⟨h, m⟩ := c
  unfold lowC Ce.bd
  cases h
  · simp [minB]
  · by_cases e : m ≤ most
    · simp [e, minB]; omega
    · simp [e, minB]; omega

theorem idx_inj {n i j p q : Nat} (hj : j < n) (hq : q < n) : i * n + j = p * n + q ↔ i = p ∧ j = q := by
  constructor
  · intro h
    have e1 : (i * n + j) / n = i := by rw [Nat.mul_comm, Nat.mul_add_div (by omega), Nat.div_eq_of_lt hj]; rfl
    have e2 : (p * n + q) / n = p := by rw [Nat.mul_comm, Nat.mul_add_div (by omega), Nat.div_eq_of_lt hq]; rfl
    have e3 : (i * n + j) % n = j := by rw [Nat.mul_comm, Nat.mul_add_mod, Nat.mod_eq_of_lt hj]
    have e4 : (p * n + q) % n = q := by rw [Nat.mul_comm, Nat.mul_add_mod, Nat.mod_eq_of_lt hq]
    rw [h] at e1 e3
    exact ⟨by omega, by omega⟩
  · rintro ⟨rfl, rfl⟩; rfl
theorem idx_in {n i j : Nat} (hi : i < n) (hj : j < n) : i * n + j < n * n := by
  have := Nat.mul_le_mul_right n (show i + 1 ≤ n from hi)
  rw [Nat.add_mul] at this; omega

theorem matOf_low {n : Nat} {L : List Ce} (hL : L.length = n * n) {i j : Nat} (hi : i < n) (hj : j < n) (most : Int) {p q : Nat} (hp : p < n) (hq : q < n) :
    matOf n (lowL L (i * n + j) most) p q = setM (matOf n L) i j (minB (matOf n L i j) (some most)) p q := by
  unfold matOf setM lowL
  rw [getD_set (by rw [hL]; exact idx_in hi hj)]
  by_cases e : p = i ∧ q = j
  · rw [if_pos e, if_pos ((idx_inj hq hj).2 e), lowC_bd]
  · rw [if_neg e, if_neg (fun h => e ((idx_inj hq hj).1 h))]

theorem matOf_rel {n : Nat} {L : List Ce} (hL : L.length = n * n) {i j k : Nat} (hi : i < n) (hj : j < n) (hk : k < n) {p q : Nat} (hp : p < n) (hq : q < n) :
    matOf n (relL n L i j k) p q = relax wrap64 (matOf n L) i j k p q := by
  unfold relL relax
  split
  · rename_i h
    rw [matOf_low hL hi hj _ hp hq]
    have e1 : matOf n L i k = some (L.getD (i * n + k) ceZ).m := by unfold matOf Ce.bd; rw [h.1]; rfl
    have e2 : matOf n L k j = some (L.getD (k * n + j) ceZ).m := by unfold matOf Ce.bd; rw [h.2]; rfl
    rw [e1, e2]; rfl
  · rename_i h
    have e : sumB wrap64 (matOf n L i k) (matOf n L k j) = none := by
      unfold matOf Ce.bd
      by_cases h1 : (L.getD (i * n + k) ceZ).h = true
      · by_cases h2 : (L.getD (k * n + j) ceZ).h = true
        · exact absurd ⟨h1, h2⟩ h
        · rw [if_neg h2]; cases (if (L.getD (i * n + k) ceZ).h = true then some (L.getD (i * n + k) ceZ).m else none) <;> rfl
      · rw [if_neg h1]; rfl
    rw [e]
    unfold setM
    split
    · rename_i c
      rw [c.1, c.2]
      cases matOf n L i j <;> rfl
    · rfl

theorem relax_congr {g : Int → Int} {n : Nat} {c d : Mat} (h : ∀ p q, p < n → q < n → c p q = d p q) {i j k : Nat} (hi : i < n) (hj : j < n) (hk : k < n) {p q : Nat} (hp : p < n) (hq : q < n) : relax g c i j k p q = relax g d i j k p q := by
  unfold relax setM
  rw [h i j hi hj, h i k hi hk, h k j hk hj, h p q hp hq]

theorem matOf_sweep {n : Nat} {L : List Ce} {d : Mat} (hL : L.length = n * n) (h : ∀ p q, p < n → q < n → matOf n L p q = d p q) : ∀ m, m ≤ n * n * n → ∀ p q, p < n → q < n → matOf n (sweepL n L m) p q = sweep wrap64 n d m p q := by
  intro m
  induction m with
  | zero => intro _; exact h
  | succ m ih =>
    intro hm p q hp hq
    obtain ⟨hi, hj, hk, _⟩ := place (show m < n * n * n by omega)
    show matOf n (relL n _ _ _ _) p q = relax _ _ _ _ _ p q
    rw [matOf_rel (by rw [sweepL_len]; exact hL) hi hj hk hp hq]
    exact relax_congr (ih (by omega)) hi hj hk hp hq

theorem matOf_rounds {n : Nat} {L : List Ce} {d : Mat} (hL : L.length = n * n) (h : ∀ p q, p < n → q < n → matOf n L p q = d p q) : ∀ t p q, p < n → q < n → matOf n (roundsL n L t) p q = rounds wrap64 n d t p q := by
  intro t
  induction t with
  | zero => exact h
  | succ t ih =>
    intro p q hp hq
    exact matOf_sweep (by rw [roundsL_len]; exact hL) ih (n * n * n) (Nat.le_refl _) p q hp hq

theorem matOf_diag {n : Nat} {L : List Ce} (hL : L.length = n * n) : ∀ k, k ≤ n → ∀ p q, p < n → q < n → matOf n (diagL n L k) p q = if p = q ∧ p < k then minB (matOf n L p q) (some 0) else matOf n L p q := by
  intro k
  induction k with
  | zero => intro _ p q _ _; rw [if_neg (by omega)]; rfl
  | succ k ih =>
    intro hk p q hp hq
    show matOf n (lowL (diagL n L k) (k * n + k) 0) p q = _
    rw [matOf_low (by rw [diagL_len]; exact hL) (by omega) (by omega) 0 hp hq]
    unfold setM
    have I := ih (by omega)
    by_cases e : p = k ∧ q = k
    · rw [if_pos e, e.1, e.2, I k k (by omega) (by omega), if_neg (by omega), if_pos ⟨rfl, by omega⟩]
    · rw [if_neg e, I p q hp hq]
      by_cases c : p = q ∧ p < k
      · rw [if_pos c, if_pos ⟨c.1, by omega⟩]
      · rw [if_neg c, if_neg]
        rintro ⟨c1, c2⟩
        exact c ⟨c1, by omega⟩
theorem matOf_start {n : Nat} {L : List Ce} (hL : L.length = n * n) : ∀ p q, p < n → q < n → matOf n (diagL n L n) p q = start (matOf n L) p q := by
  intro p q hp hq
  rw [matOf_diag hL n (Nat.le_refl _) p q hp hq]
  unfold start
  by_cases e : p = q
  · rw [if_pos ⟨e, hp⟩, if_pos e]
  · rw [if_neg (fun h => e h.1), if_neg e]

end Go.Proofs.YtmdbgmkbkmckfaaDoor
