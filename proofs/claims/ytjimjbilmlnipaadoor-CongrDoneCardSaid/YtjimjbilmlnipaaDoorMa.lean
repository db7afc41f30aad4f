/- Rests, divisors and inverses of numbers: plain facts. -/
import Derived.Test.YtjimjbilmlnipaaDoorCy
namespace Go.Proofs.YtjimjbilmlnipaaDoor

/-- What a number leaves by another one. -/
def restI (n m : Int) : Int := if m = 0 then n else n % m

theorem restI_range {n m : Int} (h : 0 < m) : 0 ≤ restI n m ∧ restI n m < m := by
  unfold restI; rw [if_neg (by omega)]
  exact ⟨Int.emod_nonneg _ (by omega), Int.emod_lt_of_pos _ h⟩
theorem restI_dvd (n m : Int) : m ∣ n - restI n m := by
  unfold restI; split
  · simp
  · exact Int.dvd_self_sub_emod
theorem restI_zero {n m : Int} : restI n m = 0 ↔ m ∣ n := by
  unfold restI; split
  · rename_i h; rw [h, Int.zero_dvd]
  · exact ⟨Int.dvd_of_emod_eq_zero, Int.emod_eq_zero_of_dvd⟩

theorem tmod_bd (n : Int) {m : Int} (h : 0 < m) : -m < n.tmod m ∧ n.tmod m < m := by
  have h1 : (n.tmod m).natAbs = n.natAbs % m.natAbs := Int.natAbs_tmod n m
  have h2 : n.natAbs % m.natAbs < m.natAbs := Nat.mod_lt _ (by omega)
  omega

/-- The rest by two remainders. -/
theorem rest_two (n : Int) {m : Int} (h : 0 < m) : (n.tmod m + m).tmod m = n % m := by
  have b := tmod_bd n h
  rw [Int.tmod_eq_emod_of_nonneg (by omega), Int.add_emod_right]
  have e := Int.mul_tdiv_add_tmod n m
  have : n % m = (n.tmod m + m * n.tdiv m) % m := by rw [Int.add_comm, e]
  rw [this, Int.add_mul_emod_self_left]

/-- What divides all of the first k. -/
def gcdT (l : List Int) : Nat → Nat
  | 0 => 0
  | k + 1 => Int.gcd (gcdT l k) (l.getD k 0)

theorem gcdT_dvd (l : List Int) (k : Nat) (d : Int) : d ∣ (gcdT l k : Int) ↔ ∀ i, i < k → d ∣ l.getD i 0 := by
  induction k with
  | zero => simp [gcdT]
  | succ k ih =>
    have : d ∣ (gcdT l (k + 1) : Int) ↔ d ∣ (gcdT l k : Int) ∧ d ∣ l.getD k 0 := by
      show d ∣ ((Int.gcd (gcdT l k) (l.getD k 0) : Nat) : Int) ↔ _
      constructor
      · intro h; exact ⟨Int.dvd_trans h (Int.gcd_dvd_left ..), Int.dvd_trans h (Int.gcd_dvd_right ..)⟩
      · rintro ⟨h1, h2⟩; exact Int.dvd_coe_gcd h1 h2
    rw [this, ih]
    constructor
    · rintro ⟨h1, h2⟩ i hi
      by_cases h : i = k
      · subst h; exact h2
      · exact h1 i (by omega)
    · intro h; exact ⟨fun i hi => h i (by omega), h k (by omega)⟩

theorem gcd_le' {a : Nat} {b : Int} {B : Nat} (h : a ≤ B) (h2 : b.natAbs ≤ B) : Int.gcd a b ≤ B := by
  by_cases h0 : a = 0
  · rw [h0]; simpa using h2
  · have : Int.gcd (a : Int) b ∣ a := by
      have := Nat.gcd_dvd_left ((a : Int)).natAbs b.natAbs
      simpa [Int.gcd] using this
    exact Nat.le_trans (Nat.le_of_dvd (by omega) this) h

/-- One round of EUCLID. -/
theorem gcd_round (d n : Nat) : Int.gcd (d : Int) (n : Int) = Int.gcd (n : Int) ((d % n : Nat) : Int) := by
  simp only [Int.gcd, Int.natAbs_natCast]
  rw [Nat.gcd_comm d n, Nat.gcd_rec, Nat.gcd_comm]

theorem gcd_abs (d n : Int) : Int.gcd d n = Int.gcd d (n.natAbs : Int) := by simp [Int.gcd]

/-- BEZOUT. -/
theorem bezout (a b : Nat) : ∃ x y : Int, (Nat.gcd a b : Int) = a * x + b * y := by
  induction a, b using Nat.gcd.induction with
  | H0 n => exact ⟨0, 1, by simp⟩
  | H1 m n _ ih =>
    obtain ⟨x, y, e⟩ := ih
    refine ⟨y - (n / m : Nat) * x, x, ?_⟩
    rw [Nat.gcd_rec, e]
    have : ((n % m : Nat) : Int) = n - m * (n / m : Nat) := by
      have := Nat.div_add_mod n m
      omega
    rw [this]; grind

/-- What the inverse's loop holds. -/
structure InvS (M n x y xs ys : Int) : Prop where
  x0 : 1 ≤ x
  y0 : 0 ≤ y
  xM : x ≤ M
  yM : y ≤ M
  g : Int.gcd x y = 1
  dx : M ∣ xs * n - x
  dy : M ∣ ys * n - y
  s : (ys * x - xs * y = M ∧ 0 ≤ ys ∧ xs ≤ 0) ∨ (xs * y - ys * x = M ∧ ys ≤ 0 ∧ 0 ≤ xs)
  b : -M ≤ xs ∧ xs ≤ M

theorem InvS.by {M n x y xs ys : Int} (h : InvS M n x y xs ys) : -M ≤ ys ∧ ys ≤ M := by
  obtain ⟨x0, y0, xM, yM, g, dx, dy, s, b⟩ := h
  rcases s with ⟨e, h1, h2⟩ | ⟨e, h1, h2⟩
  · have a1 : 0 ≤ -(xs * y) := by rw [← Int.neg_mul]; exact Int.mul_nonneg (by omega) y0
    have a2 : ys * 1 ≤ ys * x := Int.mul_le_mul_of_nonneg_left x0 h1
    omega
  · have a1 : 0 ≤ xs * y := Int.mul_nonneg h2 y0
    have a2 : -ys * 1 ≤ -ys * x := Int.mul_le_mul_of_nonneg_left x0 (by omega)
    rw [Int.neg_mul, Int.neg_mul] at a2
    omega

theorem InvS.start {M n y : Int} (hM : 1 ≤ M) (hy : y = n % M) (hg : Int.gcd n M = 1) : InvS M n M y 0 1 := by
  have r1 := Int.emod_nonneg n (by omega : M ≠ 0)
  have r2 := Int.emod_lt_of_pos n (by omega : 0 < M)
  refine ⟨hM, by omega, by omega, by omega, ?_, by simp, ?_, .inl ⟨by omega, by omega, by omega⟩, by omega⟩
  · rw [hy, Int.gcd_comm]
    have : Int.gcd (n % M) M = Int.gcd n M := by
      apply same_dvd
      intro d
      constructor
      · intro h
        have h1 := Int.dvd_trans h (Int.gcd_dvd_left ..)
        have h2 := Int.dvd_trans h (Int.gcd_dvd_right ..)
        refine Int.dvd_coe_gcd ?_ h2
        have := Int.dvd_add h1 (Int.dvd_mul_of_dvd_left (c := n / M) h2)
        rwa [Int.emod_add_mul_ediv] at this
      · intro h
        have h1 := Int.dvd_trans h (Int.gcd_dvd_left ..)
        have h2 := Int.dvd_trans h (Int.gcd_dvd_right ..)
        refine Int.dvd_coe_gcd ?_ h2
        rw [Int.emod_def]
        exact Int.dvd_sub h1 (Int.dvd_mul_of_dvd_left h2)
    rw [this, hg]
  · rw [hy, Int.one_mul]; exact Int.dvd_self_sub_emod

theorem InvS.step {M n x y xs ys q : Int} (h : InvS M n x y xs ys) (hy : y ≠ 0) (hq : q = x / y) : InvS M n y (x - q * y) ys (xs - q * ys) ∧ (0 ≤ q * y ∧ q * y ≤ M) ∧ (-M ≤ q * ys ∧ q * ys ≤ M) ∧ x - q * y < y ∧ 0 ≤ q := by
  have hb := h.by
  obtain ⟨x0, y0, xM, yM, g, dx, dy, s, b⟩ := h
  have yp : 0 < y := by omega
  have e1 := Int.emod_def x y
  rw [Int.mul_comm y, ← hq] at e1
  have r1 := Int.emod_nonneg x (by omega : y ≠ 0)
  have r2 := Int.emod_lt_of_pos x yp
  have q0 : 0 ≤ q := by rw [hq]; exact Int.ediv_nonneg (by omega) y0
  have gg : Int.gcd y (x - q * y) = 1 := by
    rw [← g]
    apply same_dvd
    intro d
    constructor
    · intro h
      have h1 := Int.dvd_trans h (Int.gcd_dvd_left ..)
      have h2 := Int.dvd_trans h (Int.gcd_dvd_right ..)
      refine Int.dvd_coe_gcd ?_ h1
      have := Int.dvd_add h2 (Int.dvd_mul_of_dvd_right (b := q) h1)
      rwa [show x - q * y + q * y = x by omega] at this
    · intro h
      have h1 := Int.dvd_trans h (Int.gcd_dvd_left ..)
      have h2 := Int.dvd_trans h (Int.gcd_dvd_right ..)
      exact Int.dvd_coe_gcd h2 (Int.dvd_sub h1 (Int.dvd_mul_of_dvd_right h2))
  have dd : M ∣ (xs - q * ys) * n - (x - q * y) := by
    have := Int.dvd_sub dx (Int.dvd_mul_of_dvd_right (b := q) dy)
    rwa [show xs * n - x - q * (ys * n - y) = (xs - q * ys) * n - (x - q * y) by grind] at this
  have ss : ((xs - q * ys) * y - ys * (x - q * y) = M ∧ 0 ≤ xs - q * ys ∧ ys ≤ 0) ∨ (ys * (x - q * y) - (xs - q * ys) * y = M ∧ xs - q * ys ≤ 0 ∧ 0 ≤ ys) := by
    rcases s with ⟨e, h1, h2⟩ | ⟨e, h1, h2⟩
    · right
      have := Int.mul_nonneg q0 h1
      exact ⟨by grind, by omega, h1⟩
    · left
      have : 0 ≤ q * -ys := Int.mul_nonneg q0 (by omega)
      rw [Int.mul_neg] at this
      exact ⟨by grind, by omega, h1⟩
  have N : InvS M n y (x - q * y) ys (xs - q * ys) := ⟨by omega, by omega, yM, by omega, gg, dy, dd, ss, hb⟩
  have nb := N.by
  have qy : 0 ≤ q * y := Int.mul_nonneg q0 y0
  refine ⟨N, ⟨qy, by omega⟩, ?_, by omega, q0⟩
  rcases s with ⟨e, h1, h2⟩ | ⟨e, h1, h2⟩
  · have := Int.mul_nonneg q0 h1; omega
  · have : 0 ≤ q * -ys := Int.mul_nonneg q0 (by omega)
    rw [Int.mul_neg] at this; omega

theorem InvS.last {M n x xs ys : Int} (h : InvS M n x 0 xs ys) : M ∣ xs * n - 1 := by
  have e : x = 1 := by
    have := h.g
    have := h.x0
    simp [Int.gcd] at *
    omega
  have := h.dx
  rwa [e] at this

/-- The inverse, round by round. -/
def invF : Nat → Int → Int → Int → Int → Int
  | 0, _, _, xs, _ => xs
  | k + 1, x, y, xs, ys => if y = 0 then xs else invF k y (x - x / y * y) ys (xs - x / y * ys)
def invV (n M : Int) : Int := invF (restI n M).toNat M (restI n M) 0 1

theorem invF_is {M n : Int} (k : Nat) : ∀ {x y xs ys : Int}, InvS M n x y xs ys → y.toNat ≤ k → (-M ≤ invF k x y xs ys ∧ invF k x y xs ys ≤ M) ∧ M ∣ invF k x y xs ys * n - 1 := by
  induction k with
  | zero =>
    intro x y xs ys h hk
    have y0 := h.y0
    obtain rfl : y = 0 := by omega
    exact ⟨h.b, h.last⟩
  | succ k ih =>
    intro x y xs ys h hk
    have y0 := h.y0
    show (-M ≤ (if y = 0 then xs else _) ∧ (if y = 0 then xs else _) ≤ M) ∧ M ∣ (if y = 0 then xs else _) * n - 1
    by_cases hy : y = 0
    · subst hy
      simp only [if_true]
      exact ⟨h.b, h.last⟩
    · simp only [if_neg hy]
      have st := h.step hy rfl
      refine ih st.1 ?_
      have := st.2.2.2.1
      have := st.1.y0
      omega

theorem invV_is {M n : Int} (hM : 1 ≤ M) (hg : Int.gcd n M = 1) : (-M ≤ invV n M ∧ invV n M ≤ M) ∧ M ∣ invV n M * n - 1 :=
  invF_is _ (InvS.start hM (by unfold restI; rw [if_neg (by omega)]) hg) (Nat.le_refl _)

end Go.Proofs.YtjimjbilmlnipaaDoor
