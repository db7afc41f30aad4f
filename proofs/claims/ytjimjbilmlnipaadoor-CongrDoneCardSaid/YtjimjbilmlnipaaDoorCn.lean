/- Sums, differences and products of the first numbers of two congruences: what divides all that they differ by. -/
import Derived.Test.YtjimjbilmlnipaaDoorCf
import Derived.Test.YtjimjbilmlnipaaDoorCy
namespace Go.Proofs.YtjimjbilmlnipaaDoor
open Go.RowKit

/-- What an operation makes of the first three numbers of both. -/
def nineL (f : Int → Int → Int) (r m r' m' : Int) : List Int :=
  [f (r - m) (r' - m'), f (r - m) r', f (r - m) (r' + m'), f r (r' - m'), f r r', f r (r' + m'), f (r + m) (r' - m'), f (r + m) r', f (r + m) (r' + m')]

theorem nine_cases {i : Nat} (h : i < 9) : i = 0 ∨ i = 1 ∨ i = 2 ∨ i = 3 ∨ i = 4 ∨ i = 5 ∨ i = 6 ∨ i = 7 ∨ i = 8 := by omega

theorem nine_dvd (f : Int → Int → Int) (r m r' m' d : Int) : d ∣ (gcdD (nineL f r m r' m') 9 : Int) ↔
    (∀ x y, (x = r - m ∨ x = r ∨ x = r + m) → (y = r' - m' ∨ y = r' ∨ y = r' + m') → d ∣ f x y - f (r - m) (r' - m')) := by
  rw [gcdD_dvd]
  constructor
  · intro h x y hx hy
    rcases hx with rfl | rfl | rfl <;> rcases hy with rfl | rfl | rfl
    · exact h 0 (by omega)
    · exact h 1 (by omega)
    · exact h 2 (by omega)
    · exact h 3 (by omega)
    · exact h 4 (by omega)
    · exact h 5 (by omega)
    · exact h 6 (by omega)
    · exact h 7 (by omega)
    · exact h 8 (by omega)
  · intro h i hi
    rcases nine_cases hi with rfl | rfl | rfl | rfl | rfl | rfl | rfl | rfl | rfl
    · exact h (r - m) (r' - m') (.inl rfl) (.inl rfl)
    · exact h (r - m) r' (.inl rfl) (.inr (.inl rfl))
    · exact h (r - m) (r' + m') (.inl rfl) (.inr (.inr rfl))
    · exact h r (r' - m') (.inr (.inl rfl)) (.inl rfl)
    · exact h r r' (.inr (.inl rfl)) (.inr (.inl rfl))
    · exact h r (r' + m') (.inr (.inl rfl)) (.inr (.inr rfl))
    · exact h (r + m) (r' - m') (.inr (.inr rfl)) (.inl rfl)
    · exact h (r + m) r' (.inr (.inr rfl)) (.inr (.inl rfl))
    · exact h (r + m) (r' + m') (.inr (.inr rfl)) (.inr (.inr rfl))

theorem dvd_gcd_iff (d a b : Int) : d ∣ (Int.gcd a b : Int) ↔ d ∣ a ∧ d ∣ b :=
  ⟨fun h => ⟨Int.dvd_trans h (Int.gcd_dvd_left ..), Int.dvd_trans h (Int.gcd_dvd_right ..)⟩, fun ⟨h, k⟩ => Int.dvd_coe_gcd h k⟩

theorem add_nine (r m r' m' : Int) : gcdD (nineL (fun x y => x + y) r m r' m') 9 = Int.gcd m m' := by
  apply same_dvd
  intro d
  rw [nine_dvd, dvd_gcd_iff]
  constructor
  · intro h
    have h1 := h r (r' - m') (.inr (.inl rfl)) (.inl rfl)
    have h2 := h (r - m) r' (.inl rfl) (.inr (.inl rfl))
    try dsimp only at h1 h2
    exact ⟨by rwa [show r + (r' - m') - (r - m + (r' - m')) = m by omega] at h1, by rwa [show r - m + r' - (r - m + (r' - m')) = m' by omega] at h2⟩
  · rintro ⟨hm, hm'⟩ x y hx hy
    have ex : d ∣ x - (r - m) := by
      rcases hx with rfl | rfl | rfl
      · simp
      · rw [show x - (x - m) = m by omega]; exact hm
      · rw [show r + m - (r - m) = m + m by omega]; exact Int.dvd_add hm hm
    have ey : d ∣ y - (r' - m') := by
      rcases hy with rfl | rfl | rfl
      · simp
      · rw [show y - (y - m') = m' by omega]; exact hm'
      · rw [show r' + m' - (r' - m') = m' + m' by omega]; exact Int.dvd_add hm' hm'
    have := Int.dvd_add ex ey
    try dsimp only
    rwa [show x - (r - m) + (y - (r' - m')) = x + y - (r - m + (r' - m')) by omega] at this

theorem sub_nine (r m r' m' : Int) : gcdD (nineL (fun x y => x - y) r m r' m') 9 = Int.gcd m m' := by
  apply same_dvd
  intro d
  rw [nine_dvd, dvd_gcd_iff]
  constructor
  · intro h
    have h1 := h r (r' - m') (.inr (.inl rfl)) (.inl rfl)
    have h2 := h (r - m) r' (.inl rfl) (.inr (.inl rfl))
    try dsimp only at h1 h2
    refine ⟨by rwa [show r - (r' - m') - (r - m - (r' - m')) = m by omega] at h1, ?_⟩
    rw [show r - m - r' - (r - m - (r' - m')) = -m' by omega] at h2
    exact Int.dvd_neg.1 h2
  · rintro ⟨hm, hm'⟩ x y hx hy
    have ex : d ∣ x - (r - m) := by
      rcases hx with rfl | rfl | rfl
      · simp
      · rw [show x - (x - m) = m by omega]; exact hm
      · rw [show r + m - (r - m) = m + m by omega]; exact Int.dvd_add hm hm
    have ey : d ∣ y - (r' - m') := by
      rcases hy with rfl | rfl | rfl
      · simp
      · rw [show y - (y - m') = m' by omega]; exact hm'
      · rw [show r' + m' - (r' - m') = m' + m' by omega]; exact Int.dvd_add hm' hm'
    have := Int.dvd_sub ex ey
    try dsimp only
    rwa [show x - (r - m) - (y - (r' - m')) = x - y - (r - m - (r' - m')) by omega] at this

theorem mul_nine (r m r' m' : Int) : gcdD (nineL (fun x y => x * y) r m r' m') 9 = Int.gcd (Int.gcd (m * m') (m * r')) (r * m') := by
  apply same_dvd
  intro d
  rw [nine_dvd, dvd_gcd_iff, dvd_gcd_iff]
  constructor
  · intro h
    have a1 := h r r' (.inr (.inl rfl)) (.inr (.inl rfl))
    have a2 := h (r - m) r' (.inl rfl) (.inr (.inl rfl))
    have a3 := h r (r' - m') (.inr (.inl rfl)) (.inl rfl)
    try dsimp only at a1 a2 a3
    have k1 : d ∣ m * r' := by
      have := Int.dvd_sub a1 a2
      rwa [show r * r' - (r - m) * (r' - m') - ((r - m) * r' - (r - m) * (r' - m')) = m * r' by grind] at this
    have k2 : d ∣ r * m' := by
      have := Int.dvd_sub a1 a3
      rwa [show r * r' - (r - m) * (r' - m') - (r * (r' - m') - (r - m) * (r' - m')) = r * m' by grind] at this
    refine ⟨⟨?_, k1⟩, k2⟩
    have := Int.dvd_sub a3 k1
    rw [show r * (r' - m') - (r - m) * (r' - m') - m * r' = -(m * m') by grind] at this
    exact Int.dvd_neg.1 this
  · rintro ⟨⟨h1, h2⟩, h3⟩ x y hx hy
    have key : ∀ u v : Int, d ∣ (r + u * m) * (r' + v * m') - r * r' := by
      intro u v
      have e : (r + u * m) * (r' + v * m') - r * r' = v * (r * m') + u * (m * r') + u * v * (m * m') := by grind
      rw [e]
      exact Int.dvd_add (Int.dvd_add (Int.dvd_mul_of_dvd_right h3) (Int.dvd_mul_of_dvd_right h2)) (Int.dvd_mul_of_dvd_right h1)
    have ex : ∃ u : Int, x = r + u * m := by
      rcases hx with rfl | rfl | rfl
      · exact ⟨-1, by omega⟩
      · exact ⟨0, by omega⟩
      · exact ⟨1, by omega⟩
    have ey : ∃ v : Int, y = r' + v * m' := by
      rcases hy with rfl | rfl | rfl
      · exact ⟨-1, by omega⟩
      · exact ⟨0, by omega⟩
      · exact ⟨1, by omega⟩
    obtain ⟨u, rfl⟩ := ex
    obtain ⟨v, rfl⟩ := ey
    have := Int.dvd_sub (key u v) (key (-1) (-1))
    try dsimp only
    rwa [show (r + u * m) * (r' + v * m') - r * r' - ((r + -1 * m) * (r' + -1 * m') - r * r') = (r + u * m) * (r' + v * m') - (r - m) * (r' - m') by grind] at this

/-- One so often. -/
def scaleL (n r m : Int) : List Int := [n * (r - m), n * r, n * (r + m)]
theorem scale_three (n r m : Int) (hm : 0 ≤ m) : gcdD (scaleL n r m) 3 = n.natAbs * m.toNat := by
  apply same_dvd
  intro d
  rw [gcdD_dvd]
  have e : ((n.natAbs * m.toNat : Nat) : Int) = (n.natAbs : Int) * m := by rw [Int.natCast_mul, Int.toNat_of_nonneg hm]
  have ab : d ∣ (n.natAbs : Int) * m ↔ d ∣ n * m := by
    rcases Int.natAbs_eq n with h | h
    · rw [← h]
    · have : n * m = -((n.natAbs : Int) * m) := by
        have : n * m = (-(n.natAbs : Int)) * m := by rw [← h]
        rw [this, Int.neg_mul]
      rw [this, Int.dvd_neg]
  rw [e, ab]
  constructor
  · intro h
    have := h 1 (by omega)
    rwa [show (scaleL n r m).getD 1 0 - (scaleL n r m).getD 0 0 = n * m by show n * r - n * (r - m) = n * m; grind] at this
  · intro h i hi
    rcases (show i = 0 ∨ i = 1 ∨ i = 2 by omega) with rfl | rfl | rfl
    · show d ∣ n * (r - m) - n * (r - m); simp
    · show d ∣ n * r - n * (r - m); rw [show n * r - n * (r - m) = n * m by grind]; exact h
    · show d ∣ n * (r + m) - n * (r - m); rw [show n * (r + m) - n * (r - m) = n * m + n * m by grind]; exact Int.dvd_add h h

end Go.Proofs.YtjimjbilmlnipaaDoor
