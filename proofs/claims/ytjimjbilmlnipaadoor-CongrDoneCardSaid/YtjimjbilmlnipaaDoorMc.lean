/- Products and sums of congruences: plain facts. -/
import Derived.Test.YtjimjbilmlnipaaDoorMb
namespace Go.Proofs.YtjimjbilmlnipaaDoor

theorem gcd_of_list (l : List Int) (k g : Nat) (h : ∀ d : Int, (∀ i, i < k → d ∣ l.getD i 0) ↔ d ∣ (g : Int)) : gcdT l k = g :=
  same_dvd fun d => (gcdT_dvd l k d).trans (h d)

theorem dvd_gcd' (d a b : Int) : d ∣ (Int.gcd a b : Int) ↔ d ∣ a ∧ d ∣ b :=
  ⟨fun h => ⟨Int.dvd_trans h (Int.gcd_dvd_left ..), Int.dvd_trans h (Int.gcd_dvd_right ..)⟩, fun ⟨h, k⟩ => Int.dvd_coe_gcd h k⟩

theorem gcdT_two (a b : Int) : gcdT [a, b] 2 = Int.gcd a b := gcd_of_list _ _ _ fun d => by
  rw [dvd_gcd']
  exact ⟨fun h => ⟨h 0 (by omega), h 1 (by omega)⟩, fun ⟨h, k⟩ i hi => by
    rcases (by omega : i = 0 ∨ i = 1) with rfl | rfl
    · exact h
    · exact k⟩
theorem gcdT_join (a b x y : Int) : gcdT [a, b, y - x] 3 = Int.gcd (Int.gcd a b) (x - y) := gcd_of_list _ _ _ fun d => by
  rw [dvd_gcd', dvd_gcd']
  refine ⟨fun h => ⟨⟨h 0 (by omega), h 1 (by omega)⟩, ?_⟩, fun ⟨⟨h, k⟩, j⟩ i hi => ?_⟩
  · have : d ∣ y - x := h 2 (by omega)
    rw [show x - y = -(y - x) by omega]; exact Int.dvd_neg.2 this
  · rcases (by omega : i = 0 ∨ i = 1 ∨ i = 2) with rfl | rfl | rfl
    · exact h
    · exact k
    · show d ∣ y - x
      rw [show y - x = -(x - y) by omega]; exact Int.dvd_neg.2 j
theorem gcdT_mul (r m r' m' : Int) : gcdT [r * m', r' * m, m * m'] 3 = Int.gcd (Int.gcd (m * m') (m * r')) (r * m') := gcd_of_list _ _ _ fun d => by
  rw [dvd_gcd', dvd_gcd']
  refine ⟨fun h => ⟨⟨h 2 (by omega), ?_⟩, h 0 (by omega)⟩, fun ⟨⟨h, k⟩, j⟩ i hi => ?_⟩
  · have : d ∣ r' * m := h 1 (by omega)
    rw [Int.mul_comm]; exact this
  · rcases (by omega : i = 0 ∨ i = 1 ∨ i = 2) with rfl | rfl | rfl
    · exact j
    · show d ∣ r' * m
      rw [Int.mul_comm]; exact k
    · exact h
theorem gcdT_scale (n m : Int) (hm : 0 ≤ m) : (gcdT [n * m] 1 : Int) = (n.natAbs : Int) * m := by
  show ((Int.gcd (0 : Nat) (n * m) : Nat) : Int) = _
  simp [Int.gcd]
  rw [Int.natAbs_mul, Int.natCast_mul, show ((m.natAbs : Nat) : Int) = m by omega]
theorem gcdT_one (m : Int) (hm : 0 ≤ m) : (gcdT [m] 1 : Int) = m := by
  show ((Int.gcd (0 : Nat) m : Nat) : Int) = _
  simp [Int.gcd]
  omega

/-- A product by sizes: does it fit? -/
theorem mul_fits {x y : Int} (h0 : y ≠ 0) : (x.natAbs : Int) ≤ 9223372036854775807 / (y.natAbs : Int) ↔ -9223372036854775807 ≤ x * y ∧ x * y ≤ 9223372036854775807 := by
  rw [Int.le_ediv_iff_mul_le (by omega), ← Int.natCast_mul, ← Int.natAbs_mul]
  omega

/-- A product that does not fit is of two numbers alone. -/
theorem mul_far {r m r' m' : Int} (h : okC ⟨r, m⟩) (h' : okC ⟨r', m'⟩) (k : ¬ (-9223372036854775807 ≤ r * r' ∧ r * r' ≤ 9223372036854775807)) : m = 0 ∧ m' = 0 := by
  have key : ∀ x y : Int, (-1048576 ≤ x ∧ x ≤ 1048576) → (-1099511627776 ≤ y ∧ y ≤ 1099511627776) → (-9223372036854775807 ≤ x * y ∧ x * y ≤ 9223372036854775807) := by
    intro x y hx hy
    have e : (x * y).natAbs = x.natAbs * y.natAbs := Int.natAbs_mul x y
    have : x.natAbs * y.natAbs ≤ 1048576 * 1099511627776 := Nat.mul_le_mul (by omega) (by omega)
    omega
  obtain ⟨a1, a2, a3, a4⟩ := h
  obtain ⟨b1, b2, b3, b4⟩ := h'
  dsimp only at *
  have rb : -1099511627776 ≤ r ∧ r ≤ 1099511627776 := by
    by_cases e : m = 0
    · exact a3 e
    · have := a4 (by omega); omega
  have rb' : -1099511627776 ≤ r' ∧ r' ≤ 1099511627776 := by
    by_cases e : m' = 0
    · exact b3 e
    · have := b4 (by omega); omega
  constructor
  · by_cases e : m = 0
    · exact e
    · have := a4 (by omega)
      exact absurd (key r r' (by omega) rb') k
  · by_cases e : m' = 0
    · exact e
    · have := b4 (by omega)
      rw [Int.mul_comm] at k
      exact absurd (key r' r (by omega) rb) k

end Go.Proofs.YtjimjbilmlnipaaDoor
