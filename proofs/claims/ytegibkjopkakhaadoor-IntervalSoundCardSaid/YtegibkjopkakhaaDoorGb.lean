/- Intervals by their ends: products, quotients. -/
import Derived.Test.YtegibkjopkakhaaDoorGa
namespace Go.Proofs.YtegibkjopkakhaaDoor

/-- A product, far where it is beyond MaxBound. -/
def clipE (z : Int) : Int := if z < -1099511627776 then -9223372036854775807 else if 1099511627776 < z then 9223372036854775807 else z

theorem clip_mono {x y : Int} (h : x ≤ y) : clipE x ≤ clipE y := by
  unfold clipE; repeat' split
  all_goals omega
theorem min_clip (x y : Int) : min (clipE x) (clipE y) = clipE (min x y) := by
  unfold clipE; repeat' split
  all_goals omega
theorem max_clip (x y : Int) : max (clipE x) (clipE y) = clipE (max x y) := by
  unfold clipE; repeat' split
  all_goals omega
theorem clip_r (x : Int) : -9223372036854775807 ≤ clipE x ∧ clipE x ≤ 9223372036854775807 := by
  unfold clipE; repeat' split
  all_goals omega

theorem Spn.clip {S : Int → Prop} {l h : Int} (k : Spn S l h) : Spn S (clipE l) (clipE h) := by
  obtain ⟨n, hn, a⟩ := k.atLo
  obtain ⟨m, hm, b⟩ := k.atHi
  refine ⟨fun n hn => ?_, fun n hn => ?_, ?_, ?_⟩
  · have := k.lo n hn; unfold clipE; repeat' split
    all_goals omega
  · have := k.hi n hn; unfold clipE; repeat' split
    all_goals omega
  · refine ⟨n, hn, ?_⟩; unfold clipE; repeat' split
    all_goals omega
  · refine ⟨m, hm, ?_⟩; unfold clipE; repeat' split
    all_goals omega

/-- The least of what the ends make. -/
def min4 (a b c d : Int) : Int := min (min (min a b) c) d
def max4 (a b c d : Int) : Int := max (max (max a b) c) d

/-- A product lies between those of the ends. -/
theorem mul_between (a0 a1 b0 b1 x y : Int) (h1 : a0 ≤ x) (h2 : x ≤ a1) (h3 : b0 ≤ y) (h4 : y ≤ b1) : min4 (a0 * b0) (a0 * b1) (a1 * b0) (a1 * b1) ≤ x * y ∧ x * y ≤ max4 (a0 * b0) (a0 * b1) (a1 * b0) (a1 * b1) := by
  have k0 : a0 * y ≤ x * y ∧ x * y ≤ a1 * y ∨ a1 * y ≤ x * y ∧ x * y ≤ a0 * y := by
    by_cases hy : 0 ≤ y
    · exact .inl ⟨Int.mul_le_mul_of_nonneg_right h1 hy, Int.mul_le_mul_of_nonneg_right h2 hy⟩
    · exact .inr ⟨Int.mul_le_mul_of_nonpos_right h2 (by omega), Int.mul_le_mul_of_nonpos_right h1 (by omega)⟩
  have k1 : a0 * b0 ≤ a0 * y ∧ a0 * y ≤ a0 * b1 ∨ a0 * b1 ≤ a0 * y ∧ a0 * y ≤ a0 * b0 := by
    by_cases hy : 0 ≤ a0
    · exact .inl ⟨Int.mul_le_mul_of_nonneg_left h3 hy, Int.mul_le_mul_of_nonneg_left h4 hy⟩
    · exact .inr ⟨Int.mul_le_mul_of_nonpos_left (by omega) h4, Int.mul_le_mul_of_nonpos_left (by omega) h3⟩
  have k2 : a1 * b0 ≤ a1 * y ∧ a1 * y ≤ a1 * b1 ∨ a1 * b1 ≤ a1 * y ∧ a1 * y ≤ a1 * b0 := by
    by_cases hy : 0 ≤ a1
    · exact .inl ⟨Int.mul_le_mul_of_nonneg_left h3 hy, Int.mul_le_mul_of_nonneg_left h4 hy⟩
    · exact .inr ⟨Int.mul_le_mul_of_nonpos_left (by omega) h4, Int.mul_le_mul_of_nonpos_left (by omega) h3⟩
  unfold min4 max4; omega

/-- A number, brought to the ends. -/
def clampE (a0 a1 x : Int) : Int := max a0 (min a1 x)

theorem clamp_in {a0 a1 : Int} (h : a0 ≤ a1) (x : Int) : a0 ≤ clampE a0 a1 x ∧ clampE a0 a1 x ≤ a1 := by unfold clampE; omega

/-- What clamping does to a number of an interval. -/
theorem clamp_of {A : Iv} (h : okI A) {x : Int} (k : inI A x) : clampE (eLo A) (eHi A) x = x ∨ (x < clampE (eLo A) (eHi A) x ∧ clampE (eLo A) (eHi A) x = -9223372036854775807) ∨ (clampE (eLo A) (eHi A) x < x ∧ clampE (eLo A) (eHi A) x = 9223372036854775807) := by
  have a := inI_lo h k; have b := inI_hi h k; have c := e_le h
  unfold clampE; omega

theorem mul_far {x' y' : Int} (h : (x' = -9223372036854775807 ∧ 0 < y') ∨ (x' = 9223372036854775807 ∧ y' < 0) ∨ (y' = -9223372036854775807 ∧ 0 < x') ∨ (y' = 9223372036854775807 ∧ x' < 0)) : x' * y' < -1099511627776 := by
  rcases h with ⟨rfl, h⟩ | ⟨rfl, h⟩ | ⟨rfl, h⟩ | ⟨rfl, h⟩ <;> omega

/-- A product of numbers that were brought to the ends: as it was, or less far from 0 and far. -/
theorem mul_clamped {x y x' y' : Int} (hx : x' = x ∨ (x < x' ∧ x' = -9223372036854775807) ∨ (x' < x ∧ x' = 9223372036854775807)) (hy : y' = y ∨ (y < y' ∧ y' = -9223372036854775807) ∨ (y' < y ∧ y' = 9223372036854775807)) :
    x' * y' = x * y ∨ (0 ≤ x' * y' ∧ x' * y' ≤ x * y ∧ (1099511627776 < x' * y' ∨ x * y = 0)) ∨ (x * y ≤ x' * y' ∧ x' * y' < -1099511627776) := by
  have sx : (x = 0 ∧ x' = 0) ∨ (0 < x ∧ 0 < x' ∧ x' ≤ x) ∨ (x < 0 ∧ x' < 0 ∧ x ≤ x') := by omega
  have sy : (y = 0 ∧ y' = 0) ∨ (0 < y ∧ 0 < y' ∧ y' ≤ y) ∨ (y < 0 ∧ y' < 0 ∧ y ≤ y') := by omega
  by_cases ex : x' = x
  · by_cases ey : y' = y
    · left; rw [ex, ey]
    · subst ex
      rcases sx with ⟨rfl, _⟩ | ⟨p, _, _⟩ | ⟨p, _, _⟩
      · left; simp
      · rcases sy with ⟨q, r⟩ | ⟨q, r, s⟩ | ⟨q, r, s⟩
        · omega
        · right; left; have e : y' = 9223372036854775807 := by omega
          have := Int.mul_le_mul_of_nonneg_left s (by omega : 0 ≤ x'); rw [e] at this ⊢; omega
        · right; right; have e : y' = -9223372036854775807 := by omega
          have := Int.mul_le_mul_of_nonneg_left s (by omega : 0 ≤ x'); rw [e] at this ⊢; omega
      · rcases sy with ⟨q, r⟩ | ⟨q, r, s⟩ | ⟨q, r, s⟩
        · omega
        · right; right; have e : y' = 9223372036854775807 := by omega
          have := Int.mul_le_mul_of_nonpos_left (by omega : x' ≤ 0) s; rw [e] at this ⊢; omega
        · right; left; have e : y' = -9223372036854775807 := by omega
          have := Int.mul_le_mul_of_nonpos_left (by omega : x' ≤ 0) s; rw [e] at this ⊢; omega
  · rcases sx with ⟨p, r⟩ | ⟨p, r, s⟩ | ⟨p, r, s⟩
    · omega
    · have e : x' = 9223372036854775807 := by omega
      rcases sy with ⟨q, t⟩ | ⟨q, t, v⟩ | ⟨q, t, v⟩
      · left; rw [q, t]; simp
      · right; left
        have i1 := Int.mul_le_mul_of_nonneg_right s (by omega : 0 ≤ y')
        have i2 := Int.mul_le_mul_of_nonneg_left v (by omega : 0 ≤ x)
        rw [e] at i1 ⊢; omega
      · right; right
        have i1 := Int.mul_le_mul_of_nonpos_right s (by omega : y' ≤ 0)
        have i2 := Int.mul_le_mul_of_nonneg_left v (by omega : 0 ≤ x)
        rw [e] at i1 ⊢; omega
    · have e : x' = -9223372036854775807 := by omega
      rcases sy with ⟨q, t⟩ | ⟨q, t, v⟩ | ⟨q, t, v⟩
      · left; rw [q, t]; simp
      · right; right
        have i1 := Int.mul_le_mul_of_nonneg_right s (by omega : 0 ≤ y')
        have i2 := Int.mul_le_mul_of_nonpos_left (by omega : x ≤ 0) v
        rw [e] at i1 ⊢; omega
      · right; left
        have i1 := Int.mul_le_mul_of_nonpos_right s (by omega : y' ≤ 0)
        have i2 := Int.mul_le_mul_of_nonpos_left (by omega : x ≤ 0) v
        rw [e] at i1 ⊢; omega

theorem min4_of (a b c d : Int) : min4 a b c d = a ∨ min4 a b c d = b ∨ min4 a b c d = c ∨ min4 a b c d = d := by unfold min4; omega
theorem max4_of (a b c d : Int) : max4 a b c d = a ∨ max4 a b c d = b ∨ max4 a b c d = c ∨ max4 a b c d = d := by unfold max4; omega

theorem Spn.prods {A B : Iv} (h : okI A) (k : okI B) : Spn (prods A B) (min4 (eLo A * eLo B) (eLo A * eHi B) (eHi A * eLo B) (eHi A * eHi B)) (max4 (eLo A * eLo B) (eLo A * eHi B) (eHi A * eLo B) (eHi A * eHi B)) := by
  have la := inI_eLo h; have ha := inI_eHi h; have lb := inI_eLo k; have hb := inI_eHi k
  have key : ∀ x y, inI A x → inI B y → (min4 (eLo A * eLo B) (eLo A * eHi B) (eHi A * eLo B) (eHi A * eHi B) < -1099511627776 ∨ min4 (eLo A * eLo B) (eLo A * eHi B) (eHi A * eLo B) (eHi A * eHi B) ≤ x * y) ∧ (1099511627776 < max4 (eLo A * eLo B) (eLo A * eHi B) (eHi A * eLo B) (eHi A * eHi B) ∨ x * y ≤ max4 (eLo A * eLo B) (eLo A * eHi B) (eHi A * eLo B) (eHi A * eHi B)) := by
    intro x y hx hy
    obtain ⟨c1, c2⟩ := clamp_in (e_le h) x
    obtain ⟨c3, c4⟩ := clamp_in (e_le k) y
    have m := mul_between _ _ _ _ _ _ c1 c2 c3 c4
    have := mul_clamped (clamp_of h hx) (clamp_of k hy)
    omega
  refine ⟨?_, ?_, ?_, ?_⟩
  · rintro n ⟨x, y, hx, hy, rfl⟩; have := (key x y hx hy).1; omega
  · rintro n ⟨x, y, hx, hy, rfl⟩; have := (key x y hx hy).2; omega
  · rcases min4_of (eLo A * eLo B) (eLo A * eHi B) (eHi A * eLo B) (eHi A * eHi B) with e | e | e | e <;> rw [e]
    · exact ⟨_, ⟨_, _, la, lb, rfl⟩, .inl rfl⟩
    · exact ⟨_, ⟨_, _, la, hb, rfl⟩, .inl rfl⟩
    · exact ⟨_, ⟨_, _, ha, lb, rfl⟩, .inl rfl⟩
    · exact ⟨_, ⟨_, _, ha, hb, rfl⟩, .inl rfl⟩
  · rcases max4_of (eLo A * eLo B) (eLo A * eHi B) (eHi A * eLo B) (eHi A * eHi B) with e | e | e | e <;> rw [e]
    · exact ⟨_, ⟨_, _, la, lb, rfl⟩, .inl rfl⟩
    · exact ⟨_, ⟨_, _, la, hb, rfl⟩, .inl rfl⟩
    · exact ⟨_, ⟨_, _, ha, lb, rfl⟩, .inl rfl⟩
    · exact ⟨_, ⟨_, _, ha, hb, rfl⟩, .inl rfl⟩

end Go.Proofs.YtegibkjopkakhaaDoor
