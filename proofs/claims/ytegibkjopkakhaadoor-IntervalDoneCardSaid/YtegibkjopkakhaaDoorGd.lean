/- Intervals by their ends: remainders. -/
import Derived.Test.YtegibkjopkakhaaDoorGc
namespace Go.Proofs.YtegibkjopkakhaaDoor

/-- Remainders of the numbers from 0 on, by numbers of the sizes s0 to s1. -/
def raL (a0 a1 s0 s1 : Int) : Int := if meH a0 a1 0 9223372036854775807 < meL a0 a1 0 9223372036854775807 then 9223372036854775807 else if quoE (meL a0 a1 0 9223372036854775807) s1 = quoE (meH a0 a1 0 9223372036854775807) s0 then meL a0 a1 0 9223372036854775807 - clipE (quoE (meL a0 a1 0 9223372036854775807) s1 * s1) else 0
def raH (a0 a1 s0 s1 : Int) : Int := if meH a0 a1 0 9223372036854775807 < meL a0 a1 0 9223372036854775807 then -9223372036854775807 else if quoE (meL a0 a1 0 9223372036854775807) s1 = quoE (meH a0 a1 0 9223372036854775807) s0 then meH a0 a1 0 9223372036854775807 - clipE (quoE (meL a0 a1 0 9223372036854775807) s1 * s0) else min (meH a0 a1 0 9223372036854775807) (sumE s1 (-1))

/-- Sizes of what may divide. -/
def SizR (s0 s1 : Int) : Prop := 1 ≤ s0 ∧ s0 ≤ s1 ∧ s0 ≤ 1099511627776 ∧ (s1 = 9223372036854775807 ∨ s1 ≤ 1099511627776)

theorem from_zero {A : Iv} (k : okI A) : (meL (eLo A) (eHi A) 0 9223372036854775807 = 9223372036854775807 ∧ meH (eLo A) (eHi A) 0 9223372036854775807 = -9223372036854775807 ∧ ∀ x, inI A x → x < 0) ∨
    (0 ≤ meL (eLo A) (eHi A) 0 9223372036854775807 ∧ meL (eLo A) (eHi A) 0 9223372036854775807 ≤ meH (eLo A) (eHi A) 0 9223372036854775807 ∧ meL (eLo A) (eHi A) 0 9223372036854775807 ≤ 1099511627776 ∧ (meH (eLo A) (eHi A) 0 9223372036854775807 = 9223372036854775807 ∨ meH (eLo A) (eHi A) 0 9223372036854775807 ≤ 1099511627776) ∧ inI A (meL (eLo A) (eHi A) 0 9223372036854775807) ∧ inI A (meH (eLo A) (eHi A) 0 9223372036854775807) ∧ (∀ x, inI A x → 0 ≤ x → meL (eLo A) (eHi A) 0 9223372036854775807 ≤ x ∧ (x ≤ meH (eLo A) (eHi A) 0 9223372036854775807 ∨ meH (eLo A) (eHi A) 0 9223372036854775807 = 9223372036854775807))) := by
  have b1 := eLo_r k; have b2 := eHi_r k; have b3 := e_le k
  unfold meL meH
  by_cases e : min (eHi A) 9223372036854775807 < max (eLo A) 0
  · left
    rw [if_pos e, if_pos e]
    refine ⟨rfl, rfl, fun y hy => ?_⟩
    have := inI_lo k hy; have := inI_hi k hy; omega
  · right
    rw [if_neg e, if_neg e]
    refine ⟨by omega, by omega, by omega, by omega, ?_, ?_, fun y hy h1 => ?_⟩
    · exact inI_of (.inr (by omega)) (.inr (by omega))
    · exact inI_of (.inr (by omega)) (.inr (by omega))
    · have := inI_lo k hy; have := inI_hi k hy; omega

/-- Where all quotients are the same. -/
theorem ra_same {a0 a1 s0 s1 : Int} (h0 : 0 ≤ a0) (h1 : a0 ≤ a1) (h2 : a0 ≤ 1099511627776) (h3 : a1 = 9223372036854775807 ∨ a1 ≤ 1099511627776) (hs : SizR s0 s1) (e : quoE a0 s1 = quoE a1 s0) :
    ∃ t, 0 ≤ t ∧ quoE a0 s1 = t ∧ a1 ≤ 1099511627776 ∧ a1 / s0 = t ∧ clipE (t * s1) = t * s1 ∧ clipE (t * s0) = t * s0 ∧ t * s1 ≤ a0 ∧ t * s0 ≤ a1 ∧ (s1 = 9223372036854775807 → t = 0) ∧ (s1 ≤ 1099511627776 → a0 / s1 = t) := by
  obtain ⟨k1, k2, k3, k4⟩ := hs
  have q0 := quoE_r (x := a0) (y := s1) (by omega) (by omega)
  have q1 := quoE_r (x := a1) (y := s0) (by omega) (by omega)
  have z0 := tdiv_nonneg' h0 (by omega : 0 < s1)
  have e0 : quoE a0 s1 = a0.tdiv s1 := by omega
  have e1 : quoE a1 s0 = a1.tdiv s0 ∧ a1 ≤ 1099511627776 := by omega
  have f0 : a0.tdiv s1 = a0 / s1 := Int.tdiv_eq_ediv_of_nonneg h0
  have f1 : a1.tdiv s0 = a1 / s0 := Int.tdiv_eq_ediv_of_nonneg (by omega)
  have m0 := Int.ediv_mul_le a0 (by omega : s1 ≠ 0)
  have m1 := Int.ediv_mul_le a1 (by omega : s0 ≠ 0)
  have et : a0 / s1 = a1 / s0 := by omega
  have z1 : 0 ≤ a0 / s1 := by omega
  have p1 : 0 ≤ a0 / s1 * s1 := Int.mul_nonneg z1 (by omega)
  have p0 : 0 ≤ a0 / s1 * s0 := Int.mul_nonneg z1 (by omega)
  rw [← et] at m1
  refine ⟨a0 / s1, z1, by omega, e1.2, et.symm, ?_, ?_, m0, m1, fun hs => ?_, fun _ => rfl⟩
  · unfold clipE; rw [if_neg (by omega), if_neg (by omega)]
  · unfold clipE; rw [if_neg (by omega), if_neg (by omega)]
  · exact Int.ediv_eq_zero_of_lt h0 (by omega)

def restsP (A B : Iv) (n : Int) : Prop := ∃ x y, inI A x ∧ inI B y ∧ y ≠ 0 ∧ 0 ≤ x ∧ n = x.tmod y

theorem ra_all {A : Iv} (h : okI A) {s0 s1 : Int} (hs : SizR s0 s1) :
    ((∀ x, inI A x → x < 0) ∧ raL (eLo A) (eHi A) s0 s1 = 9223372036854775807 ∧ raH (eLo A) (eHi A) s0 s1 = -9223372036854775807) ∨
    ((∃ x, inI A x ∧ 0 ≤ x) ∧ 0 ≤ raL (eLo A) (eHi A) s0 s1 ∧ raL (eLo A) (eHi A) s0 s1 ≤ raH (eLo A) (eHi A) s0 s1 ∧ raL (eLo A) (eHi A) s0 s1 ≤ 1099511627776 ∧ (raH (eLo A) (eHi A) s0 s1 = 9223372036854775807 ∨ raH (eLo A) (eHi A) s0 s1 ≤ 1099511627776) ∧ raH (eLo A) (eHi A) s0 s1 ≤ meH (eLo A) (eHi A) 0 9223372036854775807 ∧
      ∀ x s, inI A x → 0 ≤ x → s0 ≤ s → (s ≤ s1 ∨ s1 = 9223372036854775807) → raL (eLo A) (eHi A) s0 s1 ≤ x % s ∧ (x % s ≤ raH (eLo A) (eHi A) s0 s1 ∨ raH (eLo A) (eHi A) s0 s1 = 9223372036854775807)) := by
  have hs' := hs
  obtain ⟨k1, k2, k3, k4⟩ := hs'
  unfold raL raH
  rcases from_zero h with ⟨e1, e2, e3⟩ | ⟨e1, e2, e3, e5, i0, i1, e4⟩
  · left; rw [e1, e2, if_pos (by omega), if_pos (by omega)]; exact ⟨e3, rfl, rfl⟩
  · right
    generalize meL (eLo A) (eHi A) 0 9223372036854775807 = a0 at *
    generalize meH (eLo A) (eHi A) 0 9223372036854775807 = a1 at *
    have hn : ¬ a1 < a0 := by omega
    simp only [if_neg hn]
    by_cases e : quoE a0 s1 = quoE a1 s0
    · simp only [if_pos e]
      obtain ⟨t, t0, t1, t2, t3, t4, t5, t6, t7, t8, t9⟩ := ra_same e1 e2 e3 e5 hs e
      rw [t1, t4, t5]
      have c1 : t * s0 ≤ t * s1 := Int.mul_le_mul_of_nonneg_left k2 t0
      have c0 : 0 ≤ t * s0 := Int.mul_nonneg t0 (by omega)
      refine ⟨⟨a0, i0, e1⟩, by omega, by omega, by omega, by omega, by omega, fun x s hx hx0 g1 g2 => ?_⟩
      obtain ⟨x1, x2⟩ := e4 x hx hx0
      have x3 : x ≤ a1 := by omega
      have u1 : x / s ≤ t := by
        rw [← t3]
        have a := Int.ediv_le_ediv (by omega : 0 < s) x3
        have b := tdiv_anti (a := a1) (b := s0) (b' := s) (by omega) (by omega) g1
        rw [Int.tdiv_eq_ediv_of_nonneg (by omega), Int.tdiv_eq_ediv_of_nonneg (by omega)] at b
        omega
      have u2 : t ≤ x / s := by
        have z := Int.ediv_nonneg hx0 (by omega : 0 ≤ s)
        by_cases f : s1 = 9223372036854775807
        · rw [t8 f]; exact z
        · rw [← t9 (by omega)]
          have a := Int.ediv_le_ediv (by omega : 0 < s) x1
          have b := tdiv_anti (a := a0) (b := s) (b' := s1) (by omega) (by omega) (by omega)
          rw [Int.tdiv_eq_ediv_of_nonneg (by omega), Int.tdiv_eq_ediv_of_nonneg (by omega)] at b
          omega
      have u3 : x / s = t := by omega
      have u4 : x % s = x - t * s := by rw [Int.emod_def, u3, Int.mul_comm]
      have v0 : t * s0 ≤ t * s := Int.mul_le_mul_of_nonneg_left g1 t0
      have v1 : t * s ≤ t * s1 := by
        by_cases f : s1 = 9223372036854775807
        · rw [t8 f]; simp
        · exact Int.mul_le_mul_of_nonneg_left (by omega) t0
      rw [u4]; omega
    · simp only [if_neg e]
      have sm : sumE s1 (-1) = if s1 = 9223372036854775807 then 9223372036854775807 else s1 - 1 := by
        unfold sumE
        by_cases f : s1 = 9223372036854775807
        · rw [if_pos (by omega), if_pos f, f]
        · rw [if_neg (by omega), if_neg (by omega), if_neg f]; omega
      rw [sm]
      refine ⟨⟨a0, i0, e1⟩, by omega, by split <;> omega, by omega, by split <;> omega, by split <;> omega, fun x s hx hx0 g1 g2 => ?_⟩
      obtain ⟨x1, x2⟩ := e4 x hx hx0
      have p := Int.emod_nonneg x (by omega : s ≠ 0)
      have q := Int.emod_lt_of_pos x (by omega : 0 < s)
      have r : x % s ≤ x := by have e1 := Int.emod_add_mul_ediv x s; have e2 := Int.mul_nonneg (by omega : 0 ≤ s) (Int.ediv_nonneg hx0 (by omega : 0 ≤ s)); omega
      split <;> omega

/-- By one number. -/
theorem ra_one {A : Iv} (h : okI A) (hd : A.d = false) (hu : A.u = false) {c : Int} (c1 : 1 ≤ c) (c2 : c ≤ 1099511627776) :
    Spo (fun n => ∃ x, inI A x ∧ 0 ≤ x ∧ n = x % c) (raL (eLo A) (eHi A) c c) (raH (eLo A) (eHi A) c c) := by
  have hs : SizR c c := ⟨c1, Int.le_refl _, c2, .inr c2⟩
  have inA : ∀ x, inI A x ↔ eLo A ≤ x ∧ x ≤ eHi A := by
    intro x; unfold inI eLo eHi; rw [hd, hu]; simp
  have fz := from_zero h
  rcases ra_all h hs with ⟨a1, a2, a3⟩ | ⟨a1, a2, a3, a4, a5, a6, a7⟩
  · left; rw [a2, a3]; exact ⟨fun n ⟨x, hx, h0, _⟩ => by have := a1 x hx; omega, rfl, rfl⟩
  · right
    refine ⟨⟨?_, ?_, ?_, ?_⟩, a3⟩
    · rintro n ⟨x, hx, h0, rfl⟩; have := a7 x c hx h0 (Int.le_refl _) (.inl (Int.le_refl _)); omega
    · rintro n ⟨x, hx, h0, rfl⟩; have := a7 x c hx h0 (Int.le_refl _) (.inl (Int.le_refl _)); omega
    all_goals
      rcases fz with ⟨f1, f2, f3⟩ | ⟨f1, f2, f3, f5, i0, i1, f4⟩
      · obtain ⟨x, hx, h0⟩ := a1; have := f3 x hx; omega
      · have g1 := (inA _).1 i0; have g2 := (inA _).1 i1
        have hf : meH (eLo A) (eHi A) 0 9223372036854775807 ≤ 1099511627776 := by have := eHi_r h; rw [hu] at this; simp at this; omega
        unfold raL raH at *
        generalize meL (eLo A) (eHi A) 0 9223372036854775807 = a0 at *
        generalize meH (eLo A) (eHi A) 0 9223372036854775807 = a1 at *
        rw [if_neg (by omega)]
        by_cases e : quoE a0 c = quoE a1 c
        · rw [if_pos e]
          obtain ⟨t, t0, t1, t2, t3, t4, t5, t6, t7, t8, t9⟩ := ra_same f1 f2 f3 f5 hs e
          rw [t1, t4]
          have m0 := Int.emod_def a0 c
          have m1 := Int.emod_def a1 c
          rw [t9 c2, Int.mul_comm] at m0
          rw [t3, Int.mul_comm] at m1
          first
            | exact ⟨a0 - t * c, ⟨a0, i0, f1, m0.symm⟩, .inl rfl⟩
            | exact ⟨a1 - t * c, ⟨a1, i1, by omega, m1.symm⟩, .inl rfl⟩
        · rw [if_neg e]
          have q0 := quoE_r (x := a0) (y := c) (by omega) (by omega)
          have q1 := quoE_r (x := a1) (y := c) (by omega) (by omega)
          rw [Int.tdiv_eq_ediv_of_nonneg f1] at q0
          rw [Int.tdiv_eq_ediv_of_nonneg (by omega : 0 ≤ a1)] at q1
          have lt : a0 / c < a1 / c := by have := Int.ediv_le_ediv (by omega : 0 < c) f2; omega
          have z0 := Int.ediv_nonneg f1 (by omega : 0 ≤ c)
          have m1 := Int.ediv_mul_le a1 (by omega : c ≠ 0)
          have m0 := Int.lt_ediv_add_one_mul_self a0 (by omega : 0 < c)
          have m2 : (a0 / c + 1) * c ≤ a1 / c * c := Int.mul_le_mul_of_nonneg_right (by omega) (by omega)
          have m3 : 1 * c ≤ a1 / c * c := Int.mul_le_mul_of_nonneg_right (by omega) (by omega)
          have sm : min a1 (sumE c (-1)) = c - 1 := by unfold sumE; rw [if_neg (by omega), if_neg (by omega)]; omega
          first
            | exact ⟨0, ⟨a1 / c * c, (inA _).2 (by omega), by omega, by simp⟩, .inl rfl⟩
            | (refine ⟨c - 1, ⟨a1 / c * c - 1, (inA _).2 (by omega), by omega, ?_⟩, .inl sm.symm⟩
               have : a1 / c * c - 1 = (c - 1) + (a1 / c - 1) * c := by rw [Int.sub_mul]; omega
               rw [this, Int.add_mul_emod_self_right, Int.emod_eq_of_lt (by omega) (by omega)])

/-- The sizes of all numbers but 0. -/
def szL (b0 b1 : Int) : Int := min (meL b0 b1 1 9223372036854775807) (meL (-b1) (-b0) 1 9223372036854775807)
def szH (b0 b1 : Int) : Int := max (meH b0 b1 1 9223372036854775807) (meH (-b1) (-b0) 1 9223372036854775807)

theorem sz_all {B : Iv} (k : okI B) : (szL (eLo B) (eHi B) = 9223372036854775807 ∧ szH (eLo B) (eHi B) = -9223372036854775807 ∧ ∀ y, inI B y → y = 0) ∨
    (SizR (szL (eLo B) (eHi B)) (szH (eLo B) (eHi B)) ∧ (∃ y, inI B y ∧ y ≠ 0) ∧ ∀ y, inI B y → y ≠ 0 → szL (eLo B) (eHi B) ≤ (y.natAbs : Int) ∧ ((y.natAbs : Int) ≤ szH (eLo B) (eHi B) ∨ szH (eLo B) (eHi B) = 9223372036854775807)) := by
  have p := from_one k
  have q := from_one (negI_ok k)
  have b1 := eLo_r k; have b2 := eHi_r k
  rw [negI_lo, negI_hi] at q
  have bd : (meH (eLo B) (eHi B) 1 9223372036854775807 = 9223372036854775807 ∨ meH (eLo B) (eHi B) 1 9223372036854775807 ≤ 1099511627776) ∧ (meH (-eHi B) (-eLo B) 1 9223372036854775807 = 9223372036854775807 ∨ meH (-eHi B) (-eLo B) 1 9223372036854775807 ≤ 1099511627776) := by
    unfold meH; constructor <;> split <;> omega
  unfold szL szH SizR
  generalize meL (eLo B) (eHi B) 1 9223372036854775807 = l0 at *
  generalize meH (eLo B) (eHi B) 1 9223372036854775807 = h0 at *
  generalize meL (-eHi B) (-eLo B) 1 9223372036854775807 = l1 at *
  generalize meH (-eHi B) (-eLo B) 1 9223372036854775807 = h1 at *
  rcases p with ⟨p1, p2, p3⟩ | ⟨p1, p2, p3, p4, p5, p6⟩ <;> rcases q with ⟨q1, q2, q3⟩ | ⟨q1, q2, q3, q4, q5, q6⟩
  · left
    refine ⟨by omega, by omega, fun y hy => ?_⟩
    have := p3 y hy
    have := q3 (-y) ((inI_neg _ _).2 (by rwa [Int.neg_neg])); omega
  · right
    refine ⟨by omega, ⟨-l1, (inI_neg _ _).1 q4, by omega⟩, fun y hy y0 => ?_⟩
    have := p3 y hy
    have := q6 (-y) ((inI_neg _ _).2 (by rwa [Int.neg_neg])) (by omega); omega
  · right
    refine ⟨by omega, ⟨l0, p4, by omega⟩, fun y hy y0 => ?_⟩
    have := q3 (-y) ((inI_neg _ _).2 (by rwa [Int.neg_neg]))
    have := p6 y hy (by omega); omega
  · right
    refine ⟨by omega, ⟨l0, p4, by omega⟩, fun y hy y0 => ?_⟩
    by_cases s : 0 < y
    · have := p6 y hy (by omega); omega
    · have := q6 (-y) ((inI_neg _ _).2 (by rwa [Int.neg_neg])) (by omega); omega

def reL (a0 a1 b0 b1 : Int) : Int := if szH b0 b1 < szL b0 b1 then 9223372036854775807 else min (raL a0 a1 (szL b0 b1) (szH b0 b1)) (-raH (-a1) (-a0) (szL b0 b1) (szH b0 b1))
def reH (a0 a1 b0 b1 : Int) : Int := if szH b0 b1 < szL b0 b1 then -9223372036854775807 else max (raH a0 a1 (szL b0 b1) (szH b0 b1)) (-raL (-a1) (-a0) (szL b0 b1) (szH b0 b1))

/-- A remainder by the size alone. -/
theorem tmod_pos {x y : Int} (h : 0 ≤ x) : x.tmod y = x % (y.natAbs : Int) := by
  rcases Int.natAbs_eq y with e | e
  · rw [Int.tmod_eq_emod_of_nonneg h]; conv => lhs; rw [e]
  · rw [Int.tmod_eq_emod_of_nonneg h]; conv => lhs; rw [e, Int.emod_neg]
theorem tmod_neg' {x y : Int} (h : x ≤ 0) : x.tmod y = -((-x) % (y.natAbs : Int)) := by
  have := tmod_pos (x := -x) (y := y) (by omega)
  rw [Int.neg_tmod] at this; omega

theorem remS_of {A B : Iv} (h : okI A) (k : okI B) : RemS A B (if reH (eLo A) (eHi A) (eLo B) (eHi B) < reL (eLo A) (eHi A) (eLo B) (eHi B) then ivZ else told (reL (eLo A) (eHi A) (eLo B) (eHi B)) (reH (eLo A) (eHi A) (eLo B) (eHi B))) (decide (reL (eLo A) (eHi A) (eLo B) (eHi B) ≤ reH (eLo A) (eHi A) (eLo B) (eHi B))) := by
  unfold reL reH
  rcases sz_all k with ⟨e1, e2, e3⟩ | ⟨s, e2, e3⟩
  · rw [e1, e2, if_pos (by omega), if_pos (by omega), if_pos (by omega), decide_eq_false (by omega)]
    have no : ¬ ∃ y, inI B y ∧ y ≠ 0 := fun ⟨y, hy, h0⟩ => h0 (e3 y hy)
    exact ⟨⟨fun h => (by cases h), fun h => absurd h no⟩, fun _ => rfl, by unfold okI ivZ; simp, fun h => (by cases h), fun _ _ _ h => (by cases h), fun _ _ => rfl⟩
  · have s' := s
    obtain ⟨s1, s2, s3, s4⟩ := s'
    have hn : ¬ szH (eLo B) (eHi B) < szL (eLo B) (eHi B) := by omega
    simp only [if_neg hn]
    have P := ra_all h s
    have Q := ra_all (negI_ok h) s
    have PO := fun hd hu c1 c2 => ra_one h hd hu (c := szL (eLo B) (eHi B)) c1 c2
    have QO := fun hd hu c1 c2 => ra_one (negI_ok h) hd hu (c := szL (eLo B) (eHi B)) c1 c2
    rw [negI_lo, negI_hi] at Q QO
    have b1 := eLo_r h; have b2 := eHi_r h; have b3 := e_le h
    have mh : meH (eLo A) (eHi A) 0 9223372036854775807 ≤ eHi A ∨ meH (eLo A) (eHi A) 0 9223372036854775807 = -9223372036854775807 := by unfold meH; split <;> omega
    have ml : meH (-eHi A) (-eLo A) 0 9223372036854775807 ≤ -eLo A ∨ meH (-eHi A) (-eLo A) 0 9223372036854775807 = -9223372036854775807 := by unfold meH; split <;> omega
    have one : smallB B 12 = true → B.lo = B.hi → szL (eLo B) (eHi B) = szH (eLo B) (eHi B) := by
      intro sB e
      have d := small_r sB
      have u1 : eLo B = B.lo := by unfold eLo; rw [d.1]; simp
      have u2 : eHi B = B.lo := by unfold eHi; rw [d.2.1, e]; simp
      obtain ⟨y, hy, y0⟩ := e2
      have y1 : B.lo ≤ y := hy.1.resolve_left (by rw [d.1]; simp)
      have y2 : y ≤ B.hi := hy.2.resolve_left (by rw [d.2.1]; simp)
      rw [u1, u2]
      unfold szL szH meL meH
      repeat' split
      all_goals omega
    have szs : smallB B 12 = true → szL (eLo B) (eHi B) ≤ 12 := by
      intro sB
      have d := small_r sB
      obtain ⟨y, hy, y0⟩ := e2
      have := e3 y hy y0
      have y1 : B.lo ≤ y := hy.1.resolve_left (by rw [d.1]; simp)
      have y2 : y ≤ B.hi := hy.2.resolve_left (by rw [d.2.1]; simp)
      omega
    generalize hr0 : raL (eLo A) (eHi A) (szL (eLo B) (eHi B)) (szH (eLo B) (eHi B)) = r0 at *
    generalize hr1 : raH (eLo A) (eHi A) (szL (eLo B) (eHi B)) (szH (eLo B) (eHi B)) = r1 at *
    generalize ht0 : raL (-eHi A) (-eLo A) (szL (eLo B) (eHi B)) (szH (eLo B) (eHi B)) = t0 at *
    generalize ht1 : raH (-eHi A) (-eLo A) (szL (eLo B) (eHi B)) (szH (eLo B) (eHi B)) = t1 at *
    have le : min r0 (-t1) ≤ max r1 (-t0) := by
      rcases P with ⟨p1, p2, p3⟩ | ⟨p1, p2, p3, p4, p5, p6, p7⟩ <;> rcases Q with ⟨q1, q2, q3⟩ | ⟨q1, q2, q3, q4, q5, q6, q7⟩
      · have x1 := p1 _ (inI_eLo h)
        have x2 := q1 (-eLo A) ((inI_neg _ _).2 (by rw [Int.neg_neg]; exact inI_eLo h))
        omega
      all_goals omega
    rw [if_neg (by omega), decide_eq_true le]
    refine ⟨⟨fun _ => e2, fun _ => rfl⟩, fun h => (by cases h), told_ok le, ?_, ?_, ?_⟩
    · rintro - n ⟨x, y, hx, hy, y0, rfl⟩
      have ey := e3 y hy y0
      have key : (min r0 (-t1) < -1099511627776 ∨ min r0 (-t1) ≤ x.tmod y) ∧ (1099511627776 < max r1 (-t0) ∨ x.tmod y ≤ max r1 (-t0)) := by
        by_cases x0 : 0 ≤ x
        · rw [tmod_pos x0]
          rcases P with ⟨p1, p2, p3⟩ | ⟨p1, p2, p3, p4, p5, p6, p7⟩
          · have := p1 x hx; omega
          · have := p7 x _ hx x0 ey.1 ey.2; omega
        · rw [tmod_neg' (by omega)]
          rcases Q with ⟨q1, q2, q3⟩ | ⟨q1, q2, q3, q4, q5, q6, q7⟩
          · have := q1 (-x) ((inI_neg _ _).2 (by rwa [Int.neg_neg])); omega
          · have := q7 (-x) _ ((inI_neg _ _).2 (by rwa [Int.neg_neg])) (by omega) ey.1 ey.2; omega
      obtain ⟨key1, key2⟩ := key
      unfold inI told; dsimp only
      constructor
      · by_cases e : min r0 (-t1) < -1099511627776
        · left; exact decide_eq_true e
        · right; rw [if_neg e]; omega
      · by_cases e : 1099511627776 < max r1 (-t0)
        · left; exact decide_eq_true e
        · right; rw [if_neg e]; omega
    · intro sA sB eB _
      have d := small_r sA
      have o := one sB eB
      have z := szs sB
      have P1 := PO d.1 d.2.1 (by omega) (by omega)
      have Q1 := QO d.2.1 d.1 (by omega) (by omega)
      have hr0' := hr0; have hr1' := hr1; have ht0' := ht0; have ht1' := ht1
      rw [← o] at hr0' hr1' ht0' ht1'
      rw [hr0', hr1'] at P1
      rw [ht0', ht1'] at Q1
      have Q2 : Spo (fun n => ∃ x, inI A x ∧ x ≤ 0 ∧ n = -((-x) % szL (eLo B) (eHi B))) (-t1) (-t0) := by
        rcases Q1 with ⟨q1, q2, q3⟩ | ⟨q1, q2⟩
        · left
          refine ⟨?_, by omega, by omega⟩
          rintro n ⟨x, hx, x0, rfl⟩
          exact q1 _ ⟨-x, (inI_neg _ _).2 (by rwa [Int.neg_neg]), by omega, rfl⟩
        · right
          refine ⟨q1.neg fun n => ?_, by omega⟩
          constructor
          · rintro ⟨x, hx, x0, e⟩; exact ⟨-x, (inI_neg _ _).1 hx, by omega, by rw [Int.neg_neg]; omega⟩
          · rintro ⟨x, hx, x0, e⟩; exact ⟨-x, (inI_neg _ _).2 (by rwa [Int.neg_neg]), by omega, by omega⟩
      have J := P1.join Q2 (by rcases P with ⟨p1, p2, p3⟩ | ⟨p1, p2, p3, p4, p5, p6, p7⟩ <;> omega) (by rcases Q with ⟨q1, q2, q3⟩ | ⟨q1, q2, q3, q4, q5, q6, q7⟩ <;> omega)
      refine ((J.spn le).least).same fun n => ?_
      have yy : ∀ y, inI B y → y ≠ 0 → (y.natAbs : Int) = szL (eLo B) (eHi B) := by
        intro y hy y0
        have := e3 y hy y0; omega
      constructor
      · obtain ⟨y, hy, y0⟩ := e2
        rintro (⟨x, hx, x0, rfl⟩ | ⟨x, hx, x0, rfl⟩)
        · exact ⟨x, y, hx, hy, y0, by rw [tmod_pos x0, yy y hy y0]⟩
        · exact ⟨x, y, hx, hy, y0, by rw [tmod_neg' x0, yy y hy y0]⟩
      · rintro ⟨x, y, hx, hy, y0, rfl⟩
        by_cases x0 : 0 ≤ x
        · exact .inl ⟨x, hx, x0, by rw [tmod_pos x0, yy y hy y0]⟩
        · exact .inr ⟨x, hx, by omega, by rw [tmod_neg' (by omega), yy y hy y0]⟩
    · intro sA sB
      have d := small_r sA
      have u1 : eLo A = A.lo := by unfold eLo; rw [d.1]; simp
      have u2 : eHi A = A.hi := by unfold eHi; rw [d.2.1]; simp
      have v : -12 ≤ min r0 (-t1) ∧ max r1 (-t0) ≤ 12 := by
        rcases P with ⟨p1, p2, p3⟩ | ⟨p1, p2, p3, p4, p5, p6, p7⟩ <;> rcases Q with ⟨q1, q2, q3⟩ | ⟨q1, q2, q3, q4, q5, q6, q7⟩ <;> omega
      refine small_of ?_ ?_ ?_ ?_ ?_ ?_ <;> unfold told <;> dsimp only
      · exact decide_eq_false (by omega)
      · exact decide_eq_false (by omega)
      all_goals
        rw [if_neg (by omega)]
        omega

end Go.Proofs.YtegibkjopkakhaaDoor
