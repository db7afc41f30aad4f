/- Intervals by their ends: quotients, remainders. -/
import Derived.Test.YtegibkjopkakhaaDoorGb
namespace Go.Proofs.YtegibkjopkakhaaDoor

def quoE (x y : Int) : Int := if x = 9223372036854775807 ∨ x = -9223372036854775807 then x else x.tdiv y

/-- The numbers of e and f together. -/
def meL (l h l' h' : Int) : Int := if min h h' < max l l' then 9223372036854775807 else max l l'
def meH (l h l' h' : Int) : Int := if min h h' < max l l' then -9223372036854775807 else min h h'

/-- Quotients by numbers above 0. -/
def qaL (a0 a1 b0 b1 : Int) : Int := if meH b0 b1 1 9223372036854775807 < meL b0 b1 1 9223372036854775807 then 9223372036854775807 else min4 (quoE a0 (meL b0 b1 1 9223372036854775807)) (quoE a0 (meH b0 b1 1 9223372036854775807)) (quoE a1 (meL b0 b1 1 9223372036854775807)) (quoE a1 (meH b0 b1 1 9223372036854775807))
def qaH (a0 a1 b0 b1 : Int) : Int := if meH b0 b1 1 9223372036854775807 < meL b0 b1 1 9223372036854775807 then -9223372036854775807 else max4 (quoE a0 (meL b0 b1 1 9223372036854775807)) (quoE a0 (meH b0 b1 1 9223372036854775807)) (quoE a1 (meL b0 b1 1 9223372036854775807)) (quoE a1 (meH b0 b1 1 9223372036854775807))

/-- Towards 0: by a greater number less, in size. -/
theorem tdiv_nonneg' {a b : Int} (h : 0 ≤ a) (hb : 0 < b) : 0 ≤ a.tdiv b := Int.tdiv_nonneg h (by omega)
theorem tdiv_mono {a a' b : Int} (h : a ≤ a') (hb : 0 < b) : a.tdiv b ≤ a'.tdiv b := by
  by_cases h0 : 0 ≤ a
  · rw [Int.tdiv_eq_ediv_of_nonneg h0, Int.tdiv_eq_ediv_of_nonneg (by omega)]; exact Int.ediv_le_ediv hb h
  · by_cases h1 : 0 ≤ a'
    · have p := tdiv_nonneg' h1 hb
      have q : 0 ≤ (-a).tdiv b := tdiv_nonneg' (by omega) hb
      rw [Int.neg_tdiv] at q; omega
    · have q : (-a').tdiv b ≤ (-a).tdiv b := by
        rw [Int.tdiv_eq_ediv_of_nonneg (by omega), Int.tdiv_eq_ediv_of_nonneg (by omega)]; exact Int.ediv_le_ediv hb (by omega)
      rw [Int.neg_tdiv, Int.neg_tdiv] at q; omega
theorem tdiv_anti {a b b' : Int} (h0 : 0 ≤ a) (hb : 0 < b) (h : b ≤ b') : a.tdiv b' ≤ a.tdiv b := by
  rw [Int.tdiv_eq_ediv_of_nonneg h0, Int.tdiv_eq_ediv_of_nonneg h0]
  have q0 : 0 ≤ a / b' := Int.ediv_nonneg h0 (by omega)
  refine (Int.le_ediv_iff_mul_le hb).2 ?_
  have := Int.mul_le_mul_of_nonneg_left h q0
  have := Int.ediv_mul_le a (by omega : b' ≠ 0)
  omega
theorem tdiv_anti_neg {a b b' : Int} (h0 : a ≤ 0) (hb : 0 < b) (h : b ≤ b') : a.tdiv b ≤ a.tdiv b' := by
  have := tdiv_anti (a := -a) (by omega) hb h
  rw [Int.neg_tdiv, Int.neg_tdiv] at this; omega
theorem tdivSmall {a b : Int} (h0 : 0 ≤ a) (h : a < b) : a.tdiv b = 0 := by
  rw [Int.tdiv_eq_ediv_of_nonneg h0]; exact Int.ediv_eq_zero_of_lt h0 h
theorem tdiv_size {a b : Int} (h0 : 0 ≤ a) (_ : 0 < b) : a.tdiv b ≤ a := by
  rw [Int.tdiv_eq_ediv_of_nonneg h0]; exact Int.ediv_le_self _ h0
theorem tdiv_range {a b m : Int} (hm : 0 ≤ m) (h1 : -m ≤ a) (h2 : a ≤ m) (hb : 0 < b) : -m ≤ a.tdiv b ∧ a.tdiv b ≤ m := by
  by_cases h0 : 0 ≤ a
  · have := tdiv_size h0 hb; have := tdiv_nonneg' h0 hb; omega
  · have p := tdiv_size (a := -a) (by omega) hb
    have q := tdiv_nonneg' (a := -a) (by omega) hb
    rw [Int.neg_tdiv] at p q; omega

/-- The numbers above 0 of an interval, by its ends. -/
theorem from_one {B : Iv} (k : okI B) : (meL (eLo B) (eHi B) 1 9223372036854775807 = 9223372036854775807 ∧ meH (eLo B) (eHi B) 1 9223372036854775807 = -9223372036854775807 ∧ ∀ y, inI B y → y ≤ 0) ∨
    (1 ≤ meL (eLo B) (eHi B) 1 9223372036854775807 ∧ meL (eLo B) (eHi B) 1 9223372036854775807 ≤ meH (eLo B) (eHi B) 1 9223372036854775807 ∧ meL (eLo B) (eHi B) 1 9223372036854775807 ≤ 1099511627776 ∧ inI B (meL (eLo B) (eHi B) 1 9223372036854775807) ∧ inI B (meH (eLo B) (eHi B) 1 9223372036854775807) ∧ (∀ y, inI B y → 1 ≤ y → meL (eLo B) (eHi B) 1 9223372036854775807 ≤ y ∧ (y ≤ meH (eLo B) (eHi B) 1 9223372036854775807 ∨ (meH (eLo B) (eHi B) 1 9223372036854775807 = 9223372036854775807 ∧ B.u = true)))) := by
  have b1 := eLo_r k; have b2 := eHi_r k; have b3 := e_le k
  unfold meL meH
  by_cases e : min (eHi B) 9223372036854775807 < max (eLo B) 1
  · left
    rw [if_pos e, if_pos e]
    refine ⟨rfl, rfl, fun y hy => ?_⟩
    have := inI_lo k hy; have := inI_hi k hy; omega
  · right
    rw [if_neg e, if_neg e]
    refine ⟨by omega, by omega, by omega, ?_, ?_, fun y hy h1 => ?_⟩
    · exact inI_of (.inr (by omega)) (.inr (by omega))
    · exact inI_of (.inr (by omega)) (.inr (by omega))
    · refine ⟨by have := inI_lo k hy; omega, ?_⟩
      rcases inI_hi k hy with ⟨u, u1⟩ | ⟨u, u1, u2, u3⟩
      · right; exact ⟨by omega, u⟩
      · left; omega

def quotsA (A B : Iv) (n : Int) : Prop := ∃ x y, inI A x ∧ inI B y ∧ 0 < y ∧ n = x.tdiv y

theorem quoE_r {x y : Int} (h : x = 9223372036854775807 ∨ x = -9223372036854775807 ∨ (-1099511627776 ≤ x ∧ x ≤ 1099511627776)) (hy : 0 < y) : (x = 9223372036854775807 ∧ quoE x y = x) ∨ (x = -9223372036854775807 ∧ quoE x y = x) ∨ (quoE x y = x.tdiv y ∧ -1099511627776 ≤ x.tdiv y ∧ x.tdiv y ≤ 1099511627776 ∧ -1099511627776 ≤ x ∧ x ≤ 1099511627776) := by
  rcases h with rfl | rfl | ⟨h1, h2⟩
  · left; exact ⟨rfl, rfl⟩
  · right; left; exact ⟨rfl, rfl⟩
  · right; right
    have := tdiv_range (by omega : (0 : Int) ≤ 1099511627776) h1 h2 hy
    refine ⟨?_, this.1, this.2, h1, h2⟩
    unfold quoE; rw [if_neg (by omega)]

/-- An end's quotient is one of a number of the interval. -/
theorem quo_at {A B : Iv} (h : okI A) {x y : Int} (hx : x = eLo A ∨ x = eHi A) (hy : inI B y) (h1 : 1 ≤ y) : quotsA A B (quoE x y) := by
  have a1 := eLo_r h; have a2 := eHi_r h
  rcases quoE_r (x := x) (y := y) (by omega) (by omega) with ⟨e, e'⟩ | ⟨e, e'⟩ | ⟨e', _⟩
  · rw [e', e]
    refine ⟨9223372036854775807 * y, y, inI_of ?_ ?_, hy, by omega, ?_⟩
    · by_cases d : A.d = true
      · exact .inl d
      · right; omega
    · left; rcases hx with hx | hx
      · omega
      · rcases a2 with ⟨a, _⟩ | ⟨a, _⟩
        · exact a
        · omega
    · rw [Int.mul_tdiv_cancel _ (by omega : y ≠ 0)]
  · rw [e', e]
    refine ⟨-9223372036854775807 * y, y, inI_of ?_ ?_, hy, by omega, ?_⟩
    · left; rcases hx with hx | hx
      · rcases a1 with ⟨a, _⟩ | ⟨a, _⟩
        · exact a
        · omega
      · omega
    · by_cases d : A.u = true
      · exact .inl d
      · right; omega
    · rw [Int.mul_tdiv_cancel _ (by omega : y ≠ 0)]
  · rw [e']
    refine ⟨x, y, ?_, hy, by omega, rfl⟩
    rcases hx with rfl | rfl
    · exact inI_eLo h
    · exact inI_eHi h

theorem min4_mem {P : Int → Prop} {a b c d : Int} (h1 : P a) (h2 : P b) (h3 : P c) (h4 : P d) : P (min4 a b c d) := by
  rcases min4_of a b c d with e | e | e | e <;> rw [e] <;> assumption
theorem max4_mem {P : Int → Prop} {a b c d : Int} (h1 : P a) (h2 : P b) (h3 : P c) (h4 : P d) : P (max4 a b c d) := by
  rcases max4_of a b c d with e | e | e | e <;> rw [e] <;> assumption
theorem min4_le (a b c d : Int) : min4 a b c d ≤ a ∧ min4 a b c d ≤ b ∧ min4 a b c d ≤ c ∧ min4 a b c d ≤ d := by unfold min4; omega
theorem le_max4 (a b c d : Int) : a ≤ max4 a b c d ∧ b ≤ max4 a b c d ∧ c ≤ max4 a b c d ∧ d ≤ max4 a b c d := by unfold max4; omega

theorem Spo.quotsA {A B : Iv} (h : okI A) (k : okI B) : Spo (quotsA A B) (qaL (eLo A) (eHi A) (eLo B) (eHi B)) (qaH (eLo A) (eHi A) (eLo B) (eHi B)) := by
  have a1 := eLo_r h; have a2 := eHi_r h
  unfold qaL qaH
  rcases from_one k with ⟨e1, e2, e3⟩ | ⟨e1, e2, e3, i0, i1, e4⟩
  · rw [e1, e2]; left
    refine ⟨?_, by rw [if_pos (by omega)], by rw [if_pos (by omega)]⟩
    rintro n ⟨x, y, hx, hy, h0, rfl⟩
    have := e3 y hy; omega
  · generalize hB0 : meL (eLo B) (eHi B) 1 9223372036854775807 = b0 at *
    generalize hB1 : meH (eLo B) (eHi B) 1 9223372036854775807 = b1 at *
    rw [if_neg (by omega), if_neg (by omega)]
    have p0 := min4_le (quoE (eLo A) b0) (quoE (eLo A) b1) (quoE (eHi A) b0) (quoE (eHi A) b1)
    have p1 := le_max4 (quoE (eLo A) b0) (quoE (eLo A) b1) (quoE (eHi A) b0) (quoE (eHi A) b1)
    have q0 := quoE_r (x := eLo A) (y := b0) (by omega) (by omega)
    have q1 := quoE_r (x := eLo A) (y := b1) (by omega) (by omega)
    have q2 := quoE_r (x := eHi A) (y := b0) (by omega) (by omega)
    have q3 := quoE_r (x := eHi A) (y := b1) (by omega) (by omega)
    right
    refine ⟨⟨?_, ?_, ⟨_, ?_, .inl rfl⟩, ⟨_, ?_, .inl rfl⟩⟩, by omega⟩
    · rintro n ⟨x, y, hx, hy, h0, rfl⟩
      obtain ⟨f1, f2⟩ := e4 y hy (by omega)
      have xl := inI_lo h hx
      rcases xl with ⟨xl1, xl2⟩ | ⟨xl1, xl2, xl3, xl4⟩
      · left; omega
      · right; left
        have m1 := tdiv_mono xl2 h0
        by_cases s : 0 ≤ eLo A
        · have z := tdiv_nonneg' s h0
          rcases f2 with f2 | ⟨f2, _⟩
          · have := tdiv_anti s h0 f2; omega
          · have z' := tdivSmall (b := b1) s (by omega); omega
        · have := tdiv_anti_neg (a := eLo A) (by omega) (by omega) f1; omega
    · rintro n ⟨x, y, hx, hy, h0, rfl⟩
      obtain ⟨f1, f2⟩ := e4 y hy (by omega)
      have xl := inI_hi h hx
      rcases xl with ⟨xl1, xl2⟩ | ⟨xl1, xl2, xl3, xl4⟩
      · left; omega
      · right; left
        have m1 := tdiv_mono xl2 h0
        by_cases s : 0 ≤ eHi A
        · have := tdiv_anti (a := eHi A) (by omega) (by omega) f1; omega
        · rcases f2 with f2 | ⟨f2, _⟩
          · have := tdiv_anti_neg (a := eHi A) (by omega) h0 f2; omega
          · have z := tdivSmall (a := -eHi A) (b := b1) (by omega) (by omega)
            have z2 := tdiv_nonneg' (a := -eHi A) (b := y) (by omega) h0
            rw [Int.neg_tdiv] at z z2; omega
    · exact min4_mem (quo_at h (.inl rfl) i0 e1) (quo_at h (.inl rfl) i1 (by omega)) (quo_at h (.inr rfl) i0 e1) (quo_at h (.inr rfl) i1 (by omega))
    · exact max4_mem (quo_at h (.inl rfl) i0 e1) (quo_at h (.inl rfl) i1 (by omega)) (quo_at h (.inr rfl) i0 e1) (quo_at h (.inr rfl) i1 (by omega))

theorem qa_r {A B : Iv} (h : okI A) (k : okI B) : -9223372036854775807 ≤ qaH (eLo A) (eHi A) (eLo B) (eHi B) ∧ qaL (eLo A) (eHi A) (eLo B) (eHi B) ≤ 9223372036854775807 := by
  have a1 := eLo_r h; have a2 := eHi_r h
  unfold qaL qaH
  rcases from_one k with ⟨e1, e2, e3⟩ | ⟨e1, e2, e3, i0, i1, e4⟩
  · rw [e1, e2, if_pos (by omega), if_pos (by omega)]; omega
  · rw [if_neg (by omega), if_neg (by omega)]
    have p0 := min4_le (quoE (eLo A) (meL (eLo B) (eHi B) 1 9223372036854775807)) (quoE (eLo A) (meH (eLo B) (eHi B) 1 9223372036854775807)) (quoE (eHi A) (meL (eLo B) (eHi B) 1 9223372036854775807)) (quoE (eHi A) (meH (eLo B) (eHi B) 1 9223372036854775807))
    have p1 := le_max4 (quoE (eLo A) (meL (eLo B) (eHi B) 1 9223372036854775807)) (quoE (eLo A) (meH (eLo B) (eHi B) 1 9223372036854775807)) (quoE (eHi A) (meL (eLo B) (eHi B) 1 9223372036854775807)) (quoE (eHi A) (meH (eLo B) (eHi B) 1 9223372036854775807))
    have q0 := quoE_r (x := eLo A) (y := meL (eLo B) (eHi B) 1 9223372036854775807) (by omega) (by omega)
    omega

/-- The opposite interval. -/
def negI (A : Iv) : Iv := ⟨A.u, A.d, -A.hi, -A.lo⟩
theorem negI_ok {A : Iv} (h : okI A) : okI (negI A) := by
  obtain ⟨h1, h2, h3, h4, h5, h6, h7⟩ := h
  unfold negI; refine ⟨fun e => ?_, fun e => ?_, fun e1 e2 => ?_, ?_, ?_, ?_, ?_⟩ <;> dsimp only at *
  · rw [h2 e]; rfl
  · rw [h1 e]; rfl
  · have := h3 e2 e1; omega
  all_goals omega
theorem negI_lo (A : Iv) : eLo (negI A) = -eHi A := by unfold eLo eHi negI; dsimp only; split <;> rfl
theorem negI_hi (A : Iv) : eHi (negI A) = -eLo A := by unfold eLo eHi negI; dsimp only; split <;> rfl
theorem inI_neg (A : Iv) (n : Int) : inI (negI A) n ↔ inI A (-n) := by
  unfold inI negI; dsimp only
  constructor
  · rintro ⟨h1, h2⟩; exact ⟨h2.imp id (by omega), h1.imp id (by omega)⟩
  · rintro ⟨h1, h2⟩; exact ⟨h2.imp id (by omega), h1.imp id (by omega)⟩

theorem quots_iff (A B : Iv) (n : Int) : (quotsA A B n ∨ quotsA (negI A) (negI B) n) ↔ quots A B n := by
  constructor
  · rintro (⟨x, y, hx, hy, h0, rfl⟩ | ⟨x, y, hx, hy, h0, rfl⟩)
    · exact ⟨x, y, hx, hy, by omega, rfl⟩
    · exact ⟨-x, -y, (inI_neg _ _).1 hx, (inI_neg _ _).1 hy, by omega, by rw [Int.neg_tdiv, Int.tdiv_neg, Int.neg_neg]⟩
  · rintro ⟨x, y, hx, hy, h0, rfl⟩
    by_cases s : 0 < y
    · exact .inl ⟨x, y, hx, hy, s, rfl⟩
    · exact .inr ⟨-x, -y, (inI_neg _ _).2 (by rwa [Int.neg_neg]), (inI_neg _ _).2 (by rwa [Int.neg_neg]), by omega, by rw [Int.neg_tdiv, Int.tdiv_neg, Int.neg_neg]⟩

def quL (a0 a1 b0 b1 : Int) : Int := min (qaL a0 a1 b0 b1) (qaL (-a1) (-a0) (-b1) (-b0))
def quH (a0 a1 b0 b1 : Int) : Int := max (qaH a0 a1 b0 b1) (qaH (-a1) (-a0) (-b1) (-b0))

theorem Spo.congr {S T : Int → Prop} {l h : Int} (k : Spo S l h) (e : ∀ n, S n ↔ T n) : Spo T l h := by
  have : S = T := funext fun n => propext (e n)
  rw [← this]; exact k

theorem Spo.quots {A B : Iv} (h : okI A) (k : okI B) : Spo (quots A B) (quL (eLo A) (eHi A) (eLo B) (eHi B)) (quH (eLo A) (eHi A) (eLo B) (eHi B)) := by
  have p := Spo.quotsA h k
  have q := Spo.quotsA (negI_ok h) (negI_ok k)
  have r := qa_r h k
  have r' := qa_r (negI_ok h) (negI_ok k)
  rw [negI_lo, negI_hi, negI_lo, negI_hi] at q r'
  exact (p.join q r r').congr (quots_iff A B)

theorem some_iff (A B : Iv) (h : okI A) : (∃ n, quots A B n) ↔ ∃ y, inI B y ∧ y ≠ 0 := by
  constructor
  · rintro ⟨n, x, y, hx, hy, h0, _⟩; exact ⟨y, hy, h0⟩
  · rintro ⟨y, hy, h0⟩; exact ⟨_, _, y, inI_eLo h, hy, h0, rfl⟩

theorem small_r {A : Iv} {m : Int} (h : smallB A m = true) : A.d = false ∧ A.u = false ∧ -m ≤ A.lo ∧ A.lo ≤ m ∧ -m ≤ A.hi ∧ A.hi ≤ m := by
  unfold smallB farB at h
  simp at h; obtain ⟨⟨⟨h1, h2⟩, h3, h4⟩, h5, h6⟩ := h
  exact ⟨h1, h2, by omega, by omega, by omega, by omega⟩
theorem small_of {A : Iv} {m : Int} (h1 : A.d = false) (h2 : A.u = false) (h3 : -m ≤ A.lo) (h4 : A.lo ≤ m) (h5 : -m ≤ A.hi) (h6 : A.hi ≤ m) : smallB A m = true := by
  unfold smallB farB; simp [h1, h2]; omega

/-- The least interval of small numbers is small. -/
theorem LeastOf.small {S : Int → Prop} {R : Iv} (h : LeastOf S R) (k : ∀ n, S n → -12 ≤ n ∧ n ≤ 12) : smallB R 12 = true := by
  have hd : R.d = false := by
    cases e : R.d
    · rfl
    · obtain ⟨n, hn, hl⟩ := h.dn e; have := k n hn; omega
  have hu : R.u = false := by
    cases e : R.u
    · rfl
    · obtain ⟨n, hn, hl⟩ := h.up e; have := k n hn; omega
  obtain ⟨n, hn, hl⟩ := h.lo hd
  obtain ⟨m, hm, hh⟩ := h.hi hu
  have := k n hn; have := k m hm
  exact small_of hd hu (by omega) (by omega) (by omega) (by omega)

theorem divS_of {A B : Iv} (h : okI A) (k : okI B) {l r : Int} (s : Spo (quots A B) l r) : DivS A B (if r < l then ivZ else told l r) (decide (l ≤ r)) := by
  by_cases e : r < l
  · rw [if_pos e, decide_eq_false (by omega)]
    have no := s.none.1 e
    have no' : ¬ ∃ y, inI B y ∧ y ≠ 0 := by rw [← some_iff A B h]; rintro ⟨n, hn⟩; exact no n hn
    refine ⟨⟨fun h => (by cases h), fun h => absurd h no'⟩, fun _ => rfl, by unfold okI ivZ; simp, fun h => (by cases h), fun _ _ o => absurd ⟨B.lo, ⟨.inr (Int.le_refl _), ?_⟩, ?_⟩ no', fun _ _ => rfl⟩
    · by_cases u : B.u = true
      · exact .inl u
      · right
        have d : B.d = false := by have := small_r (by assumption : smallB B 12 = true); exact this.1
        exact k.2.2.1 d (by simpa using u)
    · intro e0
      have d := small_r (by assumption : smallB B 12 = true)
      have := k.2.2.1 d.1 d.2.1; omega
  · rw [if_neg e, decide_eq_true (by omega)]
    have L := (s.spn (by omega)).least
    refine ⟨⟨fun _ => ?_, fun _ => rfl⟩, fun h => (by cases h), L.ok, fun _ => L.sound, fun _ _ _ => L, fun sA sB => L.small ?_⟩
    · rw [← some_iff A B h]; obtain ⟨n, hn, _⟩ := (s.spn (by omega)).atLo; exact ⟨n, hn⟩
    · rintro n ⟨x, y, hx, hy, h0, rfl⟩
      have d := small_r sA
      have x1 : A.lo ≤ x := hx.1.resolve_left (by rw [d.1]; simp)
      have x2 : x ≤ A.hi := hx.2.resolve_left (by rw [d.2.1]; simp)
      by_cases p : 0 < y
      · exact tdiv_range (by omega) (by omega) (by omega) p
      · have := tdiv_range (a := x) (b := -y) (m := 12) (by omega) (by omega) (by omega) (by omega)
        rw [Int.tdiv_neg] at this; omega

end Go.Proofs.YtegibkjopkakhaaDoor
