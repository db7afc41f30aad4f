/- Congruences: what forms have, and how they are told apart. -/
import Derived.Test.YtjimjbilmlnipaaDoorCc
namespace Go.Proofs.YtjimjbilmlnipaaDoor
open Go.RowKit
set_option linter.unusedVariables false

theorem same_dvd {a b : Nat} (h : ∀ d : Int, d ∣ (a : Int) ↔ d ∣ (b : Int)) : a = b :=
  Nat.dvd_antisymm (Int.natCast_dvd_natCast.1 ((h a).1 (Int.dvd_refl _))) (Int.natCast_dvd_natCast.1 ((h b).2 (Int.dvd_refl _)))

theorem formC_congr {x y : Int} {g : Nat} (h : (g : Int) ∣ x - y) : formC x g = formC y g := by
  by_cases h0 : g = 0
  · subst h0
    have : x = y := by have := Int.zero_dvd.1 h; omega
    rw [this]
  · unfold formC
    have h1 : ¬ (g : Int) = 0 := by omega
    simp only [h1, false_and, or_false, if_false]
    split
    · rfl
    · rw [Int.emod_eq_emod_iff_emod_sub_eq_zero.2 (Int.emod_eq_zero_of_dvd h)]

theorem gcd3_dvd {x y z d : Int} : d ∣ (Int.gcd (Int.gcd x y) z : Int) ↔ d ∣ x ∧ d ∣ y ∧ d ∣ z := by
  constructor
  · intro h
    have h1 : d ∣ (Int.gcd x y : Int) := Int.dvd_trans h (Int.gcd_dvd_left ..)
    exact ⟨Int.dvd_trans h1 (Int.gcd_dvd_left ..), Int.dvd_trans h1 (Int.gcd_dvd_right ..), Int.dvd_trans h (Int.gcd_dvd_right ..)⟩
  · rintro ⟨h1, h2, h3⟩
    exact Int.dvd_coe_gcd (Int.dvd_coe_gcd h1 h2) h3

theorem formC_dvd (x : Int) (g : Nat) {z : Int} (h : (g : Int) ∣ z) : (formC x g).m ∣ z := by
  unfold formC
  split
  · exact Int.one_dvd _
  · split
    · rename_i h0; rw [h0] at h; exact h
    · exact h
theorem formC_rest (x : Int) (g : Nat) : (formC x g).m ∣ x - (formC x g).r := by
  unfold formC
  split
  · exact Int.one_dvd _
  · split
    · simp
    · exact Int.dvd_self_sub_emod
theorem formC_ok (x : Int) (g : Nat) : okC (formC x g) := by
  unfold formC
  split
  · exact ⟨by decide, by decide, fun e => absurd e (by decide), fun _ => ⟨by decide, by decide⟩⟩
  · rename_i h
    split
    · rename_i h0
      have hf : farB x 1099511627776 = false := by
        cases hq : farB x 1099511627776 with
        | false => rfl
        | true => exact absurd (.inr ⟨h0, hq⟩) h
      simp [farB] at hf
      exact ⟨Int.le_refl _, by show (0 : Int) ≤ _; decide, fun _ => ⟨by show _ ≤ x; omega, by show x ≤ _; omega⟩, fun e => absurd e (by show ¬ (0 : Int) < 0; omega)⟩
    · rename_i h0
      have hp : (0 : Int) < g := by omega
      exact ⟨by show (0 : Int) ≤ g; omega, by show (g : Int) ≤ _; omega, fun e => absurd e h0, fun _ => ⟨Int.emod_nonneg _ h0, Int.emod_lt_of_pos _ hp⟩⟩

theorem okC_ext {R Q : Cg} (h : okC R) (k : okC Q) (hs : ∀ n, inC R n ↔ inC Q n) : R = Q := by
  have a1 : Q.m ∣ R.r - Q.r := (hs R.r).1 (by unfold inC; simp)
  have a2 : R.m ∣ Q.r - R.r := (hs Q.r).2 (by unfold inC; simp)
  have a3 : Q.m ∣ R.m := by
    have : inC Q (R.r + R.m) := (hs _).1 (by unfold inC; rw [show R.r + R.m - R.r = R.m by omega]; exact Int.dvd_refl _)
    have := Int.dvd_sub this a1
    rwa [show R.r + R.m - Q.r - (R.r - Q.r) = R.m by omega] at this
  have a4 : R.m ∣ Q.m := by
    have : inC R (Q.r + Q.m) := (hs _).2 (by unfold inC; rw [show Q.r + Q.m - Q.r = Q.m by omega]; exact Int.dvd_refl _)
    have := Int.dvd_sub this a2
    rwa [show Q.r + Q.m - R.r - (Q.r - R.r) = Q.m by omega] at this
  obtain ⟨r, m⟩ := R
  obtain ⟨r', m'⟩ := Q
  have em : m = m' := Int.dvd_antisymm h.1 k.1 a4 a3
  subst em
  by_cases h0 : m = 0
  · subst h0
    have := Int.zero_dvd.1 a1
    rw [show r = r' by simp at this; omega]
  · have hp : 0 < m := by have := h.1; simp at this; omega
    have b1 := h.2.2.2 hp
    have b2 := k.2.2.2 hp
    simp at b1 b2
    have e : r % m = r' % m := Int.emod_eq_emod_iff_emod_sub_eq_zero.2 (Int.emod_eq_zero_of_dvd a1)
    rw [Int.emod_eq_of_lt b1.1 b1.2, Int.emod_eq_of_lt b2.1 b2.2] at e
    rw [e]

theorem MeetS.unique {A B R R' : Cg} {b b' : Bool} (h : MeetS A B R b) (k : MeetS A B R' b') : R = R' ∧ b = b' := by
  have hb : b = b' := Bool.eq_iff_iff.2 (h.some.trans k.some.symm)
  subst hb
  refine ⟨?_, rfl⟩
  cases b with
  | false => rw [h.none rfl, k.none rfl]
  | true =>
    by_cases hl : Int.lcm A.m B.m ≤ 1048576
    · obtain ⟨o1, s1⟩ := h.fit rfl hl
      obtain ⟨o2, s2⟩ := k.fit rfl hl
      exact okC_ext o1 o2 fun n => (s1 n).trans (s2 n).symm
    · rw [h.great rfl (by omega), k.great rfl (by omega)]

/-- All numbers of one are of the other. -/
theorem inC_sub {R A : Cg} (h : ∀ n, inC R n → inC A n) : A.m ∣ R.m ∧ A.m ∣ R.r - A.r := by
  have a1 : A.m ∣ R.r - A.r := h R.r (by unfold inC; simp)
  refine ⟨?_, a1⟩
  have : inC A (R.r + R.m) := h _ (by unfold inC; rw [show R.r + R.m - R.r = R.m by omega]; exact Int.dvd_refl _)
  have := Int.dvd_sub this a1
  rwa [show R.r + R.m - A.r - (R.r - A.r) = R.m by omega] at this

end Go.Proofs.YtjimjbilmlnipaaDoor
