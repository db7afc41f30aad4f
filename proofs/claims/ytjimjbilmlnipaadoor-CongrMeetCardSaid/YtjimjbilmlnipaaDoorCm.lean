/- The numbers of two congruences: of all numbers of the first, up to where all repeats. -/
import Derived.Test.YtjimjbilmlnipaaDoorCf
import Derived.Test.YtjimjbilmlnipaaDoorCy
namespace Go.Proofs.YtjimjbilmlnipaaDoor
open Go.RowKit

/-- The numbers r + k m, k below n, that B has. -/
def meetL (r m : Int) (B : Cg) : Nat → List Int
  | 0 => []
  | n + 1 => if inCB B (r + n * m) then meetL r m B n ++ [r + n * m] else meetL r m B n

theorem mem_meetL (r m : Int) (B : Cg) (n : Nat) (x : Int) : x ∈ meetL r m B n ↔ ∃ k : Nat, k < n ∧ x = r + k * m ∧ inC B x := by
  induction n with
  | zero => simp [meetL]
  | succ n ih =>
    unfold meetL
    by_cases h : inCB B (r + n * m) = true
    · rw [if_pos h, List.mem_append, ih]
      constructor
      · rintro (⟨k, hk, e, hb⟩ | hx)
        · exact ⟨k, by omega, e, hb⟩
        · have e : x = r + n * m := by simpa using hx
          exact ⟨n, by omega, e, by rw [e]; exact of_decide_eq_true (p := B.m ∣ r + n * m - B.r) h⟩
      · rintro ⟨k, hk, e, hb⟩
        by_cases o : k = n
        · right; subst o; simp [e]
        · left; exact ⟨k, by omega, e, hb⟩
    · rw [if_neg h, ih]
      constructor
      · rintro ⟨k, hk, e, hb⟩; exact ⟨k, by omega, e, hb⟩
      · rintro ⟨k, hk, e, hb⟩
        refine ⟨k, ?_, e, hb⟩
        by_cases o : k = n
        · subst o; rw [e] at hb; exact absurd (by unfold inCB; exact decide_eq_true hb) h
        · omega

theorem meetL_len (r m : Int) (B : Cg) (n : Nat) : (meetL r m B n).length ≤ n := by
  induction n with
  | zero => simp [meetL]
  | succ n ih =>
    unfold meetL; split
    · rw [List.length_append]; simp; omega
    · omega

/-- A number of both, moved to where it is looked for. -/
theorem meet_low {A B : Cg} (hm : 0 < B.m) {n : Int} (h1 : inC A n) (h2 : inC B n) : ∃ k : Nat, (k : Int) < B.m ∧ inC B (A.r + k * A.m) := by
  obtain ⟨t, ht⟩ := h1
  have e0 := Int.emod_nonneg t (by omega : B.m ≠ 0)
  have e1 := Int.emod_lt_of_pos t hm
  refine ⟨(t % B.m).toNat, by omega, ?_⟩
  rw [Int.toNat_of_nonneg e0]
  unfold inC at *
  have e2 : t % B.m = t - B.m * (t / B.m) := Int.emod_def t B.m
  have e3 : A.r + t % B.m * A.m - B.r = (n - B.r) - B.m * (t / B.m * A.m) := by
    rw [e2, Int.sub_mul]
    have : t * A.m = n - A.r := by rw [ht, Int.mul_comm]
    rw [this, Int.mul_assoc]; omega
  rw [e3]
  exact Int.dvd_sub h2 (Int.dvd_mul_right ..)

theorem lcm_dvd' {m m' x : Int} (h1 : m ∣ x) (h2 : m' ∣ x) : (Int.lcm m m' : Int) ∣ x := by
  have := Nat.lcm_dvd (Int.natAbs_dvd_natAbs.2 h1) (Int.natAbs_dvd_natAbs.2 h2)
  exact Int.natAbs_dvd_natAbs.1 (by simpa [Int.lcm] using this)
theorem dvd_lcm_l (m m' : Int) : m ∣ (Int.lcm m m' : Int) := Int.natAbs_dvd_natAbs.1 (by simpa [Int.lcm] using Nat.dvd_lcm_left m.natAbs m'.natAbs)
theorem dvd_lcm_r (m m' : Int) : m' ∣ (Int.lcm m m' : Int) := Int.natAbs_dvd_natAbs.1 (by simpa [Int.lcm] using Nat.dvd_lcm_right m.natAbs m'.natAbs)

/-- What they differ by. -/
theorem meet_gcd {A B : Cg} (ha : 0 < A.m) (hb : 0 < B.m) {N : Nat} (hN : (N : Int) = 2 * B.m + 1) {l : List Int} (hl : l = meetL A.r A.m B N) (ne : l ≠ []) : gcdD l l.length = Int.lcm A.m B.m := by
  have get0 : l.getD 0 0 ∈ l := by
    cases l with
    | nil => exact absurd rfl ne
    | cons x l => simp
  have mem : ∀ x ∈ l, inC A x ∧ inC B x := by
    intro x hx
    rw [hl, mem_meetL] at hx
    obtain ⟨k, _, e, h⟩ := hx
    refine ⟨?_, h⟩
    unfold inC; rw [e, show A.r + k * A.m - A.r = k * A.m by omega]; exact Int.dvd_mul_left ..
  have m0 := mem _ get0
  have hL : ∃ q : Int, (Int.lcm A.m B.m : Int) = A.m * q ∧ 0 ≤ q ∧ q ≤ B.m := by
    obtain ⟨q, hq⟩ := dvd_lcm_l A.m B.m
    have h1 : (Int.lcm A.m B.m : Int) ∣ A.m * B.m := lcm_dvd' (Int.dvd_mul_right ..) (Int.dvd_mul_left ..)
    have pos : 0 < A.m * B.m := Int.mul_pos ha hb
    have h2 := Int.le_of_dvd pos h1
    have h3 : (0 : Int) ≤ (Int.lcm A.m B.m : Int) := by omega
    refine ⟨q, hq, ?_, ?_⟩
    · rw [hq] at h3
      rcases Int.lt_or_le q 0 with o | o
      · have := Int.mul_neg_of_pos_of_neg ha o; omega
      · exact o
    · rw [hq] at h2; exact Int.le_of_mul_le_mul_left h2 ha
  apply same_dvd
  intro d
  rw [gcdD_dvd]
  constructor
  · intro h
    obtain ⟨k, hk, hkb⟩ := meet_low (A := A) hb m0.1 m0.2
    obtain ⟨q, hq, q0, q1⟩ := hL
    have in1 : A.r + k * A.m ∈ l := by rw [hl, mem_meetL]; exact ⟨k, by omega, rfl, hkb⟩
    have in2 : A.r + (k + q.toNat : Nat) * A.m ∈ l := by
      rw [hl, mem_meetL]
      refine ⟨k + q.toNat, by omega, rfl, ?_⟩
      have e : A.r + ((k + q.toNat : Nat) : Int) * A.m - B.r = (A.r + k * A.m - B.r) + (Int.lcm A.m B.m : Int) := by
        rw [hq, Int.natCast_add, Int.toNat_of_nonneg q0, Int.add_mul, Int.mul_comm q]; omega
      unfold inC; rw [e]; exact Int.dvd_add hkb (dvd_lcm_r ..)
    have dd : ∀ x ∈ l, d ∣ x - l.getD 0 0 := by
      intro x hx
      obtain ⟨i, hi, e⟩ := List.mem_iff_getElem.1 hx
      have := h i hi
      rw [show l.getD i 0 = x by simp [hi, e]] at this
      exact this
    have d1 := dd _ in1
    have d2 := dd _ in2
    have d3 := Int.dvd_sub d2 d1
    rwa [show A.r + ((k + q.toNat : Nat) : Int) * A.m - l.getD 0 0 - (A.r + k * A.m - l.getD 0 0) = (Int.lcm A.m B.m : Int) by
      rw [hq, Int.natCast_add, Int.toNat_of_nonneg q0, Int.add_mul, Int.mul_comm q]; omega] at d3
  · intro h i hi
    have hx : l.getD i 0 ∈ l := by rw [show l.getD i 0 = l[i] by simp [hi]]; exact List.getElem_mem hi
    have m1 := mem _ hx
    refine Int.dvd_trans h (lcm_dvd' ?_ ?_)
    · have := Int.dvd_sub m1.1 m0.1
      rwa [show l.getD i 0 - A.r - (l.getD 0 0 - A.r) = l.getD i 0 - l.getD 0 0 by omega] at this
    · have := Int.dvd_sub m1.2 m0.2
      rwa [show l.getD i 0 - B.r - (l.getD 0 0 - B.r) = l.getD i 0 - l.getD 0 0 by omega] at this

theorem lcm_pos' {m m' : Int} (h : 0 < m) (k : 0 < m') : 0 < Int.lcm m m' := by
  unfold Int.lcm; exact Nat.lcm_pos (by omega) (by omega)

/-- What is asked of the numbers of both, against what is told. -/
theorem meet_facts {A B R : Cg} {b : Bool} (ha : 0 < A.m) (hb : 0 < B.m) (h : MeetS A B R b) {N : Nat} (hN : (N : Int) = 2 * B.m + 1) {l : List Int} (hl : l = meetL A.r A.m B N) :
    (l = [] → b = false ∧ R = cgZ) ∧ (l ≠ [] → b = true ∧ R = if formC (l.getD 0 0) (gcdD l l.length) = ⟨0, 1⟩ ∧ ¬ (A.m = 1 ∧ B.m = 1) then A else formC (l.getD 0 0) (gcdD l l.length)) := by
  constructor
  · intro e
    have nb : b = false := by
      cases hbb : b
      · rfl
      · obtain ⟨n, h1, h2⟩ := h.some.1 hbb
        obtain ⟨k, hk, hkb⟩ := meet_low (A := A) hb h1 h2
        have : A.r + k * A.m ∈ l := by rw [hl, mem_meetL]; exact ⟨k, by omega, rfl, hkb⟩
        rw [e] at this; cases this
    exact ⟨nb, h.none nb⟩
  · intro ne
    have g := meet_gcd ha hb hN hl ne
    have get0 : l.getD 0 0 ∈ l := by
      cases l with
      | nil => exact absurd rfl ne
      | cons x l => simp
    have m0 : inC A (l.getD 0 0) ∧ inC B (l.getD 0 0) := by
      have hx := get0
      rw [hl, mem_meetL] at hx
      rw [← hl] at hx
      obtain ⟨k, _, e, hh⟩ := hx
      refine ⟨?_, hh⟩
      unfold inC; rw [e, show A.r + k * A.m - A.r = k * A.m by omega]; exact Int.dvd_mul_left ..
    have tb : b = true := h.some.2 ⟨_, m0⟩
    refine ⟨tb, ?_⟩
    rw [g]
    have Lp := lcm_pos' ha hb
    by_cases L : 1048576 < Int.lcm A.m B.m
    · have ef : formC (l.getD 0 0) (Int.lcm A.m B.m) = ⟨0, 1⟩ := by unfold formC; rw [if_pos (.inl (by omega))]
      have n1 : ¬ (A.m = 1 ∧ B.m = 1) := by
        rintro ⟨e1, e2⟩
        rw [e1, e2] at L; simp at L
      rw [ef, if_pos ⟨rfl, n1⟩]
      exact h.great tb L
    · obtain ⟨okR, hR⟩ := h.fit tb (by omega)
      have is := cg_is okR (L := (Int.lcm A.m B.m : Int)) (x := l.getD 0 0) (by omega) (by
        intro k
        rw [hR]
        constructor
        · rintro ⟨k1, k2⟩
          refine lcm_dvd' ?_ ?_
          · have := Int.dvd_sub k1 m0.1
            rwa [show k - A.r - (l.getD 0 0 - A.r) = k - l.getD 0 0 by omega] at this
          · have := Int.dvd_sub k2 m0.2
            rwa [show k - B.r - (l.getD 0 0 - B.r) = k - l.getD 0 0 by omega] at this
        · intro hk
          constructor
          · have := Int.dvd_add (Int.dvd_trans (dvd_lcm_l A.m B.m) hk) m0.1
            unfold inC; rwa [show k - l.getD 0 0 + (l.getD 0 0 - A.r) = k - A.r by omega] at this
          · have := Int.dvd_add (Int.dvd_trans (dvd_lcm_r A.m B.m) hk) m0.2
            unfold inC; rwa [show k - l.getD 0 0 + (l.getD 0 0 - B.r) = k - B.r by omega] at this)
      have ef : formC (l.getD 0 0) (Int.lcm A.m B.m) = R := by
        unfold formC
        rw [if_neg (by omega), if_neg (by omega)]
        obtain ⟨r, m⟩ := R
        rw [← is.2, ← is.1]
      rw [ef]
      by_cases c : R = ⟨0, 1⟩ ∧ ¬ (A.m = 1 ∧ B.m = 1)
      · exfalso
        apply c.2
        have e1 : (Int.lcm A.m B.m : Int) = 1 := by rw [← is.1, c.1]
        have d1 := dvd_lcm_l A.m B.m
        have d2 := dvd_lcm_r A.m B.m
        rw [e1] at d1 d2
        have := Int.le_of_dvd (by omega) d1
        have := Int.le_of_dvd (by omega) d2
        omega
      · rw [if_neg c]

/-- One number alone. -/
theorem one_is {R : Cg} {x : Int} (h : okC R) (hx : ∀ n, inC R n ↔ n = x) : R = ⟨x, 0⟩ := by
  have h1 : R.r = x := (hx R.r).1 (by unfold inC; simp)
  have h2 : R.r + R.m = x := (hx (R.r + R.m)).1 (by unfold inC; rw [show R.r + R.m - R.r = R.m by omega]; exact Int.dvd_refl _)
  obtain ⟨r, m⟩ := R
  simp only at h1 h2
  rw [h1, show m = 0 by omega]

theorem meet_one {A B R : Cg} {b : Bool} (h : MeetS A B R b) (h0 : A.m = 0) : b = inCB B A.r ∧ (b = true → R = ⟨A.r, 0⟩) := by
  have iA : ∀ n, inC A n ↔ n = A.r := by intro n; unfold inC; rw [h0]; rw [Int.zero_dvd]; omega
  refine ⟨?_, fun hb => ?_⟩
  · rw [Bool.eq_iff_iff, h.some]
    unfold inCB
    rw [decide_eq_true_iff]
    exact ⟨fun ⟨n, h1, h2⟩ => by rw [(iA n).1 h1] at h2; exact h2, fun hh => ⟨A.r, (iA _).2 rfl, hh⟩⟩
  · obtain ⟨okR, hR⟩ := h.fit hb (by rw [h0]; simp)
    obtain ⟨n, h1, h2⟩ := h.some.1 hb
    have e := (iA n).1 h1
    rw [e] at h2
    refine one_is okR fun n => ?_
    rw [hR, iA]
    exact ⟨fun h => h.1, fun h => ⟨h, by rw [h]; exact h2⟩⟩

theorem meet_one' {A B R : Cg} {b : Bool} (h : MeetS A B R b) (h0 : B.m = 0) : b = inCB A B.r ∧ (b = true → R = ⟨B.r, 0⟩) := by
  have iB : ∀ n, inC B n ↔ n = B.r := by intro n; unfold inC; rw [h0]; rw [Int.zero_dvd]; omega
  refine ⟨?_, fun hb => ?_⟩
  · rw [Bool.eq_iff_iff, h.some]
    unfold inCB
    rw [decide_eq_true_iff]
    exact ⟨fun ⟨n, h1, h2⟩ => by rw [(iB n).1 h2] at h1; exact h1, fun hh => ⟨B.r, hh, (iB _).2 rfl⟩⟩
  · obtain ⟨okR, hR⟩ := h.fit hb (by rw [h0]; simp)
    obtain ⟨n, h1, h2⟩ := h.some.1 hb
    have e := (iB n).1 h2
    rw [e] at h1
    refine one_is okR fun n => ?_
    rw [hR, iB]
    exact ⟨fun h => h.2, fun h => ⟨by rw [h]; exact h1, h⟩⟩

theorem meetL_no {r m : Int} {B : Cg} {n : Nat} (h : inCB B (r + n * m) = false) : meetL r m B (n + 1) = meetL r m B n := by
  show (if inCB B (r + n * m) then meetL r m B n ++ [r + n * m] else meetL r m B n) = _
  rw [h]; simp
theorem meetL_yes {r m : Int} {B : Cg} {n : Nat} (h : inCB B (r + n * m) = true) : meetL r m B (n + 1) = meetL r m B n ++ [r + n * m] := by
  show (if inCB B (r + n * m) then meetL r m B n ++ [r + n * m] else meetL r m B n) = _
  rw [h]; simp

end Go.Proofs.YtjimjbilmlnipaaDoor
