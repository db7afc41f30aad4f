/- The numbers of two congruences: plain facts. -/
import Derived.Test.YtjimjbilmlnipaaDoorMa
namespace Go.Proofs.YtjimjbilmlnipaaDoor

theorem lcm_dvdM {m m' x : Int} (h1 : m ∣ x) (h2 : m' ∣ x) : (Int.lcm m m' : Int) ∣ x :=
  Int.natAbs_dvd_natAbs.1 (by simpa [Int.lcm] using Nat.lcm_dvd (Int.natAbs_dvd_natAbs.2 h1) (Int.natAbs_dvd_natAbs.2 h2))
theorem dvd_lcmM (m m' : Int) : m' ∣ (Int.lcm m m' : Int) := Int.natAbs_dvd_natAbs.1 (by simpa [Int.lcm] using Nat.dvd_lcm_right m.natAbs m'.natAbs)

theorem gcd_parts {m m' : Int} (h : 0 < m) (h' : 0 < m') : ∃ k k' : Int, m = Int.gcd m m' * k ∧ m' = Int.gcd m m' * k' ∧ 0 < k ∧ 0 < k' ∧ Int.gcd k k' = 1 ∧ (0 : Int) < Int.gcd m m' ∧ m / Int.gcd m m' = k ∧ m' / Int.gcd m m' = k' ∧ (Int.lcm m m' : Int) = m * k' := by
  have gp : (0 : Int) < Int.gcd m m' := by
    have : 0 < Int.gcd m m' := Nat.pos_of_ne_zero fun e => by have := (Int.gcd_eq_zero_iff.1 e).1; omega
    omega
  obtain ⟨k, hk⟩ := Int.gcd_dvd_left m m'
  obtain ⟨k', hk'⟩ := Int.gcd_dvd_right m m'
  have kp : 0 < k := by
    rcases Int.lt_or_le 0 k with o | o
    · exact o
    · have := Int.mul_nonpos_of_nonneg_of_nonpos (Int.le_of_lt gp) o
      omega
  have kp' : 0 < k' := by
    rcases Int.lt_or_le 0 k' with o | o
    · exact o
    · have := Int.mul_nonpos_of_nonneg_of_nonpos (Int.le_of_lt gp) o
      omega
  have e1 : m / Int.gcd m m' = k := Int.ediv_eq_of_eq_mul_right (by omega) hk
  have e2 : m' / Int.gcd m m' = k' := Int.ediv_eq_of_eq_mul_right (by omega) hk'
  refine ⟨k, k', hk, hk', kp, kp', ?_, gp, e1, e2, ?_⟩
  · rw [← e1, ← e2]
    exact Int.gcd_ediv_gcd_ediv_gcd (by omega)
  · have e : ((Int.gcd m m' : Nat) : Int) * (Int.lcm m m' : Int) = m * m' := by
      have := Int.gcd_mul_lcm m m'
      rw [← Int.natCast_mul, this, Int.natCast_mul]
      rw [show ((m.natAbs : Nat) : Int) = m by omega, show ((m'.natAbs : Nat) : Int) = m' by omega]
    have e3 : m * m' = Int.gcd m m' * (m * k') := by
      conv => lhs; rw [hk']
      grind
    exact Int.eq_of_mul_eq_mul_left (by omega) (e.trans e3)

/-- The numbers of both are there, by what divides both moduli. -/
theorem meet_some (A B : Cg) : (∃ n, inC A n ∧ inC B n) ↔ (Int.gcd A.m B.m : Int) ∣ B.r - A.r := by
  constructor
  · rintro ⟨n, h1, h2⟩
    have a1 := Int.dvd_trans (Int.gcd_dvd_left A.m B.m) h1
    have a2 := Int.dvd_trans (Int.gcd_dvd_right A.m B.m) h2
    have := Int.dvd_sub a1 a2
    rwa [show n - A.r - (n - B.r) = B.r - A.r by omega] at this
  · rintro ⟨c, hc⟩
    obtain ⟨x, y, e⟩ := bezout A.m.natAbs B.m.natAbs
    have hx : ∃ x' : Int, (A.m.natAbs : Int) * x = A.m * x' := by
      rcases Int.natAbs_eq A.m with h | h
      · exact ⟨x, by rw [← h]⟩
      · exact ⟨-x, by conv => rhs; rw [h]
                      grind⟩
    have hy : ∃ y' : Int, (B.m.natAbs : Int) * y = B.m * y' := by
      rcases Int.natAbs_eq B.m with h | h
      · exact ⟨y, by rw [← h]⟩
      · exact ⟨-y, by conv => rhs; rw [h]
                      grind⟩
    obtain ⟨x', hx'⟩ := hx
    obtain ⟨y', hy'⟩ := hy
    have e' : (Int.gcd A.m B.m : Int) = A.m * x' + B.m * y' := by rw [← hx', ← hy']; exact e
    refine ⟨A.r + A.m * (x' * c), ⟨x' * c, by omega⟩, ⟨-(y' * c), ?_⟩⟩
    rw [e'] at hc
    grind

theorem meet_none {A B : Cg} (h : restI (B.r - A.r) (Int.gcd A.m B.m) ≠ 0) : MeetS A B cgZ false := by
  have n : ¬ ∃ n, inC A n ∧ inC B n := fun k => h (restI_zero.2 ((meet_some A B).1 k))
  exact ⟨⟨fun e => (by cases e), fun k => absurd k n⟩, fun _ => rfl, fun e => (by cases e), fun e => (by cases e)⟩

theorem meet_a0 {A B : Cg} (hA : okC A) (h : restI (B.r - A.r) (Int.gcd A.m B.m) = 0) (h0 : A.m = 0) : MeetS A B A true := by
  have d := restI_zero.1 h
  refine ⟨⟨fun _ => (meet_some A B).2 d, fun _ => rfl⟩, fun e => (by cases e), fun _ _ => ⟨hA, ?_⟩, fun _ _ => rfl⟩
  intro n
  refine ⟨fun k => ⟨k, ?_⟩, fun k => k.1⟩
  have e : n = A.r := by unfold inC at k; rw [h0, Int.zero_dvd] at k; omega
  unfold inC
  rw [h0] at d
  have : B.m ∣ B.r - A.r := by
    have := d
    simp [Int.gcd] at this
    exact Int.natAbs_dvd.1 this
  rw [e, show A.r - B.r = -(B.r - A.r) by omega]
  exact Int.dvd_neg.2 this

theorem meet_b0 {A B : Cg} (hB : okC B) (h : restI (B.r - A.r) (Int.gcd A.m B.m) = 0) (h0 : B.m = 0) : MeetS A B B true := by
  have d := restI_zero.1 h
  refine ⟨⟨fun _ => (meet_some A B).2 d, fun _ => rfl⟩, fun e => (by cases e), fun _ _ => ⟨hB, ?_⟩, fun _ k => (by rw [h0] at k; exfalso; revert k; simp [Int.lcm])⟩
  intro n
  refine ⟨fun k => ⟨?_, k⟩, fun k => k.2⟩
  have e : n = B.r := by unfold inC at k; rw [h0, Int.zero_dvd] at k; omega
  unfold inC
  rw [h0] at d
  have : A.m ∣ B.r - A.r := by
    have := d
    simp [Int.gcd] at this
    exact Int.natAbs_dvd.1 this
  rw [e]; exact this

theorem meet_great {A B : Cg} (ha : 0 < A.m) (hb : 0 < B.m) (h : restI (B.r - A.r) (Int.gcd A.m B.m) = 0) (hg : 1048576 < A.m * (B.m / Int.gcd A.m B.m)) : MeetS A B A true := by
  have d := restI_zero.1 h
  obtain ⟨k, k', h1, h2, h3, h4, h5, h6, h7, h8, h9⟩ := gcd_parts ha hb
  rw [h8, ← h9] at hg
  exact ⟨⟨fun _ => (meet_some A B).2 d, fun _ => rfl⟩, fun e => (by cases e), fun _ k => (by omega), fun _ _ => rfl⟩

theorem meet_fit {A B : Cg} {c inv st : Int} (ha : 0 < A.m) (hb : 0 < B.m) (hc : B.r - A.r = Int.gcd A.m B.m * c) (hg : A.m * (B.m / Int.gcd A.m B.m) ≤ 1048576) (hi : B.m / Int.gcd A.m B.m ∣ inv * (A.m / Int.gcd A.m B.m) - 1) (hs : st = restI (c * inv) (B.m / Int.gcd A.m B.m)) :
    MeetS A B (formC (A.r + st * A.m) (A.m * (B.m / Int.gcd A.m B.m))) true := by
  obtain ⟨k, k', h1, h2, h3, h4, h5, h6, h7, h8, h9⟩ := gcd_parts ha hb
  rw [h8] at hg hs hi ⊢
  rw [h7] at hi
  have Lp : 0 < A.m * k' := Int.mul_pos ha h4
  have d1 := restI_dvd (c * inv) k'
  rw [← hs] at d1
  have d2 : B.m ∣ A.r + st * A.m - B.r := by
    have e1 : k' ∣ st * k - c := by
      have a1 := Int.dvd_mul_of_dvd_right (b := c) hi
      have a2 := Int.dvd_mul_of_dvd_left (c := k) d1
      have := Int.dvd_sub a1 a2
      rwa [show c * (inv * k - 1) - (c * inv - st) * k = st * k - c by grind] at this
    obtain ⟨z, hz⟩ := e1
    refine ⟨z, ?_⟩
    obtain ⟨g, hgg⟩ : ∃ g : Int, (Int.gcd A.m B.m : Int) = g := ⟨_, rfl⟩
    rw [hgg] at h1 h2 hc
    rw [h1, h2]
    have : g * (st * k - c) = g * (k' * z) := by rw [hz]
    grind
  have d3 : A.m ∣ A.r + st * A.m - A.r := ⟨st, by grind⟩
  have hf : formC (A.r + st * A.m) (A.m * k') = ⟨(A.r + st * A.m) % (A.m * k'), A.m * k'⟩ := by
    unfold formC; rw [if_neg (by omega), if_neg (by omega)]
  obtain ⟨N, hN⟩ : ∃ N, A.r + st * A.m = N := ⟨_, rfl⟩
  rw [hN] at d2 d3 hf ⊢
  rw [hf]
  refine ⟨⟨fun _ => ⟨N, d3, d2⟩, fun _ => rfl⟩, fun e => (by cases e), fun _ _ => ⟨⟨by show 0 ≤ A.m * k'; omega, hg, fun e => absurd e (by show ¬ A.m * k' = 0; omega), fun _ => ⟨Int.emod_nonneg _ (by omega), Int.emod_lt_of_pos _ Lp⟩⟩, ?_⟩, fun _ q => (by omega)⟩
  intro n
  have i1 : inC ⟨N % (A.m * k'), A.m * k'⟩ n ↔ A.m * k' ∣ n - N := by
    show A.m * k' ∣ n - N % (A.m * k') ↔ _
    have e : A.m * k' ∣ N - N % (A.m * k') := Int.dvd_self_sub_emod
    constructor
    · intro q; have := Int.dvd_sub q e; rwa [show n - N % (A.m * k') - (N - N % (A.m * k')) = n - N by omega] at this
    · intro q; have := Int.dvd_add q e; rwa [show n - N + (N - N % (A.m * k')) = n - N % (A.m * k') by omega] at this
  rw [i1]
  constructor
  · intro q
    have q1 := Int.dvd_trans (Int.dvd_mul_right A.m k') q
    have q2 : B.m ∣ n - N := Int.dvd_trans (by rw [← h9]; exact dvd_lcmM A.m B.m) q
    refine ⟨?_, ?_⟩
    · have := Int.dvd_add q1 d3; rwa [show n - N + (N - A.r) = n - A.r by omega] at this
    · have := Int.dvd_add q2 d2; rwa [show n - N + (N - B.r) = n - B.r by omega] at this
  · rintro ⟨q1, q2⟩
    rw [← h9]
    refine lcm_dvdM ?_ ?_
    · have := Int.dvd_sub q1 d3; rwa [show n - A.r - (N - A.r) = n - N by omega] at this
    · have := Int.dvd_sub q2 d2; rwa [show n - B.r - (N - B.r) = n - N by omega] at this

end Go.Proofs.YtjimjbilmlnipaaDoor
