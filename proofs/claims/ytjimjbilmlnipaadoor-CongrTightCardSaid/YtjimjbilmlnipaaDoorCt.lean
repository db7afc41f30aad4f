/- The least interval of the numbers of a congruence and an interval: what is asked of Tight; facts. -/
import Derived.Test.YtjimjbilmlnipaaDoorCc
import Derived.Test.YtjimjbilmlnipaaDoorIu
namespace Go.Proofs.YtjimjbilmlnipaaDoor
open Go.RowKit
set_option linter.unusedSimpArgs false

/-- What is told of the numbers of both. -/
structure TightS (A : Cg) (B R : Iv) (b : Bool) : Prop where
  some : b = true ↔ ∃ n, inC A n ∧ inI B n
  none : b = false → R = ⟨false, false, 0, 0⟩
  least : b = true → LeastOf (fun n => inC A n ∧ inI B n) R

/-- The next number of a congruence, and the one before. -/
def nxt (r m lo : Int) : Int := lo + (r - lo) % m
def prv (r m hi : Int) : Int := hi - (hi - r) % m

theorem nxt_in {r m : Int} (lo : Int) : m ∣ nxt r m lo - r := by
  unfold nxt
  have e := Int.emod_def (r - lo) m
  rw [show lo + (r - lo) % m - r = -(m * ((r - lo) / m)) by omega]
  exact Int.dvd_neg.2 (Int.dvd_mul_right ..)
theorem prv_in {r m : Int} (hi : Int) : m ∣ prv r m hi - r := by
  unfold prv
  have e := Int.emod_def (hi - r) m
  rw [show hi - (hi - r) % m - r = m * ((hi - r) / m) by omega]
  exact Int.dvd_mul_right ..
theorem nxt_r {r m : Int} (hm : 0 < m) (lo : Int) : lo ≤ nxt r m lo ∧ nxt r m lo < lo + m := by
  have h1 := Int.emod_nonneg (r - lo) (by omega : m ≠ 0)
  have h2 := Int.emod_lt_of_pos (r - lo) hm
  unfold nxt; omega
theorem prv_r {r m : Int} (hm : 0 < m) (hi : Int) : prv r m hi ≤ hi ∧ hi - m < prv r m hi := by
  have h1 := Int.emod_nonneg (hi - r) (by omega : m ≠ 0)
  have h2 := Int.emod_lt_of_pos (hi - r) hm
  unfold prv; omega
theorem nxt_le {r m lo n : Int} (hm : 0 < m) (h : lo ≤ n) (k : m ∣ n - r) : nxt r m lo ≤ n := by
  have d := Int.dvd_sub k (nxt_in (r := r) (m := m) lo)
  rw [show n - r - (nxt r m lo - r) = n - nxt r m lo by omega] at d
  rcases Int.lt_or_le n (nxt r m lo) with o | o
  · have b := nxt_r (r := r) hm lo
    have := Int.le_of_dvd (by omega : 0 < nxt r m lo - n) (by have := Int.dvd_neg.2 d; rwa [show -(n - nxt r m lo) = nxt r m lo - n by omega] at this)
    omega
  · exact o
theorem le_prv {r m hi n : Int} (hm : 0 < m) (h : n ≤ hi) (k : m ∣ n - r) : n ≤ prv r m hi := by
  have d := Int.dvd_sub k (prv_in (r := r) (m := m) hi)
  rw [show n - r - (prv r m hi - r) = n - prv r m hi by omega] at d
  rcases Int.lt_or_le (prv r m hi) n with o | o
  · have b := prv_r (r := r) hm hi
    have := Int.le_of_dvd (by omega : 0 < n - prv r m hi) d
    omega
  · exact o

def wantT (A : Cg) (B : Iv) : Iv := ⟨B.d, B.u, if B.d then B.lo else nxt A.r A.m B.lo, if B.u then B.hi else prv A.r A.m B.hi⟩

theorem tight_facts {A : Cg} {B R : Iv} {b : Bool} (hB : okI B) (hm : 0 < A.m) (h5 : A.m ≤ 5000) (hr : -1073741824 ≤ A.r ∧ A.r ≤ 1073741824) (hl : -1073741824 ≤ B.lo ∧ B.lo ≤ 1073741824) (hh : -1073741824 ≤ B.hi ∧ B.hi ≤ 1073741824) (h : TightS A B R b) :
    ((B.d = false ∧ B.u = false ∧ (wantT A B).hi < (wantT A B).lo) → b = false ∧ R = ⟨false, false, 0, 0⟩) ∧ (¬ (B.d = false ∧ B.u = false ∧ (wantT A B).hi < (wantT A B).lo) → b = true ∧ R = wantT A B) := by
  have n1 := nxt_in (r := A.r) (m := A.m) B.lo
  have n2 := nxt_r (r := A.r) hm B.lo
  have p1 := prv_in (r := A.r) (m := A.m) B.hi
  have p2 := prv_r (r := A.r) hm B.hi
  obtain ⟨o1, o2, o3, o4, o5, o6, o7⟩ := hB
  constructor
  · rintro ⟨hd, hu, lt⟩
    have nb : b = false := by
      cases hb : b
      · rfl
      · obtain ⟨n, h1, h2⟩ := h.some.1 hb
        unfold wantT at lt
        rw [hd, hu] at lt
        simp only [Bool.false_eq_true, if_false] at lt
        have l1 : B.lo ≤ n := h2.1.resolve_left (by rw [hd]; simp)
        have l2 : n ≤ B.hi := h2.2.resolve_left (by rw [hu]; simp)
        have := nxt_le hm l1 h1
        have := le_prv hm l2 h1
        omega
    exact ⟨nb, h.none nb⟩
  · intro no
    have far : ∀ K : Int, A.m ∣ A.r + K * A.m - A.r := fun K => by rw [show A.r + K * A.m - A.r = K * A.m by omega]; exact Int.dvd_mul_left ..
    have big : A.r + 1099511627776 * 2 * A.m > 1099511627776 := by omega
    have low : A.r + (-1099511627776 * 2) * A.m < -1099511627776 := by omega
    have L : LeastOf (fun n => inC A n ∧ inI B n) (wantT A B) := by
      obtain ⟨d, u, lo, hi⟩ := B
      unfold wantT at no ⊢
      dsimp only at *
      cases d <;> cases u <;> simp only [Bool.false_eq_true, if_false, if_true, true_and, Int.not_lt, not_true_eq_false, false_and, not_false_eq_true] at no ⊢
      · refine ⟨⟨by simp, by simp, fun _ _ => by dsimp only; omega, by dsimp only; omega, by dsimp only; omega, by dsimp only; omega, by dsimp only; omega⟩, ?_, fun e => (by cases e), fun _ => ⟨prv A.r A.m hi, ⟨p1, .inr (by dsimp only; omega), .inr p2.1⟩, .inl rfl⟩, fun e => (by cases e), fun _ => ⟨nxt A.r A.m lo, ⟨n1, .inr n2.1, .inr (by dsimp only; omega)⟩, .inl rfl⟩⟩
        rintro n ⟨k1, k2⟩
        exact ⟨.inr (nxt_le hm (k2.1.resolve_left (by simp)) k1), .inr (le_prv hm (k2.2.resolve_left (by simp)) k1)⟩
      · refine ⟨⟨by simp, fun _ => o2 rfl, by simp, by dsimp only; omega, by dsimp only; omega, by dsimp only; omega, by dsimp only; omega⟩, ?_, fun _ => ⟨_, ⟨far (1099511627776 * 2), .inr (by dsimp only; omega), .inl rfl⟩, big⟩, fun e => (by cases e), fun e => (by cases e), fun _ => ⟨nxt A.r A.m lo, ⟨n1, .inr n2.1, .inl rfl⟩, .inl rfl⟩⟩
        rintro n ⟨k1, k2⟩
        exact ⟨.inr (nxt_le hm (k2.1.resolve_left (by simp)) k1), .inl rfl⟩
      · refine ⟨⟨fun _ => o1 rfl, by simp, by simp, by dsimp only; omega, by dsimp only; omega, by dsimp only; omega, by dsimp only; omega⟩, ?_, fun e => (by cases e), fun _ => ⟨prv A.r A.m hi, ⟨p1, .inl rfl, .inr p2.1⟩, .inl rfl⟩, fun _ => ⟨_, ⟨far (-1099511627776 * 2), .inl rfl, .inr (by dsimp only; omega)⟩, low⟩, fun e => (by cases e)⟩
        rintro n ⟨k1, k2⟩
        exact ⟨.inl rfl, .inr (le_prv hm (k2.2.resolve_left (by simp)) k1)⟩
      · refine ⟨⟨fun _ => o1 rfl, fun _ => o2 rfl, by simp, by dsimp only; omega, by dsimp only; omega, by dsimp only; omega, by dsimp only; omega⟩, fun _ _ => ⟨.inl rfl, .inl rfl⟩, fun _ => ⟨_, ⟨far (1099511627776 * 2), .inl rfl, .inl rfl⟩, big⟩, fun e => (by cases e), fun _ => ⟨_, ⟨far (-1099511627776 * 2), .inl rfl, .inl rfl⟩, low⟩, fun e => (by cases e)⟩
    have tb : b = true := by
      apply h.some.2
      cases e : (wantT A B).d
      · obtain ⟨n, hn, _⟩ := L.lo e; exact ⟨n, hn⟩
      · obtain ⟨n, hn, _⟩ := L.dn e; exact ⟨n, hn⟩
    exact ⟨tb, (h.least tb).unique L fun _ => Iff.rfl⟩

theorem tight_one {A : Cg} {B R : Iv} {b : Bool} (h0 : A.m = 0) (hr : -1099511627776 ≤ A.r ∧ A.r ≤ 1099511627776) (h : TightS A B R b) : b = inB B A.r ∧ (b = true → R = ⟨false, false, A.r, A.r⟩) := by
  have iA : ∀ n, inC A n ↔ n = A.r := by intro n; unfold inC; rw [h0]; rw [Int.zero_dvd]; omega
  refine ⟨?_, fun hb => ?_⟩
  · rw [Bool.eq_iff_iff, h.some, inB_iff]
    exact ⟨fun ⟨n, h1, h2⟩ => by rw [(iA n).1 h1] at h2; exact h2, fun hh => ⟨A.r, (iA _).2 rfl, hh⟩⟩
  · obtain ⟨n, h1, h2⟩ := h.some.1 hb
    have e := (iA n).1 h1
    rw [e] at h2
    have L : LeastOf (fun n => inC A n ∧ inI B n) ⟨false, false, A.r, A.r⟩ := by
      refine ⟨⟨by simp, by simp, fun _ _ => Int.le_refl _, hr.1, hr.2, hr.1, hr.2⟩, ?_, fun e => (by cases e), fun _ => ⟨A.r, ⟨(iA _).2 rfl, h2⟩, .inl rfl⟩, fun e => (by cases e), fun _ => ⟨A.r, ⟨(iA _).2 rfl, h2⟩, .inl rfl⟩⟩
      rintro n ⟨k1, _⟩
      rw [(iA n).1 k1]
      exact ⟨.inr (Int.le_refl _), .inr (Int.le_refl _)⟩
    exact (h.least hb).unique L fun _ => Iff.rfl

theorem leaves_nxt {r m lo x : Int} (hm : 0 < m) (h1 : lo ≤ x) (h2 : x ≤ nxt r m lo) : inCB ⟨r, m⟩ x = decide (x = nxt r m lo) := by
  unfold inCB
  rw [Bool.eq_iff_iff, decide_eq_true_iff, decide_eq_true_iff]
  exact ⟨fun h => by have := nxt_le (r := r) hm h1 h; omega, fun h => by rw [h]; exact nxt_in (r := r) lo⟩
theorem leaves_prv {r m hi x : Int} (hm : 0 < m) (h1 : x ≤ hi) (h2 : prv r m hi ≤ x) : inCB ⟨r, m⟩ x = decide (x = prv r m hi) := by
  unfold inCB
  rw [Bool.eq_iff_iff, decide_eq_true_iff, decide_eq_true_iff]
  exact ⟨fun h => by have := le_prv (r := r) hm h1 h; omega, fun h => by rw [h]; exact prv_in (r := r) hi⟩

def cgIvErr (A : Cg) (B : Iv) : Int := if cgErr A.r A.m = 0 then ivErr B.d B.u B.lo B.hi else cgErr A.r A.m

def CTightC (a : Nat → Addr) : Prop := ∀ (r m : Int) (d u : Bool) (lo hi : Int) (w : World), ErrS w a → (-9223372036854775808 ≤ r ∧ r ≤ 9223372036854775807) ∧ (-9223372036854775808 ≤ m ∧ m ≤ 9223372036854775807) → (-9223372036854775808 ≤ lo ∧ lo ≤ 9223372036854775807) ∧ (-9223372036854775808 ≤ hi ∧ hi ≤ 9223372036854775807) →
  Calls Tryd.prog 29 #[(.agg #[.int .i64 r, .int .i64 m]), (.agg #[.bool d, .bool u, .int .i64 lo, .int .i64 hi])] w fun e w' => (∃ (R : Iv) (b : Bool), e = .returned (.tuple #[R.v, .bool b, errV a (cgIvErr ⟨r, m⟩ ⟨d, u, lo, hi⟩)]) ∧ (cgIvErr ⟨r, m⟩ ⟨d, u, lo, hi⟩ = 0 → TightS ⟨r, m⟩ ⟨d, u, lo, hi⟩ R b) ∧ (cgIvErr ⟨r, m⟩ ⟨d, u, lo, hi⟩ ≠ 0 → R = ⟨false, false, 0, 0⟩ ∧ b = false)) ∧ Below w.heap.size w w'
end Go.Proofs.YtjimjbilmlnipaaDoor
