/- Congruences: what is asked of the program's functions; facts. -/
import Derived.Test.YtjimjbilmlnipaaDoorCa
import Derived.Test.YtjimjbilmlnipaaDoorIc
namespace Go.Proofs.YtjimjbilmlnipaaDoor
open Go.RowKit
set_option linter.unusedVariables false

def cgZ : Cg := ⟨0, 0⟩

/-- The least congruence with that number and modulus that can be told. -/
def formC (r m : Int) : Cg := if 1048576 < m ∨ (m = 0 ∧ farB r 1099511627776 = true) then ⟨0, 1⟩ else if m = 0 then ⟨r, 0⟩ else ⟨r % m, m⟩

/-- The numbers of both. -/
structure MeetS (A B R : Cg) (b : Bool) : Prop where
  some : b = true ↔ ∃ n, inC A n ∧ inC B n
  none : b = false → R = cgZ
  fit : b = true → Int.lcm A.m B.m ≤ 1048576 → okC R ∧ ∀ n, inC R n ↔ inC A n ∧ inC B n
  great : b = true → 1048576 < Int.lcm A.m B.m → R = A

def CValidC (a : Nat → Addr) : Prop := ∀ (r m : Int) (w : World), ErrS w a → (-9223372036854775808 ≤ r ∧ r ≤ 9223372036854775807) ∧ (-9223372036854775808 ≤ m ∧ m ≤ 9223372036854775807) →
  Calls Tryd.prog 13 #[(.agg #[.int .i64 r, .int .i64 m])] w fun e w' => e = .returned (errV a (cgErr r m)) ∧ Below w.heap.size w w'
def CHasC (a : Nat → Addr) : Prop := ∀ (r m n : Int) (w : World), ErrS w a → (-9223372036854775808 ≤ r ∧ r ≤ 9223372036854775807) ∧ (-9223372036854775808 ≤ m ∧ m ≤ 9223372036854775807) → (-9223372036854775808 ≤ n ∧ n ≤ 9223372036854775807) →
  Calls Tryd.prog 15 #[(.agg #[.int .i64 r, .int .i64 m]), .int .i64 n] w fun e w' => e = .returned (.bool (decide (cgErr r m = 0) && inCB ⟨r, m⟩ n)) ∧ Below w.heap.size w w'
def CMeetC (a : Nat → Addr) : Prop := ∀ (r m r' m' : Int) (w : World), ErrS w a → (-9223372036854775808 ≤ r ∧ r ≤ 9223372036854775807) ∧ (-9223372036854775808 ≤ m ∧ m ≤ 9223372036854775807) → (-9223372036854775808 ≤ r' ∧ r' ≤ 9223372036854775807) ∧ (-9223372036854775808 ≤ m' ∧ m' ≤ 9223372036854775807) →
  Calls Tryd.prog 23 #[(.agg #[.int .i64 r, .int .i64 m]), (.agg #[.int .i64 r', .int .i64 m'])] w fun e w' => (∃ (R : Cg) (b : Bool), e = .returned (.tuple #[R.v, .bool b, errV a (twoC ⟨r, m⟩ ⟨r', m'⟩)]) ∧ (twoC ⟨r, m⟩ ⟨r', m'⟩ = 0 → MeetS ⟨r, m⟩ ⟨r', m'⟩ R b) ∧ (twoC ⟨r, m⟩ ⟨r', m'⟩ ≠ 0 → R = cgZ ∧ b = false)) ∧ Below w.heap.size w w'
def CWithinC (a : Nat → Addr) : Prop := ∀ (r m r' m' : Int) (w : World), ErrS w a → (-9223372036854775808 ≤ r ∧ r ≤ 9223372036854775807) ∧ (-9223372036854775808 ≤ m ∧ m ≤ 9223372036854775807) → (-9223372036854775808 ≤ r' ∧ r' ≤ 9223372036854775807) ∧ (-9223372036854775808 ≤ m' ∧ m' ≤ 9223372036854775807) →
  Calls Tryd.prog 18 #[(.agg #[.int .i64 r, .int .i64 m]), (.agg #[.int .i64 r', .int .i64 m'])] w fun e w' => e = .returned (.tuple #[.bool (decide (twoC ⟨r, m⟩ ⟨r', m'⟩ = 0) && decide (m' ∣ m ∧ m' ∣ r - r')), errV a (twoC ⟨r, m⟩ ⟨r', m'⟩)]) ∧ Below w.heap.size w w'

/-- A function of two whose answer is in form. -/
def COpC (F : Nat) (R M : Cg → Cg → Int) (a : Nat → Addr) : Prop := ∀ (r m r' m' : Int) (w : World), ErrS w a → (-9223372036854775808 ≤ r ∧ r ≤ 9223372036854775807) ∧ (-9223372036854775808 ≤ m ∧ m ≤ 9223372036854775807) → (-9223372036854775808 ≤ r' ∧ r' ≤ 9223372036854775807) ∧ (-9223372036854775808 ≤ m' ∧ m' ≤ 9223372036854775807) →
  Calls Tryd.prog F #[(.agg #[.int .i64 r, .int .i64 m]), (.agg #[.int .i64 r', .int .i64 m'])] w fun e w' => e = .returned (.tuple #[(if twoC ⟨r, m⟩ ⟨r', m'⟩ = 0 then formC (R ⟨r, m⟩ ⟨r', m'⟩) (M ⟨r, m⟩ ⟨r', m'⟩) else cgZ).v, errV a (twoC ⟨r, m⟩ ⟨r', m'⟩)]) ∧ Below w.heap.size w w'
def CJoinC (a : Nat → Addr) : Prop := COpC 20 (fun A B => A.r) (fun A B => Int.gcd (Int.gcd A.m B.m) (A.r - B.r)) a
def CAddC (a : Nat → Addr) : Prop := COpC 24 (fun A B => A.r + B.r) (fun A B => Int.gcd A.m B.m) a
def CSubC (a : Nat → Addr) : Prop := COpC 25 (fun A B => A.r - B.r) (fun A B => Int.gcd A.m B.m) a
def CMulC (a : Nat → Addr) : Prop := COpC 26 (fun A B => A.r * B.r) (fun A B => Int.gcd (Int.gcd (A.m * B.m) (A.m * B.r)) (A.r * B.m)) a
def CScaleC (a : Nat → Addr) : Prop := ∀ (r m n : Int) (w : World), ErrS w a → (-9223372036854775808 ≤ r ∧ r ≤ 9223372036854775807) ∧ (-9223372036854775808 ≤ m ∧ m ≤ 9223372036854775807) → (-9223372036854775808 ≤ n ∧ n ≤ 9223372036854775807) →
  Calls Tryd.prog 27 #[(.agg #[.int .i64 r, .int .i64 m]), .int .i64 n] w fun e w' => e = .returned (.tuple #[(if cgErr r m = 0 ∧ farB n 1048576 = false then formC (n * r) ((n.natAbs : Int) * m) else cgZ).v, errV a (if cgErr r m = 0 then (if farB n 1048576 = true then 2 else 0) else cgErr r m)]) ∧ Below w.heap.size w w'
def SixthC (a : Nat → Addr) : Prop := ∀ (w : World), ErrS w a → Calls Tryd.prog 9 #[] w fun e w' => e = .returned (.bool true) ∧ Below w.heap.size w w'

theorem okC_r {R : Cg} (h : okC R) : (-9223372036854775808 ≤ R.r ∧ R.r ≤ 9223372036854775807) ∧ (-9223372036854775808 ≤ R.m ∧ R.m ≤ 9223372036854775807) := by
  obtain ⟨h1, h2, h3, h4⟩ := h
  by_cases h : R.m = 0
  · have := h3 h; omega
  · have := h4 (by omega); omega

/-- A right congruence is told by its numbers. -/
theorem cg_is {R : Cg} {L x : Int} (h : okC R) (hL : 0 < L) (hx : ∀ k, inC R k ↔ L ∣ k - x) : R.m = L ∧ R.r = x % L := by
  obtain ⟨h1, h2, h3, h4⟩ := h
  have a1 : L ∣ R.r - x := (hx R.r).1 (by unfold inC; simp)
  have a2 : R.m ∣ x - R.r := (hx x).2 (by simp)
  have a3 : L ∣ R.m := by
    have : L ∣ R.r + R.m - x := (hx (R.r + R.m)).1 (by unfold inC; rw [show R.r + R.m - R.r = R.m by omega]; exact Int.dvd_refl _)
    have := Int.dvd_sub this a1
    rwa [show R.r + R.m - x - (R.r - x) = R.m by omega] at this
  have a4 : R.m ∣ L := by
    have : inC R (x + L) := (hx (x + L)).2 (by rw [show x + L - x = L by omega]; exact Int.dvd_refl _)
    have := Int.dvd_sub this a2
    rwa [show x + L - R.r - (x - R.r) = L by omega] at this
  have e1 : R.m = L := Int.dvd_antisymm h1 (by omega) a4 a3
  refine ⟨e1, ?_⟩
  have hr := h4 (by omega)
  rw [e1] at hr
  have : R.r % L = x % L := Int.emod_eq_emod_iff_emod_sub_eq_zero.2 (Int.emod_eq_zero_of_dvd a1)
  rw [← this]
  exact (Int.emod_eq_of_lt hr.1 hr.2).symm

end Go.Proofs.YtjimjbilmlnipaaDoor
