/- Intervals: the least one that has all numbers of a set. -/
import Derived.Test.YtegibkjopkakhaaDoorIc
namespace Go.Proofs.YtegibkjopkakhaaDoor

def inI (R : Iv) (n : Int) : Prop := (R.d = true ∨ R.lo ≤ n) ∧ (R.u = true ∨ n ≤ R.hi)
def inB (R : Iv) (n : Int) : Bool := (R.d || decide (R.lo ≤ n)) && (R.u || decide (n ≤ R.hi))
def okI (R : Iv) : Prop := (R.d = true → R.lo = 0) ∧ (R.u = true → R.hi = 0) ∧ (R.d = false → R.u = false → R.lo ≤ R.hi) ∧ -1099511627776 ≤ R.lo ∧ R.lo ≤ 1099511627776 ∧ -1099511627776 ≤ R.hi ∧ R.hi ≤ 1099511627776

theorem inB_iff (R : Iv) (n : Int) : inB R n = true ↔ inI R n := by simp [inB, inI]
theorem okI_iff (R : Iv) : ivErr R.d R.u R.lo R.hi = 0 ↔ okI R := by
  obtain ⟨d, u, lo, hi⟩ := R
  cases d <;> cases u <;> simp [ivErr, okI, farB] <;> grind

theorem twoErr_ok (A B : Iv) : twoErr A B = 0 ↔ okI A ∧ okI B := by
  rw [← okI_iff, ← okI_iff]; unfold twoErr; split <;> simp_all

structure LeastOf (S : Int → Prop) (R : Iv) : Prop where
  ok : okI R
  sound : ∀ n, S n → inI R n
  up : R.u = true → ∃ n, S n ∧ 1099511627776 < n
  hi : R.u = false → ∃ n, S n ∧ (n = R.hi ∨ (n ≤ -1099511627776 ∧ R.hi = -1099511627776))
  dn : R.d = true → ∃ n, S n ∧ n < -1099511627776
  lo : R.d = false → ∃ n, S n ∧ (n = R.lo ∨ (1099511627776 ≤ n ∧ R.lo = 1099511627776))

/-- More numbers, a wider interval. -/
theorem LeastOf.mono {S T : Int → Prop} {R Q : Iv} (h : LeastOf S R) (k : LeastOf T Q) (hs : ∀ n, S n → T n) : joined Q R = Q := by
  obtain ⟨⟨o1, o2, o3, o4, o5, o6, o7⟩, hs1, hu, hh, hd, hl⟩ := h
  obtain ⟨⟨p1, p2, p3, p4, p5, p6, p7⟩, ks1, _, _, _, _⟩ := k
  obtain ⟨d, u, lo, hi⟩ := R
  obtain ⟨d', u', lo', hi'⟩ := Q
  dsimp only [inI] at *
  have hd' : d = true → d' = true := by
    intro e
    obtain ⟨n, h1, h2⟩ := hd e
    rcases (ks1 n (hs n h1)).1 with h | h
    · exact h
    · omega
  have hu' : u = true → u' = true := by
    intro e
    obtain ⟨n, h1, h2⟩ := hu e
    rcases (ks1 n (hs n h1)).2 with h | h
    · exact h
    · omega
  have hlo : d = false → d' = true ∨ lo' ≤ lo := by
    intro e
    obtain ⟨n, h1, h2⟩ := hl e
    rcases (ks1 n (hs n h1)).1 with h | h
    · exact .inl h
    · right; omega
  have hhi : u = false → u' = true ∨ hi ≤ hi' := by
    intro e
    obtain ⟨n, h1, h2⟩ := hh e
    rcases (ks1 n (hs n h1)).2 with h | h
    · exact .inl h
    · right; omega
  clear hd hu hl hh hs1 ks1 hs
  unfold joined
  cases d <;> cases d' <;> cases u <;> cases u' <;> simp_all <;> omega

theorem joined_antisymm {R Q : Iv} (hR : okI R) (hQ : okI Q) (h1 : joined Q R = Q) (h2 : joined R Q = R) : R = Q := by
  obtain ⟨o1, o2, o3, o4, o5, o6, o7⟩ := hR
  obtain ⟨p1, p2, p3, p4, p5, p6, p7⟩ := hQ
  obtain ⟨d, u, lo, hi⟩ := R
  obtain ⟨d', u', lo', hi'⟩ := Q
  unfold joined at h1 h2
  cases d <;> cases d' <;> cases u <;> cases u' <;> simp_all <;> omega

theorem LeastOf.unique {S T : Int → Prop} {R Q : Iv} (h : LeastOf S R) (k : LeastOf T Q) (hs : ∀ n, S n ↔ T n) : R = Q :=
  joined_antisymm h.ok k.ok (h.mono k fun n => (hs n).1) (k.mono h fun n => (hs n).2)

def sums (A B : Iv) (n : Int) : Prop := ∃ x y, inI A x ∧ inI B y ∧ n = x + y
def diffs (A B : Iv) (n : Int) : Prop := ∃ x y, inI A x ∧ inI B y ∧ n = x - y
def prods (A B : Iv) (n : Int) : Prop := ∃ x y, inI A x ∧ inI B y ∧ n = x * y
def quots (A B : Iv) (n : Int) : Prop := ∃ x y, inI A x ∧ inI B y ∧ y ≠ 0 ∧ n = x.tdiv y
def rests (A B : Iv) (n : Int) : Prop := ∃ x y, inI A x ∧ inI B y ∧ y ≠ 0 ∧ n = x.tmod y

def smallB (A : Iv) (m : Int) : Bool := !A.d && !A.u && !farB A.lo m && !farB A.hi m

structure DivS (A B R : Iv) (b : Bool) : Prop where
  some : b = true ↔ ∃ y, inI B y ∧ y ≠ 0
  none : b = false → R = ⟨false, false, 0, 0⟩
  ok : okI R
  sound : b = true → ∀ n, quots A B n → inI R n
  least : smallB A 12 = true → smallB B 12 = true → (0 < B.lo ∨ B.hi < 0) → LeastOf (quots A B) R
  small : smallB A 12 = true → smallB B 12 = true → smallB R 12 = true

structure RemS (A B R : Iv) (b : Bool) : Prop where
  some : b = true ↔ ∃ y, inI B y ∧ y ≠ 0
  none : b = false → R = ⟨false, false, 0, 0⟩
  ok : okI R
  sound : b = true → ∀ n, rests A B n → inI R n
  least : smallB A 12 = true → smallB B 12 = true → B.lo = B.hi → b = true → LeastOf (rests A B) R
  small : smallB A 12 = true → smallB B 12 = true → smallB R 12 = true

end Go.Proofs.YtegibkjopkakhaaDoor
