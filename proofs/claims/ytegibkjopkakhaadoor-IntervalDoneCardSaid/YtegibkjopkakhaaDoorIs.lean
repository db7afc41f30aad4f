/- IntervalDone: facts. -/
import Derived.Test.YtegibkjopkakhaaDoorIr
import Derived.Test.YtegibkjopkakhaaDoorIw
import Derived.Test.YtegibkjopkakhaaDoorIf
namespace Go.Proofs.YtegibkjopkakhaaDoor
open Go.RowKit
set_option linter.unusedVariables false

/-- What lies in the list, by signs. -/
theorem dinv_sums {lo hi lo' hi' : Int} {xs : List Int} (h : DInv 43 lo lo' hi' (hi + 1) lo' xs) : ∀ n, n ∈ xs ↔ sums ⟨false, false, lo, hi⟩ ⟨false, false, lo', hi'⟩ n := by
  intro n
  rw [h n]
  constructor
  · rintro ⟨p, q, h1, h2, h3, h4, h5, h6⟩
    exact ⟨p, q, ⟨.inr h1, .inr (by show p ≤ hi; omega)⟩, ⟨.inr h2, .inr h3⟩, by simpa [resN] using h6⟩
  · rintro ⟨p, q, ⟨h1, h2⟩, ⟨h3, h4⟩, h5⟩
    simp at h1 h2 h3 h4
    exact ⟨p, q, h1, h3, h4, .inl (by omega), by simp [resB], by simpa [resN] using h5⟩
theorem dinv_diffs {lo hi lo' hi' : Int} {xs : List Int} (h : DInv 45 lo lo' hi' (hi + 1) lo' xs) : ∀ n, n ∈ xs ↔ diffs ⟨false, false, lo, hi⟩ ⟨false, false, lo', hi'⟩ n := by
  intro n
  rw [h n]
  constructor
  · rintro ⟨p, q, h1, h2, h3, h4, h5, h6⟩
    exact ⟨p, q, ⟨.inr h1, .inr (by show p ≤ hi; omega)⟩, ⟨.inr h2, .inr h3⟩, by simpa [resN] using h6⟩
  · rintro ⟨p, q, ⟨h1, h2⟩, ⟨h3, h4⟩, h5⟩
    simp at h1 h2 h3 h4
    exact ⟨p, q, h1, h3, h4, .inl (by omega), by simp [resB], by simpa [resN] using h5⟩
theorem dinv_prods {lo hi lo' hi' : Int} {xs : List Int} (h : DInv 42 lo lo' hi' (hi + 1) lo' xs) : ∀ n, n ∈ xs ↔ prods ⟨false, false, lo, hi⟩ ⟨false, false, lo', hi'⟩ n := by
  intro n
  rw [h n]
  constructor
  · rintro ⟨p, q, h1, h2, h3, h4, h5, h6⟩
    exact ⟨p, q, ⟨.inr h1, .inr (by show p ≤ hi; omega)⟩, ⟨.inr h2, .inr h3⟩, by simpa [resN] using h6⟩
  · rintro ⟨p, q, ⟨h1, h2⟩, ⟨h3, h4⟩, h5⟩
    simp at h1 h2 h3 h4
    exact ⟨p, q, h1, h3, h4, .inl (by omega), by simp [resB], by simpa [resN] using h5⟩
theorem dinv_quots {lo hi lo' hi' : Int} {xs : List Int} (h : DInv 47 lo lo' hi' (hi + 1) lo' xs) : ∀ n, n ∈ xs ↔ quots ⟨false, false, lo, hi⟩ ⟨false, false, lo', hi'⟩ n := by
  intro n
  rw [h n]
  constructor
  · rintro ⟨p, q, h1, h2, h3, h4, h5, h6⟩
    have hq : q ≠ 0 := by simpa [resB] using h5
    exact ⟨p, q, ⟨.inr h1, .inr (by show p ≤ hi; omega)⟩, ⟨.inr h2, .inr h3⟩, hq, by simpa [resN, hq] using h6⟩
  · rintro ⟨p, q, ⟨h1, h2⟩, ⟨h3, h4⟩, hq, h5⟩
    simp at h1 h2 h3 h4
    exact ⟨p, q, h1, h3, h4, .inl (by omega), by simp [resB, hq], by simpa [resN, hq] using h5⟩
theorem dinv_rests {lo hi lo' hi' : Int} {xs : List Int} (h : DInv 37 lo lo' hi' (hi + 1) lo' xs) : ∀ n, n ∈ xs ↔ rests ⟨false, false, lo, hi⟩ ⟨false, false, lo', hi'⟩ n := by
  intro n
  rw [h n]
  constructor
  · rintro ⟨p, q, h1, h2, h3, h4, h5, h6⟩
    have hq : q ≠ 0 := by simpa [resB] using h5
    exact ⟨p, q, ⟨.inr h1, .inr (by show p ≤ hi; omega)⟩, ⟨.inr h2, .inr h3⟩, hq, by simpa [resN, hq] using h6⟩
  · rintro ⟨p, q, ⟨h1, h2⟩, ⟨h3, h4⟩, hq, h5⟩
    simp at h1 h2 h3 h4
    exact ⟨p, q, h1, h3, h4, .inl (by omega), by simp [resB, hq], by simpa [resN, hq] using h5⟩

/-- Small ones: what comes is small. -/
structure SmallTwo (lo hi lo' hi' : Int) : Prop where
  a : -12 ≤ lo ∧ hi ≤ 12 ∧ lo ≤ hi
  b : -12 ≤ lo' ∧ hi' ≤ 12 ∧ lo' ≤ hi'

theorem SmallTwo.sums {lo hi lo' hi' : Int} (h : SmallTwo lo hi lo' hi') : ∀ n, sums ⟨false, false, lo, hi⟩ ⟨false, false, lo', hi'⟩ n → -1000 ≤ n ∧ n ≤ 1000 := by
  rintro n ⟨x, y, ⟨h1, h2⟩, ⟨h3, h4⟩, rfl⟩
  have := h.a; have := h.b
  simp at h1 h2 h3 h4; omega
theorem SmallTwo.diffs {lo hi lo' hi' : Int} (h : SmallTwo lo hi lo' hi') : ∀ n, diffs ⟨false, false, lo, hi⟩ ⟨false, false, lo', hi'⟩ n → -1000 ≤ n ∧ n ≤ 1000 := by
  rintro n ⟨x, y, ⟨h1, h2⟩, ⟨h3, h4⟩, rfl⟩
  have := h.a; have := h.b
  simp at h1 h2 h3 h4; omega
theorem SmallTwo.prods {lo hi lo' hi' : Int} (h : SmallTwo lo hi lo' hi') : ∀ n, prods ⟨false, false, lo, hi⟩ ⟨false, false, lo', hi'⟩ n → -1000 ≤ n ∧ n ≤ 1000 := by
  rintro n ⟨x, y, ⟨h1, h2⟩, ⟨h3, h4⟩, rfl⟩
  have := h.a; have := h.b
  simp at h1 h2 h3 h4
  have := mul_small (x := x) (y := y) (by omega) (by omega); omega
theorem SmallTwo.quots {lo hi lo' hi' : Int} (h : SmallTwo lo hi lo' hi') : ∀ n, quots ⟨false, false, lo, hi⟩ ⟨false, false, lo', hi'⟩ n → -1000 ≤ n ∧ n ≤ 1000 := by
  rintro n ⟨x, y, ⟨h1, h2⟩, ⟨h3, h4⟩, _, rfl⟩
  have := h.a; have := h.b
  simp at h1 h2 h3 h4
  have := tdiv_small (x := x) (y := y) (by omega); omega
theorem SmallTwo.rests {lo hi lo' hi' : Int} (h : SmallTwo lo hi lo' hi') : ∀ n, rests ⟨false, false, lo, hi⟩ ⟨false, false, lo', hi'⟩ n → -1000 ≤ n ∧ n ≤ 1000 := by
  rintro n ⟨x, y, ⟨h1, h2⟩, ⟨h3, h4⟩, _, rfl⟩
  have := h.a; have := h.b
  simp at h1 h2 h3 h4
  have := tmod_small (x := x) (y := y) (by omega); omega

theorem SmallTwo.ne {lo hi lo' hi' : Int} (h : SmallTwo lo hi lo' hi') {xs : List Int} {S : Int → Prop} (hx : ∀ n, n ∈ xs ↔ S n) {n : Int} (hn : S n) : xs ≠ [] := by
  intro e; have := (hx n).2 hn; rw [e] at this; cases this

/-- The five answers of small ones. -/
theorem done_add {lo hi lo' hi' : Int} {xs : List Int} {P R : Iv} {b : Bool} (st : SmallTwo lo hi lo' hi') (hP : LeastOf (sums ⟨false, false, lo, hi⟩ ⟨false, false, lo', hi'⟩) P) (h : DInv 43 lo lo' hi' (hi + 1) lo' xs) (hs : IsSpan xs R b) : R = P :=
  (span_least hs (st.ne (dinv_sums h) ⟨lo, lo', ⟨.inr (Int.le_refl _), .inr st.a.2.2⟩, ⟨.inr (Int.le_refl _), .inr st.b.2.2⟩, rfl⟩) (dinv_sums h) st.sums).1.unique hP fun _ => Iff.rfl
theorem done_sub {lo hi lo' hi' : Int} {xs : List Int} {P R : Iv} {b : Bool} (st : SmallTwo lo hi lo' hi') (hP : LeastOf (diffs ⟨false, false, lo, hi⟩ ⟨false, false, lo', hi'⟩) P) (h : DInv 45 lo lo' hi' (hi + 1) lo' xs) (hs : IsSpan xs R b) : R = P :=
  (span_least hs (st.ne (dinv_diffs h) ⟨lo, lo', ⟨.inr (Int.le_refl _), .inr st.a.2.2⟩, ⟨.inr (Int.le_refl _), .inr st.b.2.2⟩, rfl⟩) (dinv_diffs h) st.diffs).1.unique hP fun _ => Iff.rfl
theorem done_mul {lo hi lo' hi' : Int} {xs : List Int} {P R : Iv} {b : Bool} (st : SmallTwo lo hi lo' hi') (hP : LeastOf (prods ⟨false, false, lo, hi⟩ ⟨false, false, lo', hi'⟩) P) (h : DInv 42 lo lo' hi' (hi + 1) lo' xs) (hs : IsSpan xs R b) : R = P :=
  (span_least hs (st.ne (dinv_prods h) ⟨lo, lo', ⟨.inr (Int.le_refl _), .inr st.a.2.2⟩, ⟨.inr (Int.le_refl _), .inr st.b.2.2⟩, rfl⟩) (dinv_prods h) st.prods).1.unique hP fun _ => Iff.rfl

/-- What is asked of quotients. -/
theorem done_div {lo hi lo' hi' : Int} {xs : List Int} {D U : Iv} {is b : Bool} (st : SmallTwo lo hi lo' hi') (hD : DivS ⟨false, false, lo, hi⟩ ⟨false, false, lo', hi'⟩ D is) (h : DInv 47 lo lo' hi' (hi + 1) lo' xs) (hs : IsSpan xs U b) :
    b = is ∧ (is = true → joined D U = D) ∧ (is = true → (0 < lo' ∨ hi' < 0) → D = U) := by
  have hm := dinv_quots h
  have hne : xs ≠ [] ↔ is = true := by
    rw [hD.some]
    constructor
    · intro hn
      obtain ⟨n, hn⟩ := List.exists_mem_of_ne_nil xs hn
      obtain ⟨x, y, _, hy, hy0, _⟩ := (hm n).1 hn
      exact ⟨y, hy, hy0⟩
    · rintro ⟨y, hy, hy0⟩
      exact st.ne hm ⟨lo, y, ⟨.inr (Int.le_refl _), .inr st.a.2.2⟩, hy, hy0, rfl⟩
  have hb : b = is := by
    have := span_bool hs
    cases b <;> cases is <;> simp_all
  refine ⟨hb, fun ht => span_inside hs (hne.2 ht) fun n hn => hD.sound ht n ((hm n).1 hn), fun ht ho => ?_⟩
  have hl := hD.least (by have := st.a; simp [smallB, farB]; omega) (by have := st.b; simp [smallB, farB]; omega) ho
  exact hl.unique (span_least hs (hne.2 ht) hm st.quots).1 fun _ => Iff.rfl
theorem done_rem {lo hi lo' hi' : Int} {xs : List Int} {D U : Iv} {is b : Bool} (st : SmallTwo lo hi lo' hi') (hD : RemS ⟨false, false, lo, hi⟩ ⟨false, false, lo', hi'⟩ D is) (h : DInv 37 lo lo' hi' (hi + 1) lo' xs) (hs : IsSpan xs U b) :
    b = is ∧ (is = true → joined D U = D) ∧ (is = true → lo' = hi' → D = U) := by
  have hm := dinv_rests h
  have hne : xs ≠ [] ↔ is = true := by
    rw [hD.some]
    constructor
    · intro hn
      obtain ⟨n, hn⟩ := List.exists_mem_of_ne_nil xs hn
      obtain ⟨x, y, _, hy, hy0, _⟩ := (hm n).1 hn
      exact ⟨y, hy, hy0⟩
    · rintro ⟨y, hy, hy0⟩
      exact st.ne hm ⟨lo, y, ⟨.inr (Int.le_refl _), .inr st.a.2.2⟩, hy, hy0, rfl⟩
  have hb : b = is := by
    have := span_bool hs
    cases b <;> cases is <;> simp_all
  refine ⟨hb, fun ht => span_inside hs (hne.2 ht) fun n hn => hD.sound ht n ((hm n).1 hn), fun ht ho => ?_⟩
  have hl := hD.least (by have := st.a; simp [smallB, farB]; omega) (by have := st.b; simp [smallB, farB]; omega) ho ht
  exact hl.unique (span_least hs (hne.2 ht) hm st.rests).1 fun _ => Iff.rfl

end Go.Proofs.YtegibkjopkakhaaDoor
