/- IntervalRefine: facts; two slices that grow in turn. -/
import Derived.Test.YtijbjahedfmfgabDoorIx
import Derived.Test.YtijbjahedfmfgabDoorIw
import Derived.Deep.AppendLies
namespace Go.Proofs.YtijbjahedfmfgabDoor
open Go.RowKit
set_option linter.unusedVariables false

/-- Two slices in blocks of their own. -/
def Dis (v1 v2 : Value) : Prop := ∀ g, v1.ownBlock = some g → v2.ownBlock ≠ some g
theorem Dis.symm {v1 v2 : Value} (h : Dis v1 v2) : Dis v2 v1 := fun g h1 h2 => h g h2 h1
theorem Dis.nil (v : Value) : Dis (.slice none 0 0) v := by intro g h; simp [Value.ownBlock] at h
theorem Dis.ne {v1 v2 : Value} (h : Dis v1 v2) : v1.ownBlock = none ∨ v1.ownBlock ≠ v2.ownBlock := by
  cases e : v1.ownBlock with
  | none => exact .inl rfl
  | some g => right; intro e2; exact h g e e2.symm

theorem Dis.grow {v1 v2 : Value} {g n c H : Nat} (h : Dis v1 v2) (hg : v1.ownBlock = some g ∨ g = H) (h2 : ∀ k, v2.ownBlock = some k → k < H) : Dis (.slice (some ⟨g, 0, none⟩) n c) v2 := by
  intro k hk hk2
  simp [Value.ownBlock] at hk
  subst hk
  rcases hg with hg | rfl
  · exact h g hg hk2
  · have := h2 g hk2; omega

/-- Pairs that stand so, up to here: the firsts and the seconds. -/
def FInv (k : Nat) (lo lo' hi' x y : Int) (xs ys : List Int) : Prop :=
  (∀ n, n ∈ xs ↔ ∃ q, lo ≤ n ∧ lo' ≤ q ∧ q ≤ hi' ∧ (n < x ∨ (n = x ∧ q < y)) ∧ rel k n q = true) ∧
  (∀ n, n ∈ ys ↔ ∃ p, lo ≤ p ∧ lo' ≤ n ∧ n ≤ hi' ∧ (p < x ∨ (p = x ∧ n < y)) ∧ rel k p n = true)

theorem FInv.start (k : Nat) (lo lo' hi' : Int) : FInv k lo lo' hi' lo lo' [] [] := by
  constructor
  · intro n; constructor
    · intro h; cases h
    · rintro ⟨q, h1, h2, h3, h4, _⟩; omega
  · intro n; constructor
    · intro h; cases h
    · rintro ⟨q, h1, h2, h3, h4, _⟩; omega

theorem FInv.more {k : Nat} {lo lo' hi' x y : Int} {xs ys : List Int} (H : FInv k lo lo' hi' x y xs ys) (hx : lo ≤ x) (hy : lo' ≤ y) (hy2 : y ≤ hi') (hb : rel k x y = true) : FInv k lo lo' hi' x (y + 1) (xs ++ [x]) (ys ++ [y]) := by
  constructor
  · intro n
    rw [List.mem_append, H.1 n]
    constructor
    · rintro (⟨q, h1, h2, h3, h4, h5⟩ | hn)
      · exact ⟨q, h1, h2, h3, by omega, h5⟩
      · simp at hn; subst hn; exact ⟨y, hx, hy, hy2, .inr ⟨rfl, by omega⟩, hb⟩
    · rintro ⟨q, h1, h2, h3, h4, h5⟩
      by_cases hq : n = x
      · right; simp [hq]
      · left; exact ⟨q, h1, h2, h3, by omega, h5⟩
  · intro n
    rw [List.mem_append, H.2 n]
    constructor
    · rintro (⟨q, h1, h2, h3, h4, h5⟩ | hn)
      · exact ⟨q, h1, h2, h3, by omega, h5⟩
      · simp at hn; subst hn; exact ⟨x, hx, hy, hy2, .inr ⟨rfl, by omega⟩, hb⟩
    · rintro ⟨q, h1, h2, h3, h4, h5⟩
      by_cases hq : n = y
      · right; simp [hq]
      · left; exact ⟨q, h1, h2, h3, by omega, h5⟩

theorem FInv.none {k : Nat} {lo lo' hi' x y : Int} {xs ys : List Int} (H : FInv k lo lo' hi' x y xs ys) (hb : rel k x y = false) : FInv k lo lo' hi' x (y + 1) xs ys := by
  constructor
  · intro n
    rw [H.1 n]
    constructor
    · rintro ⟨q, h1, h2, h3, h4, h5⟩; exact ⟨q, h1, h2, h3, by omega, h5⟩
    · rintro ⟨q, h1, h2, h3, h4, h5⟩
      refine ⟨q, h1, h2, h3, ?_, h5⟩
      by_cases hq : n = x ∧ q = y
      · rw [hq.1, hq.2, hb] at h5; cases h5
      · omega
  · intro n
    rw [H.2 n]
    constructor
    · rintro ⟨q, h1, h2, h3, h4, h5⟩; exact ⟨q, h1, h2, h3, by omega, h5⟩
    · rintro ⟨q, h1, h2, h3, h4, h5⟩
      refine ⟨q, h1, h2, h3, ?_, h5⟩
      by_cases hq : q = x ∧ n = y
      · rw [hq.1, hq.2, hb] at h5; cases h5
      · omega

theorem FInv.line {k : Nat} {lo lo' hi' x y : Int} {xs ys : List Int} (H : FInv k lo lo' hi' x y xs ys) (hy : hi' < y) : FInv k lo lo' hi' (x + 1) lo' xs ys := by
  constructor
  · intro n
    rw [H.1 n]
    constructor
    · rintro ⟨q, h1, h2, h3, h4, h5⟩; exact ⟨q, h1, h2, h3, by omega, h5⟩
    · rintro ⟨q, h1, h2, h3, h4, h5⟩; exact ⟨q, h1, h2, h3, by omega, h5⟩
  · intro n
    rw [H.2 n]
    constructor
    · rintro ⟨q, h1, h2, h3, h4, h5⟩; exact ⟨q, h1, h2, h3, by omega, h5⟩
    · rintro ⟨q, h1, h2, h3, h4, h5⟩; exact ⟨q, h1, h2, h3, by omega, h5⟩

theorem finv_firsts {k : Nat} {lo hi lo' hi' : Int} {xs ys : List Int} (H : FInv k lo lo' hi' (hi + 1) lo' xs ys) : (∀ n, n ∈ xs ↔ firsts ⟨false, false, lo, hi⟩ ⟨false, false, lo', hi'⟩ k n) ∧ (∀ n, n ∈ ys ↔ seconds ⟨false, false, lo, hi⟩ ⟨false, false, lo', hi'⟩ k n) := by
  constructor
  · intro n
    rw [H.1 n]
    constructor
    · rintro ⟨q, h1, h2, h3, h4, h5⟩
      exact ⟨q, ⟨.inr h1, .inr (by show n ≤ hi; omega)⟩, ⟨.inr h2, .inr h3⟩, h5⟩
    · rintro ⟨q, ⟨h1, h2⟩, ⟨h3, h4⟩, h5⟩
      simp at h1 h2 h3 h4
      exact ⟨q, h1, h3, h4, .inl (by omega), h5⟩
  · intro n
    rw [H.2 n]
    constructor
    · rintro ⟨q, h1, h2, h3, h4, h5⟩
      exact ⟨q, ⟨.inr h1, .inr (by show q ≤ hi; omega)⟩, ⟨.inr h2, .inr h3⟩, h5⟩
    · rintro ⟨q, ⟨h1, h2⟩, ⟨h3, h4⟩, h5⟩
      simp at h1 h2 h3 h4
      exact ⟨q, h1, h3, h4, .inl (by omega), h5⟩

/-- What the two spans are. -/
theorem refine_spans {k : Nat} {lo hi lo' hi' : Int} {xs ys : List Int} {X Y U V : Iv} {is b1 b2 : Bool} (h1 : -12 ≤ lo ∧ hi ≤ 12) (h2 : -12 ≤ lo' ∧ hi' ≤ 12) (hR : RefS ⟨false, false, lo, hi⟩ ⟨false, false, lo', hi'⟩ k X Y is) (H : FInv k lo lo' hi' (hi + 1) lo' xs ys) (hU : IsSpan xs U b1) (hV : IsSpan ys V b2) : is = b1 ∧ X = U ∧ Y = V := by
  obtain ⟨m1, m2⟩ := finv_firsts H
  have n1 : xs ≠ [] ↔ is = true := by
    rw [hR.some]
    constructor
    · intro hn
      obtain ⟨n, hn⟩ := List.exists_mem_of_ne_nil xs hn
      obtain ⟨y, a1, a2, a3⟩ := (m1 n).1 hn
      exact ⟨n, y, a1, a2, a3⟩
    · rintro ⟨x, y, a1, a2, a3⟩ e
      have := (m1 x).2 ⟨y, a1, a2, a3⟩
      rw [e] at this; cases this
  have n2 : ys ≠ [] ↔ is = true := by
    rw [hR.some]
    constructor
    · intro hn
      obtain ⟨n, hn⟩ := List.exists_mem_of_ne_nil ys hn
      obtain ⟨x, a1, a2, a3⟩ := (m2 n).1 hn
      exact ⟨x, n, a1, a2, a3⟩
    · rintro ⟨x, y, a1, a2, a3⟩ e
      have := (m2 y).2 ⟨x, a1, a2, a3⟩
      rw [e] at this; cases this
  have hb : is = b1 := Bool.eq_iff_iff.2 (n1.symm.trans (span_bool hU).symm)
  refine ⟨hb, ?_⟩
  cases is with
  | false =>
    obtain ⟨rfl, rfl⟩ := hR.none rfl
    have e1 : xs = [] := by
      cases xs with
      | nil => rfl
      | cons a l => have := n1.1 (by simp); cases this
    have e2 : ys = [] := by
      cases ys with
      | nil => rfl
      | cons a l => have := n2.1 (by simp); cases this
    rcases hU with ⟨_, _, rfl⟩ | ⟨c, _⟩
    · rcases hV with ⟨_, _, rfl⟩ | ⟨c, _⟩
      · exact ⟨rfl, rfl⟩
      · exact absurd e2 c
    · exact absurd e1 c
  | true =>
    constructor
    · refine (hR.left rfl).unique (span_least hU (n1.2 rfl) m1 ?_).1 fun _ => Iff.rfl
      rintro n ⟨y, ⟨a1, a2⟩, _⟩
      simp at a1 a2; omega
    · refine (hR.right rfl).unique (span_least hV (n2.2 rfl) m2 ?_).1 fun _ => Iff.rfl
      rintro n ⟨y, _, ⟨a1, a2⟩, _⟩
      simp at a1 a2; omega

/-- A call that ends has an end. -/
theorem calls_some {P : Program} {f : FuncId} {args : Array Value} {w : World} {R : Ending → World → Prop} (h : Calls P f args w R) : ∃ e w', R e w' := by
  obtain ⟨e, w', _, h, _⟩ := h []
  exact ⟨e, w', h⟩

theorem RefS.unique {A B X Y X' Y' : Iv} {k : Nat} {b b' : Bool} (h : RefS A B k X Y b) (h' : RefS A B k X' Y' b') : X = X' ∧ Y = Y' ∧ b = b' := by
  have hb : b = b' := Bool.eq_iff_iff.2 (h.some.trans h'.some.symm)
  subst hb
  cases b with
  | false =>
    obtain ⟨rfl, rfl⟩ := h.none rfl
    obtain ⟨rfl, rfl⟩ := h'.none rfl
    exact ⟨rfl, rfl, rfl⟩
  | true => exact ⟨(h.left rfl).unique (h'.left rfl) fun _ => Iff.rfl, (h.right rfl).unique (h'.right rfl) fun _ => Iff.rfl, rfl⟩

theorem RefS.ok {A B X Y : Iv} {k : Nat} {b : Bool} (h : RefS A B k X Y b) : okI X ∧ okI Y := by
  cases b with
  | false =>
    obtain ⟨rfl, rfl⟩ := h.none rfl
    have : okI ivZ := ⟨(by intro e; cases e), (by intro e; cases e), (fun _ _ => Int.le_refl _), (by decide), (by decide), (by decide), (by decide)⟩
    exact ⟨this, this⟩
  | true => exact ⟨(h.left rfl).ok, (h.right rfl).ok⟩

end Go.Proofs.YtijbjahedfmfgabDoor
