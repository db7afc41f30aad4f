/- Intervals widened: the reference. -/
import Derived.Test.YtijbjahedfmfgaaDoorIu
namespace Go.Proofs.YtijbjahedfmfgaaDoor
open Go.RowKit
set_option linter.unusedVariables false

/-- The greatest stop that is at most b; none. -/
def LoStop (l : List Int) (b : Int) (d : Bool) (lo : Int) : Prop :=
  (d = true ∧ lo = 0 ∧ ∀ s ∈ l, ¬ s ≤ b) ∨ (d = false ∧ lo ∈ l ∧ lo ≤ b ∧ ∀ s ∈ l, s ≤ b → s ≤ lo)
def HiStop (l : List Int) (b : Int) (u : Bool) (hi : Int) : Prop :=
  (u = true ∧ hi = 0 ∧ ∀ s ∈ l, ¬ b ≤ s) ∨ (u = false ∧ hi ∈ l ∧ b ≤ hi ∧ ∀ s ∈ l, b ≤ s → hi ≤ s)

def WidLo (A B : Iv) (l : List Int) (d : Bool) (lo : Int) : Prop :=
  if A.d = false ∧ (B.d = true ∨ B.lo < A.lo) then (if B.d = true then d = true ∧ lo = 0 else LoStop l B.lo d lo) else d = A.d ∧ lo = A.lo
def WidHi (A B : Iv) (l : List Int) (u : Bool) (hi : Int) : Prop :=
  if A.u = false ∧ (B.u = true ∨ A.hi < B.hi) then (if B.u = true then u = true ∧ hi = 0 else HiStop l B.hi u hi) else u = A.u ∧ hi = A.hi
def IsWid (A B : Iv) (l : List Int) (R : Iv) : Prop := WidLo A B l R.d R.lo ∧ WidHi A B l R.u R.hi

theorem LoStop.unique {l : List Int} {b : Int} {d d' : Bool} {lo lo' : Int} (h : LoStop l b d lo) (k : LoStop l b d' lo') : d = d' ∧ lo = lo' := by
  rcases h with ⟨rfl, rfl, h⟩ | ⟨rfl, h1, h2, h3⟩ <;> rcases k with ⟨rfl, rfl, k⟩ | ⟨rfl, k1, k2, k3⟩
  · exact ⟨rfl, rfl⟩
  · exact absurd k2 (h _ k1)
  · exact absurd h2 (k _ h1)
  · exact ⟨rfl, by have := h3 _ k1 k2; have := k3 _ h1 h2; omega⟩
theorem HiStop.unique {l : List Int} {b : Int} {d d' : Bool} {lo lo' : Int} (h : HiStop l b d lo) (k : HiStop l b d' lo') : d = d' ∧ lo = lo' := by
  rcases h with ⟨rfl, rfl, h⟩ | ⟨rfl, h1, h2, h3⟩ <;> rcases k with ⟨rfl, rfl, k⟩ | ⟨rfl, k1, k2, k3⟩
  · exact ⟨rfl, rfl⟩
  · exact absurd k2 (h _ k1)
  · exact absurd h2 (k _ h1)
  · exact ⟨rfl, by have := h3 _ k1 k2; have := k3 _ h1 h2; omega⟩

theorem IsWid.unique {A B R Q : Iv} {l : List Int} (h : IsWid A B l R) (k : IsWid A B l Q) : R = Q := by
  obtain ⟨h1, h2⟩ := h
  obtain ⟨k1, k2⟩ := k
  have e1 : R.d = Q.d ∧ R.lo = Q.lo := by
    unfold WidLo at h1 k1
    split at h1
    · split at h1
      · rw [if_pos (by assumption), if_pos (by assumption)] at k1
        exact ⟨by rw [h1.1, k1.1], by rw [h1.2, k1.2]⟩
      · rw [if_pos (by assumption), if_neg (by assumption)] at k1
        exact h1.unique k1
    · rw [if_neg (by assumption)] at k1
      exact ⟨by rw [h1.1, k1.1], by rw [h1.2, k1.2]⟩
  have e2 : R.u = Q.u ∧ R.hi = Q.hi := by
    unfold WidHi at h2 k2
    split at h2
    · split at h2
      · rw [if_pos (by assumption), if_pos (by assumption)] at k2
        exact ⟨by rw [h2.1, k2.1], by rw [h2.2, k2.2]⟩
      · rw [if_pos (by assumption), if_neg (by assumption)] at k2
        exact h2.unique k2
    · rw [if_neg (by assumption)] at k2
      exact ⟨by rw [h2.1, k2.1], by rw [h2.2, k2.2]⟩
  obtain ⟨a1, a2, a3, a4⟩ := R
  obtain ⟨b1, b2, b3, b4⟩ := Q
  simp_all

theorem take_mem_succ {l : List Int} {k : Nat} (h : k < l.length) (t s : Int) (hs : s = l.getD k 0) : t ∈ l.take (k + 1) ↔ t ∈ l.take k ∨ t = s := by
  have e : l.take (k + 1) = l.take k ++ [l.getD k 0] := by rw [List.take_succ_eq_append_getElem h]; simp [h]
  rw [e, hs]; simp

theorem LoStop.next {l : List Int} {b : Int} {d : Bool} {lo : Int} {k : Nat} (hk : k < l.length) (h : LoStop (l.take k) b d lo) (s : Int) (hs : s = l.getD k 0) :
    (s ≤ b ∧ (d = true ∨ lo < s) → LoStop (l.take (k + 1)) b false s) ∧ (¬ (s ≤ b ∧ (d = true ∨ lo < s)) → LoStop (l.take (k + 1)) b d lo) := by
  have tm := fun t => take_mem_succ hk t s hs
  clear hs
  constructor
  · rintro ⟨h1, h2⟩
    right
    refine ⟨rfl, (tm _).2 (.inr rfl), h1, fun t ht hb => ?_⟩
    rcases (tm _).1 ht with ht | rfl
    · rcases h with ⟨_, _, h⟩ | ⟨rfl, _, _, h⟩
      · exact absurd hb (h t ht)
      · have := h t ht hb
        rcases h2 with h2 | h2
        · cases h2
        · omega
    · omega
  · intro h1
    rcases h with ⟨rfl, rfl, h⟩ | ⟨rfl, h2, h3, h⟩
    · left
      refine ⟨rfl, rfl, fun t ht hb => ?_⟩
      rcases (tm _).1 ht with ht | rfl
      · exact h t ht hb
      · exact h1 ⟨hb, .inl rfl⟩
    · right
      refine ⟨rfl, (tm _).2 (.inl h2), h3, fun t ht hb => ?_⟩
      rcases (tm _).1 ht with ht | rfl
      · exact h t ht hb
      · have : ¬ (lo < t) := fun e => h1 ⟨hb, .inr e⟩
        omega

theorem HiStop.next {l : List Int} {b : Int} {d : Bool} {lo : Int} {k : Nat} (hk : k < l.length) (h : HiStop (l.take k) b d lo) (s : Int) (hs : s = l.getD k 0) :
    (b ≤ s ∧ (d = true ∨ s < lo) → HiStop (l.take (k + 1)) b false s) ∧ (¬ (b ≤ s ∧ (d = true ∨ s < lo)) → HiStop (l.take (k + 1)) b d lo) := by
  have tm := fun t => take_mem_succ hk t s hs
  clear hs
  constructor
  · rintro ⟨h1, h2⟩
    right
    refine ⟨rfl, (tm _).2 (.inr rfl), h1, fun t ht hb => ?_⟩
    rcases (tm _).1 ht with ht | rfl
    · rcases h with ⟨_, _, h⟩ | ⟨rfl, _, _, h⟩
      · exact absurd hb (h t ht)
      · have := h t ht hb
        rcases h2 with h2 | h2
        · cases h2
        · omega
    · omega
  · intro h1
    rcases h with ⟨rfl, rfl, h⟩ | ⟨rfl, h2, h3, h⟩
    · left
      refine ⟨rfl, rfl, fun t ht hb => ?_⟩
      rcases (tm _).1 ht with ht | rfl
      · exact h t ht hb
      · exact h1 ⟨hb, .inl rfl⟩
    · right
      refine ⟨rfl, (tm _).2 (.inl h2), h3, fun t ht hb => ?_⟩
      rcases (tm _).1 ht with ht | rfl
      · exact h t ht hb
      · have : ¬ (t < lo) := fun e => h1 ⟨hb, .inr e⟩
        omega

/-- What the reference's answer is. -/
def WidPost (A B : Iv) (l : List Int) (e : Ending) : Prop := ∃ R : Iv, e = .returned R.v ∧ IsWid A B l R

end Go.Proofs.YtijbjahedfmfgaaDoor
