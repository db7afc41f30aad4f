/- Small intervals; the least interval of a list: facts. -/
import Derived.Test.YtegibkjopkakhaaDoorIq
namespace Go.Proofs.YtegibkjopkakhaaDoor
open Go.RowKit
set_option linter.unusedVariables false

set_option maxHeartbeats 1000000 in
theorem small_any (d u : Bool) (lo hi m : Int) (hm : 0 ≤ m) (hm2 : m ≤ 1000) (w : World) :
    Calls Tryd.prog 15 #[(.agg #[.bool d, .bool u, .int .i64 lo, .int .i64 hi]), .int .i64 m] w fun e w' => e = .returned (.bool (smallB ⟨d, u, lo, hi⟩ m)) ∧ Below w.heap.size w w' := by
  obtain ⟨f1, hf1⟩ : ∃ f, farB lo m = f := ⟨_, rfl⟩
  obtain ⟨f2, hf2⟩ : ∃ f, farB hi m = f := ⟨_, rfl⟩
  have H1 : Hid (∀ W : World, Calls Tryd.prog 20 #[.int .i64 lo, .int .i64 m] W fun e w' => e = .returned (.bool f1) ∧ w' = W) := by
    intro W; rw [← hf1]; exact far_any lo m W hm (by omega)
  have H2 : Hid (∀ W : World, Calls Tryd.prog 20 #[.int .i64 hi, .int .i64 m] W fun e w' => e = .returned (.bool f2) ∧ w' = W) := by
    intro W; rw [← hf2]; exact far_any hi m W hm (by omega)
  have hs : smallB ⟨d, u, lo, hi⟩ m = (!d && !u && !f1 && !f2) := by unfold smallB; rw [← hf1, ← hf2]
  rw [hs]
  clear hs hf1 hf2
  cases d <;> cases u <;> cases f1 <;> cases f2
  all_goals
    go_enter Tryd.func15, Tryd.ntmps15
    go_wp2_with fail
    refine (H1.out _).mono ?_
    rintro e w1 ⟨rfl, rfl⟩
    go_wp2_with fail
    refine (H2.out _).mono ?_
    rintro e w2 ⟨rfl, rfl⟩
    go_wp2_with fail
    go_ret
    exact ⟨rfl, (Below.refl _ _).alloc (Nat.le_refl _) _⟩

theorem smallB_12 {d u : Bool} {lo hi : Int} (h : smallB ⟨d, u, lo, hi⟩ 12 = true) : d = false ∧ u = false ∧ -12 ≤ lo ∧ lo ≤ 12 ∧ -12 ≤ hi ∧ hi ≤ 12 := by
  unfold smallB farB at h
  simp at h
  obtain ⟨⟨⟨h1, h2⟩, h3⟩, h4⟩ := h
  refine ⟨h1, h2, ?_⟩
  omega

theorem span_least {xs : List Int} {R : Iv} {b : Bool} {S : Int → Prop} (h : IsSpan xs R b) (hne : xs ≠ []) (hS : ∀ n, n ∈ xs ↔ S n) (hb : ∀ n, S n → -1000 ≤ n ∧ n ≤ 1000) : LeastOf S R ∧ b = true := by
  rcases h with ⟨h, _⟩ | ⟨_, h0, h1, h2, h3, h4, h5⟩
  · exact absurd h hne
  · refine ⟨⟨⟨?_, ?_, ?_, ?_⟩, ?_, ?_, ?_, ?_, ?_⟩, h0⟩
    · rw [h1]; intro e; cases e
    · rw [h2]; intro e; cases e
    · intro _ _; exact (h5 _ h4).1
    · have a1 := hb _ ((hS _).1 h3); have a2 := hb _ ((hS _).1 h4); omega
    · intro n hn; have := h5 n ((hS n).2 hn); exact ⟨.inr this.1, .inr this.2⟩
    · rw [h2]; intro e; cases e
    · intro _; exact ⟨_, (hS _).1 h4, .inl rfl⟩
    · rw [h1]; intro e; cases e
    · intro _; exact ⟨_, (hS _).1 h3, .inl rfl⟩

theorem span_inside {xs : List Int} {R D : Iv} {b : Bool} (h : IsSpan xs R b) (hne : xs ≠ []) (hD : ∀ n ∈ xs, inI D n) : joined D R = D := by
  rcases h with ⟨h, _⟩ | ⟨_, h0, h1, h2, h3, h4, h5⟩
  · exact absurd h hne
  · have a1 := hD _ h3
    have a2 := hD _ h4
    obtain ⟨d, u, lo, hi⟩ := R
    obtain ⟨d', u', lo', hi'⟩ := D
    simp only at h1 h2
    subst h1 h2
    clear h5 h3 h4 hD
    unfold inI at a1 a2
    unfold joined
    simp only at a1 a2 ⊢
    cases d' <;> cases u' <;> simp at a1 a2 ⊢ <;> omega

theorem span_bool {xs : List Int} {R : Iv} {b : Bool} (h : IsSpan xs R b) : (b = true ↔ xs ≠ []) := by
  rcases h with ⟨h, h0, _⟩ | ⟨h, h0, _⟩
  · rw [h0]; simp [h]
  · rw [h0]; simp [h]

theorem small_as (d u : Bool) (lo hi : Int) (h : Hid (smallB ⟨d, u, lo, hi⟩ 12 = true)) (W : World) :
    Calls Tryd.prog 15 #[(.agg #[.bool d, .bool u, .int .i64 lo, .int .i64 hi]), .int .i64 12] W fun e w' => e = .returned (.bool true) ∧ Below W.heap.size W w' := by
  refine (small_any d u lo hi 12 (by omega) (by omega) W).mono ?_
  rintro e w' ⟨rfl, hb⟩
  exact ⟨by rw [h.out], hb⟩

theorem span_as (x : Option Addr) (n c : Nat) (l : List Int) (w : World) (hA : IntsAt w x l) (hl : Hid (n = l.length)) (hn : n ≤ 1000000) :
    Calls Tryd.prog 16 #[.slice x n c] w fun e w' => ∃ (d u : Bool) (lo hi : Int) (b : Bool), e = .returned (.tuple #[(.agg #[.bool d, .bool u, .int .i64 lo, .int .i64 hi]), .bool b]) ∧ IsSpan l ⟨d, u, lo, hi⟩ b ∧ Below w.heap.size w w' := by
  refine (span_any x n c l w hA hl hn).mono ?_
  rintro e w' ⟨⟨⟨d, u, lo, hi⟩, b, rfl, h⟩, hb⟩
  exact ⟨d, u, lo, hi, b, rfl, h, hb⟩

end Go.Proofs.YtegibkjopkakhaaDoor
