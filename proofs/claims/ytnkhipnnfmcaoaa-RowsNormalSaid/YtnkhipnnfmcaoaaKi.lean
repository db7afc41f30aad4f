/- The copy of a list; the closed fact; the statement's own walk. -/
import Derived.Test.YtnkhipnnfmcaoaaKh
import Derived.Laws.AppendOwnNone
namespace Go.Proofs.Ytnkhipnnfmcaoaa
open Go.RowKit

set_option maxHeartbeats 400000 in
theorem intsCopy_some (b off c : Nat) (l : List Int) (w : World) (hc : ∀ i, i < l.length → w.cell? ⟨b, off + i, none⟩ = some (.int .i64 (l.getD i 0))) (hn : l.length ≤ 4398046511104) :
    Calls Try.prog 8 #[.slice (some ⟨b, off, none⟩) l.length c] w fun e w' => ∃ a cap, e = .returned (.slice a l.length cap) ∧ IntsAt w' a l ∧ Below w.heap.size w w' := by
  obtain ⟨i0, hi, hz0, hz1, hz2⟩ := info_parts Try.info3
  have hnews : ∀ j u, (l.map (Value.int .i64))[j]? = some u → w.cell? ((⟨b, off, none⟩ : Addr).add j) = some u := by
    intro j u hj
    have hjl : j < l.length := by
      rcases Nat.lt_or_ge j l.length with h | h
      · exact h
      · rw [List.getElem?_eq_none (by simpa using h)] at hj; cases hj
    have := hc j hjl
    have hu : u = .int .i64 (l.getD j 0) := by simp [hjl] at hj; rw [← hj]; simp [hjl]
    rw [hu, ← this]
    unfold Addr.add
    split
    · rename_i h0; subst h0; simp
    · rfl
  go_enter Try.func8, Try.ntmps8
  go_wp2_with (at_builtin; refine wpList_append_own _ rfl _ _ 22 rfl w.heap.size 3 i0 (.int .i64 0) 1 8 Try.underlying22 hi hz0 hz1 hz2 rfl (by decide) _ _ _ rfl (World.ownsRow_nil _ _ _ _) ⟨b, off, none⟩ l.length c (l.map (Value.int .i64)) rfl (by simp) hnews (ints_oneCell _ _) (by unfold maxLen; omega) (by omega) (Nat.le_refl _) ?_)
  intro v' w1 hown hgrow _
  obtain ⟨a, cap, rfl, hI⟩ := IntsAt_of_own hown
  go_wp2_with fail
  go_ret
  exact ⟨a, cap, rfl, hI, (Below.refl _ _).grown hgrow (Nat.le_refl _) (fun j hj => by cases hj)⟩

set_option maxHeartbeats 400000 in
theorem intsCopy_nil (c : Nat) (w : World) :
    Calls Try.prog 8 #[.slice none 0 c] w fun e w' => ∃ a cap, e = .returned (.slice a 0 cap) ∧ IntsAt w' a [] ∧ Below w.heap.size w w' := by
  obtain ⟨i0, hi, hz0, hz1, hz2⟩ := info_parts Try.info3
  go_enter Try.func8, Try.ntmps8
  go_wp2
  go_ret
  exact ⟨none, 0, rfl, .inl rfl, Below.refl _ _⟩

set_option maxHeartbeats 400000 in
theorem intsCopy_empty (x : Addr) (c : Nat) (w : World) :
    Calls Try.prog 8 #[.slice (some x) 0 c] w fun e w' => ∃ a cap, e = .returned (.slice a 0 cap) ∧ IntsAt w' a [] ∧ Below w.heap.size w w' := by
  obtain ⟨i0, hi, hz0, hz1, hz2⟩ := info_parts Try.info3
  go_enter Try.func8, Try.ntmps8
  go_wp2_with (at_builtin; refine wpList_append_own _ rfl _ _ 22 rfl w.heap.size 3 i0 (.int .i64 0) 1 8 Try.underlying22 hi hz0 hz1 hz2 rfl (by decide) _ _ _ rfl (World.ownsRow_nil _ _ _ _) x 0 c (([] : List Int).map (Value.int .i64)) rfl (by simp) (by intro j u h; simp at h) (by simp) (by unfold maxLen; omega) (by omega) (Nat.le_refl _) ?_)
  intro v' w1 hown hgrow _
  obtain ⟨a, cap, hv, hI⟩ := IntsAt_of_own (l := []) (by simpa using hown)
  rw [hv]
  go_wp2_with fail
  go_ret
  exact ⟨_, _, rfl, .inl rfl, (Below.refl _ _).grown hgrow (Nat.le_refl _) (fun j hj => by cases hj)⟩

theorem intsCopy_any (a : Option Addr) (c : Nat) (l : List Int) (w : World) (hA : IntsAt w a l) (hn : l.length ≤ 4398046511104) :
    Calls Try.prog 8 #[.slice a l.length c] w fun e w' => ∃ a' cap, e = .returned (.slice a' l.length cap) ∧ IntsAt w' a' l ∧ Below w.heap.size w w' := by
  rcases hA with rfl | ⟨b, off, rfl, hb, hc⟩
  · cases a with
    | none => exact intsCopy_nil c w
    | some x => exact intsCopy_empty x c w
  · exact intsCopy_some b off c l w hc hn

set_option maxHeartbeats 1000000 in
theorem halves_true (w : World) :
    Calls Try.prog 4 #[] w fun e w' => e = .returned (.bool true) ∧ Below w.heap.size w w' := by
  go_enter Try.func4, Try.ntmps4
  go_wp2_with fail
  refine (normal_near (some ⟨w.heap.size, 0, none⟩) 2 [4, 6] _ (.inr ⟨w.heap.size, 0, rfl, by simp, ?_⟩) ?_ (by simp)).mono ?_
  · intro i hi
    match i, hi with
    | 0, _ => simp
    | 1, _ => simp
  · intro x hx; simp at hx; omega
  rintro e w1 ⟨g1, rfl, hg1, hI1, hb1⟩
  have hl : ([4, 6] : List Int).map (·.tdiv (gcdL [4, 6])) = [2, 3] := by decide
  rw [hl] at hI1
  go_wp2_with fail
  refine (sameInts_any _ _ 2 2 2 2 [2, 3] [2, 3] _ (hI1.below ((Below.refl _ _).alloc (Nat.le_refl _) _)) (.inr ⟨w1.heap.size, 0, rfl, by simp, ?_⟩) rfl rfl (by omega)).mono ?_
  · intro i hi
    match i, hi with
    | 0, _ => simp
    | 1, _ => simp
  rintro e w2 ⟨rfl, hb2⟩
  go_wp2_with fail
  go_ret
  have hs1 := hb1.size
  simp at hs1
  exact ⟨by simp, (((Below.refl _ _).alloc (Nat.le_refl _) _).trans (hb1.mono (by simp))).trans ((((Below.refl _ _).alloc (by omega) _).trans (hb2.mono (by simp; omega))))⟩

theorem large_as (a : Option Addr) (n c : Nat) (l : List Int) (bo : Bool) (w : World) (hA : IntsAt w a l) (hl : Hid (n = l.length)) (hbo : Hid (largeB l = bo)) (hn : n ≤ 4611686018427387903) :
    Calls Try.prog 5 #[.slice a n c] w fun e w' => e = .returned (.bool bo) ∧ Below w.heap.size w w' := by
  have h := hl.out
  subst h
  rw [← hbo.out]; exact large_any a c l w hA hn

theorem intsCopy_as (a : Option Addr) (n c : Nat) (l : List Int) (w : World) (hA : IntsAt w a l) (hl : Hid (n = l.length)) (hn : n ≤ 4398046511104) :
    Calls Try.prog 8 #[.slice a n c] w fun e w' => ∃ a' cap, e = .returned (.slice a' n cap) ∧ IntsAt w' a' l ∧ Below w.heap.size w w' := by
  have h := hl.out
  subst h
  exact intsCopy_any a c l w hA hn

theorem normal_as (a : Option Addr) (n c : Nat) (l : List Int) (w : World) (hA : IntsAt w a l) (hl : Hid (n = l.length)) (hf : Fits l) (hn : n ≤ 4398046511104) :
    Calls Try.prog 7 #[.slice a n c] w fun e w' => ∃ g, e = .returned (.slice (some ⟨g, 0, none⟩) n n) ∧ w.heap.size ≤ g ∧ IntsAt w' (some ⟨g, 0, none⟩) (l.map (·.tdiv (gcdL l))) ∧ Below w.heap.size w w' := by
  have h := hl.out
  subst h
  exact normal_near a c l w hA hf hn

theorem normalOf_as (a : Option Addr) (n c : Nat) (l : List Int) (w : World) (hA : IntsAt w a l) (hl : Hid (n = l.length)) (hf : Fits l) (hn : n ≤ 4398046511104) :
    Calls Try.prog 9 #[.slice a n c] w fun e w' => ∃ a' cap, e = .returned (.slice a' n cap) ∧ IntsAt w' a' (l.map (·.tdiv (gcdL l))) ∧ Below w.heap.size w w' := by
  have h := hl.out
  subst h
  exact normalOf_any a c l w hA hf hn

set_option maxHeartbeats 1000000 in
/-- The statement's walk: whatever ints are handed in, true. -/
theorem rowsNormal_true (a : Option Addr) (n c : Nat) (l : List Int) (w : World) (hA : n ≤ 400 → IntsAt w a l) (hl : n = l.length) (hn : n ≤ 9223372036854775807) :
    Calls Try.prog 3 #[.slice a n c] w fun e w' => e = .returned (.bool true) ∧ Below w.heap.size w w' := by
  have Hl := hide hl
  clear hl
  by_cases h400 : n ≤ 400
  · have hA := hA h400
    have hd : decide ((400 : Int) < (n : Int)) = false := decide_eq_false (by omega)
    cases hL : largeB l with
    | true =>
      have HL := hide hL
      clear hL
      go_enter Try.func3, Try.ntmps3
      go_wp2_with (go_at_call 4; refine (halves_true _).mono ?_; rintro e w1 ⟨rfl, hb1⟩)
      refine (large_as a n c l true _ (hA.below hb1) Hl HL (by omega)).mono ?_
      rintro e w2 ⟨rfl, hb2⟩
      go_wp2_with fail
      go_ret
      exact ⟨rfl, hb1.trans (hb2.mono hb1.size)⟩
    | false =>
      have hf : Fits l := fun x hx => by have := largeB_false hL x hx; omega
      have HL := hide hL
      clear hL
      go_enter Try.func3, Try.ntmps3
      go_wp2_with (go_at_call 4; refine (halves_true _).mono ?_; rintro e w1 ⟨rfl, hb1⟩)
      refine (large_as a n c l false _ (hA.below hb1) Hl HL (by omega)).mono ?_
      rintro e w2 ⟨rfl, hb2⟩
      have hA2 := (hA.below hb1).below hb2
      have hb12 := hb1.trans (hb2.mono hb1.size)
      clear hb1 hb2
      go_wp2_with fail
      refine (intsCopy_as a n c l _ hA2 Hl (by omega)).mono ?_
      rintro e w3 ⟨a3, c3, rfl, hA3, hb3⟩
      have hb13 := hb12.trans (hb3.mono hb12.size)
      go_wp2_with fail
      refine (normal_as a3 n c3 l _ hA3 Hl hf (by omega)).mono ?_
      rintro e w4 ⟨g4, rfl, hg4, hA4, hb4⟩
      have hb14 := hb13.trans (hb4.mono hb13.size)
      have hA5 := (hA2.below hb3).below hb4
      go_wp2_with fail
      refine (normalOf_as a n c l _ hA5 Hl hf (by omega)).mono ?_
      rintro e w5 ⟨a6, c6, rfl, hA6, hb5⟩
      have hb15 := hb14.trans (hb5.mono hb14.size)
      go_wp2_with fail
      refine (sameInts_any _ _ n _ n _ _ _ _ (hA4.below hb5) hA6 (by rw [List.length_map]; exact Hl.out) (by rw [List.length_map]; exact Hl.out) (by omega)).mono ?_
      rintro e w6 ⟨rfl, hb6⟩
      go_wp2_with fail
      go_ret
      exact ⟨by simp, hb15.trans (hb6.mono hb15.size)⟩
  · have hd : (400 : Int) < (n : Int) := by omega
    go_enter Try.func3, Try.ntmps3
    go_wp2_with (go_at_call 4; refine (halves_true _).mono ?_; rintro e w1 ⟨rfl, hb1⟩)
    go_ret
    exact ⟨rfl, hb1⟩

end Go.Proofs.Ytnkhipnnfmcaoaa
