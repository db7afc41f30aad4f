/- Zones: which are right: the reference. -/
import Derived.Test.YtmdbgmkbkmckfaaDoorZm
namespace Go.Proofs.YtmdbgmkbkmckfaaDoor
open Go.RowKit
set_option linter.unusedVariables false

set_option maxRecDepth 20000 in
set_option maxHeartbeats 2000000 in
theorem cellsError_nil (N want : Int) (x : Option Addr) (c : Nat) (w : World) :
    Calls Tryd.prog 28 #[.int .i64 N, .slice x 0 c, .int .i64 want] w fun e w' => e = .returned (.int .i64 (celErr N [] want)) ∧ w' = w := by
  obtain ⟨r, hr⟩ : ∃ r, r = celErr N [] want := ⟨_, rfl⟩
  have Hr := hide hr
  rw [← hr]
  clear hr
  by_cases c1 : N < 0
  · have e : Hid (r = 2) := by show _ = _; rw [Hr.out]; unfold celErr; rw [if_pos (.inl c1)]
    go_enter Tryd.func28, Tryd.ntmps28
    go_wp2
    go_ret
    exact ⟨ret_int (by rw [e.out]), rfl⟩
  by_cases c2 : 4 < N
  · have e : Hid (r = 2) := by show _ = _; rw [Hr.out]; unfold celErr; rw [if_pos (.inr c2)]
    go_enter Tryd.func28, Tryd.ntmps28
    go_wp2
    go_ret
    exact ⟨ret_int (by rw [e.out]), rfl⟩
  by_cases c3 : (0 : Int) = want
  · subst c3
    have e : Hid (r = 0) := by show _ = _; rw [Hr.out]; unfold celErr; rw [if_neg (by omega)]; simp
    go_enter Tryd.func28, Tryd.ntmps28
    go_wp2_with fail
    refine wp_loop_rounds 1 ?_
    rw [rounds_succ]
    go_wp2_with fail
    go_ret
    exact ⟨ret_int (by rw [e.out]), rfl⟩
  · have e : Hid (r = 3) := by show _ = _; rw [Hr.out]; unfold celErr; rw [if_neg (by omega), if_pos (by simpa using c3)]
    have c3b : ((0 : Int) != want) = true := by simp [c3]
    go_enter Tryd.func28, Tryd.ntmps28
    go_wp2
    go_ret
    exact ⟨ret_int (by rw [e.out]), rfl⟩

theorem cellsError_any (N want : Int) (x : Option Addr) (c n : Nat) (l : List Ce) (w : World) (hA : CsAt w x l) (hl : Hid (n = l.length)) (hn : n ≤ 1000) :
    Calls Tryd.prog 28 #[.int .i64 N, .slice x n c, .int .i64 want] w fun e w' => e = .returned (.int .i64 (celErr N l want)) ∧ w' = w := by
  rcases hA with h | ⟨b, off, rfl, h⟩
  · subst h
    have : n = 0 := hl.out
    subst this
    exact cellsError_nil N want x c w
  · exact cellsError_row N want b off c n l w h hl hn

/-- The error of a zone. -/
def zoErr (N : Int) (l : List Ce) : Int := celErr N l ((N + 1) * (N + 1))
theorem zoErr_range (N : Int) (l : List Ce) : 0 ≤ zoErr N l ∧ zoErr N l ≤ 8 := by
  unfold zoErr celErr
  split
  · omega
  · split
    · omega
    · split
      · omega
      · split <;> omega
theorem celErr_any (N : Int) (l : List Ce) (a b : Int) (h : 0 ≤ N → N ≤ 4 → a = b) : celErr N l a = celErr N l b := by
  unfold celErr
  by_cases e : N < 0 ∨ 4 < N
  · rw [if_pos e, if_pos e]
  · rw [if_neg e, if_neg e, h (by omega) (by omega)]

set_option maxRecDepth 20000 in
set_option maxHeartbeats 2000000 in
theorem zoneError_any (Ni : Int) (x : Option Addr) (c n : Nat) (l : List Ce) (w : World) (hN : (-9223372036854775808 ≤ Ni ∧ Ni ≤ 9223372036854775807)) (hA : CsAt w x l) (hl : Hid (n = l.length)) (hn : n ≤ 1000) :
    Calls Tryd.prog 8 #[(.agg #[.int .i64 Ni, (.slice x n c)])] w fun e w' => e = .returned (.int .i64 (zoErr Ni l)) ∧ Below w.heap.size w w' := by
  obtain ⟨r, hr⟩ : ∃ r, r = zoErr Ni l := ⟨_, rfl⟩
  have HC : Hid (∀ (W : World) (want : Int), (0 ≤ Ni → Ni ≤ 4 → want = (Ni + 1) * (Ni + 1)) → CsAt W x l → Calls Tryd.prog 28 #[.int .i64 Ni, .slice x n c, .int .i64 want] W fun e w' => e = .returned (.int .i64 r) ∧ w' = W) := by
    intro W want hw h
    have := cellsError_any Ni want x c n l W h hl hn
    rw [celErr_any Ni l want ((Ni + 1) * (Ni + 1)) hw] at this
    rw [hr]; exact this
  rw [← hr]
  clear hr
  have hb : Below w.heap.size w (w.alloc (.cells #[.int .i64 Ni, .slice x n c] 24)) := (Below.refl _ _).alloc (Nat.le_refl _) _
  have hA1 := hA.below hb
  clear hA
  by_cases hr : 0 ≤ Ni ∧ Ni ≤ 4
  · rcases (by omega : Ni = 0 ∨ Ni = 1 ∨ Ni = 2 ∨ Ni = 3 ∨ Ni = 4) with rfl | rfl | rfl | rfl | rfl
    all_goals
      go_enter Tryd.func8, Tryd.ntmps8
      go_wp2_with fail
      refine (HC.out _ _ (by intro _ _; rfl) hA1).mono ?_
      rintro e w1 ⟨rfl, rfl⟩
      go_wp2_with fail
      go_ret
      exact ⟨rfl, hb⟩
  · go_enter Tryd.func8, Tryd.ntmps8
    go_wp2_with fail
    refine (HC.out _ _ (by intro h1 h2; exact absurd ⟨h1, h2⟩ hr) hA1).mono ?_
    rintro e w1 ⟨rfl, rfl⟩
    go_wp2_with fail
    go_ret
    exact ⟨rfl, hb⟩

set_option maxHeartbeats 1000000 in
theorem near_law (x : Option Addr) (c n : Nat) (l : List Ce) (w : World) (hA : CsAt w x l) (hl : Hid (n = l.length)) (hn : n ≤ 9223372036854775807) :
    Calls Tryd.prog 18 #[.slice x n c] w fun e w' => e = .returned (.bool (decide (n ≤ 100) && nearL l 1048576)) ∧ w' = w := by
  by_cases h : n ≤ 100
  · obtain ⟨q, hq⟩ : ∃ q, q = nearL l 1048576 := ⟨_, rfl⟩
    have HC : Hid (∀ W : World, CsAt W x l → Calls Tryd.prog 40 #[.slice x n c, .int .i64 1048576] W fun e w' => e = .returned (.bool q) ∧ w' = W) := fun W k => by rw [hq]; exact near_any x c n 1048576 l W k hl (by omega) (by omega)
    rw [decide_eq_true h, Bool.true_and, ← hq]
    have hi : (n : Int) ≤ 100 := by omega
    clear hq
    go_enter Tryd.func18, Tryd.ntmps18
    go_wp2_with fail
    refine (HC.out _ hA).mono ?_
    rintro e w1 ⟨rfl, rfl⟩
    go_wp2_with fail
    go_ret
    exact ⟨rfl, rfl⟩
  · rw [decide_eq_false h, Bool.false_and]
    have hi : ¬ (n : Int) ≤ 100 := by omega
    go_enter Tryd.func18, Tryd.ntmps18
    go_wp2_with fail
    go_ret
    exact ⟨rfl, rfl⟩

end Go.Proofs.YtmdbgmkbkmckfaaDoor
