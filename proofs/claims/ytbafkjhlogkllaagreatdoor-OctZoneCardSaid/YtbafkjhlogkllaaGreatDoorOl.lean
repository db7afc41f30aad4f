/- Octagons: the reference's other, down; its closing walked: the parts. -/
import Derived.Test.YtbafkjhlogkllaaGreatDoorOj
import Derived.Test.YtbafkjhlogkllaaGreatDoorZg
import Derived.Deep.RegionHeld3
import Derived.Deep.CutBlock
import Derived.Deep.DeepCutAuto
namespace Go.Proofs.YtbafkjhlogkllaaGreatDoor
open Go.RowKit
set_option linter.unusedVariables false

theorem bar_int (i : Nat) : ((bar i : Nat) : Int) = if (i : Int) % 2 = 0 then (i : Int) + 1 else (i : Int) - 1 := by
  unfold bar
  split <;> split <;> omega
set_option maxRecDepth 20000 in
set_option maxHeartbeats 2000000 in
theorem other_any (i : Nat) (hi : i ≤ 1000) (w : World) : Calls Tryz.prog 26 #[.int .i64 i] w fun e w' => e = .returned (.int .i64 ((bar i : Nat) : Int)) ∧ w' = w := by
  have hb := bar_int i
  by_cases h : (i : Int) % 2 = 0
  · rw [if_pos h] at hb
    rw [hb]
    clear hb
    go_enter Tryz.func26, Tryz.ntmps26
    go_wp2_with fail
    go_ret
    exact ⟨by go_num, rfl⟩
  · rw [if_neg h] at hb
    have h' : ((i : Int) % 2 == 0) = false := by simp [h]
    rw [hb]
    clear hb
    go_enter Tryz.func26, Tryz.ntmps26
    go_wp2_with fail
    go_ret
    exact ⟨by go_num, rfl⟩
set_option maxRecDepth 20000 in
set_option maxHeartbeats 2000000 in
theorem down_any (v : Int) (hv : -9223372036854775808 ≤ v ∧ v ≤ 9223372036854775807) (w : World) : Calls Tryz.prog 27 #[.int .i64 v] w fun e w' => e = .returned (.int .i64 (v / 2)) ∧ w' = w := by
  obtain ⟨q, hq⟩ : ∃ q, q = v.tdiv 2 := ⟨_, rfl⟩
  obtain ⟨r, hr⟩ : ∃ r, r = v.tmod 2 := ⟨_, rfl⟩
  have hd : q * 2 + r = v := by rw [hq, hr]; exact Int.tdiv_mul_add_tmod v 2
  have hrb : (0 ≤ v → 0 ≤ r ∧ r < 2) ∧ (v ≤ 0 → -2 < r ∧ r ≤ 0) := by
    refine ⟨fun h => ?_, fun h => ?_⟩
    · rw [hr]
      exact ⟨Int.tmod_nonneg _ h, Int.tmod_lt_of_pos _ (by omega)⟩
    · have e := Int.neg_tmod v 2
      have h1 := Int.tmod_nonneg (a := -v) 2 (by omega)
      have h2 := Int.tmod_lt_of_pos (-v) (show (0 : Int) < 2 by omega)
      rw [hr]; omega
  by_cases hn : v < 0
  · by_cases h0 : r = 0
    · have e : v / 2 = v.tdiv 2 := by omega
      rw [e]
      rw [hr] at h0
      clear hq hr hd hrb e
      go_enter Tryz.func27, Tryz.ntmps27
      go_wp2_with fail
      go_ret
      exact ⟨rfl, rfl⟩
    · have e : v / 2 = v.tdiv 2 - 1 := by omega
      have hw : wrap64 (v.tdiv 2 - 1) = v.tdiv 2 - 1 := by unfold wrap64; omega
      rw [e]
      rw [hr] at h0
      have h0' : (v.tmod 2 == 0) = false := by simp [h0]
      clear hq hr hd hrb e
      go_enter Tryz.func27, Tryz.ntmps27
      go_wp2_with fail
      go_ret
      exact ⟨by first | rfl | (show Ending.returned (Value.int .i64 (wrap64 (v.tdiv 2 - 1))) = _; rw [hw]), rfl⟩
  · clear hq hr hd hrb
    go_enter Tryz.func27, Tryz.ntmps27
    go_wp2_with fail
    go_ret
    exact ⟨rfl, rfl⟩
end Go.Proofs.YtbafkjhlogkllaaGreatDoor
