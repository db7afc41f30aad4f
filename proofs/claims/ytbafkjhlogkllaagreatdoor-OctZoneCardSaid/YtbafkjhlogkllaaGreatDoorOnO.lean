/- Octagons: the reference's errors. -/
import Derived.Test.YtbafkjhlogkllaaGreatDoorOmO
import Derived.Test.YtbafkjhlogkllaaGreatDoorZoO
import Derived.Test.YtbafkjhlogkllaaGreatDoorYeO
namespace Go.Proofs.YtbafkjhlogkllaaGreatDoor.Oc
open Go.RowKit
set_option linter.unusedVariables false
theorem zErr_split (N : Int) (l : List Ce) : zErr N l = if celErr N l (4 * N * N) = 0 then (if cohP (2 * N).toNat l then 0 else 7) else celErr N l (4 * N * N) := by
  unfold zErr
  by_cases h : celErr N l (4 * N * N) = 0
  · simp [h]
  · simp [h]
theorem celErr_rng (N : Int) (l : List Ce) (wt : Int) : 0 ≤ celErr N l wt ∧ celErr N l wt ≤ 8 := by
  unfold celErr
  split
  · omega
  · split
    · omega
    · split
      · omega
      · split <;> omega
theorem zErr_rngO (N : Int) (l : List Ce) : 0 ≤ zErr N l ∧ zErr N l ≤ 8 := by
  have := celErr_rng N l (4 * N * N)
  rw [zErr_split]
  split
  · split <;> omega
  · exact this
theorem celErr_anyO (N : Int) (l : List Ce) (a b : Int) (h : 0 ≤ N → N ≤ 4 → a = b) : celErr N l a = celErr N l b := by
  unfold celErr
  by_cases e : N < 0 ∨ 4 < N
  · rw [if_pos e, if_pos e]
  · rw [if_neg e, if_neg e, h (by omega) (by omega)]
def twoO (N : Int) (l : List Ce) (M : Int) (m : List Ce) : Int := if zErr N l = 0 then (if zErr M m = 0 then (if N = M then 0 else 3) else zErr M m) else zErr N l
theorem twoO_range (N : Int) (l : List Ce) (M : Int) (m : List Ce) : 0 ≤ twoO N l M m ∧ twoO N l M m ≤ 8 := by
  have h1 := zErr_rngO N l
  have h2 := zErr_rngO M m
  unfold twoO
  split
  · split
    · split <;> omega
    · exact h2
  · exact h1
end Go.Proofs.YtbafkjhlogkllaaGreatDoor.Oc
