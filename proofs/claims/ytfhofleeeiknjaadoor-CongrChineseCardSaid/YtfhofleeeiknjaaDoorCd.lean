/- The walk of CongrChinese, where nothing is asked, by what is asked of the program's functions. -/
import Derived.Test.YtfhofleeeiknjaaDoorCc
import Derived.Test.YtfhofleeeiknjaaDoorKu
namespace Go.Proofs.YtfhofleeeiknjaaDoor
open Go.RowKit
set_option linter.unusedVariables false

theorem mn_small {m n : Int} (h1 : 1 ≤ m) (h2 : m ≤ 1000) (h3 : 1 ≤ n) (h4 : n ≤ 1000) : 1 ≤ m * n ∧ m * n ≤ 1000000 := by
  have a := Int.mul_le_mul h2 h4 (by omega) (by omega)
  have b := Int.mul_le_mul h1 h3 (by omega) (by omega)
  omega

set_option maxHeartbeats 4000000 in
theorem chinese_out (a : Nat → Addr) (hT : SixthC a) (m n x : Int) (w : World) (hS : ErrS w a) (h : ¬ (1 ≤ m ∧ m ≤ 1000 ∧ 1 ≤ n ∧ n ≤ 1000 ∧ 0 ≤ x ∧ x < m * n)) :
    Calls Tryd.prog 4 #[.int .i64 m, .int .i64 n, .int .i64 x] w fun e w' => e = .returned (.bool true) ∧ Below w.heap.size w w' := by
  by_cases c1 : m < 1 <;> by_cases c2 : n < 1 <;> by_cases c3 : 1000 < m <;> by_cases c4 : 1000 < n <;> by_cases c5 : x < 0 <;> first | (exfalso; omega) | skip
  all_goals
    try (have hmn := mn_small (m := m) (n := n) (by omega) (by omega) (by omega) (by omega))
    try (have hxx : m * n ≤ x := by omega)
    clear h
    go_enter Tryd.func4, Tryd.ntmps4
    go_wp2_with fail
    have s0 := St.startE hS
    refine (hT _ s0.errz).mono ?_
    rintro x1 w1 ⟨rfl, hb⟩
    have s1 := s0.call hb
    go_wp2_with fail
    go_ret
    exact ⟨ret_bool (by simp), s1.bel⟩

end Go.Proofs.YtfhofleeeiknjaaDoor
