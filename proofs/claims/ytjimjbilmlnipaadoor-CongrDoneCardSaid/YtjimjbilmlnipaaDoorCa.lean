/- Congruences: what the reference's small functions answer. -/
import Derived.Test.YtjimjbilmlnipaaDoorKt
import Derived.Test.YtjimjbilmlnipaaDoorIa
import Derived.Deep.DeepCutAuto
import Derived.Deep.LoopGhost
namespace Go.Proofs.YtjimjbilmlnipaaDoor
open Go.RowKit
set_option linter.unusedVariables false

/-- A congruence: rest and modulus. -/
structure Cg where
  r : Int
  m : Int
deriving DecidableEq

def Cg.v (a : Cg) : Value := (.agg #[.int .i64 a.r, .int .i64 a.m])
def cgErr (r m : Int) : Int := if m < 0 ∨ 1048576 < m ∨ (m = 0 ∧ farB r 1099511627776 = true) then 2 else if 0 < m ∧ (r < 0 ∨ m ≤ r) then 3 else 0
def twoC (a b : Cg) : Int := if cgErr a.r a.m = 0 then cgErr b.r b.m else cgErr a.r a.m

theorem cgErr_range (r m : Int) : 0 ≤ cgErr r m ∧ cgErr r m ≤ 8 := by
  unfold cgErr; split
  · omega
  · split <;> omega
theorem twoC_range (a b : Cg) : 0 ≤ twoC a b ∧ twoC a b ≤ 8 := by
  unfold twoC; split <;> exact cgErr_range _ _

/-- A right one. -/
def okC (a : Cg) : Prop := 0 ≤ a.m ∧ a.m ≤ 1048576 ∧ (a.m = 0 → -1099511627776 ≤ a.r ∧ a.r ≤ 1099511627776) ∧ (0 < a.m → 0 ≤ a.r ∧ a.r < a.m)
theorem okC_iff (a : Cg) : cgErr a.r a.m = 0 ↔ okC a := by
  unfold cgErr okC farB
  by_cases h1 : a.m = 0
  · simp [h1]
    omega
  · constructor
    · intro h
      split at h
      · omega
      · split at h
        · omega
        · refine ⟨?_, ?_, ?_, ?_⟩
          · omega
          · omega
          · intro e; exact absurd e h1
          · omega
    · rintro ⟨h2, h3, h4, h5⟩
      have := h5 (by omega)
      rw [if_neg (by simp [h1]; omega), if_neg (by omega)]
theorem twoC_ok (a b : Cg) : twoC a b = 0 ↔ okC a ∧ okC b := by
  rw [← okC_iff, ← okC_iff]; unfold twoC; split <;> simp_all

def inC (a : Cg) (n : Int) : Prop := a.m ∣ n - a.r
def inCB (a : Cg) (n : Int) : Bool := decide (a.m ∣ n - a.r)

set_option maxHeartbeats 2000000 in
theorem cgErr_any (r m : Int) (w : World) :
    Calls Tryd.prog 11 #[(.agg #[.int .i64 r, .int .i64 m])] w fun e w' => e = .returned (.int .i64 (cgErr r m)) ∧ Below w.heap.size w w' := by
  obtain ⟨f, hf⟩ : ∃ f, farB r 1099511627776 = f := ⟨_, rfl⟩
  have H1 : Hid (∀ W : World, Calls Tryd.prog 10 #[.int .i64 r, .int .i64 1099511627776] W fun e w' => e = .returned (.bool f) ∧ w' = W) := by
    intro W; rw [← hf]; exact far_any r _ W (by omega) (by omega)
  have Hf := hide hf
  clear hf
  by_cases c1 : m < 0 <;> by_cases c2 : 1048576 < m <;> by_cases c3 : m = 0 <;> by_cases c4 : 0 < m <;> by_cases c5 : r < 0 <;> by_cases c6 : m ≤ r <;> first | (exfalso; omega) | skip
  all_goals
    have c3' : (m == 0) = decide (m = 0) := by rfl
    simp only [c3, decide_true, decide_false] at c3'
    cases f
    all_goals
      go_enter Tryd.func11, Tryd.ntmps11
      go_wp2_with fail
      refine (H1.out _).mono ?_
      rintro e w1 ⟨rfl, rfl⟩
      go_wp2_with fail
      go_ret
      exact ⟨ret_int (by have := Hf.out; unfold cgErr; rw [this]; first | (simp [*]; done) | grind), (Below.refl _ _).alloc (Nat.le_refl _) _⟩

set_option maxHeartbeats 2000000 in
theorem twoC_any (r m r' m' : Int) (w : World) :
    Calls Tryd.prog 17 #[(.agg #[.int .i64 r, .int .i64 m]), (.agg #[.int .i64 r', .int .i64 m'])] w fun e w' => e = .returned (.int .i64 (twoC ⟨r, m⟩ ⟨r', m'⟩)) ∧ Below w.heap.size w w' := by
  obtain ⟨e1, he1⟩ : ∃ e, cgErr r m = e := ⟨_, rfl⟩
  obtain ⟨e2, he2⟩ : ∃ e, cgErr r' m' = e := ⟨_, rfl⟩
  have H1 : Hid (∀ W : World, Calls Tryd.prog 11 #[(.agg #[.int .i64 r, .int .i64 m])] W fun e w' => e = .returned (.int .i64 e1) ∧ Below W.heap.size W w') := by
    intro W; rw [← he1]; exact cgErr_any r m W
  have H2 : Hid (∀ W : World, Calls Tryd.prog 11 #[(.agg #[.int .i64 r', .int .i64 m'])] W fun e w' => e = .returned (.int .i64 e2) ∧ Below W.heap.size W w') := by
    intro W; rw [← he2]; exact cgErr_any r' m' W
  have ht : twoC ⟨r, m⟩ ⟨r', m'⟩ = if e1 = 0 then e2 else e1 := by unfold twoC; rw [he1, he2]
  rw [ht]
  clear he1 he2 ht
  have s00 : St w w (fun _ => True) [] := ⟨Below.refl _ _, trivial, trivial, fun _ _ _ _ => trivial⟩
  by_cases h0 : e1 = 0
  · subst h0
    go_enter Tryd.func17, Tryd.ntmps17
    go_wp2_with fail
    have s0 := (s00.box2 23 (.int .i64 r) (.int .i64 m)).box2 23 (.int .i64 r') (.int .i64 m')
    simp only [World.size_alloc] at s0
    refine (H1.out _).mono ?_
    (rintro x1 w1 ⟨rfl, hb⟩; have s1 := s0.call hb; have q1 := s1.hold; simp only [Holds, and_true] at q1; clear hb s0; try clear q0)
    go_wp2_with fail
    refine (H2.out _).mono ?_
    (rintro x1 w2 ⟨rfl, hb⟩; have s2 := s1.call hb; have q2 := s2.hold; simp only [Holds, and_true] at q2; clear hb s1; try clear q1)
    go_wp2_with fail
    go_ret
    exact ⟨rfl, s2.bel⟩
  · go_enter Tryd.func17, Tryd.ntmps17
    go_wp2_with fail
    have s0 := (s00.box2 23 (.int .i64 r) (.int .i64 m)).box2 23 (.int .i64 r') (.int .i64 m')
    simp only [World.size_alloc] at s0
    refine (H1.out _).mono ?_
    (rintro x1 w1 ⟨rfl, hb⟩; have s1 := s0.call hb; have q1 := s1.hold; simp only [Holds, and_true] at q1; clear hb s0; try clear q0)
    go_wp2_with fail
    go_ret
    exact ⟨ret_int (by simp), s1.bel⟩

set_option maxHeartbeats 1000000 in
theorem own_any (r m : Int) (w : World) :
    Calls Tryd.prog 14 #[(.agg #[.int .i64 r, .int .i64 m])] w fun e w' => e = .returned (.agg #[.int .i64 r, .int .i64 m]) ∧ Below w.heap.size w w' := by
  go_enter Tryd.func14, Tryd.ntmps14
  go_wp2_with fail
  refine bodyPost_ret (v := (.agg #[.int .i64 r, .int .i64 m])) (by simp [results, Tryd.results14, go_sem, *]) rfl ⟨rfl, ?_⟩
  exact ((Below.refl _ _).alloc (Nat.le_refl _) _).alloc (by simp) _

theorem dvd_tmod (a b : Int) : (a.tmod b = 0) ↔ b ∣ a := Int.dvd_iff_tmod_eq_zero.symm

set_option maxHeartbeats 1000000 in
theorem leaves_any (r m n : Int) (h1 : -4611686018427387904 ≤ n ∧ n ≤ 4611686018427387904) (h2 : -1099511627776 ≤ r ∧ r ≤ 1099511627776) (h3 : 0 ≤ m) (w : World) :
    Calls Tryd.prog 16 #[(.agg #[.int .i64 r, .int .i64 m]), .int .i64 n] w fun e w' => e = .returned (.bool (inCB ⟨r, m⟩ n)) ∧ Below w.heap.size w w' := by
  by_cases h0 : m = 0
  · subst h0
    go_enter Tryd.func16, Tryd.ntmps16
    go_wp2_with fail
    go_ret
    exact ⟨ret_bool (by unfold inCB; rw [Bool.eq_iff_iff]; simp; omega), (Below.refl _ _).alloc (Nat.le_refl _) _⟩
  · have hm : (m == 0) = false := by simp [h0]
    go_enter Tryd.func16, Tryd.ntmps16
    go_wp2_with fail
    all_goals
      go_ret
      exact ⟨ret_bool (by unfold inCB; rw [Bool.eq_iff_iff]; simp [dvd_tmod]), (Below.refl _ _).alloc (Nat.le_refl _) _⟩

end Go.Proofs.YtjimjbilmlnipaaDoor
