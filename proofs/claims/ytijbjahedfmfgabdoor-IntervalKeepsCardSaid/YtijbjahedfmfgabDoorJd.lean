/- The walk of IntervalRefine, by what is asked of the program's functions: wrong ones. -/
import Derived.Test.YtijbjahedfmfgabDoorJc
import Derived.Deep.DeepCutAuto
import Derived.Deep.LoopGhost
namespace Go.Proofs.YtijbjahedfmfgabDoor
open Go.RowKit
set_option linter.unusedVariables false

theorem bytes_ne {s : ByteArray} {l : Array UInt8} (h : ¬ s = ⟨l⟩) : ¬ s.toList = l.toList := by
  intro e
  rw [ByteArray.toList_eq] at e
  apply h
  obtain ⟨d⟩ := s
  congr
  exact Array.toList_inj.1 e

theorem kindOf_none' {s : ByteArray} (h : kindOf s = 0) : ¬ s = ⟨#[60]⟩ ∧ ¬ s = ⟨#[60, 61]⟩ ∧ ¬ s = ⟨#[61]⟩ ∧ ¬ s = ⟨#[33, 61]⟩ ∧ ¬ s = ⟨#[62]⟩ ∧ ¬ s = ⟨#[62, 61]⟩ := by
  have e1 : howS 1 = ⟨#[60]⟩ := rfl
  have e2 : howS 2 = ⟨#[60, 61]⟩ := rfl
  have e3 : howS 3 = ⟨#[61]⟩ := rfl
  have e4 : howS 4 = ⟨#[33, 61]⟩ := rfl
  have e5 : howS 5 = ⟨#[62]⟩ := rfl
  have e6 : howS 6 = ⟨#[62, 61]⟩ := rfl
  rw [← e1, ← e2, ← e3, ← e4, ← e5, ← e6]
  unfold kindOf at h
  repeat' split at h
  all_goals first | (exfalso; omega) | exact ⟨by assumption, by assumption, by assumption, by assumption, by assumption, by assumption⟩

theorem kindOf_none {s : ByteArray} (h : kindOf s = 0) : ¬ s.toList = [60] ∧ ¬ s.toList = [60, 61] ∧ ¬ s.toList = [61] ∧ ¬ s.toList = [33, 61] ∧ ¬ s.toList = [62] ∧ ¬ s.toList = [62, 61] := by
  obtain ⟨h1, h2, h3, h4, h5, h6⟩ := kindOf_none' h
  exact ⟨bytes_ne h1, bytes_ne h2, bytes_ne h3, bytes_ne h4, bytes_ne h5, bytes_ne h6⟩

set_option maxRecDepth 20000 in
set_option maxHeartbeats 8000000 in
theorem refine_bad1 (a : Nat → Addr) (hT : ThreeC a) (d u d' u' : Bool) (lo hi lo' hi' : Int) (s : ByteArray) (w : World) (hS : Sents w a) (E : Int) (v : Value) (kn : Bool) (Hkn : Hid (kn = decide (kindOf s ≠ 0))) (h0 : 0 < E) (h1 : ¬ E = 0) (hlen : s.size ≤ 100)
    (HR : Hid (∀ W : World, Sents W a → Calls Tryd.prog 9 #[(.agg #[.bool d, .bool u, .int .i64 lo, .int .i64 hi]), (.agg #[.bool d', .bool u', .int .i64 lo', .int .i64 hi']), .string s] W fun x w' => x = .returned (.tuple #[(.agg #[.bool false, .bool false, .int .i64 0, .int .i64 0]), (.agg #[.bool false, .bool false, .int .i64 0, .int .i64 0]), .bool false, v]) ∧ Below W.heap.size W w'))
    (HSp : Hid (∀ W : World, Sents W a → Calls Tryd.prog 10 #[(.agg #[.bool false, .bool false, .int .i64 0, .int .i64 0]), v, (.agg #[.bool false, .bool false, .int .i64 0, .int .i64 0]), .int .i64 E] W fun x w' => x = .returned (.bool true) ∧ Below W.heap.size W w'))
    (HE : Hid (∀ W : World, Calls Tryd.prog 8 #[(.agg #[.bool d, .bool u, .int .i64 lo, .int .i64 hi]), (.agg #[.bool d', .bool u', .int .i64 lo', .int .i64 hi'])] W fun x w' => x = .returned (.int .i64 E) ∧ Below W.heap.size W w')) :
    Calls Tryd.prog 3 #[(.agg #[.bool d, .bool u, .int .i64 lo, .int .i64 hi]), (.agg #[.bool d', .bool u', .int .i64 lo', .int .i64 hi']), .string s] w fun x w' => x = .returned (.bool true) ∧ Below w.heap.size w w' := by
  have hE := fun W => eqIv false false false false 0 0 0 0 W
  (go_enter Tryd.func3, Tryd.ntmps3; go_wp2_with fail; have s0 := ((St.start hS).box4 23 (.bool d) (.bool u) (.int .i64 lo) (.int .i64 hi)).box4 23 (.bool d') (.bool u') (.int .i64 lo') (.int .i64 hi'); simp only [World.size_alloc] at s0; refine (hT _ s0.sents.errs).mono ?_; (rintro x1 w1 ⟨rfl, hb⟩; have s1 := s0.call hb; have q1 := s1.hold; simp only [Holds, and_true] at q1; clear hb s0; try clear q0); go_wp2_with fail; refine (HE.out _).mono ?_; (rintro x1 w2 ⟨rfl, hb⟩; have s2 := s1.call hb; have q2 := s2.hold; simp only [Holds, and_true] at q2; clear hb s1; try clear q1); go_upto_region 5 with fail)
  go_cut [9] (fun s9 wx => s9 = .bool kn ∧ wx = w2)
  case first =>
    have hk6 := kindOf_le s
    rcases (show kindOf s = 0 ∨ kindOf s = 1 ∨ kindOf s = 2 ∨ kindOf s = 3 ∨ kindOf s = 4 ∨ kindOf s = 5 ∨ kindOf s = 6 by omega) with h | h | h | h | h | h | h
    · obtain ⟨n1, n2, n3, n4, n5, n6⟩ := kindOf_none h
      have hkn : kn = false := by have := Hkn.out; rw [h] at this; exact this
      subst hkn
      clear h hk6
      go_wp2_with fail
      go_meet
      case rel => exact ⟨by simp [n1, n2, n3, n4, n5, n6], rfl⟩
    all_goals
      have hs := kindOf_eq h (by omega)
      have hkn : kn = true := by have := Hkn.out; rw [h] at this; exact this
      subst hkn
      simp only [howS] at hs
      clear h hk6 Hkn
      subst hs
      go_wp2_with fail
      go_meet
      case rel => exact ⟨rfl, rfl⟩
  case rest =>
  obtain ⟨rfl, rfl⟩ := hcut
  go_wp2_with fail
  refine (HR.out _ s2.sents).mono ?_
  (rintro x1 w3 ⟨rfl, hb⟩; have s3 := s2.call hb; have q3 := s3.hold; simp only [Holds, and_true] at q3; clear hb s2; try clear q2)
  go_wp2_with fail
  have s4 := (s3.box4 23 (.bool false) (.bool false) (.int .i64 0) (.int .i64 0)).box4 23 (.bool false) (.bool false) (.int .i64 0) (.int .i64 0)
  simp only [World.size_alloc] at s4
  refine (HSp.out _ s4.sents).mono ?_
  (rintro x1 w5 ⟨rfl, hb⟩; have s5 := s4.call hb; have q5 := s5.hold; simp only [Holds, and_true] at q5; clear hb s4; try clear q4)
  go_wp2_with fail
  go_ret
  exact ⟨ret_bool (by simp), s5.bel⟩

set_option maxRecDepth 20000 in
set_option maxHeartbeats 8000000 in
theorem refine_bad2 (a : Nat → Addr) (hT : ThreeC a) (d u d' u' : Bool) (lo hi lo' hi' : Int) (s : ByteArray) (w : World) (hS : Sents w a) (E : Int) (v : Value) (kn : Bool) (Hkn : Hid (kn = decide (kindOf s ≠ 0))) (hkf : kn = false) (hE1' : Hid (E = 1)) (hlen : s.size ≤ 100)
    (HR : Hid (∀ W : World, Sents W a → Calls Tryd.prog 9 #[(.agg #[.bool d, .bool u, .int .i64 lo, .int .i64 hi]), (.agg #[.bool d', .bool u', .int .i64 lo', .int .i64 hi']), .string s] W fun x w' => x = .returned (.tuple #[(.agg #[.bool false, .bool false, .int .i64 0, .int .i64 0]), (.agg #[.bool false, .bool false, .int .i64 0, .int .i64 0]), .bool false, v]) ∧ Below W.heap.size W w'))
    (HSp : Hid (∀ W : World, Sents W a → Calls Tryd.prog 10 #[(.agg #[.bool false, .bool false, .int .i64 0, .int .i64 0]), v, (.agg #[.bool false, .bool false, .int .i64 0, .int .i64 0]), .int .i64 E] W fun x w' => x = .returned (.bool true) ∧ Below W.heap.size W w'))
    (HE : Hid (∀ W : World, Calls Tryd.prog 8 #[(.agg #[.bool d, .bool u, .int .i64 lo, .int .i64 hi]), (.agg #[.bool d', .bool u', .int .i64 lo', .int .i64 hi'])] W fun x w' => x = .returned (.int .i64 0) ∧ Below W.heap.size W w')) :
    Calls Tryd.prog 3 #[(.agg #[.bool d, .bool u, .int .i64 lo, .int .i64 hi]), (.agg #[.bool d', .bool u', .int .i64 lo', .int .i64 hi']), .string s] w fun x w' => x = .returned (.bool true) ∧ Below w.heap.size w w' := by
  subst hkf
  have hE := fun W => eqIv false false false false 0 0 0 0 W
  (go_enter Tryd.func3, Tryd.ntmps3; go_wp2_with fail; have s0 := ((St.start hS).box4 23 (.bool d) (.bool u) (.int .i64 lo) (.int .i64 hi)).box4 23 (.bool d') (.bool u') (.int .i64 lo') (.int .i64 hi'); simp only [World.size_alloc] at s0; refine (hT _ s0.sents.errs).mono ?_; (rintro x1 w1 ⟨rfl, hb⟩; have s1 := s0.call hb; have q1 := s1.hold; simp only [Holds, and_true] at q1; clear hb s0; try clear q0); go_wp2_with fail; refine (HE.out _).mono ?_; (rintro x1 w2 ⟨rfl, hb⟩; have s2 := s1.call hb; have q2 := s2.hold; simp only [Holds, and_true] at q2; clear hb s1; try clear q1); go_upto_region 5 with fail)
  go_cut [9] (fun s9 wx => s9 = .bool false ∧ wx = w2)
  case first =>
    have hk6 := kindOf_le s
    rcases (show kindOf s = 0 ∨ kindOf s = 1 ∨ kindOf s = 2 ∨ kindOf s = 3 ∨ kindOf s = 4 ∨ kindOf s = 5 ∨ kindOf s = 6 by omega) with h | h | h | h | h | h | h
    · obtain ⟨n1, n2, n3, n4, n5, n6⟩ := kindOf_none h
      skip
      clear h hk6
      go_wp2_with fail
      go_meet
      case rel => exact ⟨by simp [n1, n2, n3, n4, n5, n6], rfl⟩
    all_goals
      exfalso; have := Hkn.out; rw [h] at this; simp at this
  case rest =>
  obtain ⟨rfl, rfl⟩ := hcut
  have hE1 := hE1'.out
  subst hE1
  go_wp2_with fail
  refine (HR.out _ s2.sents).mono ?_
  (rintro x1 w3 ⟨rfl, hb⟩; have s3 := s2.call hb; have q3 := s3.hold; simp only [Holds, and_true] at q3; clear hb s2; try clear q2)
  go_wp2_with fail
  have s4 := (s3.box4 23 (.bool false) (.bool false) (.int .i64 0) (.int .i64 0)).box4 23 (.bool false) (.bool false) (.int .i64 0) (.int .i64 0)
  simp only [World.size_alloc] at s4
  refine (HSp.out _ s4.sents).mono ?_
  (rintro x1 w5 ⟨rfl, hb⟩; have s5 := s4.call hb; have q5 := s5.hold; simp only [Holds, and_true] at q5; clear hb s4; try clear q4)
  go_wp2_with fail
  go_ret
  exact ⟨ret_bool (by simp), s5.bel⟩

end Go.Proofs.YtijbjahedfmfgabDoor
