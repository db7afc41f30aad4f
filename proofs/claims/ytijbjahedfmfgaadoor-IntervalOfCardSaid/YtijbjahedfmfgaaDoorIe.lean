/- The walk of IntervalOf, by what is asked of the program's functions. -/
import Derived.Test.YtijbjahedfmfgaaDoorIu
namespace Go.Proofs.YtijbjahedfmfgaaDoor
open Go.RowKit

def ValidC (a : Nat → Addr) : Prop := ∀ (d u : Bool) (lo hi : Int) (w : World), ErrS w a → (-9223372036854775808 ≤ lo ∧ lo ≤ 9223372036854775807) ∧ (-9223372036854775808 ≤ hi ∧ hi ≤ 9223372036854775807) →
  Calls Tryd.prog 12 #[(.agg #[.bool d, .bool u, .int .i64 lo, .int .i64 hi])] w fun e w' => e = .returned (errV a (ivErr d u lo hi)) ∧ Below w.heap.size w w'

set_option maxHeartbeats 4000000 in
theorem intervalOf_by (a : Nat → Addr) (hT : ThreeC a) (hV : ValidC a) (hH : HasC a) (d u : Bool) (lo hi n : Int) (w : World) (hS : Sents w a) (r1 : (-9223372036854775808 ≤ lo ∧ lo ≤ 9223372036854775807) ∧ (-9223372036854775808 ≤ hi ∧ hi ≤ 9223372036854775807)) (r2 : (-9223372036854775808 ≤ n ∧ n ≤ 9223372036854775807)) :
    Calls Tryd.prog 3 #[(.agg #[.bool d, .bool u, .int .i64 lo, .int .i64 hi]), .int .i64 n] w fun x w' => x = .returned (.bool true) ∧ Below w.heap.size w w' := by
  obtain ⟨e, he⟩ : ∃ e, e = ivErr d u lo hi := ⟨_, rfl⟩
  obtain ⟨v, hv⟩ : ∃ v, v = errV a e := ⟨_, rfl⟩
  obtain ⟨b, hb⟩ : ∃ b, b = inB ⟨d, u, lo, hi⟩ n := ⟨_, rfl⟩
  have V : ∀ W : World, Sents W a → Calls Tryd.prog 12 #[(.agg #[.bool d, .bool u, .int .i64 lo, .int .i64 hi])] W fun x w' => x = .returned v ∧ Below W.heap.size W w' := by
    intro W h
    rw [hv, he]
    exact hV d u lo hi W h.errs r1
  have H : ∀ W : World, Sents W a → Calls Tryd.prog 13 #[(.agg #[.bool d, .bool u, .int .i64 lo, .int .i64 hi]), .int .i64 n] W fun x w' => x = .returned (.bool (decide (e = 0) && b)) ∧ Below W.heap.size W w' := by
    intro W h
    rw [hb, he]
    exact hH d u lo hi n W h.errs r1 r2
  have E : ∀ W : World, Calls Tryd.prog 10 #[(.agg #[.bool d, .bool u, .int .i64 lo, .int .i64 hi])] W fun x w' => x = .returned (.int .i64 e) ∧ Below W.heap.size W w' := by
    intro W; rw [he]; exact ivErr_any d u lo hi W
  have I : ∀ W : World, Calls Tryd.prog 14 #[(.agg #[.bool d, .bool u, .int .i64 lo, .int .i64 hi]), .int .i64 n] W fun x w' => x = .returned (.bool b) ∧ Below W.heap.size W w' := by
    intro W; rw [hb]; exact inOf_any d u lo hi n W
  have C : ∀ W : World, Sents W a → Calls Tryd.prog 11 #[v, .int .i64 e] W fun x w' => x = .returned (.bool true) ∧ Below W.heap.size W w' := by
    intro W h
    rw [hv]
    have := ivErr_range d u lo hi
    exact coded_errV e (by omega) (by omega) a W h
  have HV := hide V
  have HH := hide H
  have HE := hide E
  have HI := hide I
  have HC := hide C
  clear V H E I C hV hH he hv hb
  by_cases h0 : e = 0
  · subst h0
    (go_enter Tryd.func3, Tryd.ntmps3; go_wp2_with fail; have s0 := (St.start hS).box4 23 (.bool d) (.bool u) (.int .i64 lo) (.int .i64 hi); refine (hT _ s0.sents.errs).mono ?_; (rintro x w1 ⟨rfl, hb⟩; have s1 := s0.call hb; have q1 := s1.hold; simp only [Holds, and_true] at q1; clear hb s0; try clear q0); go_wp2_with fail; refine (HE.out _).mono ?_; (rintro x w2 ⟨rfl, hb⟩; have s2 := s1.call hb; have q2 := s2.hold; simp only [Holds, and_true] at q2; clear hb s1; try clear q1); go_wp2_with fail; refine (HV.out _ s2.sents).mono ?_; (rintro x w3 ⟨rfl, hb⟩; have s3 := s2.call hb; have q3 := s3.hold; simp only [Holds, and_true] at q3; clear hb s2; try clear q2); go_wp2_with fail; refine (HC.out _ s3.sents).mono ?_; (rintro x w4 ⟨rfl, hb⟩; have s4 := s3.call hb; have q4 := s4.hold; simp only [Holds, and_true] at q4; clear hb s3; try clear q3); go_wp2_with fail)
    refine (HH.out _ s4.sents).mono ?_
    (rintro x w5 ⟨rfl, hb⟩; have s5 := s4.call hb; have q5 := s5.hold; simp only [Holds, and_true] at q5; clear hb s4; try clear q4)
    go_wp2_with fail
    refine (HI.out _).mono ?_
    (rintro x w6 ⟨rfl, hb⟩; have s6 := s5.call hb; have q6 := s6.hold; simp only [Holds, and_true] at q6; clear hb s5; try clear q5)
    go_wp2_with fail
    go_ret
    exact ⟨ret_bool (by simp), s6.bel⟩
  · (go_enter Tryd.func3, Tryd.ntmps3; go_wp2_with fail; have s0 := (St.start hS).box4 23 (.bool d) (.bool u) (.int .i64 lo) (.int .i64 hi); refine (hT _ s0.sents.errs).mono ?_; (rintro x w1 ⟨rfl, hb⟩; have s1 := s0.call hb; have q1 := s1.hold; simp only [Holds, and_true] at q1; clear hb s0; try clear q0); go_wp2_with fail; refine (HE.out _).mono ?_; (rintro x w2 ⟨rfl, hb⟩; have s2 := s1.call hb; have q2 := s2.hold; simp only [Holds, and_true] at q2; clear hb s1; try clear q1); go_wp2_with fail; refine (HV.out _ s2.sents).mono ?_; (rintro x w3 ⟨rfl, hb⟩; have s3 := s2.call hb; have q3 := s3.hold; simp only [Holds, and_true] at q3; clear hb s2; try clear q2); go_wp2_with fail; refine (HC.out _ s3.sents).mono ?_; (rintro x w4 ⟨rfl, hb⟩; have s4 := s3.call hb; have q4 := s4.hold; simp only [Holds, and_true] at q4; clear hb s3; try clear q3); go_wp2_with fail)
    refine (HH.out _ s4.sents).mono ?_
    (rintro x w5 ⟨rfl, hb⟩; have s5 := s4.call hb; have q5 := s5.hold; simp only [Holds, and_true] at q5; clear hb s4; try clear q4)
    go_wp2_with fail
    go_ret
    exact ⟨ret_bool (by simp), s5.bel⟩

end Go.Proofs.YtijbjahedfmfgaaDoor
