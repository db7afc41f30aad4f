/- The program's intervals: which are right; both by their ends. -/
import Derived.Test.YtegibkjopkakhaaDoorPb
namespace Go.Proofs.YtegibkjopkakhaaDoor
open Go.RowKit

theorem ret_e0 {a : Nat → Addr} {e : Int} (h : e = 0) : Ending.returned .nilIface = .returned (errV a e) := by rw [h]; rfl
theorem ret_e2 {a : Nat → Addr} {e : Int} (h : e = 2) : Ending.returned (.iface 103 (.pointer (some (a 1)))) = .returned (errV a e) := by rw [h]; rfl
theorem ret_e3 {a : Nat → Addr} {e : Int} (h : e = 3) : Ending.returned (.iface 103 (.pointer (some (a 2)))) = .returned (errV a e) := by rw [h]; rfl
theorem ret_v {v v' : Value} (h : v = v') : Ending.returned v = .returned v' := by rw [h]

set_option maxHeartbeats 2000000 in
theorem valid_any (d u : Bool) (lo hi : Int) (a : Nat → Addr) (w : World) (hS : ErrS w a) :
    Calls Tryd.prog 36 #[(.agg #[.bool d, .bool u, .int .i64 lo, .int .i64 hi])] w fun e w' => e = .returned (errV a (ivErr d u lo hi)) ∧ Below w.heap.size w w' := by
  have e1 : w.cell? ⟨1, 0, none⟩ = some (.iface 103 (.pointer (some (a 1)))) := hS.1
  have e2 : w.cell? ⟨0, 0, none⟩ = some (.iface 103 (.pointer (some (a 2)))) := hS.2
  have l1 : 1 < w.heap.size := World.block_lt_of_cell? w _ hS.1
  have l2 : 0 < w.heap.size := World.block_lt_of_cell? w _ hS.2
  cases d <;> cases u
  all_goals
    go_enter Tryd.func36, Tryd.ntmps36
    go_wp2_with (go_at_call 51; refine (pfar_any _ _).mono ?_; rintro e w' ⟨rfl, rfl⟩)
    all_goals
      go_ret
      first | exact ⟨ret_e0 (by grind [ivErr]), by (repeat' (first | exact s4.bel | exact s3.bel | exact s2.bel | exact s1.bel | refine Below.setCell ?_ (by dsimp only; omega) _ | refine Below.alloc ?_ (by first | (simp; done) | (simp; omega)) _ | refine Below.drew ?_ | exact Below.refl _ _))⟩ | exact ⟨ret_e2 (by grind [ivErr]), by (repeat' (first | exact s4.bel | exact s3.bel | exact s2.bel | exact s1.bel | refine Below.setCell ?_ (by dsimp only; omega) _ | refine Below.alloc ?_ (by first | (simp; done) | (simp; omega)) _ | refine Below.drew ?_ | exact Below.refl _ _))⟩ | exact ⟨ret_e3 (by grind [ivErr]), by (repeat' (first | exact s4.bel | exact s3.bel | exact s2.bel | exact s1.bel | refine Below.setCell ?_ (by dsimp only; omega) _ | refine Below.alloc ?_ (by first | (simp; done) | (simp; omega)) _ | refine Below.drew ?_ | exact Below.refl _ _))⟩

theorem errV_zero (a : Nat → Addr) : errV a 0 = .nilIface := rfl
theorem errV_some {a : Nat → Addr} {e : Int} (h : e ≠ 0) : errV a e = .iface 103 (.pointer (some (a (e.toNat - 1)))) := by unfold errV; rw [if_neg h]

set_option maxHeartbeats 2000000 in
theorem has_is (a : Nat → Addr) : HasC a := by
  intro d u lo hi n w hS _ _
  obtain ⟨x, hx⟩ : ∃ x, x = ivErr d u lo hi := ⟨_, rfl⟩
  have hV : ∀ W : World, ErrS W a → Calls Tryd.prog 36 #[(.agg #[.bool d, .bool u, .int .i64 lo, .int .i64 hi])] W fun e w' => e = .returned (errV a x) ∧ Below W.heap.size W w' := fun W h => by rw [hx]; exact valid_any d u lo hi a W h
  rw [← hx]
  have Hx := hide hx
  have HV := hide hV
  clear hx hV
  by_cases h0 : x = 0
  · subst h0
    cases d <;> cases u
    all_goals
      go_enter Tryd.func21, Tryd.ntmps21
      go_wp2_with (go_at_call 36; refine (HV.out _ (hS.below ((Below.refl _ _).alloc (Nat.le_refl _) _))).mono ?_; rintro e w1 ⟨rfl, hb⟩; have s1 := ((St.start0 w).box4 _ _ _ _ _).call hb; have q1 := s1.hold; simp only [Holds, and_true] at q1; rw [errV_zero]; clear hb)
      all_goals
        go_ret
        exact ⟨ret_bool (by simp [inB]; try grind), s1.bel⟩
  · go_enter Tryd.func21, Tryd.ntmps21
    go_wp2_with (go_at_call 36; refine (HV.out _ (hS.below ((Below.refl _ _).alloc (Nat.le_refl _) _))).mono ?_; rintro e w1 ⟨rfl, hb⟩; have s1 := ((St.start0 w).box4 _ _ _ _ _).call hb; have q1 := s1.hold; simp only [Holds, and_true] at q1; rw [errV_some h0]; clear hb)
    all_goals
      go_ret
      exact ⟨ret_bool (by rw [decide_eq_false h0]; rfl), s1.bel⟩
end Go.Proofs.YtegibkjopkakhaaDoor
