/- The program's congruences: which are right, which numbers they have; the first error of two; the least congruence. -/
import Derived.Test.YtjimjbilmlnipaaDoorDa
import Derived.BigQuiet
namespace Go.Proofs.YtjimjbilmlnipaaDoor
open Go.RowKit
set_option linter.unusedVariables false

theorem ce_0 {a : Nat → Addr} {e : Int} (h : e = 0) : Ending.returned .nilIface = .returned (errV a e) := by rw [h]; rfl
theorem ce_2 {a : Nat → Addr} {e : Int} (h : e = 2) : Ending.returned (.iface 107 (.pointer (some (a 1)))) = .returned (errV a e) := by rw [h]; rfl
theorem ce_3 {a : Nat → Addr} {e : Int} (h : e = 3) : Ending.returned (.iface 107 (.pointer (some (a 2)))) = .returned (errV a e) := by rw [h]; rfl
theorem cerrV_zero (a : Nat → Addr) : errV a 0 = .nilIface := rfl
theorem cerrV_some {a : Nat → Addr} {e : Int} (h : e ≠ 0) : errV a e = .iface 107 (.pointer (some (a (e.toNat - 1)))) := by unfold errV; rw [if_neg h]
theorem callocSize (W : World) (o : Obj) : (W.alloc o).heap.size = W.heap.size + 1 := by simp
theorem Below.drewN' {B : Nat} {w w' : World} (h : Below B w w') (n : Nat) : Below B w (w'.drewN n) := by
  induction n with
  | zero => exact h
  | succ n ih => exact ih.drew
theorem St.start1 (w : World) : St w w (fun _ => True) [] := ⟨Below.refl _ _, trivial, trivial, fun _ _ _ _ => trivial⟩

set_option maxHeartbeats 400000 in
theorem cfar_any (n : Int) (w : World) :
    Calls Tryd.prog 33 #[.int .i64 n] w fun e w' => e = .returned (.bool (farB n 1099511627776)) ∧ w' = w := by
  go_enter Tryd.func33, Tryd.ntmps33
  go_wp2
  all_goals
    go_ret
    exact ⟨ret_bool (by grind [farB]), rfl⟩

set_option maxHeartbeats 2000000 in
theorem cvalid_any (r m : Int) (a : Nat → Addr) (w : World) (hS : ErrS w a) (hr : (-9223372036854775808 ≤ r ∧ r ≤ 9223372036854775807)) (hm : (-9223372036854775808 ≤ m ∧ m ≤ 9223372036854775807)) :
    Calls Tryd.prog 13 #[(.agg #[.int .i64 r, .int .i64 m])] w fun e w' => e = .returned (errV a (cgErr r m)) ∧ Below w.heap.size w w' := by
  have e1 : w.cell? ⟨0, 0, none⟩ = some (.iface 107 (.pointer (some (a 1)))) := hS.1
  have e2 : w.cell? ⟨1, 0, none⟩ = some (.iface 107 (.pointer (some (a 2)))) := hS.2
  have l1 : 0 < w.heap.size := World.block_lt_of_cell? w _ hS.1
  have l2 : 1 < w.heap.size := World.block_lt_of_cell? w _ hS.2
  by_cases c1 : m < 0
  · have he : cgErr r m = 2 := by unfold cgErr; rw [if_pos (.inl c1)]
    have He := hide he
    clear he
    go_enter Tryd.func13, Tryd.ntmps13
    go_wp2
    go_ret
    exact ⟨ce_2 He.out, by (repeat' (first | exact s4.bel | exact s3.bel | exact s2.bel | exact s1.bel | refine Below.setCell ?_ (by dsimp only; omega) _ | refine Below.alloc ?_ (by first | (simp; done) | (simp; omega)) _ | refine Below.drew ?_ | refine Below.drewN' ?_ _ | exact Below.refl _ _))⟩
  by_cases c2 : 1048576 < m
  · have he : cgErr r m = 2 := by unfold cgErr; rw [if_pos (.inr (.inl c2))]
    have He := hide he
    clear he
    go_enter Tryd.func13, Tryd.ntmps13
    go_wp2
    go_ret
    exact ⟨ce_2 He.out, by (repeat' (first | exact s4.bel | exact s3.bel | exact s2.bel | exact s1.bel | refine Below.setCell ?_ (by dsimp only; omega) _ | refine Below.alloc ?_ (by first | (simp; done) | (simp; omega)) _ | refine Below.drew ?_ | refine Below.drewN' ?_ _ | exact Below.refl _ _))⟩
  obtain ⟨z, hz⟩ : ∃ z, z = restI r m := ⟨_, rfl⟩
  have HC : Hid (∀ W : World, Calls Tryd.prog 34 #[.int .i64 r, .int .i64 m] W fun e w' => e = .returned (.int .i64 z) ∧ w' = W) := fun W => rest_as r m z hz W (by omega) (by omega)
  by_cases c3 : m = 0
  · subst c3
    obtain ⟨f, hf⟩ : ∃ f, farB r 1099511627776 = f := ⟨_, rfl⟩
    have HF : Hid (∀ W : World, Calls Tryd.prog 33 #[.int .i64 r] W fun e w' => e = .returned (.bool f) ∧ w' = W) := by
      intro W; rw [← hf]; exact cfar_any r W
    have hzr : z = r := by rw [hz]; simp [restI]
    subst hzr
    have he : cgErr z 0 = if f = true then 2 else 0 := by unfold cgErr; rw [hf]; cases f <;> simp
    have He := hide he
    clear he hf hz
    cases f
    all_goals
      go_enter Tryd.func13, Tryd.ntmps13
      go_wp2_with fail
      refine (HF.out _).mono ?_
      rintro e w1 ⟨rfl, rfl⟩
      go_wp2_with fail
    · go_quiet (first | (go_at_call 34; exact Calls.quiet_of_same (HC.out _)))
      all_goals
        go_wp2_with fail
        go_ret
        exact ⟨ce_0 He.out, by (repeat' (first | exact s4.bel | exact s3.bel | exact s2.bel | exact s1.bel | refine Below.setCell ?_ (by dsimp only; omega) _ | refine Below.alloc ?_ (by first | (simp; done) | (simp; omega)) _ | refine Below.drew ?_ | refine Below.drewN' ?_ _ | exact Below.refl _ _))⟩
    · go_ret
      exact ⟨ce_2 He.out, by (repeat' (first | exact s4.bel | exact s3.bel | exact s2.bel | exact s1.bel | refine Below.setCell ?_ (by dsimp only; omega) _ | refine Below.alloc ?_ (by first | (simp; done) | (simp; omega)) _ | refine Below.drew ?_ | refine Below.drewN' ?_ _ | exact Below.refl _ _))⟩
  · have hp : 0 < m := by omega
    have hb : (m == 0) = false := by simp [c3]
    have hzr := restI_range (n := r) hp
    have hze : r = z ↔ 0 ≤ r ∧ r < m := by
      rw [hz]
      constructor
      · intro h; rw [← h] at hzr; exact hzr
      · intro h; unfold restI; rw [if_neg c3]; exact (Int.emod_eq_of_lt h.1 h.2).symm
    have he : cgErr r m = if r = z then 0 else 3 := by
      unfold cgErr
      rw [if_neg (by rintro (h | h | h) <;> first | omega | exact c3 h.1)]
      by_cases h : r = z
      · rw [if_pos h, if_neg (by have := hze.1 h; omega)]
      · rw [if_neg h, if_pos ⟨hp, by
          rcases Int.lt_or_le r 0 with o | o
          · exact .inl o
          · rcases Int.lt_or_le r m with q | q
            · exact absurd (hze.2 ⟨o, q⟩) h
            · exact .inr q⟩]
    have He := hide he
    clear he hze hzr hz
    by_cases c4 : r = z
    · have He0 : Hid (cgErr r m = 0) := by show _ = _; rw [He.out, if_pos c4]
      clear He
      subst c4
      go_enter Tryd.func13, Tryd.ntmps13
      go_wp2_with fail
      go_quiet (first | (go_at_call 34; exact Calls.quiet_of_same (HC.out _)))
      all_goals
        go_wp2_with fail
        go_ret
        exact ⟨ce_0 He0.out, by (repeat' (first | exact s4.bel | exact s3.bel | exact s2.bel | exact s1.bel | refine Below.setCell ?_ (by dsimp only; omega) _ | refine Below.alloc ?_ (by first | (simp; done) | (simp; omega)) _ | refine Below.drew ?_ | refine Below.drewN' ?_ _ | exact Below.refl _ _))⟩
    · have hzb : (r != z) = true := by simp [c4]
      have He0 : Hid (cgErr r m = 3) := by show _ = _; rw [He.out, if_neg c4]
      clear He
      go_enter Tryd.func13, Tryd.ntmps13
      go_wp2_with fail
      go_quiet (first | (go_at_call 34; exact Calls.quiet_of_same (HC.out _)))
      all_goals
        go_wp2_with fail
        go_ret
        exact ⟨ce_3 He0.out, by (repeat' (first | exact s4.bel | exact s3.bel | exact s2.bel | exact s1.bel | refine Below.setCell ?_ (by dsimp only; omega) _ | refine Below.alloc ?_ (by first | (simp; done) | (simp; omega)) _ | refine Below.drew ?_ | refine Below.drewN' ?_ _ | exact Below.refl _ _))⟩

theorem cvalid_is (a : Nat → Addr) : CValidC a := fun r m w hS h => cvalid_any r m a w hS h.1 h.2

theorem inCB_rest {r m : Int} (h : okC ⟨r, m⟩) (n : Int) : decide (restI n m = r) = inCB ⟨r, m⟩ n := by
  unfold inCB
  rw [Bool.eq_iff_iff, decide_eq_true_iff, decide_eq_true_iff]
  dsimp only
  by_cases h0 : m = 0
  · rw [h0, Int.zero_dvd]; unfold restI; rw [if_pos rfl]; omega
  · have := h.1
    have hp : 0 < m := by dsimp only at this; omega
    have b := h.2.2.2 hp
    dsimp only at b
    have rb := restI_range (n := n) hp
    have rd := restI_dvd n m
    constructor
    · intro e; rw [← e]; exact rd
    · intro d
      have := Int.dvd_sub d rd
      rw [show n - r - (n - restI n m) = restI n m - r by omega] at this
      obtain ⟨k, hk⟩ := this
      rcases (by omega : k ≤ -1 ∨ k = 0 ∨ 1 ≤ k) with o | o | o
      · have := Int.mul_le_mul_of_nonneg_left o (Int.le_of_lt hp); omega
      · rw [o] at hk; omega
      · have := Int.mul_le_mul_of_nonneg_left o (Int.le_of_lt hp); omega

end Go.Proofs.YtjimjbilmlnipaaDoor
