/- The program's congruences: the tight interval. -/
import Derived.Test.YtjimjbilmlnipaaDoorDg
import Derived.Test.YtjimjbilmlnipaaDoorMd
import Derived.BigRegion
import Derived.Deep.RegionWith
namespace Go.Proofs.YtjimjbilmlnipaaDoor
open Go.RowKit
set_option linter.unusedVariables false

set_option maxHeartbeats 2000000 in
theorem ivalid_any (d u : Bool) (lo hi : Int) (a : Nat → Addr) (w : World) (hS : ErrS w a) :
    Calls Tryd.prog 41 #[(.agg #[.bool d, .bool u, .int .i64 lo, .int .i64 hi])] w fun e w' => e = .returned (errV a (ivErr d u lo hi)) ∧ Below w.heap.size w w' := by
  have e1 : w.cell? ⟨0, 0, none⟩ = some (.iface 107 (.pointer (some (a 1)))) := hS.1
  have e2 : w.cell? ⟨1, 0, none⟩ = some (.iface 107 (.pointer (some (a 2)))) := hS.2
  have l1 : 0 < w.heap.size := World.block_lt_of_cell? w _ hS.1
  have l2 : 1 < w.heap.size := World.block_lt_of_cell? w _ hS.2
  cases d <;> cases u
  all_goals
    go_enter Tryd.func41, Tryd.ntmps41
    go_wp2_with (go_at_call 33; refine (cfar_any _ _).mono ?_; rintro e w' ⟨rfl, rfl⟩)
    all_goals
      go_ret
      first | exact ⟨ce_0 (by grind [ivErr]), by (repeat' (first | exact s4.bel | exact s3.bel | exact s2.bel | exact s1.bel | refine Below.setCell ?_ (by first | (simp; done) | (simp; omega) | (dsimp only; omega)) _ | refine Below.alloc ?_ (by first | (simp; done) | (simp; omega)) _ | refine Below.drew ?_ | exact Below.refl _ _))⟩ | exact ⟨ce_2 (by grind [ivErr]), by (repeat' (first | exact s4.bel | exact s3.bel | exact s2.bel | exact s1.bel | refine Below.setCell ?_ (by first | (simp; done) | (simp; omega) | (dsimp only; omega)) _ | refine Below.alloc ?_ (by first | (simp; done) | (simp; omega)) _ | refine Below.drew ?_ | exact Below.refl _ _))⟩ | exact ⟨ce_3 (by grind [ivErr]), by (repeat' (first | exact s4.bel | exact s3.bel | exact s2.bel | exact s1.bel | refine Below.setCell ?_ (by first | (simp; done) | (simp; omega) | (dsimp only; omega)) _ | refine Below.alloc ?_ (by first | (simp; done) | (simp; omega)) _ | refine Below.drew ?_ | exact Below.refl _ _))⟩

set_option maxHeartbeats 2000000 in
theorem ihas_any (d u : Bool) (lo hi n : Int) (h0 : ivErr d u lo hi = 0) (a : Nat → Addr) (w : World) (hS : ErrS w a) :
    Calls Tryd.prog 48 #[(.agg #[.bool d, .bool u, .int .i64 lo, .int .i64 hi]), .int .i64 n] w fun e w' => e = .returned (.bool (inB ⟨d, u, lo, hi⟩ n)) ∧ Below w.heap.size w w' := by
  have HV : Hid (∀ W : World, ErrS W a → Calls Tryd.prog 41 #[(.agg #[.bool d, .bool u, .int .i64 lo, .int .i64 hi])] W fun e w' => e = .returned (errV a 0) ∧ Below W.heap.size W w') := fun W h => by rw [← h0]; exact ivalid_any d u lo hi a W h
  clear h0
  cases d <;> cases u
  all_goals
    go_enter Tryd.func48, Tryd.ntmps48
    go_wp2_with (go_at_call 41; refine (HV.out _ (hS.below ((Below.refl _ _).alloc (Nat.le_refl _) _))).mono ?_; rintro e w1 ⟨rfl, hb⟩; have s1 := ((St.start1 w).box4 _ _ _ _ _).call hb; have q1 := s1.hold; simp only [Holds, and_true] at q1; rw [cerrV_zero]; clear hb)
    all_goals
      go_ret
      exact ⟨ret_bool (by simp [inB]; try grind), s1.bel⟩

theorem put_lo {w W : World} {Z : World → Prop} {r m lo hi : Int} {d u : Bool} (h : St w W Z ((w.heap.size + 1 + 1, 0, Value.bool (false)) :: (w.heap.size + 1 + 1, 1, Value.bool (false)) :: (w.heap.size + 1 + 1, 2, Value.int .i64 (0)) :: (w.heap.size + 1 + 1, 3, Value.int .i64 (0)) :: (w.heap.size + 1, 0, Value.bool (d)) :: (w.heap.size + 1, 1, Value.bool (u)) :: (w.heap.size + 1, 2, Value.int .i64 (lo)) :: (w.heap.size + 1, 3, Value.int .i64 (hi)) :: (w.heap.size, 0, Value.int .i64 (r)) :: (w.heap.size, 1, Value.int .i64 (m)) :: [])) (x : Int) : St w (W.setCell ⟨w.heap.size + 1, 2, none⟩ (.int .i64 x)) Z ((w.heap.size + 1 + 1, 0, Value.bool (false)) :: (w.heap.size + 1 + 1, 1, Value.bool (false)) :: (w.heap.size + 1 + 1, 2, Value.int .i64 (0)) :: (w.heap.size + 1 + 1, 3, Value.int .i64 (0)) :: (w.heap.size + 1, 0, Value.bool (d)) :: (w.heap.size + 1, 1, Value.bool (u)) :: (w.heap.size + 1, 2, Value.int .i64 (x)) :: (w.heap.size + 1, 3, Value.int .i64 (hi)) :: (w.heap.size, 0, Value.int .i64 (r)) :: (w.heap.size, 1, Value.int .i64 (m)) :: []) :=
  St.set1 ((w.heap.size + 1 + 1, 0, Value.bool (false)) :: (w.heap.size + 1 + 1, 1, Value.bool (false)) :: (w.heap.size + 1 + 1, 2, Value.int .i64 (0)) :: (w.heap.size + 1 + 1, 3, Value.int .i64 (0)) :: [(w.heap.size + 1, 0, Value.bool d), (w.heap.size + 1, 1, Value.bool u)]) ((w.heap.size + 1, 3, Value.int .i64 hi) :: (w.heap.size, 0, Value.int .i64 (r)) :: (w.heap.size, 1, Value.int .i64 (m)) :: []) h (by omega)
    ⟨.inl (by dsimp only; omega), .inl (by dsimp only; omega), .inl (by dsimp only; omega), .inl (by dsimp only; omega), .inr (by simp), .inr (by simp), trivial⟩ ⟨.inr (by simp), .inl (by dsimp only; omega), .inl (by dsimp only; omega), trivial⟩ _
theorem put_hi {w W : World} {Z : World → Prop} {r m lo hi : Int} {d u : Bool} (h : St w W Z ((w.heap.size + 1 + 1, 0, Value.bool (false)) :: (w.heap.size + 1 + 1, 1, Value.bool (false)) :: (w.heap.size + 1 + 1, 2, Value.int .i64 (0)) :: (w.heap.size + 1 + 1, 3, Value.int .i64 (0)) :: (w.heap.size + 1, 0, Value.bool (d)) :: (w.heap.size + 1, 1, Value.bool (u)) :: (w.heap.size + 1, 2, Value.int .i64 (lo)) :: (w.heap.size + 1, 3, Value.int .i64 (hi)) :: (w.heap.size, 0, Value.int .i64 (r)) :: (w.heap.size, 1, Value.int .i64 (m)) :: [])) (x : Int) : St w (W.setCell ⟨w.heap.size + 1, 3, none⟩ (.int .i64 x)) Z ((w.heap.size + 1 + 1, 0, Value.bool (false)) :: (w.heap.size + 1 + 1, 1, Value.bool (false)) :: (w.heap.size + 1 + 1, 2, Value.int .i64 (0)) :: (w.heap.size + 1 + 1, 3, Value.int .i64 (0)) :: (w.heap.size + 1, 0, Value.bool (d)) :: (w.heap.size + 1, 1, Value.bool (u)) :: (w.heap.size + 1, 2, Value.int .i64 (lo)) :: (w.heap.size + 1, 3, Value.int .i64 (x)) :: (w.heap.size, 0, Value.int .i64 (r)) :: (w.heap.size, 1, Value.int .i64 (m)) :: []) :=
  St.set1 ((w.heap.size + 1 + 1, 0, Value.bool (false)) :: (w.heap.size + 1 + 1, 1, Value.bool (false)) :: (w.heap.size + 1 + 1, 2, Value.int .i64 (0)) :: (w.heap.size + 1 + 1, 3, Value.int .i64 (0)) :: [(w.heap.size + 1, 0, Value.bool d), (w.heap.size + 1, 1, Value.bool u), (w.heap.size + 1, 2, Value.int .i64 lo)]) ((w.heap.size, 0, Value.int .i64 (r)) :: (w.heap.size, 1, Value.int .i64 (m)) :: []) h (by omega)
    ⟨.inl (by dsimp only; omega), .inl (by dsimp only; omega), .inl (by dsimp only; omega), .inl (by dsimp only; omega), .inr (by simp), .inr (by simp), .inr (by simp), trivial⟩ ⟨.inl (by dsimp only; omega), .inl (by dsimp only; omega), trivial⟩ _

end Go.Proofs.YtjimjbilmlnipaaDoor
