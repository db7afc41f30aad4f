/- What the small functions on numbers answer: comparing, the sign, the size, numbers that an int holds. -/
import Derived.Test.YtmeaemjdmjhmdaaDoorKz
namespace Go.Proofs.YtmeaemjdmjhmdaaDoor
open Go.RowKit

set_option maxHeartbeats 400000 in
theorem isNaN_any (x : Int) (w : World) :
    Calls Tryd.prog 52 #[.int .i64 x] w fun e w' => e = .returned (.bool false) ∧ w' = w := by
  go_enter Tryd.func52, Tryd.ntmps52
  go_wp2
  go_ret
  exact ⟨by simp, rfl⟩

set_option maxHeartbeats 400000 in
theorem cmpInt_any (x y : Int) (w : World) :
    Calls Tryd.prog 33 #[.int .i64 x, .int .i64 y] w fun e w' => e = .returned (.int .i64 (sgn3 x y)) ∧ w' = w := by
  go_enter Tryd.func33, Tryd.ntmps33
  go_wp2_with (go_at_call 52; refine (isNaN_any _ _).mono ?_; rintro e w' ⟨rfl, rfl⟩)
  all_goals
    go_ret
    exact ⟨ret_int (by unfold sgn3; split <;> (try split) <;> omega), rfl⟩

set_option maxHeartbeats 400000 in
theorem sign_any (z : Int) (f : Value) (w : World) :
    Calls Tryd.prog 21 #[.agg #[.int .i64 z, f]] w fun e w' => e = .returned (.int .i64 (sgn3 z 0)) ∧ Below w.heap.size w w' := by
  go_enter Tryd.func21, Tryd.ntmps21
  go_wp2_with (go_at_call 33; refine (cmpInt_any _ _ _).mono ?_; rintro e w' ⟨rfl, rfl⟩)
  go_ret
  exact ⟨rfl, (Below.refl _ _).alloc (Nat.le_refl _) _⟩

set_option maxHeartbeats 400000 in
theorem isNear_yes (z : Int) (w : World) :
    Calls Tryd.prog 24 #[.agg #[.int .i64 z, .slice none 0 0]] w fun e w' => e = .returned (.bool true) ∧ Below w.heap.size w w' := by
  go_enter Tryd.func24, Tryd.ntmps24
  go_wp2
  go_ret
  exact ⟨rfl, (Below.refl _ _).alloc (Nat.le_refl _) _⟩

theorem neg_wrap (z : Int) (h1 : -9223372036854775808 ≤ z) (h : z < 0) : IntKind.u64.wrap (-IntKind.u64.wrap z) = (z.natAbs : Int) := by
  simp only [IntKind.wrap, IntKind.signed, IntKind.bits]
  simp
  omega

set_option maxHeartbeats 400000 in
theorem nearSize_any (z : Int) (w : World) (h1 : -9223372036854775808 ≤ z) (h2 : z ≤ 9223372036854775807) :
    Calls Tryd.prog 41 #[.int .i64 z] w fun e w' => e = .returned (.int .u64 z.natAbs) ∧ w' = w := by
  go_enter Tryd.func41, Tryd.ntmps41
  go_wp2
  · go_ret
    exact ⟨ret_int (neg_wrap z h1 (by omega)), rfl⟩
  · go_ret
    exact ⟨ret_int (by omega), rfl⟩

theorem nearSize_as (z : Int) (n : Int) (hn : Hid (n = (z.natAbs : Int))) (w : World) (h1 : -9223372036854775808 ≤ z) (h2 : z ≤ 9223372036854775807) :
    Calls Tryd.prog 41 #[.int .i64 z] w fun e w' => e = .returned (.int .u64 n) ∧ w' = w := by
  rw [hn.out]; exact nearSize_any z w h1 h2

set_option maxHeartbeats 400000 in
theorem fromLimb_near (s : Int) (n : Int) (w : World) (h1 : 0 ≤ n) (h2 : n ≤ 9223372036854775807) (hs : -1 ≤ s) (hs2 : s ≤ 1) :
    Calls Tryd.prog 42 #[.int .i64 s, .int .u64 n] w fun e w' => e = .returned (.agg #[.int .i64 (s * n), .slice none 0 0]) ∧ Below w.heap.size w w' := by
  have Hw : Hid (wrap64 (s * n) = s * n) := by
    have : s = -1 ∨ s = 0 ∨ s = 1 := by omega
    rcases this with rfl | rfl | rfl <;> exact IntWalk.wrap64_in _ ⟨by omega, by omega⟩
  go_enter Tryd.func42, Tryd.ntmps42
  go_wp2
  rw [Hw.out]
  exact bodyPost_ret (v := .agg #[.int .i64 (s * n), .slice none 0 0]) (by simp [results, Tryd.results42, go_sem]) rfl ⟨rfl, (Below.refl _ _).alloc (Nat.le_refl _) _⟩

set_option maxHeartbeats 400000 in
theorem limbDivisor_any (x y : Nat) (w : World) (hx : x < 18446744073709551616) (hy : y < 18446744073709551616) :
    Calls Tryd.prog 60 #[.int .u64 x, .int .u64 y] w fun e w' => e = .returned (.int .u64 (Nat.gcd x y : Nat)) ∧ Below w.heap.size w w' := by
  go_enter Tryd.func60, Tryd.ntmps60
  go_wp2
  go_loopw [0, 1] (fun p q wr => ∃ a b : Nat, a < 18446744073709551616 ∧ b < 18446744073709551616 ∧ p = .int .u64 a ∧ q = .int .u64 b ∧ Nat.gcd a b = Nat.gcd x y ∧ Below w.heap.size w wr) (fun _ q _ => (intOf q).toNat)
  case atStart => exact ⟨x, y, hx, hy, rfl, rfl, rfl, Below.refl _ _⟩
  case round =>
    obtain ⟨a, b, ha, hb, rfl, rfl, hg, hbl⟩ := hrel
    have HG : Hid (Nat.gcd a b = Nat.gcd x y) := hg
    clear hg
    by_cases h0 : b = 0
    · subst h0
      go_wp2
      go_ret
      exact ⟨ret_int (by rw [← HG.out]; simp), hbl⟩
    · have hb0 : ((b : Int) == 0) = false := by simp; omega
      go_wp2
      go_region
      all_goals go_wp2
      all_goals
        go_roundw
        case rel => exact ⟨b, a % b, hb, by have := Nat.mod_lt a (Nat.pos_of_ne_zero h0); omega, rfl, by go_num, by rw [← HG.out, gcd_step], by exact hbl.drew⟩
        case measure => simp [intOf]; exact Nat.mod_lt _ (Nat.pos_of_ne_zero h0)

theorem limbDivisor_as (x y g : Int) (hg : Hid (g = (Int.gcd x y : Int))) (w : World) (hx0 : 0 ≤ x) (hx : x < 18446744073709551616) (hy0 : 0 ≤ y) (hy : y < 18446744073709551616) :
    Calls Tryd.prog 60 #[.int .u64 x, .int .u64 y] w fun e w' => e = .returned (.int .u64 g) ∧ Below w.heap.size w w' := by
  obtain ⟨m, rfl⟩ := Int.eq_ofNat_of_zero_le hx0
  obtain ⟨n, rfl⟩ := Int.eq_ofNat_of_zero_le hy0
  rw [hg.out]
  exact limbDivisor_any m n w (by omega) (by omega)

end Go.Proofs.YtmeaemjdmjhmdaaDoor
