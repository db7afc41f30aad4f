/- The product of two limbs; the product of two ints that an int holds. -/
import Derived.Test.YtmeaemjdmjhmdaaDoorWe
import Derived.Lib.Mul64
import Derived.Laws.Bits64b
namespace Go.Proofs.YtmeaemjdmjhmdaaDoor
open Go.RowKit

theorem maskN (a : Nat) (ha : a < 18446744073709551616) : bits .and .u64 (a : Int) 4294967295 = ((a % 4294967296 : Nat) : Int) := by
  have h := bits_and_u64_nat a 4294967295 ha (by omega)
  have e : a &&& 4294967295 = a % 4294967296 := Nat.and_two_pow_sub_one_eq_mod a 32
  rw [e] at h
  exact h
theorem divN (a : Nat) : (a : Int) / 4294967296 = ((a / 4294967296 : Nat) : Int) := by omega
theorem mulN (a b : Nat) : (a : Int) * (b : Int) = ((a * b : Nat) : Int) := (Int.natCast_mul a b).symm
theorem addN (a b : Nat) : (a : Int) + (b : Int) = ((a + b : Nat) : Int) := (Int.natCast_add a b).symm
theorem wrapN (a : Nat) (ha : a < 18446744073709551616) : IntKind.u64.wrap (a : Int) = (a : Int) := by rw [IntKind.wrap_u64]; omega
theorem wrapM (a : Nat) : IntKind.u64.wrap (a : Int) = ((a % 18446744073709551616 : Nat) : Int) := by rw [IntKind.wrap_u64]; omega

set_option maxHeartbeats 1000000 in
theorem mul64_any (x y : Nat) (hx : x < 18446744073709551616) (hy : y < 18446744073709551616) (w : World) :
    Calls Tryd.prog 40 #[.int .u64 x, .int .u64 y] w fun e w' => e = .returned (.tuple #[.int .u64 ((x * y / 18446744073709551616 : Nat) : Int), .int .u64 ((x * y % 18446744073709551616 : Nat) : Int)]) ∧ w' = w := by
  obtain ⟨bd, bt, bw, hhi⟩ := Lib.mul64_hi x y hx hy
  have ba := Lib.half_mul_le (a := x / 4294967296) (b := y / 4294967296) (by omega) (by omega)
  have bb := Lib.half_mul_le (a := x / 4294967296) (b := y % 4294967296) (by omega) (by omega)
  have bc := Lib.half_mul_le (a := x % 4294967296) (b := y / 4294967296) (by omega) (by omega)
  have ba' : x / 4294967296 * (y / 4294967296) < 18446744073709551616 := by omega
  have bb' : x / 4294967296 * (y % 4294967296) < 18446744073709551616 := by omega
  have bc' : x % 4294967296 * (y / 4294967296) < 18446744073709551616 := by omega
  have bh1 : x / 4294967296 * (y / 4294967296) + (x / 4294967296 * (y % 4294967296) + x % 4294967296 * (y % 4294967296) / 4294967296) / 4294967296 < 18446744073709551616 := by omega
  have bh : x / 4294967296 * (y / 4294967296) + (x / 4294967296 * (y % 4294967296) + x % 4294967296 * (y % 4294967296) / 4294967296) / 4294967296 + ((x / 4294967296 * (y % 4294967296) + x % 4294967296 * (y % 4294967296) / 4294967296) % 4294967296 + x % 4294967296 * (y / 4294967296)) / 4294967296 < 18446744073709551616 := by omega
  go_enter Tryd.func40, Tryd.ntmps40
  go_wp2
  simp only [maskN x hx, maskN y hy, divN, mulN, addN, wrapN _ bd, wrapN _ bb', wrapN _ bt, maskN _ bt, wrapN _ bc', wrapN _ bw, wrapN _ ba', wrapN _ bh1, wrapN _ bh, wrapM (x * y)]
  rw [hhi]
  go_ret2
  exact ⟨rfl, rfl⟩

/-- The product of two limbs, told by names. -/
theorem mul64_as (x y hi lo : Int) (hx0 : 0 ≤ x) (hx : Hid (x < 18446744073709551616)) (hy0 : 0 ≤ y) (hy : Hid (y < 18446744073709551616)) (hh : Hid (hi = x * y / 18446744073709551616)) (hl : Hid (lo = x * y % 18446744073709551616)) (w : World) :
    Calls Tryd.prog 40 #[.int .u64 x, .int .u64 y] w fun e w' => e = .returned (.tuple #[.int .u64 hi, .int .u64 lo]) ∧ w' = w := by
  obtain ⟨m, rfl⟩ := Int.eq_ofNat_of_zero_le hx0
  obtain ⟨n, rfl⟩ := Int.eq_ofNat_of_zero_le hy0
  have h1 := hx.out
  have h2 := hy.out
  rw [hh.out, hl.out]
  exact mul64_any m n (by omega) (by omega) w

theorem prod_sign (a b : Int) : sgn3 a 0 * sgn3 b 0 * ((a.natAbs : Int) * (b.natAbs : Int)) = a * b := by
  rw [sgn3_zero, sgn3_zero]
  have h1 := Int.sign_mul_natAbs a
  have h2 := Int.sign_mul_natAbs b
  have h3 : a.sign * b.sign * ((a.natAbs : Int) * (b.natAbs : Int)) = (a.sign * a.natAbs) * (b.sign * b.natAbs) := by grind
  rw [h3, h1, h2]

set_option maxHeartbeats 1000000 in
theorem timesN_small (a b : Int) (w : World) (h1 : -9223372036854775808 ≤ a) (h2 : a ≤ 9223372036854775807) (h3 : -9223372036854775808 ≤ b) (h4 : b ≤ 9223372036854775807) (h5 : (a.natAbs : Int) * (b.natAbs : Int) ≤ 9223372036854775807) :
    Calls Tryd.prog 23 #[.agg #[.int .i64 a, .slice none 0 0], .agg #[.int .i64 b, .slice none 0 0]] w fun e w' => e = .returned (.agg #[.int .i64 (a * b), .slice none 0 0]) ∧ Below w.heap.size w w' := by
  have hsg := sgn3_mul_bd a b
  obtain ⟨s, hs⟩ : ∃ s, s = sgn3 a 0 * sgn3 b 0 := ⟨_, rfl⟩
  have Hs : Hid (s = sgn3 a 0 * sgn3 b 0) := hs
  rw [← hs] at hsg
  clear hs
  obtain ⟨hsl, hsu⟩ := hsg
  have hws : IntKind.i64.wrap (sgn3 a 0 * sgn3 b 0) = s := by rw [← Hs.out]; exact wrap_small s (by omega) (by omega)
  obtain ⟨na, hna⟩ : ∃ n : Int, n = (a.natAbs : Int) := ⟨_, rfl⟩
  obtain ⟨nb, hnb⟩ : ∃ n : Int, n = (b.natAbs : Int) := ⟨_, rfl⟩
  obtain ⟨lo, hlo⟩ : ∃ lo : Int, lo = na * nb := ⟨_, rfl⟩
  have ha0 : 0 ≤ na := by omega
  have hb0 : 0 ≤ nb := by omega
  have ha1 : Hid (na < 18446744073709551616) := by unfold Hid; omega
  have hb1' : Hid (nb < 18446744073709551616) := by unfold Hid; omega
  have hlo0 : 0 ≤ lo := by rw [hlo]; exact Int.mul_nonneg ha0 hb0
  have hlo1 : lo ≤ 9223372036854775807 := by rw [hlo, hna, hnb]; exact h5
  have Hhi : Hid ((0 : Int) = na * nb / 18446744073709551616) := by unfold Hid; rw [← hlo]; omega
  have Hlo : Hid (lo = na * nb % 18446744073709551616) := by unfold Hid; rw [← hlo]; omega
  have ht : Hid (s * lo = a * b) := by unfold Hid; rw [Hs.out, hlo, hna, hnb]; exact prod_sign a b
  have Hna := hide hna
  have Hnb := hide hnb
  clear hna hnb hlo h5
  have hB0 : Below w.heap.size w (((w.alloc (.cells #[.int .i64 a, .slice none 0 0] 36)).alloc (.cells #[.int .i64 b, .slice none 0 0] 36)).alloc (.cells #[.int .i64 0, .slice none 0 0] 36)) :=
    (((Below.refl _ _).alloc (Nat.le_refl _) _).alloc (by simp) _).alloc (by simp; omega) _
  go_enter Tryd.func23, Tryd.ntmps23
  go_wp2_with fail
  go_region_held3 (fun w' => (∀ b' o', b' < w.heap.size + 1 + 1 + 1 → w'.cell? ⟨b', o', none⟩ = (((w.alloc (.cells #[.int .i64 a, .slice none 0 0] 36)).alloc (.cells #[.int .i64 b, .slice none 0 0] 36)).alloc (.cells #[.int .i64 0, .slice none 0 0] 36)).cell? ⟨b', o', none⟩) ∧ (∀ b' o', b' < w.heap.size + 1 + 1 + 1 → w'.frozen? ⟨b', o', none⟩ = (((w.alloc (.cells #[.int .i64 a, .slice none 0 0] 36)).alloc (.cells #[.int .i64 b, .slice none 0 0] 36)).alloc (.cells #[.int .i64 0, .slice none 0 0] 36)).frozen? ⟨b', o', none⟩) ∧ w.heap.size + 1 + 1 + 1 ≤ w.heap.size + 1 + 1 + 1 ∧ w.heap.size + 1 + 1 + 1 ≤ w'.heap.size ∧ Below w.heap.size w w') (first | (exact keepC (by assumption) (by assumption)) | (exact keepD (by assumption)) | (exact keepE (by dsimp only; omega) (by dsimp only; omega) (by assumption)) | (exact keepE (by dsimp only; omega) (by dsimp only; omega) (keepE (by dsimp only; omega) (by dsimp only; omega) (by assumption))) | (exact ⟨fun _ _ _ => rfl, fun _ _ _ => rfl, by omega, by simp, Below.drew (by assumption)⟩))
    (first
      | (go_at_call 21; refine (sign_any _ _ _).mono ?_; rintro e w1 ⟨rfl, hb1⟩; have hSn := keepC hb1 (by assumption)))
  go_wp2_with (first | (go_at_call 24; refine (isNear_yes _ _).mono ?_; rintro e w1 ⟨rfl, hb1⟩; have hSn := keepC hb1 (by assumption)))
  go_region_held3 (fun w' => (∀ b' o', b' < w.heap.size + 1 + 1 + 1 → w'.cell? ⟨b', o', none⟩ = (((w.alloc (.cells #[.int .i64 a, .slice none 0 0] 36)).alloc (.cells #[.int .i64 b, .slice none 0 0] 36)).alloc (.cells #[.int .i64 0, .slice none 0 0] 36)).cell? ⟨b', o', none⟩) ∧ (∀ b' o', b' < w.heap.size + 1 + 1 + 1 → w'.frozen? ⟨b', o', none⟩ = (((w.alloc (.cells #[.int .i64 a, .slice none 0 0] 36)).alloc (.cells #[.int .i64 b, .slice none 0 0] 36)).alloc (.cells #[.int .i64 0, .slice none 0 0] 36)).frozen? ⟨b', o', none⟩) ∧ w.heap.size + 1 + 1 + 1 ≤ w.heap.size + 1 + 1 + 1 ∧ w.heap.size + 1 + 1 + 1 ≤ w'.heap.size ∧ Below w.heap.size w w') (first | (exact keepC (by assumption) (by assumption)) | (exact keepD (by assumption)) | (exact keepE (by dsimp only; omega) (by dsimp only; omega) (by assumption)) | (exact keepE (by dsimp only; omega) (by dsimp only; omega) (keepE (by dsimp only; omega) (by dsimp only; omega) (by assumption))) | (exact ⟨fun _ _ _ => rfl, fun _ _ _ => rfl, by omega, by simp, Below.drew (by assumption)⟩))
    (first
      | (go_at_call_of 41 (Value.int IntKind.i64 a); refine (nearSize_as a na Hna _ (by omega) (by omega)).mono ?_; rintro e w2 ⟨rfl, rfl⟩)
      | (go_at_call_of 41 (Value.int IntKind.i64 b); refine (nearSize_as b nb Hnb _ (by omega) (by omega)).mono ?_; rintro e w2 ⟨rfl, rfl⟩)
      | (go_at_call 40; refine (mul64_as na nb 0 lo ha0 ha1 hb0 hb1' Hhi Hlo _).mono ?_; rintro e w2 ⟨rfl, rfl⟩))
  go_wp2_with fail
  refine (fromLimb_near s lo _ hlo0 hlo1 hsl hsu).mono ?_
  rintro e w5 ⟨rfl, hb5⟩
  have hS5 := keepC hb5 (keepD hSn)
  obtain ⟨g0, g1, gf⟩ := box3 hS5
  have hbel9 := ((S_bel hS5).setCell (p := ⟨w.heap.size + 1 + 1, 0, none⟩) (by dsimp only; omega) (.int .i64 (s * lo))).setCell (p := ⟨w.heap.size + 1 + 1, 1, none⟩) (by dsimp only; omega) (.slice none 0 0)
  go_wp2_with fail
  rw [← unhide ht]
  exact bodyPost_ret (v := .agg #[.int .i64 (s * lo), .slice none 0 0]) (by simp [results, Tryd.results23, go_sem, g0, g1]) rfl ⟨rfl, hbel9⟩

end Go.Proofs.YtmeaemjdmjhmdaaDoor
