/- Quotients and greatest divisors of numbers that an int holds. -/
import Derived.Test.YtmeaemjdmjhmdaaDoorKa
namespace Go.Proofs.YtmeaemjdmjhmdaaDoor
open Go.RowKit

theorem sgn3_zero (a : Int) : sgn3 a 0 = a.sign := by
  unfold sgn3
  split
  · rw [Int.sign_eq_neg_one_of_neg (by assumption)]
  · split
    · rw [Int.sign_eq_one_of_pos (by assumption)]
    · have : a = 0 := by omega
      subst this; rfl

theorem sgn3_bd (a b : Int) : -1 ≤ sgn3 a b ∧ sgn3 a b ≤ 1 := by
  unfold sgn3; split <;> (try split) <;> omega

theorem sgn3_mul_bd (a b : Int) : -1 ≤ sgn3 a 0 * sgn3 b 0 ∧ sgn3 a 0 * sgn3 b 0 ≤ 1 := by
  have h1 := sgn3_bd a 0
  have h2 := sgn3_bd b 0
  generalize sgn3 a 0 = x at *
  generalize sgn3 b 0 = y at *
  have : x = -1 ∨ x = 0 ∨ x = 1 := by omega
  rcases this with rfl | rfl | rfl <;> omega

theorem tdiv_of_size (a b : Int) : sgn3 a 0 * sgn3 b 0 * ((a.natAbs : Int) / (b.natAbs : Int)) = a.tdiv b := by
  rw [sgn3_zero, sgn3_zero]
  have h1 := Int.tdiv_eq_ediv_of_nonneg (a := (a.natAbs : Int)) (b := (b.natAbs : Int)) (by omega)
  rw [← h1]
  rcases Int.lt_trichotomy a 0 with ha | ha | ha <;> rcases Int.lt_trichotomy b 0 with hb | hb | hb
  all_goals first
    | (subst ha; simp)
    | (subst hb; simp)
    | skip
  · rw [Int.sign_eq_neg_one_of_neg ha, Int.sign_eq_neg_one_of_neg hb, show ((a.natAbs : Int)) = -a by omega, show ((b.natAbs : Int)) = -b by omega]; simp
  · rw [Int.sign_eq_neg_one_of_neg ha, Int.sign_eq_one_of_pos hb, show ((a.natAbs : Int)) = -a by omega, show ((b.natAbs : Int)) = b by omega]; simp
  · rw [Int.sign_eq_one_of_pos ha, Int.sign_eq_neg_one_of_neg hb, show ((a.natAbs : Int)) = a by omega, show ((b.natAbs : Int)) = -b by omega]; simp
  · rw [Int.sign_eq_one_of_pos ha, Int.sign_eq_one_of_pos hb, show ((a.natAbs : Int)) = a by omega, show ((b.natAbs : Int)) = b by omega]; simp

theorem sign_mul_zero {a b : Int} (h : sgn3 a 0 * sgn3 b 0 = 0) : a.tdiv b = 0 := by
  rw [← tdiv_of_size, h]; simp

set_option maxHeartbeats 400000 in
theorem over_near (a b : Int) (w : World) (h1 : -9223372036854775808 ≤ a) (h2 : a ≤ 9223372036854775807) (h3 : -9223372036854775808 ≤ b) (h4 : b ≤ 9223372036854775807) (hq : a.natAbs / b.natAbs ≤ 9223372036854775807) :
    Calls Tryd.prog 30 #[.agg #[.int .i64 a, .slice none 0 0], .agg #[.int .i64 b, .slice none 0 0]] w fun e w' => e = .returned (.agg #[.int .i64 (a.tdiv b), .slice none 0 0]) ∧ Below w.heap.size w w' := by
  have hsg := sgn3_mul_bd a b
  obtain ⟨s, hs⟩ : ∃ s, s = sgn3 a 0 * sgn3 b 0 := ⟨_, rfl⟩
  have Hs : Hid (s = sgn3 a 0 * sgn3 b 0) := hs
  rw [← hs] at hsg
  clear hs
  obtain ⟨hsl, hsu⟩ := hsg
  have Hw : IntKind.i64.wrap (sgn3 a 0 * sgn3 b 0) = s := by rw [← Hs.out]; exact wrap_small s (by omega) (by omega)
  have HW := hide Hw
  clear Hw
  have hB0 : Below w.heap.size w (((w.alloc (.cells #[.int .i64 a, .slice none 0 0] 36)).alloc (.cells #[.int .i64 b, .slice none 0 0] 36)).alloc (.cells #[.int .i64 0, .slice none 0 0] 36)) :=
    (((Below.refl _ _).alloc (Nat.le_refl _) _).alloc (by simp) _).alloc (by simp; omega) _
  have hR0 : ∀ o', o' < 2 → (((w.alloc (.cells #[.int .i64 a, .slice none 0 0] 36)).alloc (.cells #[.int .i64 b, .slice none 0 0] 36)).alloc (.cells #[.int .i64 0, .slice none 0 0] 36)).drew.cell? ⟨w.heap.size + 1 + 1, o', none⟩ = some (cellOf (((w.alloc (.cells #[.int .i64 a, .slice none 0 0] 36)).alloc (.cells #[.int .i64 b, .slice none 0 0] 36)).alloc (.cells #[.int .i64 0, .slice none 0 0] 36)).drew (w.heap.size + 1 + 1) o') := by
    exact boxR _ _ _ _ (by simp) rfl
  go_enter Tryd.func30, Tryd.ntmps30
  go_wp2_with fail
  go_region_held3 (fun w' => (∀ b' o', b' < w.heap.size + 1 + 1 → w'.cell? ⟨b', o', none⟩ = (((w.alloc (.cells #[.int .i64 a, .slice none 0 0] 36)).alloc (.cells #[.int .i64 b, .slice none 0 0] 36)).alloc (.cells #[.int .i64 0, .slice none 0 0] 36)).cell? ⟨b', o', none⟩) ∧ (∀ b' o', b' < w.heap.size + 1 + 1 + 1 → w'.frozen? ⟨b', o', none⟩ = (((w.alloc (.cells #[.int .i64 a, .slice none 0 0] 36)).alloc (.cells #[.int .i64 b, .slice none 0 0] 36)).alloc (.cells #[.int .i64 0, .slice none 0 0] 36)).frozen? ⟨b', o', none⟩) ∧ w.heap.size + 1 + 1 ≤ w.heap.size + 1 + 1 + 1 ∧ w.heap.size + 1 + 1 + 1 ≤ w'.heap.size ∧ Below w.heap.size w w' ∧ (∀ o', o' < 2 → w'.cell? ⟨w.heap.size + 1 + 1, o', none⟩ = some (cellOf w' (w.heap.size + 1 + 1) o'))) (first | (exact keepCR (by assumption) (by assumption) (by omega)) | (exact keepDR (by assumption) (by omega)) | (exact keepER (by dsimp only; omega) (by dsimp only; omega) (by assumption)) | (exact keepER (by dsimp only; omega) (by dsimp only; omega) (keepER (by dsimp only; omega) (by dsimp only; omega) (by assumption))) | (exact ⟨fun _ _ _ => rfl, fun _ _ _ => rfl, by omega, by simp, Below.drew (by assumption), by assumption⟩))
    (first
      | (go_at_call 21; refine (sign_any _ _ _).mono ?_; rintro e w1 ⟨rfl, hb1⟩))
  rw [unhide HW]
  rename_i W1 hB1 hS1 W2 hB2 hS2
  by_cases h0 : s = 0
  · have h0' : (s == 0) = true := by simp [h0]
    have ht : Hid (a.tdiv b = 0) := sign_mul_zero (by rw [← Hs.out]; exact h0)
    clear h0
    go_wp2_with fail
    rw [unhide ht]
    have hS3 := keepER (p := ⟨w.heap.size + 1 + 1, 1, none⟩) (v := .slice none 0 0) (by simp) (by simp; omega) (keepER (p := ⟨w.heap.size + 1 + 1, 0, none⟩) (v := .int .i64 0) (by simp) (by simp; omega) hS2)
    have hr := hS2.2.2.2.2.2
    have hr0 := hr 0 (by omega)
    have hr1 := hr 1 (by omega)
    exact bodyPost_ret (v := .agg #[.int .i64 0, .slice none 0 0]) (by simp [results, Tryd.results30, go_sem, hr0, hr1]) rfl ⟨rfl, hS3.2.2.2.2.1⟩
  · have h0' : (s == 0) = false := by simp [h0]
    go_wp2_with (go_at_call 24; refine (isNear_yes _ _).mono ?_; rintro e w1 ⟨rfl, hb1⟩; have hSn := keepCR hb1 (by assumption) (by omega))
    have hb0 : b ≠ 0 := by
      rintro rfl
      apply h0; rw [Hs.out]; simp [sgn3]
    obtain ⟨na, hna⟩ : ∃ n : Int, n = (a.natAbs : Int) := ⟨_, rfl⟩
    obtain ⟨nb, hnb⟩ : ∃ n : Int, n = (b.natAbs : Int) := ⟨_, rfl⟩
    have hbn : (nb == 0) = false := by simp; omega
    have hbz : ¬ nb = 0 := by omega
    have ha0 : 0 ≤ na := by omega
    have hb1 : (1 : Int) ≤ nb := by omega
    have ha1 : (na : Int) ≤ 18446744073709551615 := by omega
    have hqd : ((na : Int) / (nb : Int)) ≤ 9223372036854775807 := by
      rw [hna, hnb, ← Int.natCast_ediv]; omega
    have hqd0 : 0 ≤ ((na : Int) / (nb : Int)) := Int.ediv_nonneg (by omega) (by omega)
    have ht : Hid (s * ((na : Int) / (nb : Int)) = a.tdiv b) := by rw [Hs.out, hna, hnb]; exact tdiv_of_size a b
    have hwr : IntKind.u64.wrap (na.tdiv nb) = na / nb := IntWalk.u64_quo na nb ⟨ha0, ha1, hb1⟩
    have Hna := hide hna
    have Hnb := hide hnb
    clear h0 hb0 hna hnb
    go_region_held3 (fun w' => (∀ b' o', b' < w.heap.size + 1 + 1 → w'.cell? ⟨b', o', none⟩ = (((w.alloc (.cells #[.int .i64 a, .slice none 0 0] 36)).alloc (.cells #[.int .i64 b, .slice none 0 0] 36)).alloc (.cells #[.int .i64 0, .slice none 0 0] 36)).cell? ⟨b', o', none⟩) ∧ (∀ b' o', b' < w.heap.size + 1 + 1 + 1 → w'.frozen? ⟨b', o', none⟩ = (((w.alloc (.cells #[.int .i64 a, .slice none 0 0] 36)).alloc (.cells #[.int .i64 b, .slice none 0 0] 36)).alloc (.cells #[.int .i64 0, .slice none 0 0] 36)).frozen? ⟨b', o', none⟩) ∧ w.heap.size + 1 + 1 ≤ w.heap.size + 1 + 1 + 1 ∧ w.heap.size + 1 + 1 + 1 ≤ w'.heap.size ∧ Below w.heap.size w w' ∧ (∀ o', o' < 2 → w'.cell? ⟨w.heap.size + 1 + 1, o', none⟩ = some (cellOf w' (w.heap.size + 1 + 1) o'))) (first | (exact keepCR (by assumption) (by assumption) (by omega)) | (exact keepDR (by assumption) (by omega)) | (exact keepER (by dsimp only; omega) (by dsimp only; omega) (by assumption)) | (exact keepER (by dsimp only; omega) (by dsimp only; omega) (keepER (by dsimp only; omega) (by dsimp only; omega) (by assumption))) | (exact ⟨fun _ _ _ => rfl, fun _ _ _ => rfl, by omega, by simp, Below.drew (by assumption), by assumption⟩))
      (first
        | (go_at_call_of 41 (Value.int IntKind.i64 a); refine (nearSize_as a na Hna _ (by omega) (by omega)).mono ?_; rintro e w2 ⟨rfl, rfl⟩)
        | (go_at_call_of 41 (Value.int IntKind.i64 b); refine (nearSize_as b nb Hnb _ (by omega) (by omega)).mono ?_; rintro e w2 ⟨rfl, rfl⟩)
        | (go_at_call 42; refine (fromLimb_near _ _ _ hqd0 hqd hsl hsu).mono ?_; rintro e w2 ⟨rfl, hb2⟩; have hSl := keepCR hb2 (by assumption) (by omega)))
    go_wp2
    rw [← unhide ht]
    rename_i hS9
    have hr0 := hSl.2.2.2.2.2 0 (by omega)
    have hr1 := hSl.2.2.2.2.2 1 (by omega)
    exact bodyPost_ret (v := .agg #[.int .i64 (s * (na / nb)), .slice none 0 0]) (by simp [results, Tryd.results30, go_sem, hr0, hr1]) rfl ⟨rfl, hS9.2.2.2.2.1⟩

theorem gcd_bd (a b : Int) (h1 : -9223372036854775808 < a) (h2 : a ≤ 9223372036854775807) (h3 : -9223372036854775808 < b) (h4 : b ≤ 9223372036854775807) : (Int.gcd a b : Int) ≤ 9223372036854775807 := by
  by_cases ha : a = 0
  · subst ha; simp; omega
  · have := Int.gcd_le_natAbs_left (b := b) ha
    omega

set_option maxHeartbeats 400000 in
theorem divisor_near (a b : Int) (w : World) (h1 : -9223372036854775808 < a) (h2 : a ≤ 9223372036854775807) (h3 : -9223372036854775808 < b) (h4 : b ≤ 9223372036854775807) :
    Calls Tryd.prog 49 #[.agg #[.int .i64 a, .slice none 0 0], .agg #[.int .i64 b, .slice none 0 0]] w fun e w' => e = .returned (.agg #[.int .i64 (Int.gcd a b), .slice none 0 0]) ∧ Below w.heap.size w w' := by
  obtain ⟨na, hna⟩ : ∃ n : Int, n = (a.natAbs : Int) := ⟨_, rfl⟩
  obtain ⟨nb, hnb⟩ : ∃ n : Int, n = (b.natAbs : Int) := ⟨_, rfl⟩
  obtain ⟨g, hg⟩ : ∃ g : Int, g = (Int.gcd a b : Int) := ⟨_, rfl⟩
  have hg0 : 0 ≤ g := by omega
  have hg1 : g ≤ 9223372036854775807 := by rw [hg]; exact gcd_bd a b h1 h2 h3 h4
  have Hg : Hid (g = (Int.gcd na nb : Int)) := by rw [hna, hnb]; exact hg
  have ha0 : 0 ≤ na := by omega
  have hb0 : 0 ≤ nb := by omega
  have ha1 : na < 18446744073709551616 := by omega
  have hb1' : nb < 18446744073709551616 := by omega
  have Hna := hide hna
  have Hnb := hide hnb
  rw [← hg]
  clear hna hnb hg
  have hB0 : Below w.heap.size w (((w.alloc (.cells #[.int .i64 a, .slice none 0 0] 36)).alloc (.cells #[.int .i64 b, .slice none 0 0] 36)).alloc (.cells #[.int .i64 0, .slice none 0 0] 36)) :=
    (((Below.refl _ _).alloc (Nat.le_refl _) _).alloc (by simp) _).alloc (by simp; omega) _
  have hS0 : (fun w' => (∀ b' o', b' < w.heap.size + 1 + 1 → w'.cell? ⟨b', o', none⟩ = (((w.alloc (.cells #[.int .i64 a, .slice none 0 0] 36)).alloc (.cells #[.int .i64 b, .slice none 0 0] 36)).alloc (.cells #[.int .i64 0, .slice none 0 0] 36)).cell? ⟨b', o', none⟩) ∧ (∀ b' o', b' < w.heap.size + 1 + 1 + 1 → w'.frozen? ⟨b', o', none⟩ = (((w.alloc (.cells #[.int .i64 a, .slice none 0 0] 36)).alloc (.cells #[.int .i64 b, .slice none 0 0] 36)).alloc (.cells #[.int .i64 0, .slice none 0 0] 36)).frozen? ⟨b', o', none⟩) ∧ w.heap.size + 1 + 1 ≤ w.heap.size + 1 + 1 + 1 ∧ w.heap.size + 1 + 1 + 1 ≤ w'.heap.size ∧ Below w.heap.size w w' ∧ (∀ o', o' < 2 → w'.cell? ⟨w.heap.size + 1 + 1, o', none⟩ = some (cellOf w' (w.heap.size + 1 + 1) o'))) (((w.alloc (.cells #[.int .i64 a, .slice none 0 0] 36)).alloc (.cells #[.int .i64 b, .slice none 0 0] 36)).alloc (.cells #[.int .i64 0, .slice none 0 0] 36)) := ⟨fun _ _ _ => rfl, fun _ _ _ => rfl, by omega, by simp, hB0, boxR _ _ _ _ (by simp) rfl⟩
  go_enter Tryd.func49, Tryd.ntmps49
  go_wp2_with (go_at_call 24; refine (isNear_yes _ _).mono ?_; rintro e w1 ⟨rfl, hb1⟩; have hSn := keepCR hb1 (by assumption) (by omega))
  go_region_held3 (fun w' => (∀ b' o', b' < w.heap.size + 1 + 1 → w'.cell? ⟨b', o', none⟩ = (((w.alloc (.cells #[.int .i64 a, .slice none 0 0] 36)).alloc (.cells #[.int .i64 b, .slice none 0 0] 36)).alloc (.cells #[.int .i64 0, .slice none 0 0] 36)).cell? ⟨b', o', none⟩) ∧ (∀ b' o', b' < w.heap.size + 1 + 1 + 1 → w'.frozen? ⟨b', o', none⟩ = (((w.alloc (.cells #[.int .i64 a, .slice none 0 0] 36)).alloc (.cells #[.int .i64 b, .slice none 0 0] 36)).alloc (.cells #[.int .i64 0, .slice none 0 0] 36)).frozen? ⟨b', o', none⟩) ∧ w.heap.size + 1 + 1 ≤ w.heap.size + 1 + 1 + 1 ∧ w.heap.size + 1 + 1 + 1 ≤ w'.heap.size ∧ Below w.heap.size w w' ∧ (∀ o', o' < 2 → w'.cell? ⟨w.heap.size + 1 + 1, o', none⟩ = some (cellOf w' (w.heap.size + 1 + 1) o'))) (first | (exact keepCR (by assumption) (by assumption) (by omega)) | (exact keepDR (by assumption) (by omega)) | (exact keepER (by dsimp only; omega) (by dsimp only; omega) (by assumption)) | (exact keepER (by dsimp only; omega) (by dsimp only; omega) (keepER (by dsimp only; omega) (by dsimp only; omega) (by assumption))) | (exact ⟨fun _ _ _ => rfl, fun _ _ _ => rfl, by omega, by simp, Below.drew (by assumption), by assumption⟩))
    (first
      | (go_at_call_of 41 (Value.int IntKind.i64 a); refine (nearSize_as a na Hna _ (by omega) (by omega)).mono ?_; rintro e w2 ⟨rfl, rfl⟩)
      | (go_at_call_of 41 (Value.int IntKind.i64 b); refine (nearSize_as b nb Hnb _ (by omega) (by omega)).mono ?_; rintro e w2 ⟨rfl, rfl⟩)
      | (go_at_call 60; refine (limbDivisor_as _ _ g Hg _ ha0 ha1 hb0 hb1').mono ?_; rintro e w2 ⟨rfl, hb2⟩; have hSl := keepCR hb2 (by assumption) (by omega))
      | (go_at_call 42; refine (fromLimb_near _ _ _ hg0 hg1 (by omega) (by omega)).mono ?_; rintro e w2 ⟨rfl, hb2⟩; have hSl := keepCR hb2 (by assumption) (by omega)))
  go_wp2
  rename_i hS9
  have hr0 := hSl.2.2.2.2.2 0 (by omega)
  have hr1 := hSl.2.2.2.2.2 1 (by omega)
  exact bodyPost_ret (v := .agg #[.int .i64 g, .slice none 0 0]) (by simp [results, Tryd.results49, go_sem, hr0, hr1]) rfl ⟨rfl, hS9.2.2.2.2.1⟩

theorem divisor_as (a b g : Int) (hg : Hid (g = (Int.gcd a b : Int))) (w : World) (h1 : -9223372036854775808 < a) (h2 : a ≤ 9223372036854775807) (h3 : -9223372036854775808 < b) (h4 : b ≤ 9223372036854775807) :
    Calls Tryd.prog 49 #[.agg #[.int .i64 a, .slice none 0 0], .agg #[.int .i64 b, .slice none 0 0]] w fun e w' => e = .returned (.agg #[.int .i64 g, .slice none 0 0]) ∧ Below w.heap.size w w' := by
  rw [hg.out]; exact divisor_near a b w h1 h2 h3 h4

end Go.Proofs.YtmeaemjdmjhmdaaDoor
