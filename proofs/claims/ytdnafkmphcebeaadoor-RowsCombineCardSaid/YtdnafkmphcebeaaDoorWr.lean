/- The greatest divisor of any two ints. -/
import Derived.Test.YtdnafkmphcebeaaDoorWq
namespace Go.Proofs.YtdnafkmphcebeaaDoor
open Go.RowKit

theorem gcd_lim (a b : Int) (M : Int) (h1 : (a.natAbs : Int) < M) (h2 : (b.natAbs : Int) < M) : (Int.gcd a b : Int) < M := by
  by_cases ha : a = 0
  · subst ha; simp; omega
  · have := Int.gcd_le_natAbs_left (b := b) ha
    omega

set_option maxHeartbeats 4000000 in
set_option maxRecDepth 20000 in
theorem divisorN_nn (p q : Int) (w : World) (h1 : -9223372036854775808 ≤ p) (h2 : p ≤ 9223372036854775807) (h3 : -9223372036854775808 ≤ q) (h4 : q ≤ 9223372036854775807) :
    Calls Tryd.prog 62 #[(Value.agg #[Value.int IntKind.i64 p, Value.slice none 0 0]), (Value.agg #[Value.int IntKind.i64 q, Value.slice none 0 0])] w fun e w' => ∃ r x k d, e = .returned (.agg #[.int .i64 r, .slice x k d]) ∧ NumP w' r x k d (Int.gcd p q) ∧ Below w.heap.size w w' := by
  have hS0 : (fun w' => w'.cell? ⟨w.heap.size, 0, none⟩ = some (.int .i64 p) ∧ w'.cell? ⟨w.heap.size, 1, none⟩ = some (.slice none 0 0) ∧ w'.cell? ⟨w.heap.size + 1, 0, none⟩ = some (.int .i64 q) ∧ w'.cell? ⟨w.heap.size + 1, 1, none⟩ = some (.slice none 0 0) ∧ w'.cell? ⟨w.heap.size + 1 + 1, 0, none⟩ = some (.int .i64 (boxI w' (w.heap.size + 1 + 1))) ∧ w'.cell? ⟨w.heap.size + 1 + 1, 1, none⟩ = some (.slice (boxA w' (w.heap.size + 1 + 1)) (boxN w' (w.heap.size + 1 + 1)) (boxC w' (w.heap.size + 1 + 1))) ∧ w'.frozen? ⟨w.heap.size + 1 + 1, 0, none⟩ = false ∧ w'.frozen? ⟨w.heap.size + 1 + 1, 1, none⟩ = false ∧ w.heap.size + 1 + 1 < w'.heap.size ∧ Below w.heap.size w w') (((w.alloc (.cells #[.int .i64 p, .slice none 0 0] 55)).alloc (.cells #[.int .i64 q, .slice none 0 0] 55)).alloc (.cells #[.int .i64 0, .slice none 0 0] 55)) := ⟨by simp [go_sem], by simp [go_sem], by simp [go_sem], by simp [go_sem], box_int (z := 0) (by simp [go_sem]), box_slice (a := none) (n := 0) (c := 0) (by simp [go_sem]), by simp [go_sem], by simp [go_sem], by simp, (((Below.refl _ _).alloc (Nat.le_refl _) _).alloc (by simp) _).alloc (by simp; omega) _⟩
  obtain ⟨na, hna⟩ : ∃ n : Int, n = (p.natAbs : Int) := ⟨_, rfl⟩
  obtain ⟨nb, hnb⟩ : ∃ n : Int, n = (q.natAbs : Int) := ⟨_, rfl⟩
  obtain ⟨g, hg⟩ : ∃ g : Int, g = (Int.gcd p q : Int) := ⟨_, rfl⟩
  have hg0 : Hid (0 ≤ g ∧ g < 18446744073709551616) := by
    have := gcd_lim p q 18446744073709551616 (by omega) (by omega)
    unfold Hid; omega
  have Hg : Hid (g = (Int.gcd na nb : Int)) := by rw [hna, hnb]; exact hg
  have ha0 : 0 ≤ na := by omega
  have hb0 : 0 ≤ nb := by omega
  have ha1 : Hid (na < 18446744073709551616) := by unfold Hid; omega
  have hb1' : Hid (nb < 18446744073709551616) := by unfold Hid; omega
  have Hna := hide hna
  have Hnb := hide hnb
  rw [← hg]
  clear hna hnb hg
  go_enter Tryd.func62, Tryd.ntmps62
  go_wp2_with (go_at_call 40; refine (isNear_yes _ _).mono ?_; rintro e w1 ⟨rfl, hb1⟩; have hSn := keepR hb1 (by assumption))
  go_region_held3 (fun w' => w'.cell? ⟨w.heap.size, 0, none⟩ = some (.int .i64 p) ∧ w'.cell? ⟨w.heap.size, 1, none⟩ = some (.slice none 0 0) ∧ w'.cell? ⟨w.heap.size + 1, 0, none⟩ = some (.int .i64 q) ∧ w'.cell? ⟨w.heap.size + 1, 1, none⟩ = some (.slice none 0 0) ∧ w'.cell? ⟨w.heap.size + 1 + 1, 0, none⟩ = some (.int .i64 (boxI w' (w.heap.size + 1 + 1))) ∧ w'.cell? ⟨w.heap.size + 1 + 1, 1, none⟩ = some (.slice (boxA w' (w.heap.size + 1 + 1)) (boxN w' (w.heap.size + 1 + 1)) (boxC w' (w.heap.size + 1 + 1))) ∧ w'.frozen? ⟨w.heap.size + 1 + 1, 0, none⟩ = false ∧ w'.frozen? ⟨w.heap.size + 1 + 1, 1, none⟩ = false ∧ w.heap.size + 1 + 1 < w'.heap.size ∧ Below w.heap.size w w') (first | (exact keepR (by assumption) (by assumption)) | (exact keepR (Below.refl _ _).drew (by assumption)) | (exact keepR_set (by assumption)))
    (first
      | (go_at_call_of 56 (Value.int IntKind.i64 p); refine (nearSize_as p na Hna _ (by omega) (by omega)).mono ?_; rintro e w2 ⟨rfl, rfl⟩)
      | (go_at_call_of 56 (Value.int IntKind.i64 q); refine (nearSize_as q nb Hnb _ (by omega) (by omega)).mono ?_; rintro e w2 ⟨rfl, rfl⟩)
      | (go_at_call 70; refine (limbDivisor_as _ _ g Hg _ ha0 ha1.out hb0 hb1'.out).mono ?_; rintro e w2 ⟨rfl, hb2⟩; have hSl := keepR hb2 (by assumption))
      | (go_at_call 57; refine (fromLimb_any _ _ _ hg0.out.1 hg0.out.2 (.inl rfl)).mono ?_; rintro e w5 ⟨r, x, k, f, rfl, hN, hb5⟩; have hS5 := keepR hb5 (by assumption)))
  have hval : NumP w5 r x k f g := by rw [Int.one_mul] at hN; exact hN
  have hN9 := hide (NumP_store hval hS5.2.2.2.2.1 hS5.2.2.2.2.2.1 r (.slice x k f))
  have hS9 := keepR_set (x := r) (b := x) (m := k) (d := f) hS5
  have g0 := hS5.2.2.2.2.1
  have g1 := hS5.2.2.2.2.2.1
  clear hN hval
  go_wp2_with fail
  exact bodyPost_ret (v := .agg #[.int .i64 r, .slice x k f]) (by simp [results, Tryd.results62, go_sem, g0, g1]) rfl ⟨r, x, k, f, rfl, hN9.out, keepR_bel hS9⟩

end Go.Proofs.YtdnafkmphcebeaaDoor
