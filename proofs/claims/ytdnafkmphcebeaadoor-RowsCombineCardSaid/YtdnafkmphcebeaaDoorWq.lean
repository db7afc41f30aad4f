/- Quotients of any two ints; quotients of numbers of one limb at most. -/
import Derived.Test.YtdnafkmphcebeaaDoorWp
namespace Go.Proofs.YtdnafkmphcebeaaDoor
open Go.RowKit

def boxI (w : World) (b : Nat) : Int := match w.cell? ⟨b, 0, none⟩ with | some (.int .i64 z) => z | _ => 0
def boxA (w : World) (b : Nat) : Option Addr := match w.cell? ⟨b, 1, none⟩ with | some (.slice a _ _) => a | _ => none
def boxN (w : World) (b : Nat) : Nat := match w.cell? ⟨b, 1, none⟩ with | some (.slice _ n _) => n | _ => 0
def boxC (w : World) (b : Nat) : Nat := match w.cell? ⟨b, 1, none⟩ with | some (.slice _ _ c) => c | _ => 0

theorem box_int {w : World} {b : Nat} {z : Int} (h : w.cell? ⟨b, 0, none⟩ = some (.int .i64 z)) : w.cell? ⟨b, 0, none⟩ = some (.int .i64 (boxI w b)) := by
  unfold boxI; rw [h]
theorem box_slice {w : World} {b : Nat} {a : Option Addr} {n c : Nat} (h : w.cell? ⟨b, 1, none⟩ = some (.slice a n c)) : w.cell? ⟨b, 1, none⟩ = some (.slice (boxA w b) (boxN w b) (boxC w b)) := by
  unfold boxA boxN boxC; rw [h]

/-- What a walk holds of the boxes of two numbers, and of a result that may have been stored. -/
theorem keepR {w W w1 : World} {v1 v2 v3 v4 : Value} (hb : Below W.heap.size W w1) (h : W.cell? ⟨w.heap.size, 0, none⟩ = some (v1) ∧ W.cell? ⟨w.heap.size, 1, none⟩ = some (v2) ∧ W.cell? ⟨w.heap.size + 1, 0, none⟩ = some (v3) ∧ W.cell? ⟨w.heap.size + 1, 1, none⟩ = some (v4) ∧ W.cell? ⟨w.heap.size + 1 + 1, 0, none⟩ = some (.int .i64 (boxI W (w.heap.size + 1 + 1))) ∧ W.cell? ⟨w.heap.size + 1 + 1, 1, none⟩ = some (.slice (boxA W (w.heap.size + 1 + 1)) (boxN W (w.heap.size + 1 + 1)) (boxC W (w.heap.size + 1 + 1))) ∧ W.frozen? ⟨w.heap.size + 1 + 1, 0, none⟩ = false ∧ W.frozen? ⟨w.heap.size + 1 + 1, 1, none⟩ = false ∧ w.heap.size + 1 + 1 < W.heap.size ∧ Below w.heap.size w W) : w1.cell? ⟨w.heap.size, 0, none⟩ = some (v1) ∧ w1.cell? ⟨w.heap.size, 1, none⟩ = some (v2) ∧ w1.cell? ⟨w.heap.size + 1, 0, none⟩ = some (v3) ∧ w1.cell? ⟨w.heap.size + 1, 1, none⟩ = some (v4) ∧ w1.cell? ⟨w.heap.size + 1 + 1, 0, none⟩ = some (.int .i64 (boxI w1 (w.heap.size + 1 + 1))) ∧ w1.cell? ⟨w.heap.size + 1 + 1, 1, none⟩ = some (.slice (boxA w1 (w.heap.size + 1 + 1)) (boxN w1 (w.heap.size + 1 + 1)) (boxC w1 (w.heap.size + 1 + 1))) ∧ w1.frozen? ⟨w.heap.size + 1 + 1, 0, none⟩ = false ∧ w1.frozen? ⟨w.heap.size + 1 + 1, 1, none⟩ = false ∧ w.heap.size + 1 + 1 < w1.heap.size ∧ Below w.heap.size w w1 := by
  obtain ⟨h1, h2, h3, h4, h5, h6, h7, h8, h9, h10⟩ := h
  have hs := hb.size
  exact ⟨(hb.cell (by dsimp only; omega)).trans h1, (hb.cell (by dsimp only; omega)).trans h2, (hb.cell (by dsimp only; omega)).trans h3, (hb.cell (by dsimp only; omega)).trans h4, box_int ((hb.cell (by dsimp only; omega)).trans h5), box_slice ((hb.cell (by dsimp only; omega)).trans h6), (hb.frozen (by dsimp only; omega)).trans h7, (hb.frozen (by dsimp only; omega)).trans h8, by omega, h10.trans (hb.mono h10.size)⟩

theorem keepR_set {w W w1 : World} {v1 v2 v3 v4 : Value} {x : Int} {b : Option Addr} {m d : Nat} (h : W.cell? ⟨w.heap.size, 0, none⟩ = some (v1) ∧ W.cell? ⟨w.heap.size, 1, none⟩ = some (v2) ∧ W.cell? ⟨w.heap.size + 1, 0, none⟩ = some (v3) ∧ W.cell? ⟨w.heap.size + 1, 1, none⟩ = some (v4) ∧ W.cell? ⟨w.heap.size + 1 + 1, 0, none⟩ = some (.int .i64 (boxI W (w.heap.size + 1 + 1))) ∧ W.cell? ⟨w.heap.size + 1 + 1, 1, none⟩ = some (.slice (boxA W (w.heap.size + 1 + 1)) (boxN W (w.heap.size + 1 + 1)) (boxC W (w.heap.size + 1 + 1))) ∧ W.frozen? ⟨w.heap.size + 1 + 1, 0, none⟩ = false ∧ W.frozen? ⟨w.heap.size + 1 + 1, 1, none⟩ = false ∧ w.heap.size + 1 + 1 < W.heap.size ∧ Below w.heap.size w W) (e : w1 = (W.setCell ⟨w.heap.size + 1 + 1, 0, none⟩ (.int .i64 x)).setCell ⟨w.heap.size + 1 + 1, 1, none⟩ (.slice b m d) := by rfl) : w1.cell? ⟨w.heap.size, 0, none⟩ = some (v1) ∧ w1.cell? ⟨w.heap.size, 1, none⟩ = some (v2) ∧ w1.cell? ⟨w.heap.size + 1, 0, none⟩ = some (v3) ∧ w1.cell? ⟨w.heap.size + 1, 1, none⟩ = some (v4) ∧ w1.cell? ⟨w.heap.size + 1 + 1, 0, none⟩ = some (.int .i64 (boxI w1 (w.heap.size + 1 + 1))) ∧ w1.cell? ⟨w.heap.size + 1 + 1, 1, none⟩ = some (.slice (boxA w1 (w.heap.size + 1 + 1)) (boxN w1 (w.heap.size + 1 + 1)) (boxC w1 (w.heap.size + 1 + 1))) ∧ w1.frozen? ⟨w.heap.size + 1 + 1, 0, none⟩ = false ∧ w1.frozen? ⟨w.heap.size + 1 + 1, 1, none⟩ = false ∧ w.heap.size + 1 + 1 < w1.heap.size ∧ Below w.heap.size w w1 := by
  subst e
  obtain ⟨h1, h2, h3, h4, h5, h6, h7, h8, h9, h10⟩ := h
  exact ⟨by simp [go_sem, h1], by simp [go_sem, h2], by simp [go_sem, h3], by simp [go_sem, h4], box_int (z := x) (by simp [go_sem, h5]), box_slice (a := b) (n := m) (c := d) (by simp [go_sem, h6]), by simp [h7], by simp [h8], by simpa [World.setCell] using h9, (h10.setCell (by dsimp only; omega) _).setCell (by dsimp only; omega) _⟩

theorem keepR_bel {w W : World} {v1 v2 v3 v4 : Value} (h : W.cell? ⟨w.heap.size, 0, none⟩ = some (v1) ∧ W.cell? ⟨w.heap.size, 1, none⟩ = some (v2) ∧ W.cell? ⟨w.heap.size + 1, 0, none⟩ = some (v3) ∧ W.cell? ⟨w.heap.size + 1, 1, none⟩ = some (v4) ∧ W.cell? ⟨w.heap.size + 1 + 1, 0, none⟩ = some (.int .i64 (boxI W (w.heap.size + 1 + 1))) ∧ W.cell? ⟨w.heap.size + 1 + 1, 1, none⟩ = some (.slice (boxA W (w.heap.size + 1 + 1)) (boxN W (w.heap.size + 1 + 1)) (boxC W (w.heap.size + 1 + 1))) ∧ W.frozen? ⟨w.heap.size + 1 + 1, 0, none⟩ = false ∧ W.frozen? ⟨w.heap.size + 1 + 1, 1, none⟩ = false ∧ w.heap.size + 1 + 1 < W.heap.size ∧ Below w.heap.size w W) : Below w.heap.size w W := h.2.2.2.2.2.2.2.2.2

theorem quo_le {na nb : Int} (h0 : 0 ≤ na) (h1 : 1 ≤ nb) : 0 ≤ na / nb ∧ na / nb ≤ na := ⟨Int.ediv_nonneg h0 (by omega), Int.ediv_le_self _ h0⟩

set_option maxHeartbeats 4000000 in
set_option maxRecDepth 20000 in
theorem overN_nn (p q : Int) (w : World) (h1 : -9223372036854775808 ≤ p) (h2 : p ≤ 9223372036854775807) (h3 : -9223372036854775808 ≤ q) (h4 : q ≤ 9223372036854775807) :
    Calls Tryd.prog 47 #[(Value.agg #[Value.int IntKind.i64 p, Value.slice none 0 0]), (Value.agg #[Value.int IntKind.i64 q, Value.slice none 0 0])] w fun e w' => ∃ r x k d, e = .returned (.agg #[.int .i64 r, .slice x k d]) ∧ NumP w' r x k d (p.tdiv q) ∧ Below w.heap.size w w' := by
  have hS0 : (fun w' => w'.cell? ⟨w.heap.size, 0, none⟩ = some (.int .i64 p) ∧ w'.cell? ⟨w.heap.size, 1, none⟩ = some (.slice none 0 0) ∧ w'.cell? ⟨w.heap.size + 1, 0, none⟩ = some (.int .i64 q) ∧ w'.cell? ⟨w.heap.size + 1, 1, none⟩ = some (.slice none 0 0) ∧ w'.cell? ⟨w.heap.size + 1 + 1, 0, none⟩ = some (.int .i64 (boxI w' (w.heap.size + 1 + 1))) ∧ w'.cell? ⟨w.heap.size + 1 + 1, 1, none⟩ = some (.slice (boxA w' (w.heap.size + 1 + 1)) (boxN w' (w.heap.size + 1 + 1)) (boxC w' (w.heap.size + 1 + 1))) ∧ w'.frozen? ⟨w.heap.size + 1 + 1, 0, none⟩ = false ∧ w'.frozen? ⟨w.heap.size + 1 + 1, 1, none⟩ = false ∧ w.heap.size + 1 + 1 < w'.heap.size ∧ Below w.heap.size w w') (((w.alloc (.cells #[.int .i64 p, .slice none 0 0] 55)).alloc (.cells #[.int .i64 q, .slice none 0 0] 55)).alloc (.cells #[.int .i64 0, .slice none 0 0] 55)) := ⟨by simp [go_sem], by simp [go_sem], by simp [go_sem], by simp [go_sem], box_int (z := 0) (by simp [go_sem]), box_slice (a := none) (n := 0) (c := 0) (by simp [go_sem]), by simp [go_sem], by simp [go_sem], by simp, (((Below.refl _ _).alloc (Nat.le_refl _) _).alloc (by simp) _).alloc (by simp; omega) _⟩
  obtain ⟨s, hs⟩ : ∃ s, s = p.sign * q.sign := ⟨_, rfl⟩
  have HW : Hid (IntKind.i64.wrap (sgn3 p 0 * sgn3 q 0) = s) := by
    have h := sgn3_mul_bd p q
    unfold Hid; rw [sgn3_zero, sgn3_zero, ← hs]; rw [sgn3_zero, sgn3_zero, ← hs] at h; exact wrap_small s (by omega) (by omega)
  have Hs := hide hs
  clear hs
  go_enter Tryd.func47, Tryd.ntmps47
  go_wp2_with fail
  go_region_held3 (fun w' => w'.cell? ⟨w.heap.size, 0, none⟩ = some (.int .i64 p) ∧ w'.cell? ⟨w.heap.size, 1, none⟩ = some (.slice none 0 0) ∧ w'.cell? ⟨w.heap.size + 1, 0, none⟩ = some (.int .i64 q) ∧ w'.cell? ⟨w.heap.size + 1, 1, none⟩ = some (.slice none 0 0) ∧ w'.cell? ⟨w.heap.size + 1 + 1, 0, none⟩ = some (.int .i64 (boxI w' (w.heap.size + 1 + 1))) ∧ w'.cell? ⟨w.heap.size + 1 + 1, 1, none⟩ = some (.slice (boxA w' (w.heap.size + 1 + 1)) (boxN w' (w.heap.size + 1 + 1)) (boxC w' (w.heap.size + 1 + 1))) ∧ w'.frozen? ⟨w.heap.size + 1 + 1, 0, none⟩ = false ∧ w'.frozen? ⟨w.heap.size + 1 + 1, 1, none⟩ = false ∧ w.heap.size + 1 + 1 < w'.heap.size ∧ Below w.heap.size w w') (first | (exact keepR (by assumption) (by assumption)) | (exact keepR (Below.refl _ _).drew (by assumption)) | (exact keepR_set (by assumption)))
    (first
      | (go_at_call_of 51 (Value.agg #[Value.int IntKind.i64 p, Value.slice none 0 0]); refine (sign_any _ _ _).mono ?_; rintro e w1 ⟨rfl, hb1⟩)
      | (go_at_call_of 51 (Value.agg #[Value.int IntKind.i64 q, Value.slice none 0 0]); refine (sign_any _ _ _).mono ?_; rintro e w2 ⟨rfl, hb2⟩; have hS2 := keepR hb2 (by assumption)))
  rw [unhide HW]
  by_cases h0 : s = 0
  · have h0' : (s == 0) = true := by simp [h0]
    have ht : Hid (p.tdiv q = 0) := tdiv_sign0 (by rw [← Hs.out]; exact h0)
    clear h0
    have hS2' := hS2
    obtain ⟨_, _, _, _, g0, g1, gf0, gf1, _, _⟩ := hS2'
    go_wp2_with fail
    rw [unhide ht]
    exact bodyPost_ret (v := .agg #[.int .i64 0, .slice none 0 0]) (by simp [results, Tryd.results47, go_sem, g0, g1]) rfl ⟨0, none, 0, 0, rfl, NumP_near _ (by omega) (by omega), ((keepR_bel hS2).setCell (by dsimp only; omega) _).setCell (by dsimp only; omega) _⟩
  · have h0' : (s == 0) = false := by simp [h0]
    have hpm := hide (sgn_pm (za := p) (zb := q) (by rw [← Hs.out]; exact h0))
    have hz := sgn_nz (za := p) (zb := q) (by rw [← Hs.out]; exact h0)
    obtain ⟨na, hna⟩ : ∃ n : Int, n = (p.natAbs : Int) := ⟨_, rfl⟩
    obtain ⟨nb, hnb⟩ : ∃ n : Int, n = (q.natAbs : Int) := ⟨_, rfl⟩
    have hbn : (nb == 0) = false := by simp; omega
    have hbz : ¬ nb = 0 := by omega
    have ha0 : 0 ≤ na := by omega
    have hb1' : (1 : Int) ≤ nb := by omega
    have ha1 : (na : Int) ≤ 18446744073709551615 := by omega
    obtain ⟨d, hd⟩ : ∃ d, d = na / nb := ⟨_, rfl⟩
    have hq := quo_le ha0 hb1'
    have hwr : IntKind.u64.wrap (na.tdiv nb) = d := by rw [hd]; exact IntWalk.u64_quo na nb ⟨ha0, ha1, hb1'⟩
    have ht : Hid (s * d = p.tdiv q) := by unfold Hid; rw [Hs.out, hd, hna, hnb, ← sgn3_zero, ← sgn3_zero]; exact tdiv_of_size p q
    have hd0 : Hid (0 ≤ d ∧ d < 18446744073709551616) := by unfold Hid; rw [hd]; omega
    have hwr2 : na / nb = d := hd.symm
    have Hna := hide hna
    have Hnb := hide hnb
    have hspm : Hid (s = 1 ∨ s = -1 ∨ (s = 0 ∧ d = 0)) := by unfold Hid; rw [Hs.out]; rcases hpm.out with h | h; exact .inl h; exact .inr (.inl h)
    clear h0 hb1 hna hnb hz hq hd
    go_wp2_with (go_at_call 40; refine (isNear_yes _ _).mono ?_; rintro e w3 ⟨rfl, hb3⟩; have hS3 := keepR hb3 (by assumption))
    go_region_held3 (fun w' => w'.cell? ⟨w.heap.size, 0, none⟩ = some (.int .i64 p) ∧ w'.cell? ⟨w.heap.size, 1, none⟩ = some (.slice none 0 0) ∧ w'.cell? ⟨w.heap.size + 1, 0, none⟩ = some (.int .i64 q) ∧ w'.cell? ⟨w.heap.size + 1, 1, none⟩ = some (.slice none 0 0) ∧ w'.cell? ⟨w.heap.size + 1 + 1, 0, none⟩ = some (.int .i64 (boxI w' (w.heap.size + 1 + 1))) ∧ w'.cell? ⟨w.heap.size + 1 + 1, 1, none⟩ = some (.slice (boxA w' (w.heap.size + 1 + 1)) (boxN w' (w.heap.size + 1 + 1)) (boxC w' (w.heap.size + 1 + 1))) ∧ w'.frozen? ⟨w.heap.size + 1 + 1, 0, none⟩ = false ∧ w'.frozen? ⟨w.heap.size + 1 + 1, 1, none⟩ = false ∧ w.heap.size + 1 + 1 < w'.heap.size ∧ Below w.heap.size w w') (first | (exact keepR (by assumption) (by assumption)) | (exact keepR (Below.refl _ _).drew (by assumption)) | (exact keepR_set (by assumption)))
      (first
        | (go_at_call_of 56 (Value.int IntKind.i64 p); refine (nearSize_as p na Hna _ (by omega) (by omega)).mono ?_; rintro e w4 ⟨rfl, rfl⟩)
        | (go_at_call_of 56 (Value.int IntKind.i64 q); refine (nearSize_as q nb Hnb _ (by omega) (by omega)).mono ?_; rintro e w4 ⟨rfl, rfl⟩)
        | (go_at_call 57; refine (fromLimb_any _ _ _ hd0.out.1 hd0.out.2 hspm.out).mono ?_; rintro e w5 ⟨r, x, k, f, rfl, hN, hb5⟩; have hS5 := keepR hb5 (by assumption)))
    have hval : NumP w5 r x k f (p.tdiv q) := by rw [← ht.out]; exact hN
    have hN9 := hide (NumP_store hval hS5.2.2.2.2.1 hS5.2.2.2.2.2.1 r (.slice x k f))
    have hS9 := keepR_set (x := r) (b := x) (m := k) (d := f) hS5
    have g0 := hS5.2.2.2.2.1
    have g1 := hS5.2.2.2.2.2.1
    clear hN hval
    go_wp2_with fail
    exact bodyPost_ret (v := .agg #[.int .i64 r, .slice x k f]) (by simp [results, Tryd.results47, go_sem, g0, g1]) rfl ⟨r, x, k, f, rfl, hN9.out, keepR_bel hS9⟩

end Go.Proofs.YtdnafkmphcebeaaDoor
