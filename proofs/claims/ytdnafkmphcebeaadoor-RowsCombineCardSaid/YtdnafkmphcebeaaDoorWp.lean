/- Quotients of numbers of one limb at most. -/
import Derived.Test.YtdnafkmphcebeaaDoorWo
namespace Go.Proofs.YtdnafkmphcebeaaDoor
open Go.RowKit

/-- What a walk holds of the boxes of two numbers and of a result. -/
theorem keepB {w W w1 : World} {v1 v2 v3 v4 v5 v6 : Value} (hb : Below W.heap.size W w1) (h : W.cell? ⟨w.heap.size, 0, none⟩ = some (v1) ∧ W.cell? ⟨w.heap.size, 1, none⟩ = some (v2) ∧ W.cell? ⟨w.heap.size + 1, 0, none⟩ = some (v3) ∧ W.cell? ⟨w.heap.size + 1, 1, none⟩ = some (v4) ∧ W.cell? ⟨w.heap.size + 1 + 1, 0, none⟩ = some (v5) ∧ W.cell? ⟨w.heap.size + 1 + 1, 1, none⟩ = some (v6) ∧ W.frozen? ⟨w.heap.size + 1 + 1, 0, none⟩ = false ∧ W.frozen? ⟨w.heap.size + 1 + 1, 1, none⟩ = false ∧ w.heap.size + 1 + 1 < W.heap.size ∧ Below w.heap.size w W) : w1.cell? ⟨w.heap.size, 0, none⟩ = some (v1) ∧ w1.cell? ⟨w.heap.size, 1, none⟩ = some (v2) ∧ w1.cell? ⟨w.heap.size + 1, 0, none⟩ = some (v3) ∧ w1.cell? ⟨w.heap.size + 1, 1, none⟩ = some (v4) ∧ w1.cell? ⟨w.heap.size + 1 + 1, 0, none⟩ = some (v5) ∧ w1.cell? ⟨w.heap.size + 1 + 1, 1, none⟩ = some (v6) ∧ w1.frozen? ⟨w.heap.size + 1 + 1, 0, none⟩ = false ∧ w1.frozen? ⟨w.heap.size + 1 + 1, 1, none⟩ = false ∧ w.heap.size + 1 + 1 < w1.heap.size ∧ Below w.heap.size w w1 := by
  obtain ⟨h1, h2, h3, h4, h5, h6, h7, h8, h9, h10⟩ := h
  have hs := hb.size
  exact ⟨(hb.cell (by dsimp only; omega)).trans h1, (hb.cell (by dsimp only; omega)).trans h2, (hb.cell (by dsimp only; omega)).trans h3, (hb.cell (by dsimp only; omega)).trans h4, (hb.cell (by dsimp only; omega)).trans h5, (hb.cell (by dsimp only; omega)).trans h6, (hb.frozen (by dsimp only; omega)).trans h7, (hb.frozen (by dsimp only; omega)).trans h8, by omega, h10.trans (hb.mono h10.size)⟩

theorem keepB_bel {w W : World} {v1 v2 v3 v4 v5 v6 : Value} (h : W.cell? ⟨w.heap.size, 0, none⟩ = some (v1) ∧ W.cell? ⟨w.heap.size, 1, none⟩ = some (v2) ∧ W.cell? ⟨w.heap.size + 1, 0, none⟩ = some (v3) ∧ W.cell? ⟨w.heap.size + 1, 1, none⟩ = some (v4) ∧ W.cell? ⟨w.heap.size + 1 + 1, 0, none⟩ = some (v5) ∧ W.cell? ⟨w.heap.size + 1 + 1, 1, none⟩ = some (v6) ∧ W.frozen? ⟨w.heap.size + 1 + 1, 0, none⟩ = false ∧ W.frozen? ⟨w.heap.size + 1 + 1, 1, none⟩ = false ∧ w.heap.size + 1 + 1 < W.heap.size ∧ Below w.heap.size w W) : Below w.heap.size w W := h.2.2.2.2.2.2.2.2.2

set_option maxHeartbeats 400000 in
theorem isNear_as (p : Int) (a : Option Addr) (n c : Nat) (bo : Bool) (hbo : Hid (bo = decide (n = 0))) (w : World) :
    Calls Tryd.prog 40 #[.agg #[.int .i64 p, .slice a n c]] w fun e w' => e = .returned (.bool bo) ∧ Below w.heap.size w w' := by
  rw [hbo.out]
  by_cases h : n = 0
  · refine (isNear_zero p a n c w (by simp [h])).mono ?_
    rintro e w' ⟨rfl, hb⟩
    exact ⟨by simp [h], hb⟩
  · refine (isNear_no p a n c w (by omega)).mono ?_
    rintro e w' ⟨rfl, hb⟩
    exact ⟨by simp [h], hb⟩

/-- Limbs that limbs.over divides. -/
def OverL (Pl : List Int → List Int → Prop) : Prop :=
  ∀ (a a' : Option Addr) (n c n' c' : Nat) (l m : List Int) (w : World), LimbsAt w a l → LimbsAt w a' m → n = l.length → n' = m.length → Limb l → Limb m → Tr l → Tr m → 0 < lv m → Pl l m →
    Calls Tryd.prog 63 #[.slice a n c, .slice a' n' c'] w fun e w' => Quots w w' e l m

theorem overL_small : OverL (fun l m => l.length ≤ 1 ∧ m.length ≤ 1) := by
  intro a a' n c n' c' l m w hA hA' hn hn' ll lm tl tm h0 hP
  rcases Int.lt_or_le (lv l) (lv m) with h | h
  · exact over_less a a' n c n' c' l m w hA hA' hn hn' ll lm tl tm (by omega) h
  · obtain ⟨y, rfl, hy0, hy1⟩ := lv_one lm tm hP.2 h0
    rcases hA' with h' | ⟨b', off', rfl, hb', hc'⟩
    · cases h'
    · simp at hn'
      subst hn'
      exact over_one a n c b' off' c' l y w hA hb' (by simpa using hc' 0 (by simp)) hn ll tl (by omega) hy0 hy1 (show Hid (y ≤ lv l) from (by simpa [lv] using h : y ≤ lv l))

/-- The limbs of a size. -/
def IsSize (w : World) (x : Option Addr) (k : Nat) (l : List Int) (z : Int) : Prop := LimbsAt w x l ∧ k = l.length ∧ Limb l ∧ Tr l ∧ lv l = z.natAbs

theorem IsSize.below {w w' : World} {x : Option Addr} {k : Nat} {l : List Int} {z : Int} (h : IsSize w x k l z) (hb : Below w.heap.size w w') : IsSize w' x k l z := ⟨h.1.below hb, h.2⟩

theorem size_as (p : Int) (a : Option Addr) (n c : Nat) (z : Int) (w : World) (h : NumP w p a n c z) :
    Calls Tryd.prog 53 #[.agg #[.int .i64 p, .slice a n c]] w fun e w' => ∃ a' n' c' ls, e = .returned (.slice a' n' c') ∧ Hid (IsSize w' a' n' ls z) ∧ Below w.heap.size w w' := by
  refine (size_any p a n c z w h).mono ?_
  rintro e w' ⟨a', n', c', ls, rfl, h1, h2, h3, h4, h5, hb⟩
  exact ⟨a', n', c', ls, rfl, ⟨h1, h2, h3, h4, h5⟩, hb⟩

/-- A quotient and a rest. -/
def IsQuot (w : World) (x : Option Addr) (k : Nat) (q : List Int) (y : Option Addr) (j : Nat) (r : List Int) (za zb : Int) : Prop :=
  LimbsAt w x q ∧ k = q.length ∧ Limb q ∧ Tr q ∧ LimbsAt w y r ∧ j = r.length ∧ Limb r ∧ Tr r ∧ (za.natAbs : Int) = lv q * zb.natAbs + lv r ∧ lv r < zb.natAbs

theorem over_as (Pl : List Int → List Int → Prop) (hOv : Hid (OverL Pl)) (a a' : Option Addr) (n c n' c' : Nat) (l m : List Int) (za zb : Int) (w : World) (hA : Hid (IsSize w a n l za)) (hA' : Hid (IsSize w a' n' m zb)) (hz : zb ≠ 0) (hPl : Hid (∀ l m, Limb l → Limb m → Tr l → Tr m → lv l = za.natAbs → lv m = zb.natAbs → Pl l m)) :
    Calls Tryd.prog 63 #[.slice a n c, .slice a' n' c'] w fun e w' => ∃ (x : Option Addr) (k d : Nat) (q : List Int) (y : Option Addr) (j f : Nat) (r : List Int), e = .returned (.tuple #[.slice x k d, .slice y j f]) ∧ Hid (IsQuot w' x k q y j r za zb) ∧ Below w.heap.size w w' := by
  obtain ⟨h1, h2, h3, h4, h5⟩ := hA.out
  obtain ⟨g1, g2, g3, g4, g5⟩ := hA'.out
  refine (hOv.out a a' n c n' c' l m w h1 g1 h2 g2 h3 g3 h4 g4 (by rw [g5]; omega) (hPl.out l m h3 g3 h4 g4 h5 g5)).mono ?_
  rintro e w' ⟨x, k, d, q, y, j, f, r, rfl, e1, e2, e3, e4, e5, e6, e7, e8, e9, e10, hb⟩
  exact ⟨x, k, d, q, y, j, f, r, rfl, ⟨e1, e2, e3, e4, e5, e6, e7, e8, by rw [← h5, ← g5]; exact e9, by rw [← g5]; exact e10⟩, hb⟩

theorem sgn_nz {za zb : Int} (h : za.sign * zb.sign ≠ 0) : za ≠ 0 ∧ zb ≠ 0 := by
  constructor
  · rintro rfl; simp at h
  · rintro rfl; simp at h

theorem sgn_pm {za zb : Int} (h : za.sign * zb.sign ≠ 0) : za.sign * zb.sign = 1 ∨ za.sign * zb.sign = -1 := by
  obtain ⟨h1, h2⟩ := sgn_nz h
  rcases sign_pm h1 with e1 | e1 <;> rcases sign_pm h2 with e2 | e2 <;> rw [e1, e2] <;> simp

theorem tdiv_size (za zb Q R : Int) (hR : 0 ≤ R) (h : (za.natAbs : Int) = Q * zb.natAbs + R) (hlt : R < zb.natAbs) : za.sign * zb.sign * Q = za.tdiv zb := by
  have e : (za.natAbs : Int) / zb.natAbs = Q := by
    rw [h, Int.add_comm, Int.add_mul_ediv_right _ _ (by omega), Int.ediv_eq_zero_of_lt hR hlt]; omega
  rw [← tdiv_of_size, sgn3_zero, sgn3_zero, e]

theorem tdiv_sign0 {za zb : Int} (h : za.sign * zb.sign = 0) : za.tdiv zb = 0 := by
  rw [← tdiv_of_size, sgn3_zero, sgn3_zero, h]; simp

set_option maxHeartbeats 4000000 in
set_option maxRecDepth 20000 in
theorem overN_far (Pl : List Int → List Int → Prop) (hOv : Hid (OverL Pl)) (p : Int) (a : Option Addr) (n c : Nat) (za : Int) (q : Int) (a' : Option Addr) (n' c' : Nat) (zb : Int) (w : World) (hNa : NumP w p a n c za) (hNb : NumP w q a' n' c' zb) (hfar : ¬ (n = 0 ∧ n' = 0))
    (hPl : Hid (∀ l m, Limb l → Limb m → Tr l → Tr m → lv l = za.natAbs → lv m = zb.natAbs → Pl l m)) :
    Calls Tryd.prog 47 #[(Value.agg #[Value.int IntKind.i64 p, Value.slice a n c]), (Value.agg #[Value.int IntKind.i64 q, Value.slice a' n' c'])] w fun e w' => ∃ r x k d, e = .returned (.agg #[.int .i64 r, .slice x k d]) ∧ NumP w' r x k d (za.tdiv zb) ∧ Below w.heap.size w w' := by
  have hS0 : (fun w' => w'.cell? ⟨w.heap.size, 0, none⟩ = some (.int .i64 p) ∧ w'.cell? ⟨w.heap.size, 1, none⟩ = some (.slice a n c) ∧ w'.cell? ⟨w.heap.size + 1, 0, none⟩ = some (.int .i64 q) ∧ w'.cell? ⟨w.heap.size + 1, 1, none⟩ = some (.slice a' n' c') ∧ w'.cell? ⟨w.heap.size + 1 + 1, 0, none⟩ = some (.int .i64 0) ∧ w'.cell? ⟨w.heap.size + 1 + 1, 1, none⟩ = some (.slice none 0 0) ∧ w'.frozen? ⟨w.heap.size + 1 + 1, 0, none⟩ = false ∧ w'.frozen? ⟨w.heap.size + 1 + 1, 1, none⟩ = false ∧ w.heap.size + 1 + 1 < w'.heap.size ∧ Below w.heap.size w w') (((w.alloc (.cells #[.int .i64 p, .slice a n c] 55)).alloc (.cells #[.int .i64 q, .slice a' n' c'] 55)).alloc (.cells #[.int .i64 0, .slice none 0 0] 55)) := ⟨by simp [go_sem], by simp [go_sem], by simp [go_sem], by simp [go_sem], by simp [go_sem], by simp [go_sem], by simp [go_sem], by simp [go_sem], by simp, (((Below.refl _ _).alloc (Nat.le_refl _) _).alloc (by simp) _).alloc (by simp; omega) _⟩
  obtain ⟨s, hs⟩ : ∃ s, s = za.sign * zb.sign := ⟨_, rfl⟩
  have HW : Hid (IntKind.i64.wrap (sgn3 p 0 * sgn3 q 0) = s) := by
    have h := sgn3_mul_bd za zb
    unfold Hid; rw [hNa.sign, hNb.sign, ← hs]; rw [sgn3_zero, sgn3_zero, ← hs] at h; exact wrap_small s (by omega) (by omega)
  have Hs := hide hs
  clear hs
  obtain ⟨ba, hba⟩ : ∃ ba, ba = decide (n = 0) := ⟨_, rfl⟩
  obtain ⟨bb, hbb⟩ : ∃ bb, bb = decide (n' = 0) := ⟨_, rfl⟩
  have hfar' : Hid (¬ (ba = true ∧ bb = true)) := by unfold Hid; rw [hba, hbb]; simpa using hfar
  have Hba := hide hba
  have Hbb := hide hbb
  clear hba hbb hfar
  go_enter Tryd.func47, Tryd.ntmps47
  go_wp2_with fail
  go_region_held3 (fun w' => w'.cell? ⟨w.heap.size, 0, none⟩ = some (.int .i64 p) ∧ w'.cell? ⟨w.heap.size, 1, none⟩ = some (.slice a n c) ∧ w'.cell? ⟨w.heap.size + 1, 0, none⟩ = some (.int .i64 q) ∧ w'.cell? ⟨w.heap.size + 1, 1, none⟩ = some (.slice a' n' c') ∧ w'.cell? ⟨w.heap.size + 1 + 1, 0, none⟩ = some (.int .i64 0) ∧ w'.cell? ⟨w.heap.size + 1 + 1, 1, none⟩ = some (.slice none 0 0) ∧ w'.frozen? ⟨w.heap.size + 1 + 1, 0, none⟩ = false ∧ w'.frozen? ⟨w.heap.size + 1 + 1, 1, none⟩ = false ∧ w.heap.size + 1 + 1 < w'.heap.size ∧ Below w.heap.size w w') (first | (exact keepB (by assumption) (by assumption)) | (exact keepB (Below.refl _ _).drew (by assumption)))
    (first
      | (go_at_call_of 51 (Value.agg #[Value.int IntKind.i64 p, Value.slice a n c]); refine (sign_any _ _ _).mono ?_; rintro e w1 ⟨rfl, hb1⟩)
      | (go_at_call_of 51 (Value.agg #[Value.int IntKind.i64 q, Value.slice a' n' c']); refine (sign_any _ _ _).mono ?_; rintro e w2 ⟨rfl, hb2⟩; have hS2 := keepB hb2 (by assumption)))
  rw [unhide HW]
  by_cases h0 : s = 0
  · have h0' : (s == 0) = true := by simp [h0]
    have ht : Hid (za.tdiv zb = 0) := tdiv_sign0 (by rw [← Hs.out]; exact h0)
    clear h0
    have hS2' := hS2
    obtain ⟨_, _, _, _, g0, g1, gf0, gf1, _, _⟩ := hS2'
    go_wp2_with fail
    rw [unhide ht]
    exact bodyPost_ret (v := .agg #[.int .i64 0, .slice none 0 0]) (by simp [results, Tryd.results47, go_sem, g0, g1]) rfl ⟨0, none, 0, 0, rfl, NumP_near _ (by omega) (by omega), ((keepB_bel hS2).setCell (by dsimp only; omega) _).setCell (by dsimp only; omega) _⟩
  · have h0' : (s == 0) = false := by simp [h0]
    have hpm := hide (sgn_pm (za := za) (zb := zb) (by rw [← Hs.out]; exact h0))
    have hz := hide (sgn_nz (za := za) (zb := zb) (by rw [← Hs.out]; exact h0))
    clear h0 hb1
    have HN1 := hide hNa
    have HN2 := hide hNb
    have hcs : ba = false ∨ ba = true ∧ bb = false := by
      have h := hfar'.out
      cases ba
      · exact .inl rfl
      · cases bb
        · exact .inr ⟨rfl, rfl⟩
        · exact absurd ⟨rfl, rfl⟩ h
    clear hfar'
    rcases hcs with rfl | ⟨rfl, rfl⟩
    all_goals
      go_wp2_with (first
        | (go_at_call_of 40 (Value.agg #[Value.int IntKind.i64 p, Value.slice a n c]); refine (isNear_as p a n c _ Hba _).mono ?_; rintro e w3 ⟨rfl, hb3⟩; have hS3 := keepB hb3 (by assumption))
        | (go_at_call_of 40 (Value.agg #[Value.int IntKind.i64 q, Value.slice a' n' c']); refine (isNear_as q a' n' c' _ Hbb _).mono ?_; rintro e w3 ⟨rfl, hb3⟩; have hS4 := keepB hb3 (by assumption)))
      go_region_held3 (fun w' => w'.cell? ⟨w.heap.size, 0, none⟩ = some (.int .i64 p) ∧ w'.cell? ⟨w.heap.size, 1, none⟩ = some (.slice a n c) ∧ w'.cell? ⟨w.heap.size + 1, 0, none⟩ = some (.int .i64 q) ∧ w'.cell? ⟨w.heap.size + 1, 1, none⟩ = some (.slice a' n' c') ∧ w'.cell? ⟨w.heap.size + 1 + 1, 0, none⟩ = some (.int .i64 0) ∧ w'.cell? ⟨w.heap.size + 1 + 1, 1, none⟩ = some (.slice none 0 0) ∧ w'.frozen? ⟨w.heap.size + 1 + 1, 0, none⟩ = false ∧ w'.frozen? ⟨w.heap.size + 1 + 1, 1, none⟩ = false ∧ w.heap.size + 1 + 1 < w'.heap.size ∧ Below w.heap.size w w') (first | (exact keepB (by assumption) (by assumption)) | (exact keepB (Below.refl _ _).drew (by assumption)))
        (first
          | (go_at_call_of 53 (Value.agg #[Value.int IntKind.i64 p, Value.slice a n c]); refine (size_as p a n c za _ (HN1.out.below (keepB_bel (by assumption)))).mono ?_; rintro e w4 ⟨x1, k1, q1, l1, rfl, hZ1, hb4⟩)
          | (go_at_call_of 53 (Value.agg #[Value.int IntKind.i64 q, Value.slice a' n' c']); refine (size_as q a' n' c' zb _ (HN2.out.below (keepB_bel (by assumption)))).mono ?_; rintro e w5 ⟨x2, k2, q2, l2, rfl, hZ2, hb5⟩; have hZ3 := hide (hZ1.out.below hb5))
          | (go_at_call 63; refine (over_as Pl hOv x1 x2 k1 q1 k2 q2 l1 l2 za zb _ hZ3 hZ2 hz.out.2 hPl).mono ?_; rintro e w6 ⟨x3, k3, q3, l3, x4, k4, q4, l4, rfl, hQ, hb6⟩; have hS6 := keepB hb6 (by assumption)))
      obtain ⟨hL3, hk3, ll3, lt3, u1, u2, ll4, u3, hv3, hv4⟩ := hQ.out
      clear u1 u2 u3
      have hval : Hid (s * lv l3 = za.tdiv zb) := by
        unfold Hid; rw [Hs.out]
        exact tdiv_size za zb (lv l3) (lv l4) (lv_nonneg ll4) hv3 hv4
      have hspm : Hid (s = 1 ∨ s = -1) := by unfold Hid; rw [Hs.out]; exact hpm.out
      clear hv3 hv4
      have Hk3 := hide hk3
      have HL3 := hide hL3
      clear hL3 hk3 hQ
      go_wp2_with fail
      refine (fromSize_any s x3 k3 q3 l3 _ HL3.out Hk3.out ll3 lt3 (by rcases hspm.out with h | h; exact .inl h; exact .inr (.inl h))).mono ?_
      rintro e w7 ⟨r, x, k, d, rfl, hN8, hb8⟩
      have hS8 := keepB hb8 hS6
      rw [hval.out] at hN8
      obtain ⟨_, _, _, _, g0, g1, gf0, gf1, _, hbel8⟩ := hS8
      have hN9 := hide (NumP_store hN8 g0 g1 r (.slice x k d))
      have hbel9 := (hbel8.setCell (p := ⟨w.heap.size + 1 + 1, 0, none⟩) (by dsimp only; omega) (.int .i64 r)).setCell (p := ⟨w.heap.size + 1 + 1, 1, none⟩) (by dsimp only; omega) (.slice x k d)
      clear hN8
      go_wp2_with fail
      exact bodyPost_ret (v := .agg #[.int .i64 r, .slice x k d]) (by simp [results, Tryd.results47, go_sem, g0, g1]) rfl ⟨r, x, k, d, rfl, hN9.out, hbel9⟩

end Go.Proofs.YtdnafkmphcebeaaDoor
