/- The sum of two numbers of any size. -/
import Derived.Test.YtmeaemjdmjhmdaaDoorWd
namespace Go.Proofs.YtmeaemjdmjhmdaaDoor
open Go.RowKit

theorem plusL_any (a a' : Option Addr) (n c n' c' : Nat) (l m : List Int) (w : World) (hA : LimbsAt w a l) (hA' : LimbsAt w a' m) (hl : n = l.length) (hm : n' = m.length) (ll : Limb l) (lm : Limb m) (nl : l ≠ []) (nm : m ≠ []) (hn : n ≤ 1073741824) (hn' : n' ≤ 1073741824) :
    Calls Tryd.prog 36 #[.slice a n c, .slice a' n' c'] w fun e w' => ∃ x k q S, e = .returned (.slice x k q) ∧ LimbsAt w' x S ∧ k = S.length ∧ Limb S ∧ Tr S ∧ lv S = lv l + lv m ∧ Below w.heap.size w w' := by
  rcases hA with h | ⟨b, off, rfl, hb, hc⟩
  · exact absurd h nl
  rcases hA' with h | ⟨b', off', rfl, hb', hc'⟩
  · exact absurd h nm
  rcases Nat.lt_or_ge n n' with h | h
  · refine (plus_lt b' off' n' c' (some ⟨b, off, none⟩) n c m l w hb' hc' (.inr ⟨b, off, rfl, hb, hc⟩) hm hl lm ll h hn').mono ?_
    rintro e w' ⟨g, k, S, rfl, _, h1, h2, _, h3, h4, h5, h6⟩
    exact ⟨_, _, _, S, rfl, h1, h2, h3, h4, by omega, h6⟩
  · refine (plus_ge b off n c (some ⟨b', off', none⟩) n' c' l m w hb hc (.inr ⟨b', off', rfl, hb', hc'⟩) hl hm ll lm h hn).mono ?_
    rintro e w' ⟨g, k, S, rfl, _, h1, h2, _, h3, h4, h5, h6⟩
    exact ⟨_, _, _, S, rfl, h1, h2, h3, h4, h5, h6⟩

theorem len_le_of_lv {l m : List Int} (ll : Limb l) (lm : Limb m) (tm : Tr m) (h : lv m ≤ lv l) : m.length ≤ l.length := by
  rcases Nat.lt_or_ge l.length m.length with h1 | h1
  · have := lv_lt_of_length ll lm (by intro e; subst e; simp at h1) tm h1
    omega
  · exact h1

theorem minusL_any (a a' : Option Addr) (n c n' c' : Nat) (l m : List Int) (w : World) (hA : LimbsAt w a l) (hA' : LimbsAt w a' m) (hl : n = l.length) (hm : n' = m.length) (ll : Limb l) (lm : Limb m) (tm : Tr m) (nl : l ≠ []) (hge : lv m ≤ lv l) (hn : n ≤ 1073741824) :
    Calls Tryd.prog 38 #[.slice a n c, .slice a' n' c'] w fun e w' => ∃ x k q S, e = .returned (.slice x k q) ∧ LimbsAt w' x S ∧ k = S.length ∧ Limb S ∧ Tr S ∧ lv S = lv l - lv m ∧ Below w.heap.size w w' := by
  rcases hA with h | ⟨b, off, rfl, hb, hc⟩
  · exact absurd h nl
  refine (minus_ge b off n c a' n' c' l m w hb hc hA' hl hm ll lm (by have := len_le_of_lv ll lm tm hge; omega) hge hn).mono ?_
  rintro e w' ⟨g, k, S, rfl, _, h1, h2, _, h3, h4, h5, h6⟩
  exact ⟨_, _, _, S, rfl, h1, h2, h3, h4, h5, h6⟩

/-- The sign that is kept beside a number is its sign. -/
theorem NumP.sign {w : World} {p : Int} {a : Option Addr} {n c : Nat} {z : Int} (h : NumP w p a n c z) : sgn3 p 0 = z.sign := by
  rcases h with ⟨_, _, _, rfl, _⟩ | ⟨ls, _, _, _, ll, _, hp, hz, hfar⟩
  · exact sgn3_zero p
  · have h0 := lv_nonneg ll
    rcases hp with rfl | rfl
    · rw [sgn3_zero, Int.sign_eq_one_of_pos (a := z) (by omega)]; rfl
    · rw [sgn3_zero, Int.sign_eq_neg_one_of_neg (a := z) (by omega)]; rfl

theorem lv_pos_ne {ls : List Int} (h : 0 < lv ls) : ls ≠ [] := by
  intro e; subst e; simp [lv] at h

/-- Two numbers that both are ints, and their sum is one. -/
def Near2 (n n' : Nat) (za zb : Int) : Prop := n = 0 ∧ n' = 0 ∧ -9223372036854775808 ≤ za + zb ∧ za + zb ≤ 9223372036854775807

set_option maxHeartbeats 1000000 in
theorem plusN_near (a b : Int) (w : World) (h5 : -9223372036854775808 ≤ a + b) (h6 : a + b ≤ 9223372036854775807) :
    Calls Tryd.prog 22 #[.agg #[.int .i64 a, .slice none 0 0], .agg #[.int .i64 b, .slice none 0 0]] w fun e w' => e = .returned (.agg #[.int .i64 (a + b), .slice none 0 0]) ∧ Below w.heap.size w w' := by
  have hdec : (decide (a < a + b) == decide (0 < b)) = true := by
    have : (a < a + b) ↔ (0 < b) := by omega
    simp [this]
  have hB0 : Below w.heap.size w (((w.alloc (.cells #[.int .i64 a, .slice none 0 0] 36)).alloc (.cells #[.int .i64 b, .slice none 0 0] 36)).alloc (.cells #[.int .i64 0, .slice none 0 0] 36)) :=
    (((Below.refl _ _).alloc (Nat.le_refl _) _).alloc (by simp) _).alloc (by simp; omega) _
  have hS0 : (fun w' => (∀ b' o', b' < w.heap.size + 1 + 1 → w'.cell? ⟨b', o', none⟩ = (((w.alloc (.cells #[.int .i64 a, .slice none 0 0] 36)).alloc (.cells #[.int .i64 b, .slice none 0 0] 36)).alloc (.cells #[.int .i64 0, .slice none 0 0] 36)).cell? ⟨b', o', none⟩) ∧ (∀ b' o', b' < w.heap.size + 1 + 1 + 1 → w'.frozen? ⟨b', o', none⟩ = (((w.alloc (.cells #[.int .i64 a, .slice none 0 0] 36)).alloc (.cells #[.int .i64 b, .slice none 0 0] 36)).alloc (.cells #[.int .i64 0, .slice none 0 0] 36)).frozen? ⟨b', o', none⟩) ∧ w.heap.size + 1 + 1 ≤ w.heap.size + 1 + 1 + 1 ∧ w.heap.size + 1 + 1 + 1 ≤ w'.heap.size ∧ Below w.heap.size w w' ∧ (∀ o', o' < 2 → w'.cell? ⟨w.heap.size + 1 + 1, o', none⟩ = some (cellOf w' (w.heap.size + 1 + 1) o'))) (((w.alloc (.cells #[.int .i64 a, .slice none 0 0] 36)).alloc (.cells #[.int .i64 b, .slice none 0 0] 36)).alloc (.cells #[.int .i64 0, .slice none 0 0] 36)) := ⟨fun _ _ _ => rfl, fun _ _ _ => rfl, by omega, by simp, hB0, boxR _ _ _ _ (by simp) rfl⟩
  go_enter Tryd.func22, Tryd.ntmps22
  go_wp2_with (first | (go_at_call 24; refine (isNear_yes _ _).mono ?_; rintro e w1 ⟨rfl, hb1⟩; have hSn := keepCR hb1 (by assumption) (by omega)))
  refine (from_any (a + b) _).mono ?_
  rintro e w2 ⟨rfl, hb2⟩
  have hS2 := keepCR hb2 (by assumption) (by omega)
  have hr0 := hS2.2.2.2.2.2 0 (by omega)
  have hr1 := hS2.2.2.2.2.2 1 (by omega)
  have hF := keepER (p := ⟨w.heap.size + 1 + 1, 1, none⟩) (v := .slice none 0 0) (by dsimp only; omega) (by dsimp only; omega) (keepER (p := ⟨w.heap.size + 1 + 1, 0, none⟩) (v := .int .i64 (a + b)) (by dsimp only; omega) (by dsimp only; omega) hS2)
  go_wp2_with fail
  exact bodyPost_ret (v := .agg #[.int .i64 (a + b), .slice none 0 0]) (by simp [results, Tryd.results22, go_sem, hr0, hr1]) rfl ⟨rfl, hF.2.2.2.2.1⟩

theorem SR_bel {C B r : Nat} {W0 w W : World} (h : (∀ b o, b < C → W.cell? ⟨b, o, none⟩ = W0.cell? ⟨b, o, none⟩) ∧ (∀ b o, b < B → W.frozen? ⟨b, o, none⟩ = W0.frozen? ⟨b, o, none⟩) ∧ C ≤ B ∧ B ≤ W.heap.size ∧ Below w.heap.size w W ∧ (∀ o, o < 2 → W.cell? ⟨r, o, none⟩ = some (cellOf W r o))) : Below w.heap.size w W := h.2.2.2.2.1

theorem sum_same {za zb : Int} (h : za.sign = zb.sign) : za.sign * ((za.natAbs : Int) + zb.natAbs) = za + zb := by
  rcases Int.lt_trichotomy za 0 with ha | ha | ha
  · rw [Int.sign_eq_neg_one_of_neg ha] at h ⊢
    have : zb < 0 := Int.sign_eq_neg_one_iff_neg.1 h.symm
    omega
  · subst ha
    have : zb = 0 := Int.sign_eq_zero_iff_zero.1 h.symm
    subst this; rfl
  · rw [Int.sign_eq_one_of_pos ha] at h ⊢
    have : 0 < zb := Int.sign_eq_one_iff_pos.1 h.symm
    omega

theorem sum_other {za zb : Int} (h : za.sign ≠ zb.sign) : za.sign * ((za.natAbs : Int) - zb.natAbs) = za + zb ∨ za = 0 := by
  rcases Int.lt_trichotomy za 0 with ha | ha | ha
  · left
    rw [Int.sign_eq_neg_one_of_neg ha] at h ⊢
    have : ¬ zb < 0 := fun h' => h (Int.sign_eq_neg_one_of_neg h').symm
    omega
  · exact .inr ha
  · left
    rw [Int.sign_eq_one_of_pos ha] at h ⊢
    have : ¬ 0 < zb := fun h' => h (Int.sign_eq_one_of_pos h').symm
    omega

theorem sign_pm {z : Int} (h : z ≠ 0) : z.sign = 1 ∨ z.sign = -1 := by
  rcases Int.lt_or_gt_of_ne h with h | h
  · exact .inr (Int.sign_eq_neg_one_of_neg h)
  · exact .inl (Int.sign_eq_one_of_pos h)

theorem small_len {ls : List Int} {z : Int} (hl : Limb ls) (ht : Tr ls) (hv : lv ls = z.natAbs) (hs : Sm z) : ls.length ≤ 1000 :=
  len_of_small hl ht (by rw [hv]; have := hs.1; have := hs.2; omega)

/-- What the three boxes of a sum's walk hold at its end. -/
theorem box3 {W w : World} {A1 A2 : Array Value} {T : TypeId} (h : (∀ b o, b < w.heap.size + 1 + 1 + 1 → W.cell? ⟨b, o, none⟩ = (((w.alloc (.cells A1 T)).alloc (.cells A2 T)).alloc (.cells #[.int .i64 0, .slice none 0 0] T)).cell? ⟨b, o, none⟩) ∧ (∀ b o, b < w.heap.size + 1 + 1 + 1 → W.frozen? ⟨b, o, none⟩ = (((w.alloc (.cells A1 T)).alloc (.cells A2 T)).alloc (.cells #[.int .i64 0, .slice none 0 0] T)).frozen? ⟨b, o, none⟩) ∧ w.heap.size + 1 + 1 + 1 ≤ w.heap.size + 1 + 1 + 1 ∧ w.heap.size + 1 + 1 + 1 ≤ W.heap.size ∧ Below w.heap.size w W) :
    W.cell? ⟨w.heap.size + 1 + 1, 0, none⟩ = some (.int .i64 0) ∧ W.cell? ⟨w.heap.size + 1 + 1, 1, none⟩ = some (.slice none 0 0) ∧ ∀ o, W.frozen? ⟨w.heap.size + 1 + 1, o, none⟩ = false := by
  refine ⟨?_, ?_, fun o => ?_⟩
  · rw [h.1 _ _ (by omega), World.cell?_alloc_at _ _ _ _ (by simp)]; rfl
  · rw [h.1 _ _ (by omega), World.cell?_alloc_at _ _ _ _ (by simp)]; rfl
  · rw [h.2.1 _ _ (by omega)]
    rw [World.frozen?_alloc_at (hn := by simp)]

set_option maxHeartbeats 400000 in
theorem isNear_zero (p : Int) (a : Option Addr) (n c : Nat) (w : World) (hn : ((n : Int) == 0) = true) :
    Calls Tryd.prog 24 #[.agg #[.int .i64 p, .slice a n c]] w fun e w' => e = .returned (.bool true) ∧ Below w.heap.size w w' := by
  go_enter Tryd.func24, Tryd.ntmps24
  go_wp2
  go_ret
  exact ⟨rfl, (Below.refl _ _).alloc (Nat.le_refl _) _⟩

theorem wraps {p q : Int} (h1 : -9223372036854775808 ≤ p) (h2 : p ≤ 9223372036854775807) (h3 : -9223372036854775808 ≤ q) (h4 : q ≤ 9223372036854775807) (h : p + q < -9223372036854775808 ∨ 9223372036854775807 < p + q) : (decide (p < wrap64 (p + q)) == decide (0 < q)) = false := by
  unfold wrap64
  rcases h with h | h
  · have e1 : p < (p + q + 9223372036854775808) % 18446744073709551616 - 9223372036854775808 := by omega
    have e2 : ¬ 0 < q := by omega
    simp [e1, e2]
  · have e1 : ¬ p < (p + q + 9223372036854775808) % 18446744073709551616 - 9223372036854775808 := by omega
    have e2 : 0 < q := by omega
    simp [e1, e2]

set_option maxHeartbeats 4000000 in
theorem plusN_far (p : Int) (a : Option Addr) (n c : Nat) (za : Int) (q : Int) (a' : Option Addr) (n' c' : Nat) (zb : Int) (w : World) (hNa : NumP w p a n c za) (hNb : NumP w q a' n' c' zb) (hn : 0 < n) (sa : Sm za) (sb : Sm zb) (hnz : ¬ (za = 0 ∧ zb = 0)) :
    Calls Tryd.prog 22 #[.agg #[.int .i64 p, .slice a n c], .agg #[.int .i64 q, .slice a' n' c']] w fun e w' => ∃ r x k d, e = .returned (.agg #[.int .i64 r, .slice x k d]) ∧ NumP w' r x k d (za + zb) ∧ Below w.heap.size w w' := by
  have hB0 : Below w.heap.size w (((w.alloc (.cells #[.int .i64 p, .slice a n c] 36)).alloc (.cells #[.int .i64 q, .slice a' n' c'] 36)).alloc (.cells #[.int .i64 0, .slice none 0 0] 36)) :=
    (((Below.refl _ _).alloc (Nat.le_refl _) _).alloc (by simp) _).alloc (by simp; omega) _
  go_enter Tryd.func22, Tryd.ntmps22
  go_wp2_with fail
  refine (isNear_no _ _ _ _ _ hn).mono ?_
  rintro e w1 ⟨rfl, hb1⟩
  have hSn := keepC (W0 := ((w.alloc (.cells #[.int .i64 p, .slice a n c] 36)).alloc (.cells #[.int .i64 q, .slice a' n' c'] 36)).alloc (.cells #[.int .i64 0, .slice none 0 0] 36)) (C := w.heap.size + 1 + 1 + 1) (B := w.heap.size + 1 + 1 + 1) hb1 ⟨fun _ _ _ => rfl, fun _ _ _ => rfl, by omega, by simp, hB0⟩
  go_wp2_with fail
  go_region_held3 (fun w' => (∀ b' o', b' < w.heap.size + 1 + 1 + 1 → w'.cell? ⟨b', o', none⟩ = (((w.alloc (.cells #[.int .i64 p, .slice a n c] 36)).alloc (.cells #[.int .i64 q, .slice a' n' c'] 36)).alloc (.cells #[.int .i64 0, .slice none 0 0] 36)).cell? ⟨b', o', none⟩) ∧ (∀ b' o', b' < w.heap.size + 1 + 1 + 1 → w'.frozen? ⟨b', o', none⟩ = (((w.alloc (.cells #[.int .i64 p, .slice a n c] 36)).alloc (.cells #[.int .i64 q, .slice a' n' c'] 36)).alloc (.cells #[.int .i64 0, .slice none 0 0] 36)).frozen? ⟨b', o', none⟩) ∧ w.heap.size + 1 + 1 + 1 ≤ w.heap.size + 1 + 1 + 1 ∧ w.heap.size + 1 + 1 + 1 ≤ w'.heap.size ∧ Below w.heap.size w w') (first | (exact keepC (by assumption) (by assumption)) | (exact keepD (by assumption)) | (exact keepE (by dsimp only; omega) (by dsimp only; omega) (by assumption)) | (exact keepE (by dsimp only; omega) (by dsimp only; omega) (keepE (by dsimp only; omega) (by dsimp only; omega) (by assumption))) | (exact ⟨fun _ _ _ => rfl, fun _ _ _ => rfl, by omega, by simp, Below.drew (by assumption)⟩))
    (first
      | (go_at_call_of 34 (Value.agg #[Value.int IntKind.i64 p, Value.slice a n c]); refine (size_any p a n c za _ (hNa.below (S_bel (by assumption)))).mono ?_; rintro e w2 ⟨x1, k1, q1, l1, rfl, hL1, hk1, ll1, lt1, hv1, hb2⟩)
      | (go_at_call_of 34 (Value.agg #[Value.int IntKind.i64 q, Value.slice a' n' c']); refine (size_any q a' n' c' zb _ (hNb.below (S_bel (by assumption)))).mono ?_; rintro e w3 ⟨x2, k2, q2, l2, rfl, hL2, hk2, ll2, lt2, hv2, hb3⟩; have hS3 := keepC hb3 (by assumption)))
  subst hk1
  subst hk2
  have hL13 := hL1.below hb3
  have hlen1 := small_len ll1 lt1 hv1 sa
  have hlen2 := small_len ll2 lt2 hv2 sb
  have Hv1 := hide hv1
  have Hv2 := hide hv2
  clear hL1 hb2 hb3 hv1 hv2
  by_cases hsg : za.sign = zb.sign
  · have hsb : (sgn3 p 0 == sgn3 q 0) = true := by rw [hNa.sign, hNb.sign, hsg]; simp
    have Hsg := hide hsg
    clear hsg
    go_wp2_with fail
    go_region_held3 (fun w' => (∀ b' o', b' < w.heap.size + 1 + 1 + 1 → w'.cell? ⟨b', o', none⟩ = (((w.alloc (.cells #[.int .i64 p, .slice a n c] 36)).alloc (.cells #[.int .i64 q, .slice a' n' c'] 36)).alloc (.cells #[.int .i64 0, .slice none 0 0] 36)).cell? ⟨b', o', none⟩) ∧ (∀ b' o', b' < w.heap.size + 1 + 1 + 1 → w'.frozen? ⟨b', o', none⟩ = (((w.alloc (.cells #[.int .i64 p, .slice a n c] 36)).alloc (.cells #[.int .i64 q, .slice a' n' c'] 36)).alloc (.cells #[.int .i64 0, .slice none 0 0] 36)).frozen? ⟨b', o', none⟩) ∧ w.heap.size + 1 + 1 + 1 ≤ w.heap.size + 1 + 1 + 1 ∧ w.heap.size + 1 + 1 + 1 ≤ w'.heap.size ∧ Below w.heap.size w w') (first | (exact keepC (by assumption) (by assumption)) | (exact keepD (by assumption)) | (exact keepE (by dsimp only; omega) (by dsimp only; omega) (by assumption)) | (exact keepE (by dsimp only; omega) (by dsimp only; omega) (keepE (by dsimp only; omega) (by dsimp only; omega) (by assumption))) | (exact ⟨fun _ _ _ => rfl, fun _ _ _ => rfl, by omega, by simp, Below.drew (by assumption)⟩))
      (first
        | (go_at_call_of 21 (Value.agg #[Value.int IntKind.i64 p, Value.slice a n c]); refine (sign_any _ _ _).mono ?_; rintro e w4 ⟨rfl, hb4⟩)
        | (go_at_call_of 21 (Value.agg #[Value.int IntKind.i64 q, Value.slice a' n' c']); refine (sign_any _ _ _).mono ?_; rintro e w5 ⟨rfl, hb5⟩; have hSX := keepC hb5 (by assumption)))
    have hX1 := (hL13.below ((Below.refl _ _).drew.trans hb4)).below hb5
    have hX2 := (hL2.below ((Below.refl _ _).drew.trans hb4)).below hb5
    have hz1 : za ≠ 0 := fun h => hnz ⟨h, by have := Hsg.out; rw [h] at this; exact Int.sign_eq_zero_iff_zero.1 this.symm⟩
    have hz2 : zb ≠ 0 := fun h => hz1 (by have := Hsg.out; rw [h] at this; exact Int.sign_eq_zero_iff_zero.1 this)
    have nl1 : l1 ≠ [] := lv_pos_ne (by rw [Hv1.out]; omega)
    have nl2 : l2 ≠ [] := lv_pos_ne (by rw [Hv2.out]; omega)
    have hval : Hid (sgn3 p 0 * ((za.natAbs : Int) + zb.natAbs) = za + zb) := by unfold Hid; rw [hNa.sign]; exact sum_same Hsg.out
    go_wp2_with fail
    refine (sign_any p _ _).mono ?_
    rintro e w6 ⟨rfl, hb6⟩
    have hS6 := keepC hb6 hSX
    have hM1 := hX1.below hb6
    have hM2 := hX2.below hb6
    go_wp2_with fail
    refine (plusL_any x1 x2 _ q1 _ q2 l1 l2 _ hM1 hM2 rfl rfl ll1 ll2 nl1 nl2 (by omega) (by omega)).mono ?_
    rintro e w7 ⟨x9, k9, q9, S9, rfl, hL9, hk9, ll9, lt9, hv9, hb7⟩
    have Hv9 := hide hv9
    clear hv9
    have hS7 := keepC hb7 hS6
    go_wp2_with fail
    refine (fromSize_any (sgn3 p 0) x9 _ q9 S9 _ hL9 rfl ll9 lt9 (by rw [hNa.sign]; rcases sign_pm hz1 with h | h; exact .inl h; exact .inr (.inl h))).mono ?_
    rintro e w8 ⟨r, x, k, d, rfl, hN8, hb8⟩
    have hS8 := keepC hb8 hS7
    rw [Hv9.out, Hv1.out, Hv2.out, hval.out] at hN8
    obtain ⟨g0, g1, gf⟩ := box3 hS8
    have hN9 := NumP_store hN8 g0 g1 r (.slice x k d)
    have hbel9 := ((S_bel hS8).setCell (p := ⟨w.heap.size + 1 + 1, 0, none⟩) (by dsimp only; omega) (.int .i64 r)).setCell (p := ⟨w.heap.size + 1 + 1, 1, none⟩) (by dsimp only; omega) (.slice x k d)
    go_wp2_with fail
    exact bodyPost_ret (v := .agg #[.int .i64 r, .slice x k d]) (by simp [results, Tryd.results22, go_sem, g0, g1]) rfl ⟨r, x, k, d, rfl, hN9, hbel9⟩
  · have hsb : (sgn3 p 0 == sgn3 q 0) = false := by rw [hNa.sign, hNb.sign]; simp [hsg]
    have Hsg := hide hsg
    clear hsg
    go_wp2_with fail
    go_region_held3 (fun w' => (∀ b' o', b' < w.heap.size + 1 + 1 + 1 → w'.cell? ⟨b', o', none⟩ = (((w.alloc (.cells #[.int .i64 p, .slice a n c] 36)).alloc (.cells #[.int .i64 q, .slice a' n' c'] 36)).alloc (.cells #[.int .i64 0, .slice none 0 0] 36)).cell? ⟨b', o', none⟩) ∧ (∀ b' o', b' < w.heap.size + 1 + 1 + 1 → w'.frozen? ⟨b', o', none⟩ = (((w.alloc (.cells #[.int .i64 p, .slice a n c] 36)).alloc (.cells #[.int .i64 q, .slice a' n' c'] 36)).alloc (.cells #[.int .i64 0, .slice none 0 0] 36)).frozen? ⟨b', o', none⟩) ∧ w.heap.size + 1 + 1 + 1 ≤ w.heap.size + 1 + 1 + 1 ∧ w.heap.size + 1 + 1 + 1 ≤ w'.heap.size ∧ Below w.heap.size w w') (first | (exact keepC (by assumption) (by assumption)) | (exact keepD (by assumption)) | (exact keepE (by dsimp only; omega) (by dsimp only; omega) (by assumption)) | (exact keepE (by dsimp only; omega) (by dsimp only; omega) (keepE (by dsimp only; omega) (by dsimp only; omega) (by assumption))) | (exact ⟨fun _ _ _ => rfl, fun _ _ _ => rfl, by omega, by simp, Below.drew (by assumption)⟩))
      (first
        | (go_at_call_of 21 (Value.agg #[Value.int IntKind.i64 p, Value.slice a n c]); refine (sign_any _ _ _).mono ?_; rintro e w4 ⟨rfl, hb4⟩)
        | (go_at_call_of 21 (Value.agg #[Value.int IntKind.i64 q, Value.slice a' n' c']); refine (sign_any _ _ _).mono ?_; rintro e w5 ⟨rfl, hb5⟩; have hSX5 := keepC hb5 (by assumption)))
    have hX15 := (hL13.below ((Below.refl _ _).drew.trans hb4)).below hb5
    have hX25 := (hL2.below ((Below.refl _ _).drew.trans hb4)).below hb5
    go_wp2_with fail
    refine (compare_any x1 x2 _ q1 _ q2 l1 l2 _ hX15 hX25 rfl rfl ll1 ll2 lt1 lt2 (by omega)).mono ?_
    rintro e w55 ⟨rfl, hb55⟩
    have hSX := keepC hb55 hSX5
    have hX1 := hX15.below hb55
    have hX2 := hX25.below hb55
    by_cases hge : lv l2 ≤ lv l1
    · have hc1 : 0 ≤ sgn3 (lv l1) (lv l2) := by unfold sgn3; rw [if_neg (by omega)]; split <;> omega
      have hz1 : za ≠ 0 := fun h => hnz ⟨h, by rw [Hv1.out, Hv2.out, h] at hge; omega⟩
      have nl1 : l1 ≠ [] := lv_pos_ne (by rw [Hv1.out]; omega)
      have hval : Hid (sgn3 p 0 * ((za.natAbs : Int) - zb.natAbs) = za + zb) := by unfold Hid; rw [hNa.sign]; exact (sum_other Hsg.out).resolve_right hz1
      have HGE := hide hge
      clear hge
      go_wp2_with fail
      refine (sign_any p _ _).mono ?_
      rintro e w6 ⟨rfl, hb6⟩
      have hS6 := keepC hb6 hSX
      have hM1 := hX1.below hb6
      have hM2 := hX2.below hb6
      go_wp2_with fail
      refine (minusL_any x1 x2 _ q1 _ q2 l1 l2 _ hM1 hM2 rfl rfl ll1 ll2 lt2 nl1 HGE.out (by omega)).mono ?_
      rintro e w7 ⟨x9, k9, q9, S9, rfl, hL9, hk9, ll9, lt9, hv9, hb7⟩
      have Hv9 := hide hv9
      clear hv9
      have hS7 := keepC hb7 hS6
      go_wp2_with fail
      refine (fromSize_any (sgn3 p 0) x9 _ q9 S9 _ hL9 rfl ll9 lt9 (by rw [hNa.sign]; rcases sign_pm hz1 with h | h; exact .inl h; exact .inr (.inl h))).mono ?_
      rintro e w8 ⟨r, x, k, d, rfl, hN8, hb8⟩
      have hS8 := keepC hb8 hS7
      rw [Hv9.out, Hv1.out, Hv2.out, hval.out] at hN8
      obtain ⟨g0, g1, gf⟩ := box3 hS8
      have hN9 := NumP_store hN8 g0 g1 r (.slice x k d)
      have hbel9 := ((S_bel hS8).setCell (p := ⟨w.heap.size + 1 + 1, 0, none⟩) (by dsimp only; omega) (.int .i64 r)).setCell (p := ⟨w.heap.size + 1 + 1, 1, none⟩) (by dsimp only; omega) (.slice x k d)
      go_wp2_with fail
      exact bodyPost_ret (v := .agg #[.int .i64 r, .slice x k d]) (by simp [results, Tryd.results22, go_sem, g0, g1]) rfl ⟨r, x, k, d, rfl, hN9, hbel9⟩
    · have hc1 : sgn3 (lv l1) (lv l2) < 0 := by rw [sgn3_lt (by omega)]; omega
      have hz1 : zb ≠ 0 := fun h => by rw [Hv1.out, Hv2.out, h] at hge; omega
      have nl1 : l2 ≠ [] := lv_pos_ne (by rw [Hv2.out]; omega)
      have hval : Hid (sgn3 q 0 * ((zb.natAbs : Int) - za.natAbs) = za + zb) := by unfold Hid; rw [hNb.sign, Int.add_comm]; exact (sum_other (fun h => Hsg.out h.symm)).resolve_right hz1
      have HGE : Hid (lv l1 ≤ lv l2) := by unfold Hid; omega
      clear hge
      go_wp2_with fail
      refine (sign_any q _ _).mono ?_
      rintro e w6 ⟨rfl, hb6⟩
      have hS6 := keepC hb6 hSX
      have hM1 := hX1.below hb6
      have hM2 := hX2.below hb6
      go_wp2_with fail
      refine (minusL_any x2 x1 _ q2 _ q1 l2 l1 _ hM2 hM1 rfl rfl ll2 ll1 lt1 nl1 HGE.out (by omega)).mono ?_
      rintro e w7 ⟨x9, k9, q9, S9, rfl, hL9, hk9, ll9, lt9, hv9, hb7⟩
      have Hv9 := hide hv9
      clear hv9
      have hS7 := keepC hb7 hS6
      go_wp2_with fail
      refine (fromSize_any (sgn3 q 0) x9 _ q9 S9 _ hL9 rfl ll9 lt9 (by rw [hNb.sign]; rcases sign_pm hz1 with h | h; exact .inl h; exact .inr (.inl h))).mono ?_
      rintro e w8 ⟨r, x, k, d, rfl, hN8, hb8⟩
      have hS8 := keepC hb8 hS7
      rw [Hv9.out, Hv2.out, Hv1.out, hval.out] at hN8
      obtain ⟨g0, g1, gf⟩ := box3 hS8
      have hN9 := NumP_store hN8 g0 g1 r (.slice x k d)
      have hbel9 := ((S_bel hS8).setCell (p := ⟨w.heap.size + 1 + 1, 0, none⟩) (by dsimp only; omega) (.int .i64 r)).setCell (p := ⟨w.heap.size + 1 + 1, 1, none⟩) (by dsimp only; omega) (.slice x k d)
      go_wp2_with fail
      exact bodyPost_ret (v := .agg #[.int .i64 r, .slice x k d]) (by simp [results, Tryd.results22, go_sem, g0, g1]) rfl ⟨r, x, k, d, rfl, hN9, hbel9⟩

set_option maxHeartbeats 4000000 in
theorem plusN_nf (p : Int) (a : Option Addr) (n c : Nat) (za : Int) (q : Int) (a' : Option Addr) (n' c' : Nat) (zb : Int) (w : World) (hNa : NumP w p a n c za) (hNb : NumP w q a' n' c' zb) (hn : ((n : Int) == 0) = true) (hn' : 0 < n') (sa : Sm za) (sb : Sm zb) (hnz : ¬ (za = 0 ∧ zb = 0)) :
    Calls Tryd.prog 22 #[.agg #[.int .i64 p, .slice a n c], .agg #[.int .i64 q, .slice a' n' c']] w fun e w' => ∃ r x k d, e = .returned (.agg #[.int .i64 r, .slice x k d]) ∧ NumP w' r x k d (za + zb) ∧ Below w.heap.size w w' := by
  have hB0 : Below w.heap.size w (((w.alloc (.cells #[.int .i64 p, .slice a n c] 36)).alloc (.cells #[.int .i64 q, .slice a' n' c'] 36)).alloc (.cells #[.int .i64 0, .slice none 0 0] 36)) :=
    (((Below.refl _ _).alloc (Nat.le_refl _) _).alloc (by simp) _).alloc (by simp; omega) _
  go_enter Tryd.func22, Tryd.ntmps22
  go_wp2_with fail
  refine (isNear_zero p a n c _ hn).mono ?_
  rintro e w1 ⟨rfl, hb1⟩
  have hSm := keepC (W0 := ((w.alloc (.cells #[.int .i64 p, .slice a n c] 36)).alloc (.cells #[.int .i64 q, .slice a' n' c'] 36)).alloc (.cells #[.int .i64 0, .slice none 0 0] 36)) (C := w.heap.size + 1 + 1 + 1) (B := w.heap.size + 1 + 1 + 1) hb1 ⟨fun _ _ _ => rfl, fun _ _ _ => rfl, by omega, by simp, hB0⟩
  go_wp2_with fail
  refine (isNear_no _ _ _ _ _ hn').mono ?_
  rintro e w11 ⟨rfl, hb11⟩
  have hSn := keepC hb11 hSm
  clear hSm hb11 hb1
  go_wp2_with fail
  go_region_held3 (fun w' => (∀ b' o', b' < w.heap.size + 1 + 1 + 1 → w'.cell? ⟨b', o', none⟩ = (((w.alloc (.cells #[.int .i64 p, .slice a n c] 36)).alloc (.cells #[.int .i64 q, .slice a' n' c'] 36)).alloc (.cells #[.int .i64 0, .slice none 0 0] 36)).cell? ⟨b', o', none⟩) ∧ (∀ b' o', b' < w.heap.size + 1 + 1 + 1 → w'.frozen? ⟨b', o', none⟩ = (((w.alloc (.cells #[.int .i64 p, .slice a n c] 36)).alloc (.cells #[.int .i64 q, .slice a' n' c'] 36)).alloc (.cells #[.int .i64 0, .slice none 0 0] 36)).frozen? ⟨b', o', none⟩) ∧ w.heap.size + 1 + 1 + 1 ≤ w.heap.size + 1 + 1 + 1 ∧ w.heap.size + 1 + 1 + 1 ≤ w'.heap.size ∧ Below w.heap.size w w') (first | (exact keepC (by assumption) (by assumption)) | (exact keepD (by assumption)) | (exact keepE (by dsimp only; omega) (by dsimp only; omega) (by assumption)) | (exact keepE (by dsimp only; omega) (by dsimp only; omega) (keepE (by dsimp only; omega) (by dsimp only; omega) (by assumption))) | (exact ⟨fun _ _ _ => rfl, fun _ _ _ => rfl, by omega, by simp, Below.drew (by assumption)⟩))
    (first
      | (go_at_call_of 34 (Value.agg #[Value.int IntKind.i64 p, Value.slice a n c]); refine (size_any p a n c za _ (hNa.below (S_bel (by assumption)))).mono ?_; rintro e w2 ⟨x1, k1, q1, l1, rfl, hL1, hk1, ll1, lt1, hv1, hb2⟩)
      | (go_at_call_of 34 (Value.agg #[Value.int IntKind.i64 q, Value.slice a' n' c']); refine (size_any q a' n' c' zb _ (hNb.below (S_bel (by assumption)))).mono ?_; rintro e w3 ⟨x2, k2, q2, l2, rfl, hL2, hk2, ll2, lt2, hv2, hb3⟩; have hS3 := keepC hb3 (by assumption)))
  subst hk1
  subst hk2
  have hL13 := hL1.below hb3
  have hlen1 := small_len ll1 lt1 hv1 sa
  have hlen2 := small_len ll2 lt2 hv2 sb
  have Hv1 := hide hv1
  have Hv2 := hide hv2
  clear hL1 hb2 hb3 hv1 hv2
  by_cases hsg : za.sign = zb.sign
  · have hsb : (sgn3 p 0 == sgn3 q 0) = true := by rw [hNa.sign, hNb.sign, hsg]; simp
    have Hsg := hide hsg
    clear hsg
    go_wp2_with fail
    go_region_held3 (fun w' => (∀ b' o', b' < w.heap.size + 1 + 1 + 1 → w'.cell? ⟨b', o', none⟩ = (((w.alloc (.cells #[.int .i64 p, .slice a n c] 36)).alloc (.cells #[.int .i64 q, .slice a' n' c'] 36)).alloc (.cells #[.int .i64 0, .slice none 0 0] 36)).cell? ⟨b', o', none⟩) ∧ (∀ b' o', b' < w.heap.size + 1 + 1 + 1 → w'.frozen? ⟨b', o', none⟩ = (((w.alloc (.cells #[.int .i64 p, .slice a n c] 36)).alloc (.cells #[.int .i64 q, .slice a' n' c'] 36)).alloc (.cells #[.int .i64 0, .slice none 0 0] 36)).frozen? ⟨b', o', none⟩) ∧ w.heap.size + 1 + 1 + 1 ≤ w.heap.size + 1 + 1 + 1 ∧ w.heap.size + 1 + 1 + 1 ≤ w'.heap.size ∧ Below w.heap.size w w') (first | (exact keepC (by assumption) (by assumption)) | (exact keepD (by assumption)) | (exact keepE (by dsimp only; omega) (by dsimp only; omega) (by assumption)) | (exact keepE (by dsimp only; omega) (by dsimp only; omega) (keepE (by dsimp only; omega) (by dsimp only; omega) (by assumption))) | (exact ⟨fun _ _ _ => rfl, fun _ _ _ => rfl, by omega, by simp, Below.drew (by assumption)⟩))
      (first
        | (go_at_call_of 21 (Value.agg #[Value.int IntKind.i64 p, Value.slice a n c]); refine (sign_any _ _ _).mono ?_; rintro e w4 ⟨rfl, hb4⟩)
        | (go_at_call_of 21 (Value.agg #[Value.int IntKind.i64 q, Value.slice a' n' c']); refine (sign_any _ _ _).mono ?_; rintro e w5 ⟨rfl, hb5⟩; have hSX := keepC hb5 (by assumption)))
    have hX1 := (hL13.below ((Below.refl _ _).drew.trans hb4)).below hb5
    have hX2 := (hL2.below ((Below.refl _ _).drew.trans hb4)).below hb5
    have hz1 : za ≠ 0 := fun h => hnz ⟨h, by have := Hsg.out; rw [h] at this; exact Int.sign_eq_zero_iff_zero.1 this.symm⟩
    have hz2 : zb ≠ 0 := fun h => hz1 (by have := Hsg.out; rw [h] at this; exact Int.sign_eq_zero_iff_zero.1 this)
    have nl1 : l1 ≠ [] := lv_pos_ne (by rw [Hv1.out]; omega)
    have nl2 : l2 ≠ [] := lv_pos_ne (by rw [Hv2.out]; omega)
    have hval : Hid (sgn3 p 0 * ((za.natAbs : Int) + zb.natAbs) = za + zb) := by unfold Hid; rw [hNa.sign]; exact sum_same Hsg.out
    go_wp2_with fail
    refine (sign_any p _ _).mono ?_
    rintro e w6 ⟨rfl, hb6⟩
    have hS6 := keepC hb6 hSX
    have hM1 := hX1.below hb6
    have hM2 := hX2.below hb6
    go_wp2_with fail
    refine (plusL_any x1 x2 _ q1 _ q2 l1 l2 _ hM1 hM2 rfl rfl ll1 ll2 nl1 nl2 (by omega) (by omega)).mono ?_
    rintro e w7 ⟨x9, k9, q9, S9, rfl, hL9, hk9, ll9, lt9, hv9, hb7⟩
    have Hv9 := hide hv9
    clear hv9
    have hS7 := keepC hb7 hS6
    go_wp2_with fail
    refine (fromSize_any (sgn3 p 0) x9 _ q9 S9 _ hL9 rfl ll9 lt9 (by rw [hNa.sign]; rcases sign_pm hz1 with h | h; exact .inl h; exact .inr (.inl h))).mono ?_
    rintro e w8 ⟨r, x, k, d, rfl, hN8, hb8⟩
    have hS8 := keepC hb8 hS7
    rw [Hv9.out, Hv1.out, Hv2.out, hval.out] at hN8
    obtain ⟨g0, g1, gf⟩ := box3 hS8
    have hN9 := NumP_store hN8 g0 g1 r (.slice x k d)
    have hbel9 := ((S_bel hS8).setCell (p := ⟨w.heap.size + 1 + 1, 0, none⟩) (by dsimp only; omega) (.int .i64 r)).setCell (p := ⟨w.heap.size + 1 + 1, 1, none⟩) (by dsimp only; omega) (.slice x k d)
    go_wp2_with fail
    exact bodyPost_ret (v := .agg #[.int .i64 r, .slice x k d]) (by simp [results, Tryd.results22, go_sem, g0, g1]) rfl ⟨r, x, k, d, rfl, hN9, hbel9⟩
  · have hsb : (sgn3 p 0 == sgn3 q 0) = false := by rw [hNa.sign, hNb.sign]; simp [hsg]
    have Hsg := hide hsg
    clear hsg
    go_wp2_with fail
    go_region_held3 (fun w' => (∀ b' o', b' < w.heap.size + 1 + 1 + 1 → w'.cell? ⟨b', o', none⟩ = (((w.alloc (.cells #[.int .i64 p, .slice a n c] 36)).alloc (.cells #[.int .i64 q, .slice a' n' c'] 36)).alloc (.cells #[.int .i64 0, .slice none 0 0] 36)).cell? ⟨b', o', none⟩) ∧ (∀ b' o', b' < w.heap.size + 1 + 1 + 1 → w'.frozen? ⟨b', o', none⟩ = (((w.alloc (.cells #[.int .i64 p, .slice a n c] 36)).alloc (.cells #[.int .i64 q, .slice a' n' c'] 36)).alloc (.cells #[.int .i64 0, .slice none 0 0] 36)).frozen? ⟨b', o', none⟩) ∧ w.heap.size + 1 + 1 + 1 ≤ w.heap.size + 1 + 1 + 1 ∧ w.heap.size + 1 + 1 + 1 ≤ w'.heap.size ∧ Below w.heap.size w w') (first | (exact keepC (by assumption) (by assumption)) | (exact keepD (by assumption)) | (exact keepE (by dsimp only; omega) (by dsimp only; omega) (by assumption)) | (exact keepE (by dsimp only; omega) (by dsimp only; omega) (keepE (by dsimp only; omega) (by dsimp only; omega) (by assumption))) | (exact ⟨fun _ _ _ => rfl, fun _ _ _ => rfl, by omega, by simp, Below.drew (by assumption)⟩))
      (first
        | (go_at_call_of 21 (Value.agg #[Value.int IntKind.i64 p, Value.slice a n c]); refine (sign_any _ _ _).mono ?_; rintro e w4 ⟨rfl, hb4⟩)
        | (go_at_call_of 21 (Value.agg #[Value.int IntKind.i64 q, Value.slice a' n' c']); refine (sign_any _ _ _).mono ?_; rintro e w5 ⟨rfl, hb5⟩; have hSX5 := keepC hb5 (by assumption)))
    have hX15 := (hL13.below ((Below.refl _ _).drew.trans hb4)).below hb5
    have hX25 := (hL2.below ((Below.refl _ _).drew.trans hb4)).below hb5
    go_wp2_with fail
    refine (compare_any x1 x2 _ q1 _ q2 l1 l2 _ hX15 hX25 rfl rfl ll1 ll2 lt1 lt2 (by omega)).mono ?_
    rintro e w55 ⟨rfl, hb55⟩
    have hSX := keepC hb55 hSX5
    have hX1 := hX15.below hb55
    have hX2 := hX25.below hb55
    by_cases hge : lv l2 ≤ lv l1
    · have hc1 : 0 ≤ sgn3 (lv l1) (lv l2) := by unfold sgn3; rw [if_neg (by omega)]; split <;> omega
      have hz1 : za ≠ 0 := fun h => hnz ⟨h, by rw [Hv1.out, Hv2.out, h] at hge; omega⟩
      have nl1 : l1 ≠ [] := lv_pos_ne (by rw [Hv1.out]; omega)
      have hval : Hid (sgn3 p 0 * ((za.natAbs : Int) - zb.natAbs) = za + zb) := by unfold Hid; rw [hNa.sign]; exact (sum_other Hsg.out).resolve_right hz1
      have HGE := hide hge
      clear hge
      go_wp2_with fail
      refine (sign_any p _ _).mono ?_
      rintro e w6 ⟨rfl, hb6⟩
      have hS6 := keepC hb6 hSX
      have hM1 := hX1.below hb6
      have hM2 := hX2.below hb6
      go_wp2_with fail
      refine (minusL_any x1 x2 _ q1 _ q2 l1 l2 _ hM1 hM2 rfl rfl ll1 ll2 lt2 nl1 HGE.out (by omega)).mono ?_
      rintro e w7 ⟨x9, k9, q9, S9, rfl, hL9, hk9, ll9, lt9, hv9, hb7⟩
      have Hv9 := hide hv9
      clear hv9
      have hS7 := keepC hb7 hS6
      go_wp2_with fail
      refine (fromSize_any (sgn3 p 0) x9 _ q9 S9 _ hL9 rfl ll9 lt9 (by rw [hNa.sign]; rcases sign_pm hz1 with h | h; exact .inl h; exact .inr (.inl h))).mono ?_
      rintro e w8 ⟨r, x, k, d, rfl, hN8, hb8⟩
      have hS8 := keepC hb8 hS7
      rw [Hv9.out, Hv1.out, Hv2.out, hval.out] at hN8
      obtain ⟨g0, g1, gf⟩ := box3 hS8
      have hN9 := NumP_store hN8 g0 g1 r (.slice x k d)
      have hbel9 := ((S_bel hS8).setCell (p := ⟨w.heap.size + 1 + 1, 0, none⟩) (by dsimp only; omega) (.int .i64 r)).setCell (p := ⟨w.heap.size + 1 + 1, 1, none⟩) (by dsimp only; omega) (.slice x k d)
      go_wp2_with fail
      exact bodyPost_ret (v := .agg #[.int .i64 r, .slice x k d]) (by simp [results, Tryd.results22, go_sem, g0, g1]) rfl ⟨r, x, k, d, rfl, hN9, hbel9⟩
    · have hc1 : sgn3 (lv l1) (lv l2) < 0 := by rw [sgn3_lt (by omega)]; omega
      have hz1 : zb ≠ 0 := fun h => by rw [Hv1.out, Hv2.out, h] at hge; omega
      have nl1 : l2 ≠ [] := lv_pos_ne (by rw [Hv2.out]; omega)
      have hval : Hid (sgn3 q 0 * ((zb.natAbs : Int) - za.natAbs) = za + zb) := by unfold Hid; rw [hNb.sign, Int.add_comm]; exact (sum_other (fun h => Hsg.out h.symm)).resolve_right hz1
      have HGE : Hid (lv l1 ≤ lv l2) := by unfold Hid; omega
      clear hge
      go_wp2_with fail
      refine (sign_any q _ _).mono ?_
      rintro e w6 ⟨rfl, hb6⟩
      have hS6 := keepC hb6 hSX
      have hM1 := hX1.below hb6
      have hM2 := hX2.below hb6
      go_wp2_with fail
      refine (minusL_any x2 x1 _ q2 _ q1 l2 l1 _ hM2 hM1 rfl rfl ll2 ll1 lt1 nl1 HGE.out (by omega)).mono ?_
      rintro e w7 ⟨x9, k9, q9, S9, rfl, hL9, hk9, ll9, lt9, hv9, hb7⟩
      have Hv9 := hide hv9
      clear hv9
      have hS7 := keepC hb7 hS6
      go_wp2_with fail
      refine (fromSize_any (sgn3 q 0) x9 _ q9 S9 _ hL9 rfl ll9 lt9 (by rw [hNb.sign]; rcases sign_pm hz1 with h | h; exact .inl h; exact .inr (.inl h))).mono ?_
      rintro e w8 ⟨r, x, k, d, rfl, hN8, hb8⟩
      have hS8 := keepC hb8 hS7
      rw [Hv9.out, Hv2.out, Hv1.out, hval.out] at hN8
      obtain ⟨g0, g1, gf⟩ := box3 hS8
      have hN9 := NumP_store hN8 g0 g1 r (.slice x k d)
      have hbel9 := ((S_bel hS8).setCell (p := ⟨w.heap.size + 1 + 1, 0, none⟩) (by dsimp only; omega) (.int .i64 r)).setCell (p := ⟨w.heap.size + 1 + 1, 1, none⟩) (by dsimp only; omega) (.slice x k d)
      go_wp2_with fail
      exact bodyPost_ret (v := .agg #[.int .i64 r, .slice x k d]) (by simp [results, Tryd.results22, go_sem, g0, g1]) rfl ⟨r, x, k, d, rfl, hN9, hbel9⟩

set_option maxHeartbeats 4000000 in
theorem plusN_over (p : Int) (a : Option Addr) (n c : Nat) (za : Int) (q : Int) (a' : Option Addr) (n' c' : Nat) (zb : Int) (w : World) (hNa : NumP w p a n c za) (hNb : NumP w q a' n' c' zb) (hn : ((n : Int) == 0) = true) (hn' : ((n' : Int) == 0) = true) (hdec : (decide (p < wrap64 (p + q)) == decide (0 < q)) = false) (sa : Sm za) (sb : Sm zb) (hnz : ¬ (za = 0 ∧ zb = 0)) :
    Calls Tryd.prog 22 #[.agg #[.int .i64 p, .slice a n c], .agg #[.int .i64 q, .slice a' n' c']] w fun e w' => ∃ r x k d, e = .returned (.agg #[.int .i64 r, .slice x k d]) ∧ NumP w' r x k d (za + zb) ∧ Below w.heap.size w w' := by
  have hB0 : Below w.heap.size w (((w.alloc (.cells #[.int .i64 p, .slice a n c] 36)).alloc (.cells #[.int .i64 q, .slice a' n' c'] 36)).alloc (.cells #[.int .i64 0, .slice none 0 0] 36)) :=
    (((Below.refl _ _).alloc (Nat.le_refl _) _).alloc (by simp) _).alloc (by simp; omega) _
  go_enter Tryd.func22, Tryd.ntmps22
  go_wp2_with fail
  refine (isNear_zero p a n c _ hn).mono ?_
  rintro e w1 ⟨rfl, hb1⟩
  have hSm := keepC (W0 := ((w.alloc (.cells #[.int .i64 p, .slice a n c] 36)).alloc (.cells #[.int .i64 q, .slice a' n' c'] 36)).alloc (.cells #[.int .i64 0, .slice none 0 0] 36)) (C := w.heap.size + 1 + 1 + 1) (B := w.heap.size + 1 + 1 + 1) hb1 ⟨fun _ _ _ => rfl, fun _ _ _ => rfl, by omega, by simp, hB0⟩
  go_wp2_with fail
  refine (isNear_zero q a' n' c' _ hn').mono ?_
  rintro e w11 ⟨rfl, hb11⟩
  have hSn := keepC hb11 hSm
  clear hSm hb11 hb1
  go_wp2_with fail
  go_region_held3 (fun w' => (∀ b' o', b' < w.heap.size + 1 + 1 + 1 → w'.cell? ⟨b', o', none⟩ = (((w.alloc (.cells #[.int .i64 p, .slice a n c] 36)).alloc (.cells #[.int .i64 q, .slice a' n' c'] 36)).alloc (.cells #[.int .i64 0, .slice none 0 0] 36)).cell? ⟨b', o', none⟩) ∧ (∀ b' o', b' < w.heap.size + 1 + 1 + 1 → w'.frozen? ⟨b', o', none⟩ = (((w.alloc (.cells #[.int .i64 p, .slice a n c] 36)).alloc (.cells #[.int .i64 q, .slice a' n' c'] 36)).alloc (.cells #[.int .i64 0, .slice none 0 0] 36)).frozen? ⟨b', o', none⟩) ∧ w.heap.size + 1 + 1 + 1 ≤ w.heap.size + 1 + 1 + 1 ∧ w.heap.size + 1 + 1 + 1 ≤ w'.heap.size ∧ Below w.heap.size w w') (first | (exact keepC (by assumption) (by assumption)) | (exact keepD (by assumption)) | (exact keepE (by dsimp only; omega) (by dsimp only; omega) (by assumption)) | (exact keepE (by dsimp only; omega) (by dsimp only; omega) (keepE (by dsimp only; omega) (by dsimp only; omega) (by assumption))) | (exact ⟨fun _ _ _ => rfl, fun _ _ _ => rfl, by omega, by simp, Below.drew (by assumption)⟩))
    (first
      | (go_at_call_of 34 (Value.agg #[Value.int IntKind.i64 p, Value.slice a n c]); refine (size_any p a n c za _ (hNa.below (S_bel (by assumption)))).mono ?_; rintro e w2 ⟨x1, k1, q1, l1, rfl, hL1, hk1, ll1, lt1, hv1, hb2⟩)
      | (go_at_call_of 34 (Value.agg #[Value.int IntKind.i64 q, Value.slice a' n' c']); refine (size_any q a' n' c' zb _ (hNb.below (S_bel (by assumption)))).mono ?_; rintro e w3 ⟨x2, k2, q2, l2, rfl, hL2, hk2, ll2, lt2, hv2, hb3⟩; have hS3 := keepC hb3 (by assumption)))
  subst hk1
  subst hk2
  have hL13 := hL1.below hb3
  have hlen1 := small_len ll1 lt1 hv1 sa
  have hlen2 := small_len ll2 lt2 hv2 sb
  have Hv1 := hide hv1
  have Hv2 := hide hv2
  clear hL1 hb2 hb3 hv1 hv2
  by_cases hsg : za.sign = zb.sign
  · have hsb : (sgn3 p 0 == sgn3 q 0) = true := by rw [hNa.sign, hNb.sign, hsg]; simp
    have Hsg := hide hsg
    clear hsg
    go_wp2_with fail
    go_region_held3 (fun w' => (∀ b' o', b' < w.heap.size + 1 + 1 + 1 → w'.cell? ⟨b', o', none⟩ = (((w.alloc (.cells #[.int .i64 p, .slice a n c] 36)).alloc (.cells #[.int .i64 q, .slice a' n' c'] 36)).alloc (.cells #[.int .i64 0, .slice none 0 0] 36)).cell? ⟨b', o', none⟩) ∧ (∀ b' o', b' < w.heap.size + 1 + 1 + 1 → w'.frozen? ⟨b', o', none⟩ = (((w.alloc (.cells #[.int .i64 p, .slice a n c] 36)).alloc (.cells #[.int .i64 q, .slice a' n' c'] 36)).alloc (.cells #[.int .i64 0, .slice none 0 0] 36)).frozen? ⟨b', o', none⟩) ∧ w.heap.size + 1 + 1 + 1 ≤ w.heap.size + 1 + 1 + 1 ∧ w.heap.size + 1 + 1 + 1 ≤ w'.heap.size ∧ Below w.heap.size w w') (first | (exact keepC (by assumption) (by assumption)) | (exact keepD (by assumption)) | (exact keepE (by dsimp only; omega) (by dsimp only; omega) (by assumption)) | (exact keepE (by dsimp only; omega) (by dsimp only; omega) (keepE (by dsimp only; omega) (by dsimp only; omega) (by assumption))) | (exact ⟨fun _ _ _ => rfl, fun _ _ _ => rfl, by omega, by simp, Below.drew (by assumption)⟩))
      (first
        | (go_at_call_of 21 (Value.agg #[Value.int IntKind.i64 p, Value.slice a n c]); refine (sign_any _ _ _).mono ?_; rintro e w4 ⟨rfl, hb4⟩)
        | (go_at_call_of 21 (Value.agg #[Value.int IntKind.i64 q, Value.slice a' n' c']); refine (sign_any _ _ _).mono ?_; rintro e w5 ⟨rfl, hb5⟩; have hSX := keepC hb5 (by assumption)))
    have hX1 := (hL13.below ((Below.refl _ _).drew.trans hb4)).below hb5
    have hX2 := (hL2.below ((Below.refl _ _).drew.trans hb4)).below hb5
    have hz1 : za ≠ 0 := fun h => hnz ⟨h, by have := Hsg.out; rw [h] at this; exact Int.sign_eq_zero_iff_zero.1 this.symm⟩
    have hz2 : zb ≠ 0 := fun h => hz1 (by have := Hsg.out; rw [h] at this; exact Int.sign_eq_zero_iff_zero.1 this)
    have nl1 : l1 ≠ [] := lv_pos_ne (by rw [Hv1.out]; omega)
    have nl2 : l2 ≠ [] := lv_pos_ne (by rw [Hv2.out]; omega)
    have hval : Hid (sgn3 p 0 * ((za.natAbs : Int) + zb.natAbs) = za + zb) := by unfold Hid; rw [hNa.sign]; exact sum_same Hsg.out
    go_wp2_with fail
    refine (sign_any p _ _).mono ?_
    rintro e w6 ⟨rfl, hb6⟩
    have hS6 := keepC hb6 hSX
    have hM1 := hX1.below hb6
    have hM2 := hX2.below hb6
    go_wp2_with fail
    refine (plusL_any x1 x2 _ q1 _ q2 l1 l2 _ hM1 hM2 rfl rfl ll1 ll2 nl1 nl2 (by omega) (by omega)).mono ?_
    rintro e w7 ⟨x9, k9, q9, S9, rfl, hL9, hk9, ll9, lt9, hv9, hb7⟩
    have Hv9 := hide hv9
    clear hv9
    have hS7 := keepC hb7 hS6
    go_wp2_with fail
    refine (fromSize_any (sgn3 p 0) x9 _ q9 S9 _ hL9 rfl ll9 lt9 (by rw [hNa.sign]; rcases sign_pm hz1 with h | h; exact .inl h; exact .inr (.inl h))).mono ?_
    rintro e w8 ⟨r, x, k, d, rfl, hN8, hb8⟩
    have hS8 := keepC hb8 hS7
    rw [Hv9.out, Hv1.out, Hv2.out, hval.out] at hN8
    obtain ⟨g0, g1, gf⟩ := box3 hS8
    have hN9 := NumP_store hN8 g0 g1 r (.slice x k d)
    have hbel9 := ((S_bel hS8).setCell (p := ⟨w.heap.size + 1 + 1, 0, none⟩) (by dsimp only; omega) (.int .i64 r)).setCell (p := ⟨w.heap.size + 1 + 1, 1, none⟩) (by dsimp only; omega) (.slice x k d)
    go_wp2_with fail
    exact bodyPost_ret (v := .agg #[.int .i64 r, .slice x k d]) (by simp [results, Tryd.results22, go_sem, g0, g1]) rfl ⟨r, x, k, d, rfl, hN9, hbel9⟩
  · have hsb : (sgn3 p 0 == sgn3 q 0) = false := by rw [hNa.sign, hNb.sign]; simp [hsg]
    have Hsg := hide hsg
    clear hsg
    go_wp2_with fail
    go_region_held3 (fun w' => (∀ b' o', b' < w.heap.size + 1 + 1 + 1 → w'.cell? ⟨b', o', none⟩ = (((w.alloc (.cells #[.int .i64 p, .slice a n c] 36)).alloc (.cells #[.int .i64 q, .slice a' n' c'] 36)).alloc (.cells #[.int .i64 0, .slice none 0 0] 36)).cell? ⟨b', o', none⟩) ∧ (∀ b' o', b' < w.heap.size + 1 + 1 + 1 → w'.frozen? ⟨b', o', none⟩ = (((w.alloc (.cells #[.int .i64 p, .slice a n c] 36)).alloc (.cells #[.int .i64 q, .slice a' n' c'] 36)).alloc (.cells #[.int .i64 0, .slice none 0 0] 36)).frozen? ⟨b', o', none⟩) ∧ w.heap.size + 1 + 1 + 1 ≤ w.heap.size + 1 + 1 + 1 ∧ w.heap.size + 1 + 1 + 1 ≤ w'.heap.size ∧ Below w.heap.size w w') (first | (exact keepC (by assumption) (by assumption)) | (exact keepD (by assumption)) | (exact keepE (by dsimp only; omega) (by dsimp only; omega) (by assumption)) | (exact keepE (by dsimp only; omega) (by dsimp only; omega) (keepE (by dsimp only; omega) (by dsimp only; omega) (by assumption))) | (exact ⟨fun _ _ _ => rfl, fun _ _ _ => rfl, by omega, by simp, Below.drew (by assumption)⟩))
      (first
        | (go_at_call_of 21 (Value.agg #[Value.int IntKind.i64 p, Value.slice a n c]); refine (sign_any _ _ _).mono ?_; rintro e w4 ⟨rfl, hb4⟩)
        | (go_at_call_of 21 (Value.agg #[Value.int IntKind.i64 q, Value.slice a' n' c']); refine (sign_any _ _ _).mono ?_; rintro e w5 ⟨rfl, hb5⟩; have hSX5 := keepC hb5 (by assumption)))
    have hX15 := (hL13.below ((Below.refl _ _).drew.trans hb4)).below hb5
    have hX25 := (hL2.below ((Below.refl _ _).drew.trans hb4)).below hb5
    go_wp2_with fail
    refine (compare_any x1 x2 _ q1 _ q2 l1 l2 _ hX15 hX25 rfl rfl ll1 ll2 lt1 lt2 (by omega)).mono ?_
    rintro e w55 ⟨rfl, hb55⟩
    have hSX := keepC hb55 hSX5
    have hX1 := hX15.below hb55
    have hX2 := hX25.below hb55
    by_cases hge : lv l2 ≤ lv l1
    · have hc1 : 0 ≤ sgn3 (lv l1) (lv l2) := by unfold sgn3; rw [if_neg (by omega)]; split <;> omega
      have hz1 : za ≠ 0 := fun h => hnz ⟨h, by rw [Hv1.out, Hv2.out, h] at hge; omega⟩
      have nl1 : l1 ≠ [] := lv_pos_ne (by rw [Hv1.out]; omega)
      have hval : Hid (sgn3 p 0 * ((za.natAbs : Int) - zb.natAbs) = za + zb) := by unfold Hid; rw [hNa.sign]; exact (sum_other Hsg.out).resolve_right hz1
      have HGE := hide hge
      clear hge
      go_wp2_with fail
      refine (sign_any p _ _).mono ?_
      rintro e w6 ⟨rfl, hb6⟩
      have hS6 := keepC hb6 hSX
      have hM1 := hX1.below hb6
      have hM2 := hX2.below hb6
      go_wp2_with fail
      refine (minusL_any x1 x2 _ q1 _ q2 l1 l2 _ hM1 hM2 rfl rfl ll1 ll2 lt2 nl1 HGE.out (by omega)).mono ?_
      rintro e w7 ⟨x9, k9, q9, S9, rfl, hL9, hk9, ll9, lt9, hv9, hb7⟩
      have Hv9 := hide hv9
      clear hv9
      have hS7 := keepC hb7 hS6
      go_wp2_with fail
      refine (fromSize_any (sgn3 p 0) x9 _ q9 S9 _ hL9 rfl ll9 lt9 (by rw [hNa.sign]; rcases sign_pm hz1 with h | h; exact .inl h; exact .inr (.inl h))).mono ?_
      rintro e w8 ⟨r, x, k, d, rfl, hN8, hb8⟩
      have hS8 := keepC hb8 hS7
      rw [Hv9.out, Hv1.out, Hv2.out, hval.out] at hN8
      obtain ⟨g0, g1, gf⟩ := box3 hS8
      have hN9 := NumP_store hN8 g0 g1 r (.slice x k d)
      have hbel9 := ((S_bel hS8).setCell (p := ⟨w.heap.size + 1 + 1, 0, none⟩) (by dsimp only; omega) (.int .i64 r)).setCell (p := ⟨w.heap.size + 1 + 1, 1, none⟩) (by dsimp only; omega) (.slice x k d)
      go_wp2_with fail
      exact bodyPost_ret (v := .agg #[.int .i64 r, .slice x k d]) (by simp [results, Tryd.results22, go_sem, g0, g1]) rfl ⟨r, x, k, d, rfl, hN9, hbel9⟩
    · have hc1 : sgn3 (lv l1) (lv l2) < 0 := by rw [sgn3_lt (by omega)]; omega
      have hz1 : zb ≠ 0 := fun h => by rw [Hv1.out, Hv2.out, h] at hge; omega
      have nl1 : l2 ≠ [] := lv_pos_ne (by rw [Hv2.out]; omega)
      have hval : Hid (sgn3 q 0 * ((zb.natAbs : Int) - za.natAbs) = za + zb) := by unfold Hid; rw [hNb.sign, Int.add_comm]; exact (sum_other (fun h => Hsg.out h.symm)).resolve_right hz1
      have HGE : Hid (lv l1 ≤ lv l2) := by unfold Hid; omega
      clear hge
      go_wp2_with fail
      refine (sign_any q _ _).mono ?_
      rintro e w6 ⟨rfl, hb6⟩
      have hS6 := keepC hb6 hSX
      have hM1 := hX1.below hb6
      have hM2 := hX2.below hb6
      go_wp2_with fail
      refine (minusL_any x2 x1 _ q2 _ q1 l2 l1 _ hM2 hM1 rfl rfl ll2 ll1 lt1 nl1 HGE.out (by omega)).mono ?_
      rintro e w7 ⟨x9, k9, q9, S9, rfl, hL9, hk9, ll9, lt9, hv9, hb7⟩
      have Hv9 := hide hv9
      clear hv9
      have hS7 := keepC hb7 hS6
      go_wp2_with fail
      refine (fromSize_any (sgn3 q 0) x9 _ q9 S9 _ hL9 rfl ll9 lt9 (by rw [hNb.sign]; rcases sign_pm hz1 with h | h; exact .inl h; exact .inr (.inl h))).mono ?_
      rintro e w8 ⟨r, x, k, d, rfl, hN8, hb8⟩
      have hS8 := keepC hb8 hS7
      rw [Hv9.out, Hv2.out, Hv1.out, hval.out] at hN8
      obtain ⟨g0, g1, gf⟩ := box3 hS8
      have hN9 := NumP_store hN8 g0 g1 r (.slice x k d)
      have hbel9 := ((S_bel hS8).setCell (p := ⟨w.heap.size + 1 + 1, 0, none⟩) (by dsimp only; omega) (.int .i64 r)).setCell (p := ⟨w.heap.size + 1 + 1, 1, none⟩) (by dsimp only; omega) (.slice x k d)
      go_wp2_with fail
      exact bodyPost_ret (v := .agg #[.int .i64 r, .slice x k d]) (by simp [results, Tryd.results22, go_sem, g0, g1]) rfl ⟨r, x, k, d, rfl, hN9, hbel9⟩

/-- The sum of two numbers of any size. -/
theorem plusN_any (p : Int) (a : Option Addr) (n c : Nat) (za : Int) (q : Int) (a' : Option Addr) (n' c' : Nat) (zb : Int) (w : World) (hNa : NumP w p a n c za) (hNb : NumP w q a' n' c' zb) (sa : Sm za) (sb : Sm zb) :
    Calls Tryd.prog 22 #[.agg #[.int .i64 p, .slice a n c], .agg #[.int .i64 q, .slice a' n' c']] w fun e w' => ∃ r x k d, e = .returned (.agg #[.int .i64 r, .slice x k d]) ∧ NumP w' r x k d (za + zb) ∧ Below w.heap.size w w' := by
  rcases Nat.eq_zero_or_pos n with hn | hn
  · rcases Nat.eq_zero_or_pos n' with hn' | hn'
    · have ha : a = none ∧ c = 0 ∧ p = za ∧ -9223372036854775808 ≤ za ∧ za ≤ 9223372036854775807 := by
        rcases hNa with h | ⟨_, _, _, h, _⟩
        · exact h.2
        · omega
      have hb : a' = none ∧ c' = 0 ∧ q = zb ∧ -9223372036854775808 ≤ zb ∧ zb ≤ 9223372036854775807 := by
        rcases hNb with h | ⟨_, _, _, h, _⟩
        · exact h.2
        · omega
      obtain ⟨ha1, ha2, ha3, ha4, ha5⟩ := ha
      obtain ⟨hb1, hb2, hb3, hb4, hb5⟩ := hb
      by_cases hr : -9223372036854775808 ≤ za + zb ∧ za + zb ≤ 9223372036854775807
      · subst hn hn' ha1 ha2 ha3 hb1 hb2 hb3
        refine (plusN_near p q w hr.1 hr.2).mono ?_
        rintro e w' ⟨rfl, hb⟩
        exact ⟨_, _, _, _, rfl, NumP_near _ hr.1 hr.2, hb⟩
      · exact plusN_over p a n c za q a' n' c' zb w hNa hNb (by simp; omega) (by simp; omega) (by rw [ha3, hb3]; exact wraps ha4 ha5 hb4 hb5 (by omega)) sa sb (by omega)
    · exact plusN_nf p a n c za q a' n' c' zb w hNa hNb (by simp; omega) hn' sa sb (fun h => by
        rcases hNb with h' | ⟨_, _, _, _, _, _, _, _, h'⟩
        · omega
        · omega)
  · exact plusN_far p a n c za q a' n' c' zb w hNa hNb hn sa sb (fun h => by
      rcases hNa with h' | ⟨_, _, _, _, _, _, _, _, h'⟩
      · omega
      · omega)

end Go.Proofs.YtmeaemjdmjhmdaaDoor
