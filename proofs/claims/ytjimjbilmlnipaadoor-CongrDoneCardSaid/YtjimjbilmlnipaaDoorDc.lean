/- The program's congruences: numbers, the first error of two, the least congruence. -/
import Derived.Test.YtjimjbilmlnipaaDoorDb
namespace Go.Proofs.YtjimjbilmlnipaaDoor
open Go.RowKit
set_option linter.unusedVariables false

set_option maxHeartbeats 1000000 in
theorem chas_any (r m n : Int) (w : World) (hm : 0 ≤ m ∧ m ≤ 1048576) (hn : (-9223372036854775808 ≤ n ∧ n ≤ 9223372036854775807)) :
    Calls Tryd.prog 35 #[(.agg #[.int .i64 r, .int .i64 m]), .int .i64 n] w fun e w' => e = .returned (.bool (decide (restI n m = r))) ∧ Below w.heap.size w w' := by
  obtain ⟨z, hz⟩ : ∃ z, z = restI n m := ⟨_, rfl⟩
  have HC : Hid (∀ W : World, Calls Tryd.prog 34 #[.int .i64 n, .int .i64 m] W fun e w' => e = .returned (.int .i64 z) ∧ w' = W) := fun W => rest_as n m z hz W (by omega) (by omega)
  rw [← hz]
  clear hz
  go_enter Tryd.func35, Tryd.ntmps35
  go_wp2_with fail
  go_quiet (first | (go_at_call 34; exact Calls.quiet_of_same (HC.out _)))
  go_wp2_with fail
  go_ret
  exact ⟨ret_bool (by rw [Bool.eq_iff_iff]; simp), by (repeat' (first | exact s5.bel | exact s4.bel | exact s3.bel | exact s2.bel | exact s1.bel | refine Below.setCell ?_ (by dsimp only; omega) _ | refine Below.alloc ?_ (by first | (simp; done) | (simp; omega)) _ | refine Below.drew ?_ | refine Below.drewN' ?_ _ | exact Below.refl _ _))⟩

theorem chas_as (r m n : Int) (f : Bool) (hf : Hid (f = decide (restI n m = r))) (w : World) (hm : 0 ≤ m ∧ m ≤ 1048576) (hn : (-9223372036854775808 ≤ n ∧ n ≤ 9223372036854775807)) :
    Calls Tryd.prog 35 #[(.agg #[.int .i64 r, .int .i64 m]), .int .i64 n] w fun e w' => e = .returned (.bool f) ∧ Below w.heap.size w w' := by
  rw [hf.out]; exact chas_any r m n w hm hn

set_option maxHeartbeats 2000000 in
theorem chas_is (a : Nat → Addr) : CHasC a := by
  intro r m n w hS hR hn
  obtain ⟨x, hx⟩ : ∃ x, x = cgErr r m := ⟨_, rfl⟩
  have HV : Hid (∀ W : World, ErrS W a → Calls Tryd.prog 13 #[(.agg #[.int .i64 r, .int .i64 m])] W fun e w' => e = .returned (errV a x) ∧ Below W.heap.size W w') := fun W h => by rw [hx]; exact cvalid_any r m a W h hR.1 hR.2
  rw [← hx]
  by_cases h0 : x = 0
  · have hok : okC ⟨r, m⟩ := (okC_iff ⟨r, m⟩).1 (by show cgErr r m = 0; rw [← hx]; exact h0)
    have hmr := hok.1
    have hmr2 := hok.2.1
    dsimp only at hmr hmr2
    obtain ⟨f, hf⟩ : ∃ f, f = decide (restI n m = r) := ⟨_, rfl⟩
    have HC : Hid (∀ W : World, Calls Tryd.prog 35 #[(.agg #[.int .i64 r, .int .i64 m]), .int .i64 n] W fun e w' => e = .returned (.bool f) ∧ Below W.heap.size W w') := fun W => chas_as r m n f hf W ⟨hmr, hmr2⟩ hn
    have hfi : f = inCB ⟨r, m⟩ n := by rw [hf]; exact inCB_rest hok n
    rw [← hfi]
    clear hx hf hfi hok
    subst h0
    go_enter Tryd.func15, Tryd.ntmps15
    go_wp2_with fail
    have s0 := (St.startE hS).box2 31 (.int .i64 r) (.int .i64 m)
    refine (HV.out _ s0.errz).mono ?_
    (rintro e1 w1 ⟨rfl, hb⟩; have s1 := s0.call hb; have q1 := s1.hold; simp only [Holds, and_true] at q1; clear hb; try clear q0)
    rw [cerrV_zero]
    go_wp2_with fail
    refine (HC.out _).mono ?_
    (rintro e1 w2 ⟨rfl, hb⟩; have s2 := s1.call hb; have q2 := s2.hold; simp only [Holds, and_true] at q2; clear hb; try clear q1)
    go_wp2_with fail
    go_ret
    exact ⟨ret_bool (by simp), s2.bel⟩
  · clear hx
    go_enter Tryd.func15, Tryd.ntmps15
    go_wp2_with fail
    have s0 := (St.startE hS).box2 31 (.int .i64 r) (.int .i64 m)
    refine (HV.out _ s0.errz).mono ?_
    (rintro e1 w1 ⟨rfl, hb⟩; have s1 := s0.call hb; have q1 := s1.hold; simp only [Holds, and_true] at q1; clear hb; try clear q0)
    rw [cerrV_some h0]
    go_wp2_with fail
    go_ret
    exact ⟨ret_bool (by rw [decide_eq_false h0]; rfl), s1.bel⟩

/-- Two congruences in a slice. -/
def TwoAt (w : World) (b : Nat) (r m r' m' : Int) : Prop := Holds w [(b, 0, .int .i64 r), (b, 1, .int .i64 m), (b, 2, .int .i64 r'), (b, 3, .int .i64 m')]

set_option maxRecDepth 20000 in
set_option maxHeartbeats 4000000 in
theorem firstError_any (b : Nat) (r m r' m' : Int) (a : Nat → Addr) (w : World) (hS : ErrS w a) (hT : TwoAt w b r m r' m') (hr : (-9223372036854775808 ≤ r ∧ r ≤ 9223372036854775807) ∧ (-9223372036854775808 ≤ m ∧ m ≤ 9223372036854775807)) (hr' : (-9223372036854775808 ≤ r' ∧ r' ≤ 9223372036854775807) ∧ (-9223372036854775808 ≤ m' ∧ m' ≤ 9223372036854775807)) :
    Calls Tryd.prog 36 #[.slice (some ⟨b, 0, none⟩) 2 2] w fun e w' => e = .returned (errV a (twoC ⟨r, m⟩ ⟨r', m'⟩)) ∧ Below w.heap.size w w' := by
  obtain ⟨x, hx⟩ : ∃ x, x = cgErr r m := ⟨_, rfl⟩
  obtain ⟨y, hy⟩ : ∃ y, y = cgErr r' m' := ⟨_, rfl⟩
  have HV : Hid (∀ W : World, ErrS W a → Calls Tryd.prog 13 #[(.agg #[.int .i64 r, .int .i64 m])] W fun e w' => e = .returned (errV a x) ∧ Below W.heap.size W w') := fun W h => by rw [hx]; exact cvalid_any r m a W h hr.1 hr.2
  have HW : Hid (∀ W : World, ErrS W a → Calls Tryd.prog 13 #[(.agg #[.int .i64 r', .int .i64 m'])] W fun e w' => e = .returned (errV a y) ∧ Below W.heap.size W w') := fun W h => by rw [hy]; exact cvalid_any r' m' a W h hr'.1 hr'.2
  have ht : twoC ⟨r, m⟩ ⟨r', m'⟩ = if x = 0 then y else x := by unfold twoC; rw [hx, hy]
  obtain ⟨t, htt⟩ : ∃ t, t = if x = 0 then y else x := ⟨_, rfl⟩
  rw [ht, ← htt]
  have Ht := hide htt
  clear hx hy ht htt
  have s0 : St w w (EZ a) [(b, 0, .int .i64 r), (b, 1, .int .i64 m), (b, 2, .int .i64 r'), (b, 3, .int .i64 m')] := ⟨Below.refl _ _, hT, hS, fun _ _ k hb => hS.stays k hb⟩
  go_enter Tryd.func36, Tryd.ntmps36
  go_wp2_with fail
  go_loopw [8] (fun i wr => ∃ k : Int, (k = 0 ∨ (k = 1 ∧ x = 0) ∨ (k = 2 ∧ x = 0 ∧ y = 0)) ∧ i = .int .i64 k ∧ St w wr (EZ a) [(b, 0, .int .i64 r), (b, 1, .int .i64 m), (b, 2, .int .i64 r'), (b, 3, .int .i64 m')]) (fun i _ => (2 - intOf i).toNat)
  case atStart => exact ⟨0, .inl rfl, rfl, s0⟩
  case round =>
    clear s0
    obtain ⟨k, hk, rfl, s1⟩ := hrel
    have q1 := s1.hold
    simp only [Holds, and_true] at q1
    rcases hk with rfl | ⟨rfl, hx0⟩ | ⟨rfl, hx0, hy0⟩
    · go_wp2_with fail
      have s2 := s1.box2 31 (.int .i64 r) (.int .i64 m)
      refine (HV.out _ s2.errz).mono ?_
      (rintro e1 w3 ⟨rfl, hb⟩; have s3 := s2.call hb; have q3 := s3.hold; simp only [Holds, and_true] at q3; clear hb; try clear q2)
      by_cases h0 : x = 0
      · have h0' := h0
        rw [h0, cerrV_zero]
        go_wp2_with fail
        go_roundw
        case rel => exact ⟨1, .inr (.inl ⟨rfl, h0'⟩), rfl, s3.drop 2⟩
        case measure => simp [intOf]
      · rw [cerrV_some h0]
        go_wp2_with fail
        go_ret
        exact ⟨(by rw [Ht.out, if_neg h0, cerrV_some h0]; rfl), s3.bel⟩
    · go_wp2_with fail
      have s2 := s1.box2 31 (.int .i64 r') (.int .i64 m')
      refine (HW.out _ s2.errz).mono ?_
      (rintro e1 w3 ⟨rfl, hb⟩; have s3 := s2.call hb; have q3 := s3.hold; simp only [Holds, and_true] at q3; clear hb; try clear q2)
      by_cases h0 : y = 0
      · have h0' := h0
        rw [h0, cerrV_zero]
        go_wp2_with fail
        go_roundw
        case rel => exact ⟨2, .inr (.inr ⟨rfl, hx0, h0'⟩), rfl, s3.drop 2⟩
        case measure => simp [intOf]
      · rw [cerrV_some h0]
        go_wp2_with fail
        go_ret
        exact ⟨(by rw [Ht.out, if_pos hx0, cerrV_some h0]; rfl), s3.bel⟩
    · go_wp2_with fail
      go_ret
      exact ⟨by rw [Ht.out, if_pos hx0, hy0]; rfl, s1.bel⟩

theorem form_yes {n : Int} {D : Nat} (h : cgErr (restI n D) D = 0) : formC n D = ⟨restI n D, D⟩ := by
  unfold cgErr at h
  split at h
  · omega
  · rename_i h1
    unfold formC restI
    by_cases h0 : (D : Int) = 0
    · rw [if_pos h0]
      rw [if_neg, if_pos h0, h0]
      rintro (k | ⟨_, k⟩)
      · exact h1 (.inr (.inl k))
      · exact h1 (.inr (.inr ⟨h0, by unfold restI; rw [if_pos h0]; exact k⟩))
    · rw [if_neg h0, if_neg, if_neg h0]
      rintro (k | ⟨k, _⟩)
      · exact h1 (.inr (.inl k))
      · exact h0 k

theorem form_no {n : Int} {D : Nat} (h : cgErr (restI n D) D ≠ 0) : formC n D = ⟨0, 1⟩ := by
  unfold formC
  rw [if_pos]
  unfold cgErr at h
  split at h
  · rename_i h1
    rcases h1 with k | k | ⟨k1, k2⟩
    · omega
    · exact .inl k
    · exact .inr ⟨k1, by unfold restI at k2; rw [if_pos k1] at k2; exact k2⟩
  · split at h
    · rename_i h2
      have := restI_range (n := n) h2.1
      omega
    · omega

set_option maxRecDepth 20000 in
set_option maxHeartbeats 4000000 in
theorem cleast_any (n : Int) (b off k c : Nat) (l : List Int) (a : Nat → Addr) (w : World) (hS : ErrS w a) (hA : IntsAt w (some ⟨b, off, none⟩) l) (hl : Hid (k = l.length)) (hk : k ≤ 1000) (hb : Hid (∀ s ∈ l, -4611686018427387904 ≤ s ∧ s ≤ 4611686018427387904)) (hD : gcdT l k ≤ 4611686018427387904) (hn : (-9223372036854775808 ≤ n ∧ n ≤ 9223372036854775807)) :
    Calls Tryd.prog 37 #[.int .i64 n, .slice (some ⟨b, off, none⟩) k c] w fun e w' => e = .returned (formC n (gcdT l k)).v ∧ Below w.heap.size w w' := by
  obtain ⟨D, hDD⟩ : ∃ D, D = gcdT l k := ⟨_, rfl⟩
  have HG : Hid (∀ W : World, IntsAt W (some ⟨b, off, none⟩) l → Calls Tryd.prog 45 #[.slice (some ⟨b, off, none⟩) k c] W fun e w' => e = .returned (.int .i64 D) ∧ Below W.heap.size W w') := fun W h => by rw [hDD]; exact divisor_any b off k c l W h hl hk hb
  rw [← hDD] at hD ⊢
  clear hDD hb
  obtain ⟨z, hz⟩ : ∃ z, z = restI n D := ⟨_, rfl⟩
  have hzr : (-9223372036854775808 ≤ z ∧ z ≤ 9223372036854775807) := by
    rw [hz]
    by_cases h0 : D = 0
    · rw [h0]; simpa [restI] using hn
    · have := restI_range (n := n) (m := D) (by omega)
      omega
  have HC : Hid (∀ W : World, Calls Tryd.prog 34 #[.int .i64 n, .int .i64 D] W fun e w' => e = .returned (.int .i64 z) ∧ w' = W) := fun W => rest_as n D z hz W hn (by omega)
  obtain ⟨x, hx⟩ : ∃ x, x = cgErr z D := ⟨_, rfl⟩
  have HV : Hid (∀ W : World, ErrS W a → Calls Tryd.prog 13 #[(.agg #[.int .i64 z, .int .i64 D])] W fun e w' => e = .returned (errV a x) ∧ Below W.heap.size W w') := fun W h => by rw [hx]; exact cvalid_any z D a W h hzr (by omega)
  have F0 : Hid (x = 0 → formC n D = ⟨z, D⟩) := fun h => by rw [hz]; exact form_yes (by rw [← hz, ← hx]; exact h)
  have F1 : Hid (x ≠ 0 → formC n D = ⟨0, 1⟩) := fun h => form_no (by rw [← hz, ← hx]; exact h)
  clear hx hz
  have s00 := ((St.startE hS).both hA (fun _ _ q hb => hA.stays q hb)).box2 31 (.int .i64 0) (.int .i64 0)
  go_enter Tryd.func37, Tryd.ntmps37
  go_wp2_with fail
  refine (HG.out _ s00.sent.2).mono ?_
  (rintro e1 w1 ⟨rfl, hb⟩; have s1 := s00.call hb; have q1 := s1.hold; simp only [Holds, and_true] at q1; clear hb; try clear q00)
  go_wp2_with fail
  refine (HC.out _).mono ?_
  rintro e1 w2 ⟨rfl, rfl⟩
  go_wp2_with fail
  have s2 := s1.box2 31 (.int .i64 z) (.int .i64 D)
  refine (HV.out _ s2.sent.1).mono ?_
  (rintro e1 w3 ⟨rfl, hb⟩; have s3 := s2.call hb; have q3 := s3.hold; simp only [Holds, and_true] at q3; clear hb; try clear q2)
  by_cases h0 : x = 0
  · have hf := hide (F0.out h0)
    rw [h0, cerrV_zero]
    go_wp2_with fail
    refine bodyPost_ret (v := (.agg #[.int .i64 z, .int .i64 D])) (by simp [results, Tryd.results37, go_sem, *]) rfl ⟨by rw [hf.out]; rfl, ?_⟩
    iterate 2 refine Below.setCell ?_ (by first | (simp; done) | (simp; omega)) _
    exact s3.bel
  · have hf := hide (F1.out h0)
    rw [cerrV_some h0]
    go_wp2_with fail
    refine bodyPost_ret (v := (.agg #[.int .i64 0, .int .i64 1])) (by simp [results, Tryd.results37, go_sem, *]) rfl ⟨by rw [hf.out]; rfl, ?_⟩
    iterate 2 refine Below.setCell ?_ (by first | (simp; done) | (simp; omega)) _
    exact s3.bel

end Go.Proofs.YtjimjbilmlnipaaDoor
