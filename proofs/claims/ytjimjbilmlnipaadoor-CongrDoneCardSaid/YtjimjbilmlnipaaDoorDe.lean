/- The program's congruences: is one in another one; one so often; products. -/
import Derived.Test.YtjimjbilmlnipaaDoorDd
import Derived.Deep.RegionHeld3
namespace Go.Proofs.YtjimjbilmlnipaaDoor
open Go.RowKit
set_option linter.unusedVariables false

theorem within_two {r m r' m' : Int} (h' : okC ⟨r', m'⟩) : (decide (restI r m' = r') && decide (restI (r + m) m' = r')) = decide (m' ∣ m ∧ m' ∣ r - r') := by
  rw [inCB_rest h' r, inCB_rest h' (r + m)]
  unfold inCB
  rw [Bool.eq_iff_iff, Bool.and_eq_true, decide_eq_true_iff, decide_eq_true_iff, decide_eq_true_iff]
  dsimp only
  constructor
  · rintro ⟨h1, h2⟩
    refine ⟨?_, h1⟩
    have := Int.dvd_sub h2 h1
    rwa [show r + m - r' - (r - r') = m by omega] at this
  · rintro ⟨h1, h2⟩
    refine ⟨h2, ?_⟩
    have := Int.dvd_add h2 h1
    rwa [show r - r' + m = r + m - r' by omega] at this

set_option maxRecDepth 20000 in
set_option maxHeartbeats 4000000 in
theorem cwithin_is (a : Nat → Addr) : CWithinC a := by
  intro r m r' m' w hS hR hQ
  obtain ⟨x, hx⟩ : ∃ x, x = twoC ⟨r, m⟩ ⟨r', m'⟩ := ⟨_, rfl⟩
  have HE : Hid (∀ (b : Nat) (W : World), ErrS W a → TwoAt W b r m r' m' → Calls Tryd.prog 36 #[.slice (some ⟨b, 0, none⟩) 2 2] W fun e w' => e = .returned (errV a x) ∧ Below W.heap.size W w') := firstError_as x r m r' m' hx a hR hQ
  rw [← hx]
  have s00 := ((St.startE hS).box2 31 (.int .i64 r) (.int .i64 m)).box2 31 (.int .i64 r') (.int .i64 m')
  simp only [callocSize] at s00
  by_cases h0 : x = 0
  · obtain ⟨o1, o2⟩ := (twoC_ok _ _).1 (hx.symm.trans h0)
    obtain ⟨b1, b2, _⟩ := okC_rng o1
    obtain ⟨b3, b4, _⟩ := okC_rng o2
    obtain ⟨f, hf⟩ : ∃ f, f = decide (restI r m' = r') := ⟨_, rfl⟩
    obtain ⟨g, hg⟩ : ∃ g, g = decide (restI (r + m) m' = r') := ⟨_, rfl⟩
    have HF : Hid (∀ W : World, Calls Tryd.prog 35 #[(.agg #[.int .i64 r', .int .i64 m']), .int .i64 r] W fun e w' => e = .returned (.bool f) ∧ Below W.heap.size W w') := fun W => chas_as r' m' r f hf W b4 (by omega)
    have HG : Hid (∀ W : World, Calls Tryd.prog 35 #[(.agg #[.int .i64 r', .int .i64 m']), .int .i64 (r + m)] W fun e w' => e = .returned (.bool g) ∧ Below W.heap.size W w') := fun W => chas_as r' m' (r + m) g hg W b4 (by omega)
    rw [decide_eq_true h0, Bool.true_and, ← within_two o2, ← hf, ← hg]
    clear o1 o2 hR hQ hx hf hg
    subst h0
    go_enter Tryd.func18, Tryd.ntmps18
    go_wp2_with fail
    have s0 := s00.box4 31 (.int .i64 r) (.int .i64 m) (.int .i64 r') (.int .i64 m')
    simp only [callocSize] at s0
    refine (HE.out _ _ s0.errz (TwoAt.of s0)).mono ?_
    (rintro e1 w1 ⟨rfl, hb⟩; have s1 := s0.call hb; have q1 := s1.hold; simp only [Holds, and_true] at q1; clear hb; try clear q0)
    rw [cerrV_zero]
    go_wp2_with fail
    refine (HF.out _).mono ?_
    (rintro e1 w2 ⟨rfl, hb⟩; have s2 := s1.call hb; have q2 := s2.hold; simp only [Holds, and_true] at q2; clear hb; try clear q1)
    cases f
    · go_wp2_with fail
      refine bodyPost_ret (v := .tuple #[.bool false, .nilIface]) (by simp [results, Tryd.results18, go_sem, *]) rfl ⟨rfl, s2.bel⟩
    · go_wp2_with fail
      refine (HG.out _).mono ?_
      (rintro e1 w3 ⟨rfl, hb⟩; have s3 := s2.call hb; have q3 := s3.hold; simp only [Holds, and_true] at q3; clear hb; try clear q2)
      go_wp2_with fail
      refine bodyPost_ret (v := .tuple #[.bool g, .nilIface]) (by simp [results, Tryd.results18, go_sem, *]) rfl ⟨by rw [Bool.true_and]; rfl, s3.bel⟩
  · clear hx
    rw [decide_eq_false h0, Bool.false_and, cerrV_some h0]
    go_enter Tryd.func18, Tryd.ntmps18
    go_wp2_with fail
    have s0 := s00.box4 31 (.int .i64 r) (.int .i64 m) (.int .i64 r') (.int .i64 m')
    simp only [callocSize] at s0
    refine (HE.out _ _ s0.errz (TwoAt.of s0)).mono ?_
    (rintro e1 w1 ⟨rfl, hb⟩; have s1 := s0.call hb; have q1 := s1.hold; simp only [Holds, and_true] at q1; clear hb; try clear q0)
    rw [cerrV_some h0]
    go_wp2_with fail
    refine bodyPost_ret (v := .tuple #[.bool false, .iface 107 (.pointer (some (a (x.toNat - 1))))]) (by simp [results, Tryd.results18, go_sem, *]) rfl ⟨rfl, s1.bel⟩

theorem mul_b {n y : Int} {B C : Nat} (h1 : n.natAbs ≤ B) (h2 : y.natAbs ≤ C) : (n * y).natAbs ≤ B * C := by
  rw [Int.natAbs_mul]; exact Nat.mul_le_mul h1 h2

set_option maxRecDepth 20000 in
set_option maxHeartbeats 4000000 in
theorem cscale_is (a : Nat → Addr) : CScaleC a := by
  intro r m n w hS hR hn
  obtain ⟨x, hx⟩ : ∃ x, x = cgErr r m := ⟨_, rfl⟩
  have HV : Hid (∀ W : World, ErrS W a → Calls Tryd.prog 13 #[(.agg #[.int .i64 r, .int .i64 m])] W fun e w' => e = .returned (errV a x) ∧ Below W.heap.size W w') := fun W h => by rw [hx]; exact cvalid_any r m a W h hR.1 hR.2
  rw [← hx]
  have s0 := ((St.startE hS).box2 31 (.int .i64 r) (.int .i64 m)).box2 31 (.int .i64 0) (.int .i64 0)
  simp only [callocSize] at s0
  by_cases h0 : x = 0
  · have o1 : okC ⟨r, m⟩ := (okC_iff ⟨r, m⟩).1 (by show cgErr r m = 0; rw [← hx]; exact h0)
    obtain ⟨b1, b2, _⟩ := okC_rng o1
    clear hR hx
    rw [if_pos h0]
    by_cases hf : farB n 1048576 = true
    · have hfn : n < -1048576 ∨ 1048576 < n := by simp [farB] at hf; omega
      rw [if_neg (by rw [hf]; simp), if_pos hf]
      clear hf
      subst h0
      go_enter Tryd.func27, Tryd.ntmps27
      go_wp2_with fail
      refine (HV.out _ s0.errz).mono ?_
      (rintro e1 w1 ⟨rfl, hb⟩; have s1 := s0.call hb; have q1 := s1.hold; simp only [Holds, and_true] at q1; clear hb; try clear q0)
      rw [cerrV_zero]
      have e1 : w1.cell? ⟨0, 0, none⟩ = some (.iface 107 (.pointer (some (a 1)))) := s1.errz.1
      have l1 : 0 < w.heap.size := World.block_lt_of_cell? w _ hS.1
      have l2 : 0 < w1.heap.size := World.block_lt_of_cell? w1 _ s1.errz.1
      rcases hfn with hfn | hfn
      all_goals
        go_wp2_with fail
        go_region
        all_goals
          go_wp2_with fail
          refine bodyPost_ret (v := .tuple #[(.agg #[.int .i64 0, .int .i64 0]), .iface 107 (.pointer (some (a 1)))]) (by simp [results, Tryd.results27, go_sem, *]) rfl ⟨rfl, ?_⟩
          repeat' (first | exact s1.bel | refine Below.setCell ?_ (by first | (simp; done) | (simp; omega)) _ | refine Below.drew ?_)
    · have hf' : farB n 1048576 = false := by simpa using hf
      have hfn : -1048576 ≤ n ∧ n ≤ 1048576 := by simp [farB] at hf'; omega
      rw [if_pos ⟨h0, hf'⟩, if_neg hf]
      clear hf hf'
      obtain ⟨p, hp⟩ : ∃ p, n * r = p := ⟨_, rfl⟩
      obtain ⟨q, hq⟩ : ∃ q, n * m = q := ⟨_, rfl⟩
      have pb : p.natAbs ≤ 1048576 * 1099511627776 := by rw [← hp]; exact mul_b (by omega) (by omega)
      have qb : q.natAbs ≤ 1048576 * 1048576 := by rw [← hq]; exact mul_b (by omega) (by omega)
      have pb1 : -1152921504606846976 ≤ p ∧ p ≤ 1152921504606846976 := by omega
      have qb1 : -1152921504606846976 ≤ q ∧ q ≤ 1152921504606846976 := by omega
      clear pb qb
      obtain ⟨⟨zr, zm⟩, hz⟩ : ∃ Z, formC p (gcdT [q] 1) = Z := ⟨_, rfl⟩
      have HL : Hid (∀ (b : Nat) (W : World), ErrS W a → IntsAt W (some ⟨b, 0, none⟩) [q] → Calls Tryd.prog 37 #[.int .i64 p, .slice (some ⟨b, 0, none⟩) 1 1] W fun e w' => e = .returned (.agg #[.int .i64 zr, .int .i64 zm]) ∧ Below W.heap.size W w') :=
        cleast_as zr zm p _ 1 hz a rfl (by omega) (by simp; omega) (by omega)
      have hzz : formC (n * r) ((n.natAbs : Int) * m) = ⟨zr, zm⟩ := by rw [← hz, ← gcdT_scale n m b2.1, hp, hq]
      rw [hzz]
      clear hz hzz
      subst h0
      go_enter Tryd.func27, Tryd.ntmps27
      go_wp2_with fail
      refine (HV.out _ s0.errz).mono ?_
      (rintro e1 w1 ⟨rfl, hb⟩; have s1 := s0.call hb; have q1 := s1.hold; simp only [Holds, and_true] at q1; clear hb; try clear q0)
      rw [cerrV_zero]
      go_wp2_with fail
      have s2 := s1.alloc (.cells #[.int .i64 q] 3)
      refine (HL.out _ _ s2.errz (ints_new1 _ _ q)).mono ?_
      (rintro e1 w3 ⟨rfl, hb⟩; have s3 := s2.call hb; have q3 := s3.hold; simp only [Holds, and_true] at q3; clear hb; try clear q2)
      go_wp2_with fail
      refine bodyPost_ret (v := .tuple #[(.agg #[.int .i64 zr, .int .i64 zm]), .nilIface]) (by simp [results, Tryd.results27, go_sem, *]) rfl ⟨rfl, ?_⟩
      iterate 2 refine Below.setCell ?_ (by first | (simp; done) | (simp; omega)) _
      exact s3.bel
  · clear hx
    rw [if_neg h0, if_neg (fun k => h0 k.1), cerrV_some h0]
    go_enter Tryd.func27, Tryd.ntmps27
    go_wp2_with fail
    refine (HV.out _ s0.errz).mono ?_
    (rintro e1 w1 ⟨rfl, hb⟩; have s1 := s0.call hb; have q1 := s1.hold; simp only [Holds, and_true] at q1; clear hb; try clear q0)
    rw [cerrV_some h0]
    go_wp2_with fail
    refine bodyPost_ret (v := .tuple #[(.agg #[.int .i64 0, .int .i64 0]), .iface 107 (.pointer (some (a (x.toNat - 1))))]) (by simp [results, Tryd.results27, go_sem, *]) rfl ⟨rfl, ?_⟩
    iterate 2 refine Below.setCell ?_ (by first | (simp; done) | (simp; omega)) _
    exact s1.bel

end Go.Proofs.YtjimjbilmlnipaaDoor
