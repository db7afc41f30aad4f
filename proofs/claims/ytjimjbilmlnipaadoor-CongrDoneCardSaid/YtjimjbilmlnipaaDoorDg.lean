/- The program's congruences: the numbers of two. -/
import Derived.Test.YtjimjbilmlnipaaDoorDf
import Derived.Deep.DeepCutAuto
namespace Go.Proofs.YtjimjbilmlnipaaDoor
open Go.RowKit
set_option linter.unusedVariables false

theorem ints_new2d (W : World) (t : TypeId) (x y : Int) {b : Nat} (hb : b = W.heap.size) : IntsAt (W.alloc (.cells #[.int .i64 x, .int .i64 y] t)).drew (some ⟨b, 0, none⟩) [x, y] := by
  rw [hb]; exact (ints_new2 W t x y).below (Below.refl _ _).drew

theorem divisor_as (m m' : Int) (g : Nat) (hg : Hid (g = Int.gcd m m')) (hm : 0 ≤ m ∧ m ≤ 1048576) (hm' : 0 ≤ m' ∧ m' ≤ 1048576) (b : Nat) (w : World) (hA : IntsAt w (some ⟨b, 0, none⟩) [m, m']) :
    Calls Tryd.prog 45 #[.slice (some ⟨b, 0, none⟩) 2 2] w fun e w' => e = .returned (.int .i64 g) ∧ Below w.heap.size w w' := by
  rw [hg.out, ← gcdT_two]
  exact divisor_any b 0 2 2 _ w hA rfl (by omega) (show ∀ s ∈ [m, m'], _ by simp; omega)

set_option maxRecDepth 20000 in
set_option maxHeartbeats 8000000 in
theorem cmeet_any (r m r' m' : Int) (a : Nat → Addr) (w : World) (hS : ErrS w a) (o1 : okC ⟨r, m⟩) (o2 : okC ⟨r', m'⟩) :
    Calls Tryd.prog 39 #[(.agg #[.int .i64 r, .int .i64 m]), (.agg #[.int .i64 r', .int .i64 m'])] w fun e w' => ∃ (R : Cg) (b : Bool), e = .returned (.tuple #[R.v, .bool b]) ∧ MeetS ⟨r, m⟩ ⟨r', m'⟩ R b ∧ Below w.heap.size w w' := by
  obtain ⟨b1, b2, c1⟩ := okC_rng o1
  obtain ⟨b3, b4, c2⟩ := okC_rng o2
  obtain ⟨g, hg⟩ : ∃ g, g = Int.gcd m m' := ⟨_, rfl⟩
  have hgb : g ≤ 1048576 := by
    rw [hg]
    have := gcd_le' (a := m.toNat) (b := m') (B := 1048576) (by omega) (by omega)
    rwa [show ((m.toNat : Nat) : Int) = m by omega] at this
  have HD : Hid (∀ (b : Nat) (W : World), IntsAt W (some ⟨b, 0, none⟩) [m, m'] → Calls Tryd.prog 45 #[.slice (some ⟨b, 0, none⟩) 2 2] W fun e w' => e = .returned (.int .i64 g) ∧ Below W.heap.size W w') := divisor_as m m' g hg b2 b4
  have hwd : IntKind.i64.wrap (r' - r) = r' - r := wrap_small _ (by omega) (by omega)
  obtain ⟨d, hd⟩ : ∃ d, d = r' - r := ⟨_, rfl⟩
  rw [← hd] at hwd
  obtain ⟨z, hz⟩ : ∃ z, z = restI d g := ⟨_, rfl⟩
  have HR : Hid (∀ W : World, Calls Tryd.prog 34 #[.int .i64 d, .int .i64 g] W fun e w' => e = .returned (.int .i64 z) ∧ w' = W) := fun W => rest_as d g z hz W (by omega) (by omega)
  have Hz : Hid (z = restI (r' - r) (Int.gcd m m' : Nat)) := by show _ = _; rw [hz, hd, hg]
  have Hwd := hide (show IntKind.i64.wrap (r' - r) = d by rw [← hd]; exact hwd)
  have Hd := hide hd
  have Hg := hide hg
  have O1 := hide o1
  have O2 := hide o2
  clear hz hd hg o1 o2 hwd
  have s0 := (((St.startE hS).box2 31 (.int .i64 r) (.int .i64 m)).box2 31 (.int .i64 r') (.int .i64 m')).box2 31 (.int .i64 0) (.int .i64 0)
  simp only [callocSize] at s0
  go_enter Tryd.func39, Tryd.ntmps39
  go_upto_region 1 with fail
  go_cut [6, 7] (fun s6 s7 wx => s6 = .int .i64 g ∧ s7 = .int .i64 d ∧ St w wx (EZ a) ((w.heap.size + 1 + 1, 0, Value.int .i64 (0)) :: (w.heap.size + 1 + 1, 1, Value.int .i64 (0)) :: (w.heap.size + 1, 0, Value.int .i64 (r')) :: (w.heap.size + 1, 1, Value.int .i64 (m')) :: (w.heap.size, 0, Value.int .i64 (r)) :: (w.heap.size, 1, Value.int .i64 (m)) :: []))
  case first =>
    go_region_held3 (fun w' => w'.cell? ⟨w.heap.size + 1 + 1, 0, none⟩ = some (.int .i64 (0)) ∧ w'.cell? ⟨w.heap.size + 1 + 1, 1, none⟩ = some (.int .i64 (0)) ∧ w'.cell? ⟨w.heap.size + 1, 0, none⟩ = some (.int .i64 (r')) ∧ w'.cell? ⟨w.heap.size + 1, 1, none⟩ = some (.int .i64 (m')) ∧ w'.cell? ⟨w.heap.size, 0, none⟩ = some (.int .i64 (r)) ∧ w'.cell? ⟨w.heap.size, 1, none⟩ = some (.int .i64 (m)) ∧ St w w' (EZ a) ((w.heap.size + 1 + 1, 0, Value.int .i64 (0)) :: (w.heap.size + 1 + 1, 1, Value.int .i64 (0)) :: (w.heap.size + 1, 0, Value.int .i64 (r')) :: (w.heap.size + 1, 1, Value.int .i64 (m')) :: (w.heap.size, 0, Value.int .i64 (r)) :: (w.heap.size, 1, Value.int .i64 (m)) :: [])) (first | (exact keepSt0 ((w.heap.size + 1 + 1, 0, Value.int .i64 (0)) :: (w.heap.size + 1 + 1, 1, Value.int .i64 (0)) :: (w.heap.size + 1, 0, Value.int .i64 (r')) :: (w.heap.size + 1, 1, Value.int .i64 (m')) :: (w.heap.size, 0, Value.int .i64 (r)) :: (w.heap.size, 1, Value.int .i64 (m)) :: []) s0.drew) | (exact keepSt0 ((w.heap.size + 1 + 1, 0, Value.int .i64 (0)) :: (w.heap.size + 1 + 1, 1, Value.int .i64 (0)) :: (w.heap.size + 1, 0, Value.int .i64 (r')) :: (w.heap.size + 1, 1, Value.int .i64 (m')) :: (w.heap.size, 0, Value.int .i64 (r)) :: (w.heap.size, 1, Value.int .i64 (m)) :: []) ((keepSt_st ((w.heap.size + 1 + 1, 0, Value.int .i64 (0)) :: (w.heap.size + 1 + 1, 1, Value.int .i64 (0)) :: (w.heap.size + 1, 0, Value.int .i64 (r')) :: (w.heap.size + 1, 1, Value.int .i64 (m')) :: (w.heap.size, 0, Value.int .i64 (r)) :: (w.heap.size, 1, Value.int .i64 (m)) :: []) (by assumption)).alloc _)) | (exact keepSt ((w.heap.size + 1 + 1, 0, Value.int .i64 (0)) :: (w.heap.size + 1 + 1, 1, Value.int .i64 (0)) :: (w.heap.size + 1, 0, Value.int .i64 (r')) :: (w.heap.size + 1, 1, Value.int .i64 (m')) :: (w.heap.size, 0, Value.int .i64 (r)) :: (w.heap.size, 1, Value.int .i64 (m)) :: []) (by assumption) (by assumption)) | assumption)
      (first
        | (go_at_call 45; refine (HD.out _ _ (by exact ints_new2d _ _ _ _ (by simp))).mono ?_; rintro e w2 ⟨rfl, hb2⟩; have s2 := (keepSt_st ((w.heap.size + 1 + 1, 0, Value.int .i64 (0)) :: (w.heap.size + 1 + 1, 1, Value.int .i64 (0)) :: (w.heap.size + 1, 0, Value.int .i64 (r')) :: (w.heap.size + 1, 1, Value.int .i64 (m')) :: (w.heap.size, 0, Value.int .i64 (r)) :: (w.heap.size, 1, Value.int .i64 (m)) :: []) (by assumption)).call hb2))
    all_goals
      go_wp2_with fail
      go_meet
      case rel => exact ⟨rfl, by rw [Hwd.out], s2⟩
  case rest =>
  clear s0
  obtain ⟨rfl, rfl, s1⟩ := hcut
  have q1 := s1.hold
  simp only [Holds, and_true] at q1
  go_wp2_with fail
  refine (HR.out _).mono ?_
  rintro e1 w2 ⟨rfl, rfl⟩
  by_cases hz0 : z = 0
  · subst hz0
    have hz1 : Hid (restI (r' - r) (Int.gcd m m' : Nat) = 0) := Hz.out.symm
    by_cases hm0 : m = 0
    · have M := hide (meet_a0 (A := ⟨r, m⟩) (B := ⟨r', m'⟩) O1.out hz1.out hm0)
      subst hm0
      go_wp2_with fail
      (refine bodyPost_ret (v := .tuple #[(.agg #[.int .i64 r, .int .i64 0]), .bool true]) (by simp [results, Tryd.results39, go_sem, *]) rfl ⟨⟨r, 0⟩, true, rfl, M.out, ?_⟩)
      iterate 2 refine Below.setCell ?_ (by first | (simp; done) | (simp; omega)) _
      exact s1.bel
    · have hmb : (m == 0) = false := by simp [hm0]
      by_cases hm0' : m' = 0
      · have M := hide (meet_b0 (A := ⟨r, m⟩) (B := ⟨r', m'⟩) O2.out hz1.out hm0')
        subst hm0'
        go_wp2_with fail
        (refine bodyPost_ret (v := .tuple #[(.agg #[.int .i64 r', .int .i64 0]), .bool true]) (by simp [results, Tryd.results39, go_sem, *]) rfl ⟨⟨r', 0⟩, true, rfl, M.out, ?_⟩)
        iterate 2 refine Below.setCell ?_ (by first | (simp; done) | (simp; omega)) _
        exact s1.bel
      · have hmb' : (m' == 0) = false := by simp [hm0']
        have hmp : 0 < m := by omega
        have hmp' : 0 < m' := by omega
        obtain ⟨K, K', h1, h2, h3, h4, h5, h6, h7, h8, h9⟩ := gcd_parts hmp hmp'
        rw [← Hg.out] at h1 h2 h6 h7 h8
        have hgne : ¬ (g : Int) = 0 := by omega
        have t1 : m'.tdiv g = K' := by rw [Int.tdiv_eq_ediv_of_nonneg (by omega), h8]
        have t2 : m.tdiv g = K := by rw [Int.tdiv_eq_ediv_of_nonneg (by omega), h7]
        have k1 : K ≤ m := by rw [← h7]; exact Int.ediv_le_self _ (by omega)
        have k2 : K' ≤ m' := by rw [← h8]; exact Int.ediv_le_self _ (by omega)
        obtain ⟨L, hL⟩ : ∃ L, m * K' = L := ⟨_, rfl⟩
        have Lb : L.natAbs ≤ 1048576 * 1048576 := by rw [← hL]; exact mul_b (by omega) (by omega)
        have Lp : 0 < L := by rw [← hL]; exact Int.mul_pos hmp h4
        by_cases hbig : 1048576 < L
        · have M := hide (meet_great (A := ⟨r, m⟩) (B := ⟨r', m'⟩) hmp hmp' hz1.out (by show 1048576 < m * (m' / (Int.gcd m m' : Nat)); rw [← Hg.out, h8, hL]; exact hbig))
          clear h1 h2 h7 h8 h9 t2
          go_wp2_with fail
          (refine bodyPost_ret (v := .tuple #[(.agg #[.int .i64 r, .int .i64 m]), .bool true]) (by simp [results, Tryd.results39, go_sem, *]) rfl ⟨⟨r, m⟩, true, rfl, M.out, ?_⟩)
          iterate 2 refine Below.setCell ?_ (by first | (simp; done) | (simp; omega)) _
          exact s1.bel
        · obtain ⟨c, hc⟩ := restI_zero.1 hz1.out
          rw [← Hg.out, ← Hd.out] at hc
          have t3 : d.tdiv g = c := by rw [hc]; exact Int.mul_tdiv_cancel_left _ (by omega)
          obtain ⟨I, hI⟩ : ∃ I, I = invV K K' := ⟨_, rfl⟩
          obtain ⟨Ib, Id⟩ := invV_is (M := K') (n := K) (by omega) h5
          rw [← hI] at Ib Id
          have HI : Hid (∀ W : World, Calls Tryd.prog 46 #[.int .i64 K, .int .i64 K'] W fun e w' => e = .returned (.int .i64 I) ∧ w' = W) := fun W => inverse_as K K' I hI W (by omega) (by omega) h5
          have cb : -1048576 ≤ c ∧ c ≤ 1048576 := by
            have : d.natAbs = g * c.natAbs := by rw [hc, Int.natAbs_mul]; rfl
            have hd1 := c1 hm0
            have hd2 := c2 hm0'
            have hde := Hd.out
            have : 1 * c.natAbs ≤ g * c.natAbs := Nat.mul_le_mul_right _ (by omega)
            omega
          obtain ⟨ci, hci⟩ : ∃ ci, c * I = ci := ⟨_, rfl⟩
          have cib : ci.natAbs ≤ 1048576 * 1048576 := by rw [← hci]; exact mul_b (by omega) (by omega)
          have wci : IntKind.i64.wrap (c * I) = ci := by rw [hci]; exact wrap_small _ (by omega) (by omega)
          obtain ⟨st, hst⟩ : ∃ st, st = restI ci K' := ⟨_, rfl⟩
          have stb := restI_range (n := ci) h4
          rw [← hst] at stb
          have HS : Hid (∀ W : World, Calls Tryd.prog 34 #[.int .i64 ci, .int .i64 K'] W fun e w' => e = .returned (.int .i64 st) ∧ w' = W) := fun W => rest_as ci K' st hst W (by omega) (by omega)
          obtain ⟨sm, hsm⟩ : ∃ sm, st * m = sm := ⟨_, rfl⟩
          have smb : sm.natAbs ≤ 1048576 * 1048576 := by rw [← hsm]; exact mul_b (by omega) (by omega)
          obtain ⟨⟨zr, zm⟩, hzz⟩ : ∃ Z, formC (r + sm) (gcdT [L] 1) = Z := ⟨_, rfl⟩
          have HL : Hid (∀ (b : Nat) (W : World), ErrS W a → IntsAt W (some ⟨b, 0, none⟩) [L] → Calls Tryd.prog 37 #[.int .i64 (r + sm), .slice (some ⟨b, 0, none⟩) 1 1] W fun e w' => e = .returned (.agg #[.int .i64 zr, .int .i64 zm]) ∧ Below W.heap.size W w') :=
            cleast_as zr zm (r + sm) _ 1 hzz a rfl (by omega) (by simp; omega) (by omega)
          have M : Hid (MeetS ⟨r, m⟩ ⟨r', m'⟩ ⟨zr, zm⟩ true) := by
            have := meet_fit (A := ⟨r, m⟩) (B := ⟨r', m'⟩) (c := c) (inv := I) (st := st) hmp hmp' (by show r' - r = (Int.gcd m m' : Nat) * c; rw [← Hg.out, ← Hd.out]; exact hc)
              (by show m * (m' / (Int.gcd m m' : Nat)) ≤ 1048576; rw [← Hg.out, h8, hL]; omega)
              (by show m' / (Int.gcd m m' : Nat) ∣ I * (m / (Int.gcd m m' : Nat)) - 1; rw [← Hg.out, h8, h7]; exact Id)
              (by show st = restI (c * I) (m' / (Int.gcd m m' : Nat)); rw [← Hg.out, h8, hci]; exact hst)
            dsimp only at this
            rw [← Hg.out, h8, hL, hsm, ← gcdT_one L (by omega), hzz] at this
            exact this
          have Lb2 : L ≤ 1048576 := by omega
          have sm2 : -1099511627776 ≤ sm ∧ sm ≤ 1099511627776 := by omega
          have ci2 : -1099511627776 ≤ ci ∧ ci ≤ 1099511627776 := by omega
          clear h1 h2 h7 h8 h9 hc hI Id hst hzz hbig Lb smb cib
          go_upto_region 11 with fail
          go_quiet (first | (go_at_call 46; exact Calls.quiet_of_same (HI.out _)) | (go_at_call 34; exact Calls.quiet_of_same (HS.out _)))
          go_wp2_with fail
          have s3 := (s1.call (Below.drewN' (Below.refl _ _) nq)).alloc (.cells #[.int .i64 L] 3)
          refine (HL.out _ _ s3.errz (ints_new1 _ _ L)).mono ?_
          (rintro e1 w4 ⟨rfl, hb⟩; have s4 := s3.call hb; have q4 := s4.hold; simp only [Holds, and_true] at q4; clear hb; try clear q3)
          go_wp2_with fail
          (refine bodyPost_ret (v := .tuple #[(.agg #[.int .i64 zr, .int .i64 zm]), .bool true]) (by simp [results, Tryd.results39, go_sem, *]) rfl ⟨⟨zr, zm⟩, true, rfl, M.out, ?_⟩)
          iterate 2 refine Below.setCell ?_ (by first | (simp; done) | (simp; omega)) _
          exact s4.bel
  · have hzb : (z != 0) = true := by simp [hz0]
    have M := hide (meet_none (A := ⟨r, m⟩) (B := ⟨r', m'⟩) (by show restI (r' - r) (Int.gcd m m' : Nat) ≠ 0; rw [← Hz.out]; exact hz0))
    go_wp2_with fail
    (refine bodyPost_ret (v := .tuple #[(.agg #[.int .i64 0, .int .i64 0]), .bool false]) (by simp [results, Tryd.results39, go_sem, *]) rfl ⟨⟨0, 0⟩, false, rfl, M.out, ?_⟩)
    iterate 2 refine Below.setCell ?_ (by first | (simp; done) | (simp; omega)) _
    exact s1.bel

end Go.Proofs.YtjimjbilmlnipaaDoor
