/- Zones: the bounds of a zone, put to it, change nothing: the law's walk. -/
import Derived.Test.YthnjnieocjpjiaaDoorXh
import Derived.Test.YthnjnieocjpjiaaDoorZu
import Derived.Test.YthnjnieocjpjiaaDoorZx
import Derived.Deep.Cut
import Derived.Deep.DeepCutAuto
namespace Go.Proofs.YthnjnieocjpjiaaDoor
open Go.RowKit
set_option linter.unusedVariables false

theorem St.now {w wr W : World} {ZZ Z3 : World → Prop} {b bi : Nat} {u0 u1 i0 i1 i2 i3 : Value} {M L : List (Nat × Nat × Value)} (st : St w wr ZZ M) (s : St wr W Z3 ((bi, 0, i0) :: (bi, 1, i1) :: (bi, 2, i2) :: (bi, 3, i3) :: (b, 0, u0) :: (b, 1, u1) :: L)) (hz : ZZ W) (hb : w.heap.size ≤ b) (ap : Apart b L) (hbi : bi ≠ b) (v0 v1 : Value) :
    St w ((W.setCell ⟨b, 0, none⟩ v0).setCell ⟨b, 1, none⟩ v1) ZZ ((bi, 0, i0) :: (bi, 1, i1) :: (bi, 2, i2) :: (bi, 3, i3) :: (b, 0, v0) :: (b, 1, v1) :: L) := by
  have s1 : St w W ZZ ((bi, 0, i0) :: (bi, 1, i1) :: (bi, 2, i2) :: (bi, 3, i3) :: (b, 0, u0) :: (b, 1, u1) :: L) := ⟨st.bel.trans (s.bel.mono st.bel.size), s.hold, hz, st.cl⟩
  have s2 := St.set1 [(bi, 0, i0), (bi, 1, i1), (bi, 2, i2), (bi, 3, i3)] ((b, 1, u1) :: L) s1 hb ⟨.inl (by dsimp only; omega), .inl (by dsimp only; omega), .inl (by dsimp only; omega), .inl (by dsimp only; omega), trivial⟩ ⟨.inr (by simp), ap.c⟩ v0
  exact St.set1 [(bi, 0, i0), (bi, 1, i1), (bi, 2, i2), (bi, 3, i3), (b, 0, v0)] L s2 hb ⟨.inl (by dsimp only; omega), .inl (by dsimp only; omega), .inl (by dsimp only; omega), .inl (by dsimp only; omega), .inr (by simp), trivial⟩ ap.c v1

theorem ints_one {W : World} {b off : Nat} {l : List Int} (h : IntsAt W (some ⟨b, off, none⟩) l) {k : Nat} (hk : k < l.length) {y : Int} (hy : y = l.getD k 0) : W.cell? ⟨b, off + k, none⟩ = some (.int .i64 y) := by
  obtain ⟨b', off', e, c⟩ := h.get k hk y hy
  obtain ⟨rfl, rfl⟩ : b = b' ∧ off = off' := by simpa using e
  exact c

set_option maxRecDepth 20000 in
set_option maxHeartbeats 8000000 in
theorem zoneBox_by (N : Int) (x : Option Addr) (c0 len : Nat) (l : List Ce) (yp : Option Addr) (cy k : Nat) (p : List Int) (a : Nat → Addr) (w : World) (hS : ErrS w a) (hA : CsAt w x l) (hI : IntsAt w yp p) (hl : Hid (len = l.length)) (hlen : len ≤ 9223372036854775807) (hk : Hid (k = p.length)) (hkl : k ≤ 9223372036854775807) :
    Calls Tryd.prog 10 #[(.agg #[.int .i64 N, (.slice x len c0)]), .slice yp k cy] w fun e w' => e = .returned (.bool true) ∧ Below w.heap.size w w' := by
  have s0 := ((St.startZs (em := false) (cs := [(x, l)]) hS (fun h => by cases h) (by intro p hp; simp at hp; subst hp; exact hA)).both (Y := fun W => IntsAt W yp p) hI (fun _ _ q hb => hI.stays q hb)).box2 24 (.int .i64 N) (.slice x len c0)
  have HN : Hid (∀ W : World, CsAt W x l → Calls Tryd.prog 23 #[.slice x len c0] W fun e w' => e = .returned (.bool (decide (len ≤ 100) && nearL l 1048576)) ∧ w' = W) := fun W h => near_law x c0 len l W h hl hlen
  go_enter Tryd.func10, Tryd.ntmps10
  go_wp2_with fail
  refine (free_any a _ s0.sent.1.e).mono ?_
  rintro e w1 ⟨rfl, hb1⟩
  (have s1 := s0.call hb1; have q1 := s1.hold; simp only [Holds, and_true] at q1; clear s0 hb1; try clear q0)
  clear hS hA hI
  by_cases h100 : len ≤ 100
  rotate_left
  · have h100' : (100 : Int) < (len : Int) := by omega
    go_wp2_with fail
    go_ret
    exact ⟨rfl, s1.bel⟩
  have h100' : ¬ (100 : Int) < (len : Int) := by omega
  rw [decide_eq_true h100, Bool.true_and] at HN
  obtain ⟨nr, hnr⟩ : ∃ b, b = nearL l 1048576 := ⟨_, rfl⟩
  rw [← hnr] at HN
  have Hnr := hide hnr
  clear hnr
  go_wp2_with fail
  refine (HN.out _ (s1.sent.1.c (by simp))).mono ?_
  rintro e w2 ⟨rfl, hw2⟩
  rw [hw2]
  clear hw2 w2 HN
  cases nr
  · go_wp2_with fail
    go_ret
    exact ⟨rfl, s1.bel⟩
  by_cases h4 : k ≤ 10
  rotate_left
  · have h4' : (10 : Int) < (k : Int) := by omega
    go_wp2_with fail
    go_ret
    exact ⟨rfl, s1.bel⟩
  have h4' : ¬ (10 : Int) < (k : Int) := by omega
  have HZ : Hid (∀ W : World, CsAt W x l → Calls Tryd.prog 15 #[(.agg #[.int .i64 N, (.slice x len c0)])] W fun e w' => ∃ z cap, e = .returned (.agg #[.int .i64 N, (.slice z len cap)]) ∧ CsAt w' z l ∧ Below W.heap.size W w') := fun W h => zoneOf_any N x c0 len l W h hl (by omega)
  have HI : Hid (∀ W : World, IntsAt W yp p → Calls Tryd.prog 17 #[.slice yp k cy] W fun e w' => ∃ y' cap, e = .returned (.slice y' k cap) ∧ IntsAt w' y' p ∧ Below W.heap.size W w') := fun W h => intsCopy_as yp k cy p W h hk (by omega)
  obtain ⟨F, hF⟩ : ∃ F, F = hasErr N l p := ⟨_, rfl⟩
  obtain ⟨hv, hhv⟩ : ∃ b, b = (decide (F = 0) && inB (nOf N) (ptD p) (encM (matOf (nOf N) l))) := ⟨_, rfl⟩
  have HH : Hid (∀ (W : World) (z y' : Option Addr) (cz cy : Nat), ErrS W a → CsAt W z l → IntsAt W y' p → Calls Tryd.prog 16 #[(.agg #[.int .i64 N, (.slice z len cz)]), .slice y' k cy] W fun e w' => e = .returned (.tuple #[.bool hv, erV a F]) ∧ Below W.heap.size W w') := by
    intro W z y' cz cy h1 h2 h3
    refine (has_any N z len cz l y' k cy p a W h1 h2 h3 hl (by omega) hk (by omega)).mono ?_
    rintro e w' ⟨hb, h | h⟩
    · rw [← hF] at h
      exact ⟨by rw [h.2, hhv, decide_eq_false h.1]; rfl, hb⟩
    · rw [← hF] at h
      exact ⟨by rw [h.2, hhv, decide_eq_true h.1, h.1]; rfl, hb⟩
  have HFq := hide hF
  have Hhv := hide hhv
  clear hF hhv
  go_wp2_with fail
  refine (HZ.out _ (s1.sent.1.c (by simp))).mono ?_
  rintro e w2 ⟨z2, d2, rfl, hz2, hb2⟩
  (have s2 := s1.call hb2; have q2 := s2.hold; simp only [Holds, and_true] at q2; clear s1 hb2; try clear q1)
  go_wp2_with fail
  refine (HI.out _ s2.sent.2).mono ?_
  rintro e w3 ⟨y3, d3, rfl, hy3, hb3⟩
  have hz3 := hz2.below hb3
  (have s3 := s2.call hb3; have q3 := s3.hold; simp only [Holds, and_true] at q3; clear s2 hb3; try clear q2)
  go_wp2_with fail
  refine (HH.out _ z2 y3 d2 d3 s3.sent.1.e hz3 hy3).mono ?_
  rintro e w4 ⟨rfl, hb4⟩
  (have s4 := s3.call hb4; have q4 := s4.hold; simp only [Holds, and_true] at q4; clear s3 hb4; try clear q3)
  clear hz2 hz3 hy3 HH HI
  by_cases hF0 : F = 0
  rotate_left
  · rw [erV_ne hF0]
    clear HFq Hhv hF0
    go_wp2_with fail
    go_ret
    exact ⟨rfl, s4.bel⟩
  subst hF0
  rw [erV_0]
  cases hv
  · clear HFq Hhv
    go_wp2_with fail
    go_ret
    exact ⟨rfl, s4.bel⟩
  have hall : firstE [zErr N l, ptErr N p] = 0 := HFq.out.symm
  rw [firstE_0, firstE_0] at hall
  obtain ⟨z1, z2', z3, z4, z5, z6⟩ := zErr_0 hall.1
  obtain ⟨p1, p2⟩ := ptErr_0 hall.2.1
  have hz0 : Hid (zErr N l = 0) := hall.1
  have hinB : inB (nOf N) (ptD p) (encM (matOf (nOf N) l)) = true := by have := Hhv.out; simpa using this.symm
  obtain ⟨n, hn⟩ : ∃ n, n = nOf N := ⟨_, rfl⟩
  rw [← hn] at z1 z2' z3 z4 hinB
  have Hn := hide hn
  have hP : Pt n (matOf n l) (ptF p) := (inB_pt z2' p2).1 hinB
  have hok : NoNeg n (fw (matOf n l) n) := fw_some.1 ⟨_, hP⟩
  have hPd := hide ((fw_pt (Nat.le_refl n)).2 hP)
  have hSz : Sz n 1048576 (matOf n l) := sz_mat z4 (by simpa using near_size Hnr.out.symm)
  have CN : Hid (CloNear n (matOf n l)) := ⟨⟨z2', z3⟩, hSz, hok⟩
  have hll : Hid (len = n * n) := by show _ = _; rw [hl.out]; exact z4
  have hkN : (k : Int) = N := by rw [hk.out]; exact p1
  have hN4 : 0 ≤ N ∧ N ≤ 4 := by omega
  obtain ⟨L, hL⟩ : ∃ L, L = tellL n (fw (matOf n l) n) := ⟨_, rfl⟩
  have HL := hide hL
  have hLl : Hid (len = L.length) := by show _ = _; rw [hL, tellL_len]; exact hll.out
  have HC : Hid (∀ (W : World) (z : Option Addr) (cz : Nat), ErrS W a → CsAt W z l → Calls Tryd.prog 14 #[(.agg #[.int .i64 N, (.slice z len cz)])] W fun e w' => ∃ g cp, e = .returned (.tuple #[(.agg #[.int .i64 N, (.slice (some ⟨g, 0, none⟩) len cp)]), .bool true, .nilIface]) ∧ W.heap.size ≤ g ∧ RowC w' g 0 L ∧ Below W.heap.size W w') := by
    intro W z cz h1 h2
    have hg := close_any N z cz len l a W h1 h2 hl (by omega)
    rw [← Hn.out, ← hL] at hg
    refine hg.mono ?_
    rintro e w' ⟨hb, h | h | h⟩
    · exact absurd hz0.out h.1
    · exact absurd CN.out.ok h.2.1
    · obtain ⟨_, _, g, cp, rfl, hg, hR⟩ := h
      exact ⟨g, cp, rfl, hg, hR, hb⟩
  clear hall z2' z3 z4 z5 z6 p1 p2 hinB hn hP hok HFq Hhv hSz hL
  go_wp2_with fail
  refine (HZ.out _ (s4.sent.1.c (by simp))).mono ?_
  rintro e w5 ⟨z5, d5, rfl, hz5, hb5⟩
  (have s5 := s4.call hb5; have q5 := s5.hold; simp only [Holds, and_true] at q5; clear s4 hb5; try clear q4)
  go_wp2_with fail
  refine (HC.out _ z5 d5 s5.sent.1.e hz5).mono ?_
  rintro e w6 ⟨g, cp, rfl, hg, hR, hb6⟩
  (have s6 := s5.call hb6; have q6 := s6.hold; simp only [Holds, and_true] at q6; clear s5 hb6; try clear q5)
  clear hz5 HC hg
  have s7 := (s6.box2 30 (.int .i64 N) (.slice (some ⟨g, 0, none⟩) len cp)).box2 30 (.int .i64 N) (.slice (some ⟨g, 0, none⟩) len cp)
  simp only [World.size_alloc] at s7
  have hR7 := (hR.below ((Below.refl _ _).alloc (Nat.le_refl _) (.cells #[.int .i64 N, (.slice (some ⟨g, 0, none⟩) len cp)] 30))).below ((Below.refl _ _).alloc (Nat.le_refl _) (.cells #[.int .i64 N, (.slice (some ⟨g, 0, none⟩) len cp)] 30))
  have hgl0 := hR.lt
  obtain ⟨B, hB⟩ : ∃ B, B = w6.heap.size := ⟨_, rfl⟩
  rw [← hB] at s7 hgl0
  have hBw : w.heap.size < B := by rw [hB]; exact q6.1.2.1
  go_wp2_with fail
  rw [← hB]
  clear hB q6 s6 hR
  go_loopg [11] k (fun gh iv wr => ∃ (i gn cn : Nat), 1 ≤ i ∧ i + gh = k + 1 ∧ iv = .int .i64 i ∧ gn ≠ B + 1 ∧ RowC wr gn 0 L ∧ RowC wr g 0 L ∧ St w wr (Both (Zs false a [(x, l)]) (fun W => IntsAt W yp p)) ((B + 1, 0, Value.int .i64 N) :: (B + 1, 1, Value.slice (some ⟨gn, 0, none⟩) len cn) :: (B, 0, Value.int .i64 N) :: (B, 1, Value.slice (some ⟨g, 0, none⟩) len cp) :: (w.heap.size, 0, Value.int .i64 N) :: (w.heap.size, 1, Value.slice x len c0) :: []))
  case atStart => exact ⟨1, g, cp, by omega, by omega, rfl, by omega, hR7, hR7, s7⟩
  case round =>
    clear s7 hR7
    obtain ⟨i, gn, cn, hi1, hig, rfl, hgn, hRn, hR, st⟩ := hrel
    have qs := st.hold
    simp only [Holds, and_true] at qs
    have SR := (st.re.both (Y := fun W => RowC W gn 0 L) hRn (fun _ _ q hb => RowC.stays hRn.lt q hb)).both (Y := fun W => RowC W g 0 L) hR (fun _ _ q hb => RowC.stays hR.lt q hb)
    by_cases hi : i ≤ k
    · have hi' : (i : Int) ≤ N := by omega
      obtain ⟨j, hij⟩ : ∃ j, i = j + 1 := ⟨i - 1, by omega⟩
      have hj2 : (i : Int) - 1 = (j : Int) := by omega
      have hj3 : (j : Int) < (k : Int) := by omega
      have hj4 : (j : Int) < N := by omega
      have hj0 : (0 : Int) ≤ (j : Int) := by omega
      have hwr : IntKind.i64.wrap ((i : Int) - 1) = (j : Int) := by rw [wrap_small _ (by omega) (by omega)]; exact hj2
      have hwr2 : IntKind.i64.wrap (j : Int) = (j : Int) := wrap_small _ (by omega) (by omega)
      have hja : 0 ≤ (j : Int) ∧ (j : Int) < N := ⟨hj0, hj4⟩
      have hjk : j < k := by omega
      have hjl : j < p.length := by rw [← hk.out]; exact hjk
      obtain ⟨v, hv'⟩ : ∃ v, v = p.getD j 0 := ⟨_, rfl⟩
      obtain ⟨bp, op, hy, hcv⟩ := st.sent.2.get j hjl v hv'
      have Hv := hide hv'
      have hpv : ptF p i = v := by unfold ptF; rw [if_neg (by omega), hv']; congr 1; omega
      have hin : i < n := by omega
      obtain ⟨d, u, lo, hi, hsp, hokI, hd, hu⟩ := box_iv CN.out hin hPd.out (by unfold ptF; simp)
      rw [hpv] at hd hu
      have b1 := hokI.fl
      have b2 : -1099511627776 ≤ lo ∧ lo ≤ 1099511627776 := by omega
      have HBo : Hid (∀ (W : World) (z : Option Addr) (cz : Nat), ErrS W a → CsAt W z l → Calls Tryd.prog 40 #[(.agg #[.int .i64 N, (.slice z len cz)]), .int .i64 i] W fun e w' => e = .returned (.tuple #[(.agg #[.bool d, .bool u, .int .i64 lo, .int .i64 hi]), .bool true, .nilIface]) ∧ Below W.heap.size W w') := by
        intro W z cz h1 h2
        have hg := bounds_any N i z cz len l a W h1 h2 hl (by omega)
        rw [← Hn.out] at hg
        simp only [Int.toNat_natCast] at hg
        rw [hsp] at hg
        refine hg.mono ?_
        rintro e w' ⟨hb, h | h | h⟩
        · exact absurd (by unfold boErr; rw [firstE_0, firstE_0]; exact ⟨hz0.out, by unfold varErr; rw [if_neg (by omega)], rfl⟩) h.1
        · exact absurd CN.out.ok h.2.1
        · exact ⟨h.2.2, hb⟩
      have HHs : Hid (∀ W : World, Calls Tryd.prog 44 #[(.agg #[.bool d, .bool u, .int .i64 lo, .int .i64 hi]), .int .i64 v] W fun e w' => e = .returned (.bool true) ∧ Below W.heap.size W w') := fun W => zihas_any d u lo hi v hokI (fun h => (hd h).1) (fun h => (hu h).1) W
      have HG1 : Hid (u = false → ∀ (W : World) (z : Option Addr) (cz : Nat), ErrS W a → CsAt W z L → Calls Tryd.prog 35 #[(.agg #[.int .i64 N, (.slice z len cz)]), .int .i64 0, .int .i64 i, .int .i64 hi] W fun e w' => ∃ g cp, e = .returned (.tuple #[(.agg #[.int .i64 N, (.slice (some ⟨g, 0, none⟩) len cp)]), .bool true, .nilIface]) ∧ W.heap.size ≤ g ∧ RowC w' g 0 L ∧ Below W.heap.size W w') := by
        intro h W z cz h1 h2
        rw [HL.out] at h2 ⊢
        exact guard_own N 0 i hi n len (matOf n l) CN.out z1 hll.out (by omega) (by omega) (by simp only [Int.toNat_natCast, Int.toNat_zero]; exact (hu h).2) z cz a W h1 h2
      have HG2 : Hid (d = false → ∀ (W : World) (z : Option Addr) (cz : Nat), ErrS W a → CsAt W z L → Calls Tryd.prog 35 #[(.agg #[.int .i64 N, (.slice z len cz)]), .int .i64 i, .int .i64 0, .int .i64 (-lo)] W fun e w' => ∃ g cp, e = .returned (.tuple #[(.agg #[.int .i64 N, (.slice (some ⟨g, 0, none⟩) len cp)]), .bool true, .nilIface]) ∧ W.heap.size ≤ g ∧ RowC w' g 0 L ∧ Below W.heap.size W w') := by
        intro h W z cz h1 h2
        rw [HL.out] at h2 ⊢
        exact guard_own N i 0 (-lo) n len (matOf n l) CN.out z1 hll.out (by omega) (by omega) (by simp only [Int.toNat_natCast, Int.toNat_zero]; exact (hd h).2) z cz a W h1 h2
      clear hd hu hokI hsp hpv hv' b1 hij
      subst hy
      have hgB : g ≠ B + 1 := by omega
      go_wp2_with fail
      refine (HZ.out _ (st.sent.1.c (by simp))).mono ?_
      rintro e w8 ⟨z8, c8, rfl, hz8, hb8⟩
      have s8 := SR.call hb8
      have q8 := s8.hold
      simp only [Holds, and_true] at q8
      clear hb8
      go_wp2_with fail
      refine (HBo.out _ z8 c8 s8.sent.1.1.1.e hz8).mono ?_
      rintro e w9 ⟨rfl, hb9⟩
      have s9 := s8.call hb9
      have q9 := s9.hold
      simp only [Holds, and_true] at q9
      clear hb9 s8 q8 hz8 HBo
      have hBi : B + 1 < w9.heap.size := q9.1.2.1
      have s10 := s9.box4 63 (.bool d) (.bool u) (.int .i64 lo) (.int .i64 hi)
      have q10 := s10.hold
      simp only [Holds, and_true] at q10
      have hcv10 := ints_one s10.sent.1.1.2 hjl Hv.out
      go_upto_region 15 with fail
      clear s9 q9 qs hcv
      obtain ⟨Z6, hZ6⟩ : ∃ Z : World → Prop, Z = (Both (Both (Both (Zs false a [(x, l)]) (fun W => IntsAt W (some ⟨bp, op, none⟩) p)) (fun W => RowC W gn 0 L)) (fun W => RowC W g 0 L)) := ⟨_, rfl⟩
      rw [← hZ6] at s10
      have hP6 : Hid (∀ W, Z6 W → W.cell? ⟨bp, op + j, none⟩ = some (.int .i64 v)) := fun W h => by rw [hZ6] at h; exact ints_one h.1.1.2 hjl Hv.out
      have HZ6 := hide hZ6
      clear hZ6
      go_cut [89] (fun t89 wx => t89 = .bool false ∧ St wr wx Z6 ((w9.heap.size, 0, Value.bool d) :: (w9.heap.size, 1, Value.bool u) :: (w9.heap.size, 2, Value.int .i64 lo) :: (w9.heap.size, 3, Value.int .i64 hi) :: ((B + 1, 0, Value.int .i64 N) :: (B + 1, 1, Value.slice (some ⟨gn, 0, none⟩) len cn) :: (B, 0, Value.int .i64 N) :: (B, 1, Value.slice (some ⟨g, 0, none⟩) len cp) :: (w.heap.size, 0, Value.int .i64 N) :: (w.heap.size, 1, Value.slice x len c0) :: [])))
      case first =>
        go_region_held3 (fun w' => (w'.cell? ⟨bp, op + j, none⟩ = some (.int .i64 v)) ∧ (w'.cell? ⟨w9.heap.size, 0, none⟩ = some (.bool d) ∧ w'.cell? ⟨w9.heap.size, 1, none⟩ = some (.bool u) ∧ w'.cell? ⟨w9.heap.size, 2, none⟩ = some (.int .i64 lo) ∧ w'.cell? ⟨w9.heap.size, 3, none⟩ = some (.int .i64 hi) ∧ w'.cell? ⟨B + 1, 0, none⟩ = some (.int .i64 N) ∧ w'.cell? ⟨B + 1, 1, none⟩ = some (.slice (some ⟨gn, 0, none⟩) len cn) ∧ w'.cell? ⟨B, 0, none⟩ = some (.int .i64 N) ∧ w'.cell? ⟨B, 1, none⟩ = some (.slice (some ⟨g, 0, none⟩) len cp) ∧ w'.cell? ⟨w.heap.size, 0, none⟩ = some (.int .i64 N) ∧ w'.cell? ⟨w.heap.size, 1, none⟩ = some (.slice x len c0) ∧ St wr w' Z6 (((w9.heap.size, 0, Value.bool d) :: (w9.heap.size, 1, Value.bool u) :: (w9.heap.size, 2, Value.int .i64 lo) :: (w9.heap.size, 3, Value.int .i64 hi) :: ((B + 1, 0, Value.int .i64 N) :: (B + 1, 1, Value.slice (some ⟨gn, 0, none⟩) len cn) :: (B, 0, Value.int .i64 N) :: (B, 1, Value.slice (some ⟨g, 0, none⟩) len cp) :: (w.heap.size, 0, Value.int .i64 N) :: (w.heap.size, 1, Value.slice x len c0) :: []))))) (first | (exact keepX0 hP6.out (((w9.heap.size, 0, Value.bool d) :: (w9.heap.size, 1, Value.bool u) :: (w9.heap.size, 2, Value.int .i64 lo) :: (w9.heap.size, 3, Value.int .i64 hi) :: ((B + 1, 0, Value.int .i64 N) :: (B + 1, 1, Value.slice (some ⟨gn, 0, none⟩) len cn) :: (B, 0, Value.int .i64 N) :: (B, 1, Value.slice (some ⟨g, 0, none⟩) len cp) :: (w.heap.size, 0, Value.int .i64 N) :: (w.heap.size, 1, Value.slice x len c0) :: []))) s10.drew) | (exact keepX0 hP6.out (((w9.heap.size, 0, Value.bool d) :: (w9.heap.size, 1, Value.bool u) :: (w9.heap.size, 2, Value.int .i64 lo) :: (w9.heap.size, 3, Value.int .i64 hi) :: ((B + 1, 0, Value.int .i64 N) :: (B + 1, 1, Value.slice (some ⟨gn, 0, none⟩) len cn) :: (B, 0, Value.int .i64 N) :: (B, 1, Value.slice (some ⟨g, 0, none⟩) len cp) :: (w.heap.size, 0, Value.int .i64 N) :: (w.heap.size, 1, Value.slice x len c0) :: []))) s10) | (exact keepX hP6.out (((w9.heap.size, 0, Value.bool d) :: (w9.heap.size, 1, Value.bool u) :: (w9.heap.size, 2, Value.int .i64 lo) :: (w9.heap.size, 3, Value.int .i64 hi) :: ((B + 1, 0, Value.int .i64 N) :: (B + 1, 1, Value.slice (some ⟨gn, 0, none⟩) len cn) :: (B, 0, Value.int .i64 N) :: (B, 1, Value.slice (some ⟨g, 0, none⟩) len cp) :: (w.heap.size, 0, Value.int .i64 N) :: (w.heap.size, 1, Value.slice x len c0) :: []))) (by assumption) (by assumption)) | (exact keepX hP6.out (((w9.heap.size, 0, Value.bool d) :: (w9.heap.size, 1, Value.bool u) :: (w9.heap.size, 2, Value.int .i64 lo) :: (w9.heap.size, 3, Value.int .i64 hi) :: ((B + 1, 0, Value.int .i64 N) :: (B + 1, 1, Value.slice (some ⟨gn, 0, none⟩) len cn) :: (B, 0, Value.int .i64 N) :: (B, 1, Value.slice (some ⟨g, 0, none⟩) len cp) :: (w.heap.size, 0, Value.int .i64 N) :: (w.heap.size, 1, Value.slice x len c0) :: []))) (Below.refl _ _).drew (by assumption)) | assumption)
          (first | (go_at_call 44; refine (HHs.out _).mono ?_; rintro e w11 ⟨rfl, hb11⟩; have s11 := (keepX_st (w := wr) (Z := Z6) (P := fun W' => W'.cell? ⟨bp, op + j, none⟩ = some (.int .i64 v)) (((w9.heap.size, 0, Value.bool d) :: (w9.heap.size, 1, Value.bool u) :: (w9.heap.size, 2, Value.int .i64 lo) :: (w9.heap.size, 3, Value.int .i64 hi) :: ((B + 1, 0, Value.int .i64 N) :: (B + 1, 1, Value.slice (some ⟨gn, 0, none⟩) len cn) :: (B, 0, Value.int .i64 N) :: (B, 1, Value.slice (some ⟨g, 0, none⟩) len cp) :: (w.heap.size, 0, Value.int .i64 N) :: (w.heap.size, 1, Value.slice x len c0) :: []))) (by assumption)).call hb11))
        all_goals
          go_wp2_with fail
          go_meet
          case rel => exact ⟨rfl, s11⟩
      case rest =>
      obtain ⟨rfl, s11⟩ := hcut
      rw [HZ6.out] at s11
      clear hP6 HZ6
      clear s10 q10 hcv10 HHs
      have q11 := s11.hold
      simp only [Holds, and_true] at q11
      have hqB := q11.2.2.2.2.1.2.1
      have hBB : w9.heap.size ≠ B + 1 := by omega
      cases u
      · have G1 := HG1.out rfl
        go_wp2_with fail
        refine (G1 _ _ cn s11.sent.1.1.1.e (.inr ⟨gn, 0, rfl, s11.sent.1.2⟩)).mono ?_
        rintro e w12 ⟨g2, c2, rfl, hg2, hR2, hb12⟩
        have s12 := s11.call hb12
        have hg2B : B + 1 < g2 := by omega
        have s13 := St.now st s12 s12.sent.1.1 (by omega) ⟨(by dsimp only; omega), (by dsimp only; omega), (by dsimp only; omega), (by dsimp only; omega), trivial⟩ (by omega) (.int .i64 N) (.slice (some ⟨g2, 0, none⟩) len c2)
        have hs13 := (hR2.other (p := ⟨B + 1, 0, none⟩) (by show B + 1 ≠ g2; omega) (.int .i64 N)).other (p := ⟨B + 1, 1, none⟩) (by show B + 1 ≠ g2; omega) (.slice (some ⟨g2, 0, none⟩) len c2)
        have ks13 := ((show RowC w12 g 0 L from s12.sent.2).other (p := ⟨B + 1, 0, none⟩) (by show B + 1 ≠ g; omega) (.int .i64 N)).other (p := ⟨B + 1, 1, none⟩) (by show B + 1 ≠ g; omega) (.slice (some ⟨g2, 0, none⟩) len c2)
        have qs13 := s13.hold
        simp only [Holds, and_true] at qs13
        have hz13 := s12.hold
        simp only [Holds, and_true] at hz13
        have sz13 := qs13.2.2.2.2.1.2.1
        clear s12 s11 q11 hb12
        cases d
        · have G2 := HG2.out rfl
          have SR2 := (s13.re.both (Y := fun W => RowC W g2 0 L) hs13 (fun _ _ q hb => RowC.stays hs13.lt q hb)).both (Y := fun W => RowC W g 0 L) ks13 (fun _ _ q hb => RowC.stays ks13.lt q hb)
          go_wp2_with fail
          refine (G2 _ _ c2 SR2.sent.1.1.1.e (.inr ⟨g2, 0, rfl, SR2.sent.1.2⟩)).mono ?_
          rintro e w14 ⟨g4, c4, rfl, hg4, hR4, hb14⟩
          have s14 := SR2.call hb14
          have q14 := s14.hold
          simp only [Holds, and_true] at q14
          have hg4B : B + 1 < g4 := by omega
          have s15 := St.now s13 s14 s14.sent.1.1 (by omega) ⟨(by dsimp only; omega), (by dsimp only; omega), (by dsimp only; omega), (by dsimp only; omega), trivial⟩ (by omega) (.int .i64 N) (.slice (some ⟨g4, 0, none⟩) len c4)
          have hs15 := (hR4.other (p := ⟨B + 1, 0, none⟩) (by show B + 1 ≠ g4; omega) (.int .i64 N)).other (p := ⟨B + 1, 1, none⟩) (by show B + 1 ≠ g4; omega) (.slice (some ⟨g4, 0, none⟩) len c4)
          have ks15 := ((show RowC w14 g 0 L from s14.sent.2).other (p := ⟨B + 1, 0, none⟩) (by show B + 1 ≠ g; omega) (.int .i64 N)).other (p := ⟨B + 1, 1, none⟩) (by show B + 1 ≠ g; omega) (.slice (some ⟨g4, 0, none⟩) len c4)
          have qs15 := s15.hold
          simp only [Holds, and_true] at qs15
          clear s14 hb14
          go_wp2_with fail
          go_roundg (k - i)
          case measure => omega
          case rel => exact ⟨i + 1, g4, c4, by omega, by omega, by go_num, by omega, hs15, ks15, s15.drop 4⟩
        · go_wp2_with fail
          go_roundg (k - i)
          case measure => omega
          case rel => exact ⟨i + 1, g2, c2, by omega, by omega, by go_num, by omega, hs13, ks13, s13.drop 4⟩
      · cases d
        · have G2 := HG2.out rfl
          go_wp2_with fail
          refine (G2 _ _ cn s11.sent.1.1.1.e (.inr ⟨gn, 0, rfl, s11.sent.1.2⟩)).mono ?_
          rintro e w12 ⟨g2, c2, rfl, hg2, hR2, hb12⟩
          have s12 := s11.call hb12
          have q12 := s12.hold
          simp only [Holds, and_true] at q12
          have hg2B : B + 1 < g2 := by omega
          have s13 := St.now st s12 s12.sent.1.1 (by omega) ⟨(by dsimp only; omega), (by dsimp only; omega), (by dsimp only; omega), (by dsimp only; omega), trivial⟩ (by omega) (.int .i64 N) (.slice (some ⟨g2, 0, none⟩) len c2)
          have hs13 := (hR2.other (p := ⟨B + 1, 0, none⟩) (by show B + 1 ≠ g2; omega) (.int .i64 N)).other (p := ⟨B + 1, 1, none⟩) (by show B + 1 ≠ g2; omega) (.slice (some ⟨g2, 0, none⟩) len c2)
          have ks13 := ((show RowC w12 g 0 L from s12.sent.2).other (p := ⟨B + 1, 0, none⟩) (by show B + 1 ≠ g; omega) (.int .i64 N)).other (p := ⟨B + 1, 1, none⟩) (by show B + 1 ≠ g; omega) (.slice (some ⟨g2, 0, none⟩) len c2)
          have qs13 := s13.hold
          simp only [Holds, and_true] at qs13
          clear s12 s11 q11 hb12
          go_wp2_with fail
          go_roundg (k - i)
          case measure => omega
          case rel => exact ⟨i + 1, g2, c2, by omega, by omega, by go_num, by omega, hs13, ks13, s13.drop 4⟩
        · go_wp2_with fail
          go_roundg (k - i)
          case measure => omega
          case rel => exact ⟨i + 1, gn, cn, by omega, by omega, by go_num, by omega, s11.sent.1.2, s11.sent.2, ⟨st.bel.trans (s11.bel.mono st.bel.size), (s11.drop 4).hold, s11.sent.1.1, st.cl⟩⟩
    · have hi' : ¬ (i : Int) ≤ N := by omega
      have HB : Hid (∀ W : World, CsAt W (some ⟨g, 0, none⟩) L → Calls Tryd.prog 43 #[(.agg #[.int .i64 N, (.slice (some ⟨g, 0, none⟩) len cp)])] W fun e w' => ∃ y cap, e = .returned (.agg #[.int .i64 N, (.slice y len cap)]) ∧ CsAt w' y L ∧ Below W.heap.size W w') := fun W h => zoneBack_any N (some ⟨g, 0, none⟩) cp len L W h hLl (by omega)
      have HIz : Hid (∀ (W : World) (z : Option Addr) (cz : Nat), CsAt W (some ⟨gn, 0, none⟩) L → CsAt W z L → Calls Tryd.prog 25 #[(.agg #[.int .i64 N, (.slice (some ⟨gn, 0, none⟩) len cn)]), (.agg #[.int .i64 N, (.slice z len cz)])] W fun e w' => e = .returned (.bool true) ∧ Below W.heap.size W w') := by
        intro W z cz h1 h2
        refine (isZone_any N N _ z len cn len cz L L W h1 h2 hLl hLl (by omega)).mono ?_
        rintro e w' ⟨rfl, hb⟩
        exact ⟨by simp, hb⟩
      have hbX := st.bel
      clear st
      go_wp2_with fail
      go_region_with (first
        | (go_at_call 43; refine (HB.out _ (.inr ⟨g, 0, rfl, SR.drew.sent.2⟩)).mono ?_; rintro e w9 ⟨y9, c9, rfl, hy9, hb9⟩; have s9 := SR.drew.call hb9; have q9 := s9.hold; simp only [Holds, and_true] at q9)
        | (go_at_call 25; refine (HIz.out _ y9 c9 (.inr ⟨gn, 0, rfl, s9.sent.1.2⟩) hy9).mono ?_; rintro e w10 ⟨rfl, hb10⟩; have s10 := s9.call hb10))
      all_goals
        go_wp2_with fail
        go_ret
        exact ⟨rfl, hbX.trans (s10.bel.mono hbX.size)⟩

theorem zoneBox_true (N : Int) (x : Option Addr) (c0 : Nat) (l : List Ce) (yp : Option Addr) (cy k : Nat) (p : List Int) (a : Nat → Addr) (w : World) (hS : ErrS w a) (hN : -9223372036854775808 ≤ N ∧ N ≤ 9223372036854775807) (hA : CsAt w x l) (hlen : l.length ≤ 9223372036854775807) (hm : ∀ A ∈ l, -9223372036854775808 ≤ A.m ∧ A.m ≤ 9223372036854775807)
    (hI : IntsAt w yp p) (hk : k = p.length) (hkl : k ≤ 9223372036854775807) (hw : ∀ v ∈ p, -9223372036854775808 ≤ v ∧ v ≤ 9223372036854775807) :
    Calls Tryd.prog 10 #[(.agg #[.int .i64 N, (.slice x l.length c0)]), .slice yp k cy] w fun e w' => e = .returned (.bool true) ∧ Below w.heap.size w w' :=
  zoneBox_by N x c0 l.length l yp cy k p a w hS hA hI rfl hlen hk hkl
end Go.Proofs.YthnjnieocjpjiaaDoor
