/- Zones: what is done with a point is of what is told: the law's walk. -/
import Derived.Test.YthnjnieocjpjiaaDoorZv
import Derived.Deep.Cut
import Derived.Deep.DeepCutAuto
namespace Go.Proofs.YthnjnieocjpjiaaDoor
open Go.RowKit
set_option linter.unusedVariables false

theorem far_ok {v B : Int} (h : farB v B = false) (hB : 0 ≤ B) : v.natAbs ≤ B.natAbs := by
  simp [farB] at h; omega

set_option maxRecDepth 20000 in
set_option maxHeartbeats 8000000 in
theorem zoneSound_by (N M x y c : Int) (xa xb : Option Addr) (ca cb la lb : Nat) (lA lB : List Ce) (yp : Option Addr) (cy k : Nat) (p : List Int) (a : Nat → Addr) (w : World) (hS : ErrS w a) (h3 : ErrAt w a 3) (hA : CsAt w xa lA) (hB : CsAt w xb lB) (hI : IntsAt w yp p) (hla : Hid (la = lA.length)) (hlb : Hid (lb = lB.length)) (hlal : la ≤ 9223372036854775807) (hlbl : lb ≤ 9223372036854775807) (hk : Hid (k = p.length)) (hkl : k ≤ 9223372036854775807) :
    Calls Tryd.prog 8 #[(.agg #[.int .i64 N, (.slice xa la ca)]), (.agg #[.int .i64 M, (.slice xb lb cb)]), .slice yp k cy, .int .i64 x, .int .i64 y, .int .i64 c] w fun e w' => e = .returned (.bool true) ∧ Below w.heap.size w w' := by
  have s0 := (((St.startZs (em := true) (cs := [(xa, lA), (xb, lB)]) hS (fun _ => h3) (by intro p hp; simp at hp; rcases hp with rfl | rfl; exact hA; exact hB)).both (Y := fun W => IntsAt W yp p) hI (fun _ _ q hb => hI.stays q hb)).box2 24 (.int .i64 N) (.slice xa la ca)).box2 24 (.int .i64 M) (.slice xb lb cb)
  simp only [World.size_alloc] at s0
  go_enter Tryd.func8, Tryd.ntmps8
  go_wp2_with fail
  refine (free_any a _ s0.sent.1.e).mono ?_
  rintro e w1 ⟨rfl, hb1⟩
  (have s1 := s0.call hb1; have q1 := s1.hold; simp only [Holds, and_true] at q1; clear s0 hb1; try clear q0)
  clear hS hA hB hI h3
  by_cases h1 : la ≤ 100
  rotate_left
  · have h1' : (100 : Int) < (la : Int) := by omega
    go_wp2_with fail
    go_ret
    exact ⟨rfl, s1.bel⟩
  have h1' : ¬ (100 : Int) < (la : Int) := by omega
  by_cases h2 : lb ≤ 100
  rotate_left
  · have h2' : (100 : Int) < (lb : Int) := by omega
    go_wp2_with fail
    go_ret
    exact ⟨rfl, s1.bel⟩
  have h2' : ¬ (100 : Int) < (lb : Int) := by omega
  by_cases h4 : k ≤ 10
  rotate_left
  · have h4' : (10 : Int) < (k : Int) := by omega
    go_wp2_with fail
    go_ret
    exact ⟨rfl, s1.bel⟩
  have h4' : ¬ (10 : Int) < (k : Int) := by omega
  obtain ⟨fc, hfc⟩ : ∃ b, b = farB c 1048576 := ⟨_, rfl⟩
  have HF : Hid (∀ W : World, Calls Tryd.prog 20 #[.int .i64 c, .int .i64 1048576] W fun e w' => e = .returned (.bool fc) ∧ w' = W) := fun W => by rw [hfc]; exact far_any c _ W (by omega) (by omega)
  have Hfc := hide hfc
  clear hfc
  go_wp2_with fail
  refine (HF.out _).mono ?_
  rintro e w2 ⟨rfl, hw2⟩
  rw [hw2]
  clear hw2 w2 HF
  cases fc
  rotate_left
  · go_wp2_with fail
    go_ret
    exact ⟨rfl, s1.bel⟩
  have hc20 : c.natAbs ≤ 1048576 := far_ok Hfc.out.symm (by omega)
  obtain ⟨na, hna⟩ : ∃ b, b = nearL lA 1048576 := ⟨_, rfl⟩
  obtain ⟨nb, hnb⟩ : ∃ b, b = nearL lB 1048576 := ⟨_, rfl⟩
  have HNa : Hid (∀ W : World, CsAt W xa lA → Calls Tryd.prog 23 #[.slice xa la ca] W fun e w' => e = .returned (.bool na) ∧ w' = W) := fun W h => by
    have := near_law xa ca la lA W h hla hlal
    rw [decide_eq_true h1, Bool.true_and, ← hna] at this
    exact this
  have HNb : Hid (∀ W : World, CsAt W xb lB → Calls Tryd.prog 23 #[.slice xb lb cb] W fun e w' => e = .returned (.bool nb) ∧ w' = W) := fun W h => by
    have := near_law xb cb lb lB W h hlb hlbl
    rw [decide_eq_true h2, Bool.true_and, ← hnb] at this
    exact this
  clear hna hnb
  go_wp2_with fail
  refine (HNa.out _ (s1.sent.1.c (by simp))).mono ?_
  rintro e w2 ⟨rfl, hw2⟩
  rw [hw2]
  clear hw2 w2 HNa
  cases na
  · go_wp2_with fail
    go_ret
    exact ⟨rfl, s1.bel⟩
  go_wp2_with fail
  refine (HNb.out _ (s1.sent.1.c (by simp))).mono ?_
  rintro e w2 ⟨rfl, hw2⟩
  rw [hw2]
  clear hw2 w2 HNb
  cases nb
  · go_wp2_with fail
    go_ret
    exact ⟨rfl, s1.bel⟩
  have HZ : Hid (∀ W : World, CsAt W xa lA → Calls Tryd.prog 15 #[(.agg #[.int .i64 N, (.slice xa la ca)])] W fun e w' => ∃ z cap, e = .returned (.agg #[.int .i64 N, (.slice z la cap)]) ∧ CsAt w' z lA ∧ Below W.heap.size W w') := fun W h => zoneOf_any N xa ca la lA W h hla (by omega)
  have HZb : Hid (∀ W : World, CsAt W xb lB → Calls Tryd.prog 15 #[(.agg #[.int .i64 M, (.slice xb lb cb)])] W fun e w' => ∃ z cap, e = .returned (.agg #[.int .i64 M, (.slice z lb cap)]) ∧ CsAt w' z lB ∧ Below W.heap.size W w') := fun W h => zoneOf_any M xb cb lb lB W h hlb (by omega)
  have HI : Hid (∀ W : World, IntsAt W yp p → Calls Tryd.prog 17 #[.slice yp k cy] W fun e w' => ∃ y' cap, e = .returned (.slice y' k cap) ∧ IntsAt w' y' p ∧ Below W.heap.size W w') := fun W h => intsCopy_as yp k cy p W h hk (by omega)
  obtain ⟨F, hF⟩ : ∃ F, F = hasErr N lA p := ⟨_, rfl⟩
  obtain ⟨hv, hhv⟩ : ∃ b, b = (decide (F = 0) && inB (nOf N) (ptD p) (encM (matOf (nOf N) lA))) := ⟨_, rfl⟩
  have HH : Hid (∀ (W : World) (z y' : Option Addr) (cz cy : Nat), ErrS W a → CsAt W z lA → IntsAt W y' p → Calls Tryd.prog 16 #[(.agg #[.int .i64 N, (.slice z la cz)]), .slice y' k cy] W fun e w' => e = .returned (.tuple #[.bool hv, erV a F]) ∧ Below W.heap.size W w') := by
    intro W z y' cz cy h1 h2 h3
    refine (has_any N z la cz lA y' k cy p a W h1 h2 h3 hla (by omega) hk (by omega)).mono ?_
    rintro e w' ⟨hb, h | h⟩
    · rw [← hF] at h
      exact ⟨by rw [h.2, hhv, decide_eq_false h.1]; rfl, hb⟩
    · rw [← hF] at h
      exact ⟨by rw [h.2, hhv, decide_eq_true h.1, h.1]; rfl, hb⟩
  have HFq := hide hF
  have Hhv := hide hhv
  clear hF hhv
  go_wp2_with fail
  refine (HZ.out _ (s1.sent.1.c (by simp))).mono ?_
  rintro e w2 ⟨z2, d2, rfl, hz2, hb2⟩
  (have s2 := s1.call hb2; have q2 := s2.hold; simp only [Holds, and_true] at q2; clear s1 hb2; try clear q1)
  go_wp2_with fail
  refine (HI.out _ s2.sent.2).mono ?_
  rintro e w3 ⟨y3, d3, rfl, hy3, hb3⟩
  have hz3 := hz2.below hb3
  (have s3 := s2.call hb3; have q3 := s3.hold; simp only [Holds, and_true] at q3; clear s2 hb3; try clear q2)
  go_wp2_with fail
  refine (HH.out _ z2 y3 d2 d3 s3.sent.1.e hz3 hy3).mono ?_
  rintro e w4 ⟨rfl, hb4⟩
  (have s4 := s3.call hb4; have q4 := s4.hold; simp only [Holds, and_true] at q4; clear s3 hb4; try clear q3)
  clear hz2 hz3 hy3 HH HI
  by_cases hF0 : F = 0
  rotate_left
  · rw [erV_ne hF0]
    clear HFq Hhv hF0
    go_wp2_with fail
    go_ret
    exact ⟨rfl, s4.bel⟩
  subst hF0
  rw [erV_0]
  cases hv
  · clear HFq Hhv
    go_wp2_with fail
    go_ret
    exact ⟨rfl, s4.bel⟩
  by_cases x1 : x < 1
  · clear HFq Hhv
    go_wp2_with fail
    go_ret
    exact ⟨rfl, s4.bel⟩
  by_cases xN : N < x
  · clear HFq Hhv
    go_wp2_with fail
    go_ret
    exact ⟨rfl, s4.bel⟩
  by_cases y0 : y < 0
  · clear HFq Hhv
    go_wp2_with fail
    go_ret
    exact ⟨rfl, s4.bel⟩
  by_cases yN : N < y
  · clear HFq Hhv
    go_wp2_with fail
    go_ret
    exact ⟨rfl, s4.bel⟩
  have hall : firstE [zErr N lA, ptErr N p] = 0 := HFq.out.symm
  rw [firstE_0, firstE_0] at hall
  obtain ⟨z1, z2', z3, z4, z5, z6⟩ := zErr_0 hall.1
  obtain ⟨p1, p2⟩ := ptErr_0 hall.2.1
  have hz0 : Hid (zErr N lA = 0) := hall.1
  have hinB : inB (nOf N) (ptD p) (encM (matOf (nOf N) lA)) = true := by have := Hhv.out; simpa using this.symm
  obtain ⟨n, hn⟩ : ∃ n, n = nOf N := ⟨_, rfl⟩
  rw [← hn] at z1 z2' z3 z4 hinB
  have Hn := hide hn
  have hP : Pt n (matOf n lA) (ptF p) := (inB_pt z2' p2).1 hinB
  have hok : NoNeg n (fw (matOf n lA) n) := fw_some.1 ⟨_, hP⟩
  have hPd := hide ((fw_pt (Nat.le_refl n)).2 hP)
  have Hok := hide hok
  have hll : Hid (la = n * n) := by show _ = _; rw [hla.out]; exact z4
  have hkN : (k : Int) = N := by rw [hk.out]; exact p1
  have hnn : Hid (1 ≤ n ∧ n ≤ 5) := ⟨z2', z3⟩
  have hN4 : 0 ≤ N ∧ N ≤ 4 := by omega
  obtain ⟨x', hx'⟩ : ∃ j : Nat, (j : Int) = x := ⟨x.toNat, by omega⟩
  obtain ⟨y', hy'⟩ : ∃ j : Nat, (j : Int) = y := ⟨y.toNat, by omega⟩
  subst hx' hy'
  have hx1 : 1 ≤ x' := by omega
  have hxk : x' ≤ k := by omega
  have hyn : y' < n := by omega
  have hyk : y' ≤ k := by omega
  clear hall z2' z3 z4 z5 z6 p1 hinB hn hP hok HFq Hhv x1 xN y0 yN
  have HFo : Hid (∀ (W : World) (z : Option Addr) (cz : Nat), ErrS W a → CsAt W z lA → Calls Tryd.prog 33 #[(.agg #[.int .i64 N, (.slice z la cz)]), .int .i64 x'] W fun e w' => ∃ g cp, e = .returned (.tuple #[(.agg #[.int .i64 N, (.slice (some ⟨g, 0, none⟩) la cp)]), .bool true, .nilIface]) ∧ W.heap.size ≤ g ∧ RowC w' g 0 (tellL n (woM (fw (matOf n lA) n) x')) ∧ Below W.heap.size W w') := by
    intro W z cz h1 h2
    have hg := forget_any N x' z cz la lA a W h1 h2 hla (by omega)
    rw [← Hn.out] at hg
    refine hg.mono ?_
    rintro e w' ⟨hb, h | h | h⟩
    · exact absurd (by unfold foErr; rw [firstE_0, firstE_0]; exact ⟨hz0.out, by unfold varErr; rw [if_neg (by omega)], rfl⟩) h.1
    · exact absurd Hok.out h.2.1
    · obtain ⟨_, _, g, cp, rfl, hg, hR⟩ := h
      exact ⟨g, cp, rfl, hg, hR, hb⟩
  have HAs : Hid (∀ (W : World) (z : Option Addr) (cz : Nat), ErrS W a → CsAt W z lA → Calls Tryd.prog 34 #[(.agg #[.int .i64 N, (.slice z la cz)]), .int .i64 x', .int .i64 y', .int .i64 c] W fun e w' => ∃ g cp, e = .returned (.tuple #[(.agg #[.int .i64 N, (.slice (some ⟨g, 0, none⟩) la cp)]), .bool true, .nilIface]) ∧ W.heap.size ≤ g ∧ RowC w' g 0 (tellL n (mvM (fw (matOf n lA) n) x' y' c)) ∧ Below W.heap.size W w') := by
    intro W z cz h1 h2
    have hg := assign_any N x' y' c z cz la lA a W h1 h2 hla (by omega)
    rw [← Hn.out] at hg
    refine hg.mono ?_
    rintro e w' ⟨hb, h | h | h⟩
    · exact absurd (by unfold asErr; rw [firstE_0, firstE_0, firstE_0, firstE_0]; exact ⟨hz0.out, by unfold varErr; rw [if_neg (by omega)], by unfold varErr; rw [if_neg (by omega)], by unfold numErr; rw [if_neg (by simp [farB]; omega)], rfl⟩) h.1
    · exact absurd Hok.out h.2.1
    · obtain ⟨_, _, g, cp, rfl, hg, hR⟩ := h
      exact ⟨g, cp, rfl, hg, hR, hb⟩
  have HO : Hid (∀ W : World, IntsAt W yp p → Calls Tryd.prog 17 #[.slice yp k cy] W fun e w' => ∃ g cp, e = .returned (.slice (some ⟨g, 0, none⟩) k cp) ∧ W.heap.size ≤ g ∧ IntsAt w' (some ⟨g, 0, none⟩) p ∧ g < w'.heap.size ∧ (∀ o, w'.frozen? ⟨g, o, none⟩ = false) ∧ Below W.heap.size W w') := fun W h => ints_own yp k cy p W h hk (by omega) (by omega)
  obtain ⟨xm, hxm⟩ : ∃ j : Nat, x' = j + 1 := ⟨x' - 1, by omega⟩
  have hx2 : (x' : Int) - 1 = (xm : Int) := by omega
  have hx3 : (xm : Int) < (k : Int) := by omega
  have hxm' : Hid (x' - 1 = xm) := by show _ = _; omega
  have hxmk : xm < k := by omega
  clear hxm
  go_wp2_with fail
  go_loopg [16] k (fun gh iv wr => ∃ i : Nat, i + gh = k ∧ iv = .int .i64 i ∧ w4 = wr ∧ Hid (∀ v ∈ p.take i, v.natAbs ≤ 1048576))
  case atStart => exact ⟨0, by omega, rfl, rfl, fun v hv => by simp at hv⟩
  case round =>
    obtain ⟨i, hig, rfl, rfl, HL⟩ := hrel
    by_cases hik : i < k
    · have hik' : (i : Int) < (k : Int) := by omega
      have hil : i < p.length := by rw [← hk.out]; exact hik
      obtain ⟨v, hv'⟩ : ∃ v, v = p.getD i 0 := ⟨_, rfl⟩
      obtain ⟨bp, op, hy, hcv⟩ := s4.sent.2.get i hil v hv'
      obtain ⟨fb, hfb⟩ : ∃ b, b = farB v 1048576 := ⟨_, rfl⟩
      have HFr : Hid (∀ W : World, Calls Tryd.prog 20 #[.int .i64 v, .int .i64 1048576] W fun e w' => e = .returned (.bool fb) ∧ w' = W) := fun W => by rw [hfb]; exact far_any v _ W (by omega) (by omega)
      have Hv := hide hv'
      have Hfb := hide hfb
      clear hv' hfb
      subst hy
      go_wp2_with fail
      refine (HFr.out _).mono ?_
      rintro e w5 ⟨rfl, hw5⟩
      rw [hw5]
      cases fb
      · go_wp2_with fail
        go_roundg (k - (i + 1))
        case measure => omega
        case rel =>
          refine ⟨i + 1, by omega, by go_num, rfl, fun u hu => ?_⟩
          rw [List.take_add_one] at hu
          rcases List.mem_append.1 hu with hu | hu
          · exact HL.out u hu
          · have : u = v := by rw [Hv.out]; simp [hil] at hu; first | (rw [hu]; simp [hil]) | (rw [← hu]; simp [hil])
            rw [this]
            exact far_ok Hfb.out.symm (by omega)
      · go_wp2_with fail
        go_ret
        exact ⟨rfl, s4.bel⟩
    · have hik' : ¬ (i : Int) < (k : Int) := by omega
      have hs20 : Hid (∀ v ∈ p, v.natAbs ≤ 1048576) := by
        have := HL.out
        rw [List.take_of_length_le (by rw [← hk.out]; omega)] at this
        exact this
      clear HL
      have hpy : (ptF p y').natAbs ≤ 1048576 := by
        unfold ptF
        split
        · simp
        · by_cases hyy : y' - 1 < p.length
          · have e : p.getD (y' - 1) 0 = p[y' - 1] := by simp [hyy]
            rw [e]; exact hs20.out _ (List.getElem_mem hyy)
          · have e : p.getD (y' - 1) 0 = 0 := by simp [Nat.le_of_not_lt hyy]
            rw [e]; simp
      have hset : ∀ (u : Int), u.natAbs ≤ 4194304 → ∀ v ∈ p.set xm u, v.natAbs ≤ 1099511627776 := by
        intro u hu v hv
        rcases List.mem_or_eq_of_mem_set hv with h | h
        · have := hs20.out v h; omega
        · rw [h]; omega
      have HT1 : Hid (∀ (W : World) (z : Option Addr) (cz : Nat) (q : Option Addr) (cq : Nat), ErrS W a → CsAt W z (tellL n (woM (fw (matOf n lA) n) x')) → IntsAt W q (p.set xm c) → Calls Tryd.prog 16 #[(.agg #[.int .i64 N, (.slice z la cz)]), .slice q k cq] W fun e w' => e = .returned (.tuple #[.bool true, .nilIface]) ∧ Below W.heap.size W w') := fun W z cz q cq h1 h2 h3 =>
        has_told N n la k _ (p.set xm c) z cz q cq a W z1 hnn.out hll.out hkN (by rw [List.length_set]; exact hk.out) (hset c (by omega)) (by have := pt_wo hPd.out hx1 (by rw [← hk.out]; exact hxk) c; rw [hxm'.out] at this; exact this) h1 h2 h3
      have HT2 : Hid (∀ (W : World) (z : Option Addr) (cz : Nat) (q : Option Addr) (cq : Nat), ErrS W a → CsAt W z (tellL n (mvM (fw (matOf n lA) n) x' y' c)) → IntsAt W q (p.set xm (ptF p y' + c)) → Calls Tryd.prog 16 #[(.agg #[.int .i64 N, (.slice z la cz)]), .slice q k cq] W fun e w' => e = .returned (.tuple #[.bool true, .nilIface]) ∧ Below W.heap.size W w') := fun W z cz q cq h1 h2 h3 =>
        has_told N n la k _ (p.set xm (ptF p y' + c)) z cz q cq a W z1 hnn.out hll.out hkN (by rw [List.length_set]; exact hk.out) (hset _ (by omega)) (by have := pt_mv hPd.out hx1 (by rw [← hk.out]; exact hxk) hyn c; rw [hxm'.out] at this; exact this) h1 h2 h3
      have HT3 : Hid (∀ (W : World) (z : Option Addr) (cz : Nat) (q : Option Addr) (cq : Nat), ErrS W a → CsAt W z (tellL n (joinM n (matOf n lA) (matOf n lB))) → IntsAt W q p → Calls Tryd.prog 16 #[(.agg #[.int .i64 N, (.slice z la cz)]), .slice q k cq] W fun e w' => e = .returned (.tuple #[.bool true, .nilIface]) ∧ Below W.heap.size W w') := fun W z cz q cq h1 h2 h3 =>
        has_told N n la k _ p z cz q cq a W z1 hnn.out hll.out hkN hk.out p2 (pt_join hPd.out Hok.out) h1 h2 h3
      obtain ⟨Lf, hLf⟩ : ∃ L, L = tellL n (woM (fw (matOf n lA) n) x') := ⟨_, rfl⟩
      obtain ⟨Lg, hLg⟩ : ∃ L, L = tellL n (mvM (fw (matOf n lA) n) x' y' c) := ⟨_, rfl⟩
      rw [← hLf] at HFo HT1
      rw [← hLg] at HAs HT2
      have hpc : Hid (∀ (W : World), IntsAt W yp p → 1 ≤ y' → ∃ bp op, yp = some ⟨bp, op, none⟩ ∧ W.cell? ⟨bp, op + (y' - 1), none⟩ = some (.int .i64 (ptF p y'))) := by
        intro W h hy1
        exact h.get (y' - 1) (by rw [← hk.out]; omega) _ (by unfold ptF; rw [if_neg (by omega)])
      clear hLf hLg hset hs20 hPd p2
      go_wp2_with fail
      refine (HZ.out _ (s4.sent.1.c (by simp))).mono ?_
      rintro e w5 ⟨z5, d5, rfl, hz5, hb5⟩
      (have s5 := s4.call hb5; have q5 := s5.hold; simp only [Holds, and_true] at q5; clear s4 hb5; try clear q4)
      go_wp2_with fail
      refine (HFo.out _ z5 d5 s5.sent.1.e hz5).mono ?_
      rintro e w6 ⟨gf, cf, rfl, hgf, hRf, hb6⟩
      (have s6 := s5.call hb6; have q6 := s6.hold; simp only [Holds, and_true] at q6; clear s5 hb6; try clear q5)
      have s6b := s6.box2 30 (.int .i64 N) (.slice (some ⟨gf, 0, none⟩) la cf)
      have hRf2 : CsAt _ (some ⟨gf, 0, none⟩) Lf := .inr ⟨gf, 0, rfl, hRf.below ((Below.refl _ _).alloc (Nat.le_refl _) (.cells #[.int .i64 N, .slice (some ⟨gf, 0, none⟩) la cf] 30))⟩
      have hbV := s6b.bel
      have s7 := s6b.re.both (Y := fun W => CsAt W (some ⟨gf, 0, none⟩) Lf) hRf2 (fun _ _ q hb => CsAt.stays hRf2 q hb)
      clear s6 s6b hRf hRf2 hz5 hgf HFo
      go_wp2_with fail
      refine (HO.out _ s7.sent.1.2).mono ?_
      rintro e w8 ⟨gq, cq, rfl, hgq, hq8, hql, hfr8, hb8⟩
      have k7 := s7.hold
      have s8 := s7.call hb8
      have q8 := s8.hold
      simp only [Holds, and_true] at q8
      obtain ⟨_, _, eq8, hc8⟩ := hq8.get xm (by rw [← hk.out]; exact hxmk) _ rfl
      obtain ⟨rfl, rfl⟩ : gq = _ ∧ 0 = _ := by simpa using eq8
      rw [Nat.zero_add] at hc8
      have f8 := hfr8 xm
      have s9 := s8.setP (p := ⟨gq, xm, none⟩) hgq (k7.apart_ge hgq) (.int .i64 c)
      have hq9 := hq8.set (k := xm) (by rw [← hk.out]; exact hxmk) c
      have hfr9 : ∀ o, (w8.setCell ⟨gq, xm, none⟩ (.int .i64 c)).frozen? ⟨gq, o, none⟩ = false := by intro o; rw [frozen?_setCell']; exact hfr8 o
      have hql9 : gq < (w8.setCell ⟨gq, xm, none⟩ (.int .i64 c)).heap.size := by simpa [World.setCell] using hql
      clear s7 hfr8 hq8 eq8 hql hb8
      go_upto_region 17 with fail
      obtain ⟨W9, hW9, s9⟩ := s9.name'
      rw [← hW9] at hq9 hfr9 hql9 ⊢
      clear hW9 q8 s8 hc8 f8
      have q9 := s9.hold
      simp only [Holds, and_true] at q9
      go_wp2_with fail
      refine (HT1.out _ _ cf _ cq s9.sent.1.1.e s9.sent.2 hq9).mono ?_
      rintro e w10 ⟨rfl, hb10⟩
      have hq10 := hq9.below hb10
      have hfr10 : ∀ o, w10.frozen? ⟨gq, o, none⟩ = false := fun o => (hb10.frozen (p := ⟨gq, o, none⟩) hql9).trans (hfr9 o)
      have hql10 := Nat.lt_of_lt_of_le hql9 hb10.size
      (have s10 := s9.call hb10; have q10 := s10.hold; simp only [Holds, and_true] at q10; clear s9 hb10; try clear q9)
      clear hq9 hfr9 hql9 HT1
      go_wp2_with fail
      refine (HZ.out _ (s10.sent.1.1.c (by simp))).mono ?_
      rintro e w11 ⟨z11, d11, rfl, hz11, hb11⟩
      have hq11 := hq10.below hb11
      have hfr11 : ∀ o, w11.frozen? ⟨gq, o, none⟩ = false := fun o => (hb11.frozen (p := ⟨gq, o, none⟩) hql10).trans (hfr10 o)
      have hql11 := Nat.lt_of_lt_of_le hql10 hb11.size
      (have s11 := s10.call hb11; have q11 := s11.hold; simp only [Holds, and_true] at q11; clear s10 hb11; try clear q10)
      clear hq10 hfr10 hql10
      go_wp2_with fail
      refine (HAs.out _ z11 d11 s11.sent.1.1.e hz11).mono ?_
      rintro e w12 ⟨gg, cg, rfl, hgg, hRg, hb12⟩
      have hq12 := hq11.below hb12
      have hfr12 : ∀ o, w12.frozen? ⟨gq, o, none⟩ = false := fun o => (hb12.frozen (p := ⟨gq, o, none⟩) hql11).trans (hfr11 o)
      have hql12 := Nat.lt_of_lt_of_le hql11 hb12.size
      (have s12 := s11.call hb12; have q12 := s12.hold; simp only [Holds, and_true] at q12; clear s11 hb12; try clear q11)
      clear hq11 hfr11 hz11 HAs
      have s13 := s12.box2 30 (.int .i64 N) (.slice (some ⟨gg, 0, none⟩) la cg)
      have B13 : Below w12.heap.size w12 (w12.alloc (.cells #[.int .i64 N, .slice (some ⟨gg, 0, none⟩) la cg] 30)) := (Below.refl _ _).alloc (Nat.le_refl _) _
      have hRg13 := hRg.below B13
      have hq13 := hq12.below B13
      have hfr13 : ∀ o, (w12.alloc (.cells #[.int .i64 N, .slice (some ⟨gg, 0, none⟩) la cg] 30)).frozen? ⟨gq, o, none⟩ = false := fun o => (B13.frozen (p := ⟨gq, o, none⟩) hql12).trans (hfr12 o)
      clear hRg hq12 hfr12 B13
      have hggq : gq < gg := by omega
      go_upto_if 154 with fail
      obtain ⟨W13, hW13⟩ : ∃ W, W = w12.alloc (.cells #[.int .i64 N, .slice (some ⟨gg, 0, none⟩) la cg] 30) := ⟨_, rfl⟩
      rw [← hW13] at s13 hRg13 hq13 hfr13 ⊢
      clear hW13 q12
      have q13 := s13.hold
      simp only [Holds, and_true] at q13
      go_cut [19] (fun t19 wx => t19 = .slice (some ⟨gq, 0, none⟩) k cq ∧ IntsAt wx (some ⟨gq, 0, none⟩) (p.set xm (ptF p y' + c)) ∧ RowC wx gg 0 Lg ∧ St (w6.alloc (.cells #[.int .i64 N, .slice (some ⟨gf, 0, none⟩) la cf] 30)) wx (Both (Both (Both (Zs true a [(xa, lA), (xb, lB)]) (fun W => IntsAt W yp p)) (fun W => CsAt W (some ⟨gf, 0, none⟩) Lf)) (fun _ => True)) ((w12.heap.size, 0, Value.int .i64 N) :: (w12.heap.size, 1, Value.slice (some ⟨gg, 0, none⟩) la cg) :: (w6.heap.size, 0, Value.int .i64 N) :: (w6.heap.size, 1, Value.slice (some ⟨gf, 0, none⟩) la cf) :: ((w.heap.size + 1, 0, Value.int .i64 M) :: (w.heap.size + 1, 1, Value.slice xb lb cb) :: (w.heap.size, 0, Value.int .i64 N) :: (w.heap.size, 1, Value.slice xa la ca) :: [])))
      case first =>
        have s13t := s13.both (Y := fun _ => True) trivial (fun _ _ _ _ => trivial)
        by_cases hy0 : y' = 0
        · have hy1 : ¬ (0 : Int) < (y' : Int) := by omega
          have e0 : p.set xm (ptF p y' + c) = p.set xm c := by rw [hy0]; simp [ptF]
          rw [← e0] at hq13
          clear hy0 e0
          go_wp2_with fail
          go_meet
          case rel => exact ⟨rfl, hq13, hRg13, s13t⟩
        · have hy1 : (0 : Int) < (y' : Int) := by omega
          obtain ⟨bp, op, hyp, hcp⟩ := hpc.out W13 s13.sent.1.2 (by omega)
          obtain ⟨ym, hym⟩ : ∃ m : Nat, m = y' - 1 := ⟨_, rfl⟩
          rw [← hym] at hcp
          have e1 : (y' : Int) - 1 = (ym : Int) := by omega
          have e2 : (ym : Int) < (k : Int) := by omega
          have e3 : -8388608 ≤ ptF p y' + c ∧ ptF p y' + c ≤ 8388608 := by omega
          obtain ⟨b9, o9, eq9, hc9⟩ := hq13.get xm (by rw [List.length_set, ← hk.out]; exact hxmk) _ rfl
          obtain ⟨rfl, rfl⟩ : gq = b9 ∧ 0 = o9 := by simpa using eq9
          rw [Nat.zero_add] at hc9
          have f9 := hfr13 xm
          have s14 := s13t.setP (p := ⟨gq, xm, none⟩) hgq ⟨by dsimp only; omega, by dsimp only; omega, k7.apart_ge hgq⟩ (.int .i64 (ptF p y' + c))
          have hq14 := hq13.set (k := xm) (by rw [List.length_set, ← hk.out]; exact hxmk) (ptF p y' + c)
          rw [List.set_set] at hq14
          have hR14 := hRg13.other (p := ⟨gq, xm, none⟩) (by show gq ≠ gg; omega) (.int .i64 (ptF p y' + c))
          have hbpl : bp < W13.heap.size := World.block_lt_of_cell? W13 _ hcp
          subst hyp
          clear hym eq9 hy0
          go_wp2_with fail
          go_meet
          case rel => exact ⟨rfl, hq14, hR14, s14⟩
      case rest =>
      clear s13 q13 hq13 hRg13 hfr13
      obtain ⟨rfl, hq14, hR14, s14⟩ := hcut
      have q14 := s14.hold
      simp only [Holds, and_true] at q14
      go_wp2_with fail
      refine (HT2.out _ _ cg _ cq s14.sent.1.1.1.e (.inr ⟨gg, 0, rfl, hR14⟩) hq14).mono ?_
      rintro e w15 ⟨rfl, hb15⟩
      have s15 := s14.call hb15
      have hbX := hbV.trans (s15.bel.mono hbV.size)
      have s16 := s15.re.drop 4
      clear s14 q14 hq14 hR14 hb15 s15 hbV HT2 HO hpc k7 hql11 hql12 hggq hgg hgq
      obtain ⟨Lj, hLj⟩ : ∃ L, L = tellL n (joinM n (matOf n lA) (matOf n lB)) := ⟨_, rfl⟩
      rw [← hLj] at HT3
      have HJ : Hid (∀ (W : World) (z1 z2 : Option Addr) (c1 c2 : Nat), ErrS W a → ErrAt W a 3 → CsAt W z1 lA → CsAt W z2 lB → Calls Tryd.prog 27 #[(.agg #[.int .i64 N, (.slice z1 la c1)]), (.agg #[.int .i64 M, (.slice z2 lb c2)])] W fun e w' => ∃ (N5 : Int) (x5 : Option Addr) (k5 c5 : Nat) (er : Int), e = .returned (.tuple #[(.agg #[.int .i64 N5, (.slice x5 k5 c5)]), erV a er]) ∧ Hid (er = 0 → N5 = N ∧ k5 = la ∧ ∃ g, x5 = some ⟨g, 0, none⟩ ∧ W.heap.size ≤ g ∧ RowC w' g 0 Lj) ∧ Below W.heap.size W w') := by
        intro W z1 z2 c1 c2 h1 h2 h3 h4
        have hg := join_any N M z1 z2 la c1 lb c2 lA lB a W h1 h2 h3 h4 hla hlb (by omega) (by omega)
        rw [← Hn.out] at hg
        refine hg.mono ?_
        rintro e w' ⟨hb, h | h | h⟩
        · exact ⟨0, none, 0, 0, _, h.2, fun h0 => absurd h0 h.1, hb⟩
        · exact ⟨0, none, 0, 0, 4, h.2.2, fun h0 => absurd h0 (by omega), hb⟩
        · obtain ⟨_, _, g5, cp5, rfl, hg5, hR5⟩ := h
          rw [← hLj] at hR5
          exact ⟨N, _, la, cp5, 0, rfl, fun _ => ⟨rfl, rfl, g5, rfl, hg5, hR5⟩, hb⟩
      clear hLj
      go_upto_region 28 with fail
      obtain ⟨W6, hW6, s16⟩ := s16.name'
      rw [← hW6] at hbX ⊢
      have s6 := (show St W6 W6 _ ((w.heap.size + 1, 0, Value.int .i64 M) :: (w.heap.size + 1, 1, Value.slice xb lb cb) :: (w.heap.size, 0, Value.int .i64 N) :: (w.heap.size, 1, Value.slice xa la ca) :: []) from s16.re)
      obtain ⟨ZZ4, hZZ⟩ : ∃ Z : World → Prop, Z = (Both (Both (Both (Zs true a [(xa, lA), (xb, lB)]) (fun W => IntsAt W yp p)) (fun W => CsAt W (some ⟨gf, 0, none⟩) Lf)) (fun _ => True)) := ⟨_, rfl⟩
      rw [← hZZ] at s6
      have hZe : Hid (∀ W, ZZ4 W → ErrS W a ∧ ErrAt W a 3 ∧ CsAt W xa lA ∧ CsAt W xb lB ∧ IntsAt W yp p) := by
        intro W h
        rw [hZZ] at h
        exact ⟨h.1.1.1.e, h.1.1.1.1.2 rfl, h.1.1.1.c (by simp), h.1.1.1.c (by simp), h.1.1.2⟩
      clear hW6 hZZ s16
      have q6 := s6.hold
      simp only [Holds, and_true] at q6
      go_cut [21, 15] (fun t21 t15 wx => ∃ (bj : Nat) (N5 : Int) (x5 : Option Addr) (k5 c5 : Nat) (er : Int), t15 = erV a er ∧ t21 = .pointer (some ⟨bj, 0, none⟩) ∧ Hid (er = 0 → N5 = N ∧ k5 = la ∧ CsAt wx x5 Lj) ∧ St W6 wx ZZ4 ((bj, 0, Value.int .i64 N5) :: (bj, 1, Value.slice x5 k5 c5) :: ((w.heap.size + 1, 0, Value.int .i64 M) :: (w.heap.size + 1, 1, Value.slice xb lb cb) :: (w.heap.size, 0, Value.int .i64 N) :: (w.heap.size, 1, Value.slice xa la ca) :: [])))
      case first =>
        have hwB := Nat.le_refl W6.heap.size
        have k2 := s6.hold
        go_region_held3 (fun w' => w'.cell? ⟨w.heap.size + 1, 0, none⟩ = some (.int .i64 M) ∧ w'.cell? ⟨w.heap.size + 1, 1, none⟩ = some (.slice xb lb cb) ∧ w'.cell? ⟨w.heap.size, 0, none⟩ = some (.int .i64 N) ∧ w'.cell? ⟨w.heap.size, 1, none⟩ = some (.slice xa la ca) ∧ St W6 w' ZZ4 ((w.heap.size + 1, 0, Value.int .i64 M) :: (w.heap.size + 1, 1, Value.slice xb lb cb) :: (w.heap.size, 0, Value.int .i64 N) :: (w.heap.size, 1, Value.slice xa la ca) :: [])) (first | (exact keepSt (((w.heap.size + 1, 0, Value.int .i64 M) :: (w.heap.size + 1, 1, Value.slice xb lb cb) :: (w.heap.size, 0, Value.int .i64 N) :: (w.heap.size, 1, Value.slice xa la ca) :: [])) (by assumption) (by assumption)) | (exact keepSt (((w.heap.size + 1, 0, Value.int .i64 M) :: (w.heap.size + 1, 1, Value.slice xb lb cb) :: (w.heap.size, 0, Value.int .i64 N) :: (w.heap.size, 1, Value.slice xa la ca) :: [])) (Below.refl _ _).drew (by assumption)) | (exact keepSt (((w.heap.size + 1, 0, Value.int .i64 M) :: (w.heap.size + 1, 1, Value.slice xb lb cb) :: (w.heap.size, 0, Value.int .i64 N) :: (w.heap.size, 1, Value.slice xa la ca) :: [])) ((Below.refl _ _).alloc (Nat.le_refl _) _) (by assumption)) | (exact keepSt0 (((w.heap.size + 1, 0, Value.int .i64 M) :: (w.heap.size + 1, 1, Value.slice xb lb cb) :: (w.heap.size, 0, Value.int .i64 N) :: (w.heap.size, 1, Value.slice xa la ca) :: [])) (St.drew (by assumption))) | (exact keepSt0 (((w.heap.size + 1, 0, Value.int .i64 M) :: (w.heap.size + 1, 1, Value.slice xb lb cb) :: (w.heap.size, 0, Value.int .i64 N) :: (w.heap.size, 1, Value.slice xa la ca) :: [])) (s9.alloc _)) | (exact keepSt0 (((w.heap.size + 1, 0, Value.int .i64 M) :: (w.heap.size + 1, 1, Value.slice xb lb cb) :: (w.heap.size, 0, Value.int .i64 N) :: (w.heap.size, 1, Value.slice xa la ca) :: [])) (St.twoP s9 k2 hwB (by first | exact Nat.le_refl _ | exact hb7.size | exact Nat.le_trans hb7.size hb8.size))) | (exact keepSt0 (((w.heap.size + 1, 0, Value.int .i64 M) :: (w.heap.size + 1, 1, Value.slice xb lb cb) :: (w.heap.size, 0, Value.int .i64 N) :: (w.heap.size, 1, Value.slice xa la ca) :: [])) (by assumption)))
          (first
            | (go_at_call_of 15 (Value.agg #[.int .i64 N, .slice xa la ca]); refine (HZ.out _ (hZe.out _ (keepSt_st (w := W6) (Z := ZZ4) ((w.heap.size + 1, 0, Value.int .i64 M) :: (w.heap.size + 1, 1, Value.slice xb lb cb) :: (w.heap.size, 0, Value.int .i64 N) :: (w.heap.size, 1, Value.slice xa la ca) :: []) (by assumption)).sent).2.2.1).mono ?_; rintro e w7 ⟨y7, c7, rfl, hy7, hb7⟩; have s7 := (keepSt_st (w := W6) (Z := ZZ4) ((w.heap.size + 1, 0, Value.int .i64 M) :: (w.heap.size + 1, 1, Value.slice xb lb cb) :: (w.heap.size, 0, Value.int .i64 N) :: (w.heap.size, 1, Value.slice xa la ca) :: []) (by assumption)).call hb7; first | (have hx7 := boxed2 hb7) | (have hx7 := boxed2' hb7) | skip)
            | (go_at_call_of 15 (Value.agg #[.int .i64 M, .slice xb lb cb]); refine (HZb.out _ (hZe.out _ (keepSt_st (w := W6) (Z := ZZ4) ((w.heap.size + 1, 0, Value.int .i64 M) :: (w.heap.size + 1, 1, Value.slice xb lb cb) :: (w.heap.size, 0, Value.int .i64 N) :: (w.heap.size, 1, Value.slice xa la ca) :: []) (by assumption)).sent).2.2.2.1).mono ?_; rintro e w8 ⟨y8, c8, rfl, hy8, hb8⟩; have hy78 := (show CsAt _ y7 lA from (by first | exact hy7 | exact hy7.below ((Below.refl _ _).alloc (Nat.le_refl _) _).drew | exact hy7.below ((Below.refl _ _).alloc (Nat.le_refl _) _))).below hb8; have s8 := (keepSt_st (w := W6) (Z := ZZ4) ((w.heap.size + 1, 0, Value.int .i64 M) :: (w.heap.size + 1, 1, Value.slice xb lb cb) :: (w.heap.size, 0, Value.int .i64 N) :: (w.heap.size, 1, Value.slice xa la ca) :: []) (by assumption)).call hb8; first | (have hx8 := hx7.below hb8; clear hx7) | (have hx8 := boxed2 hb8) | (have hx8 := boxed2' hb8) | skip)
            | (go_at_call 27; refine (HJ.out _ y7 y8 c7 c8 (hZe.out _ (keepSt_st (w := W6) (Z := ZZ4) ((w.heap.size + 1, 0, Value.int .i64 M) :: (w.heap.size + 1, 1, Value.slice xb lb cb) :: (w.heap.size, 0, Value.int .i64 N) :: (w.heap.size, 1, Value.slice xa la ca) :: []) (by assumption)).sent).1 (hZe.out _ (keepSt_st (w := W6) (Z := ZZ4) ((w.heap.size + 1, 0, Value.int .i64 M) :: (w.heap.size + 1, 1, Value.slice xb lb cb) :: (w.heap.size, 0, Value.int .i64 N) :: (w.heap.size, 1, Value.slice xa la ca) :: []) (by assumption)).sent).2.1 (by first | exact hy78 | exact hy78.below ((Below.refl _ _).alloc (Nat.le_refl _) _).drew | exact hy78.below ((Below.refl _ _).alloc (Nat.le_refl _) _)) (by first | exact hy8 | exact hy8.below ((Below.refl _ _).alloc (Nat.le_refl _) _).drew | exact hy8.below ((Below.refl _ _).alloc (Nat.le_refl _) _))).mono ?_; rintro e w9 ⟨N9, x9, k9, c9, er9, rfl, h9, hb9⟩; have s9 := (keepSt_st (w := W6) (Z := ZZ4) ((w.heap.size + 1, 0, Value.int .i64 M) :: (w.heap.size + 1, 1, Value.slice xb lb cb) :: (w.heap.size, 0, Value.int .i64 N) :: (w.heap.size, 1, Value.slice xa la ca) :: []) (by assumption)).call hb9; (first | (have hx9 := hx8.below hb9; clear hx8; have ho9 := hx9; simp only [Holds, and_true] at ho9) | (have hx9 := boxed2 hb9; have ho9 := hx9; simp only [Holds, and_true] at ho9) | (have hx9 := boxed2' hb9; have ho9 := hx9; simp only [Holds, and_true] at ho9) | skip)))
        all_goals
          have za := hb7.size
          try simp only [World.drew, World.size_alloc] at za
          have zb := hb8.size
          try simp only [World.size_alloc] at zb
          go_wp2_with fail
          go_meet
          case rel => first
            | exact ⟨_, N9, x9, k9, c9, er9, rfl, rfl, (fun h0 => by
                obtain ⟨e1, e2, g, rfl, hg, hR⟩ := h9.out h0
                exact ⟨e1, e2, .inr ⟨g, 0, rfl, hR.below ((Below.refl _ _).alloc (Nat.le_refl _) _)⟩⟩), s9.box2 30 _ _⟩
            | exact ⟨_, N9, x9, k9, c9, er9, rfl, rfl, (fun h0 => by
                obtain ⟨e1, e2, g, rfl, hg, hR⟩ := h9.out h0
                try simp only [World.size_alloc] at hg
                exact ⟨e1, e2, .inr ⟨g, 0, rfl, (hR.other (by dsimp only; omega) _).other (by dsimp only; omega) _⟩⟩), s9.late2 k2 hwB (by first | exact Nat.le_refl _ | exact hb7.size | exact Nat.le_trans hb7.size hb8.size) hx9 _ _⟩
      case rest =>
      clear s6 q6 HJ HZ HZb
      obtain ⟨bj, N5, x5, k5, c5, er, rfl, rfl, hC, s7⟩ := hcut
      by_cases her : er = 0
      rotate_left
      · rw [erV_ne her]
        clear her hC
        go_wp2_with fail
        go_ret
        exact ⟨rfl, hbX.trans (s7.bel.mono hbX.size)⟩
      · obtain ⟨e5, e6, hC5⟩ := hC.out her
        subst her e5 e6
        rw [erV_0]
        obtain ⟨W7, hW7, s7⟩ := s7.name'
        rw [← hW7] at hC5 ⊢
        have hbY := hbX.trans (s7.bel.mono hbX.size)
        have s8 := s7.re.both (Y := fun W => CsAt W x5 Lj) hC5 (fun _ _ q hb => CsAt.stays hC5 q hb)
        clear hW7 s7 hbX hC5 hC
        have q8 := s8.hold
        simp only [Holds, and_true] at q8
        have HI2 : Hid (∀ W : World, IntsAt W yp p → Calls Tryd.prog 17 #[.slice yp k cy] W fun e w' => ∃ y' cap, e = .returned (.slice y' k cap) ∧ IntsAt w' y' p ∧ Below W.heap.size W w') := fun W h => intsCopy_as yp k cy p W h hk (by omega)
        go_wp2_with fail
        go_region_with (first
          | (go_at_call 17; refine (HI2.out _ (hZe.out _ s8.drew.sent.1).2.2.2.2).mono ?_; rintro e w9 ⟨y9, c9, rfl, hy9, hb9⟩; have s9 := s8.drew.call hb9; have q9 := s9.hold; simp only [Holds, and_true] at q9)
          | (go_at_call 16; refine (HT3.out _ x5 c5 y9 c9 (hZe.out _ s9.sent.1).1 s9.sent.2 hy9).mono ?_; rintro e w10 ⟨rfl, hb10⟩; have s10 := s9.call hb10))
        all_goals
          go_wp2_with fail
          go_ret
          exact ⟨rfl, hbY.trans (s10.bel.mono hbY.size)⟩

theorem zoneSound_true (N : Int) (xa : Option Addr) (ca : Nat) (lA : List Ce) (M : Int) (xb : Option Addr) (cb : Nat) (lB : List Ce) (yp : Option Addr) (cy k : Nat) (p : List Int) (x y c : Int) (a : Nat → Addr) (w : World) (hS : ErrS w a ∧ ErrAt w a 3)
    (hN : -9223372036854775808 ≤ N ∧ N ≤ 9223372036854775807) (hA : CsAt w xa lA) (hla : lA.length ≤ 9223372036854775807) (hma : ∀ A ∈ lA, -9223372036854775808 ≤ A.m ∧ A.m ≤ 9223372036854775807)
    (hM : -9223372036854775808 ≤ M ∧ M ≤ 9223372036854775807) (hB : CsAt w xb lB) (hlb : lB.length ≤ 9223372036854775807) (hmb : ∀ A ∈ lB, -9223372036854775808 ≤ A.m ∧ A.m ≤ 9223372036854775807)
    (hI : IntsAt w yp p) (hk : k = p.length) (hkl : k ≤ 9223372036854775807) (hw : ∀ v ∈ p, -9223372036854775808 ≤ v ∧ v ≤ 9223372036854775807)
    (hx : -9223372036854775808 ≤ x ∧ x ≤ 9223372036854775807) (hy : -9223372036854775808 ≤ y ∧ y ≤ 9223372036854775807) (hc : -9223372036854775808 ≤ c ∧ c ≤ 9223372036854775807) :
    Calls Tryd.prog 8 #[(.agg #[.int .i64 N, (.slice xa lA.length ca)]), (.agg #[.int .i64 M, (.slice xb lB.length cb)]), .slice yp k cy, .int .i64 x, .int .i64 y, .int .i64 c] w fun e w' => e = .returned (.bool true) ∧ Below w.heap.size w w' :=
  zoneSound_by N M x y c xa xb ca cb lA.length lB.length lA lB yp cy k p a w hS.1 hS.2 hA hB hI rfl rfl hla hlb hk hkl
end Go.Proofs.YthnjnieocjpjiaaDoor
