/- Octagons: what is done with a point is of what is told: the law's walk. -/
import Derived.Test.YtofjjaabgfmnpaaDoorO4
import Derived.Test.YtofjjaabgfmnpaaDoorZv
import Derived.Test.YtofjjaabgfmnpaaDoorZo
import Derived.Test.YtofjjaabgfmnpaaDoorXa
import Derived.Deep.Cut
import Derived.Deep.DeepCutAuto
namespace Go.Proofs.YtofjjaabgfmnpaaDoor
open Go.RowKit
set_option linter.unusedVariables false


theorem far_ok {v B : Int} (h : farB v B = false) (hB : 0 ≤ B) : v.natAbs ≤ B.natAbs := by
  simp [farB] at h; omega
theorem ptF_bar (p : List Int) (i : Nat) : ptF p (bar i) = - ptF p i := by
  unfold ptF
  rw [bar_half]
  by_cases h : i % 2 = 1
  · have e : ¬ bar i % 2 = 1 := by unfold bar; split <;> omega
    rw [if_neg e, if_pos h]; omega
  · have e : bar i % 2 = 1 := by unfold bar; split <;> omega
    rw [if_pos e, if_neg h]
theorem ptF_set {p : List Int} {x : Nat} (hx : x < p.length) (u : Int) (i : Nat) : ptF (p.set x u) i = if i / 2 = x then (if i % 2 = 1 then -u else u) else ptF p i := by
  unfold ptF
  by_cases e : i / 2 = x
  · rw [if_pos e, e]
    have h : (p.set x u).getD x 0 = u := by simp [hx]
    rw [h]
  · rw [if_neg e]
    have h : (p.set x u).getD (i / 2) 0 = p.getD (i / 2) 0 := by simp only [List.getD_eq_getElem?_getD]; rw [List.getElem?_set_ne (fun h => e h.symm)]
    rw [h]
theorem pt_woO {n x : Nat} {d : Mat} {p : List Int} (h : OPt n d (ptF p)) (hx : x < p.length) (c : Int) : OPt n (woO d x) (ptF (p.set x c)) :=
  opt_wo h (ptF_bar _) (fun i hi => by rw [ptF_set hx, if_neg hi])
theorem pt_mvO {n x y : Nat} (he : n % 2 = 0) {d : Mat} {p : List Int} (h : OPt n d (ptF p)) (hx : x < p.length) (hy : 2 * y + 1 < n) {s : Int} (hs : s = 1 ∨ s = -1 ∨ s = 0) (c : Int) : OPt n (mvO d x s y c) (ptF (p.set x (s * p.getD y 0 + c))) := by
  have k := opt_mv he h (x := x) hy (s := s) (c := c) hs
  have e : mvP (ptF p) x s y c = ptF (p.set x (s * p.getD y 0 + c)) := by
    funext i
    obtain ⟨v1, v2⟩ := vl_oix (ptF_bar p) hs y
    have e2 : ptF p (2 * y) = p.getD y 0 := by unfold ptF; rw [if_neg (by omega), show 2 * y / 2 = y by omega]
    rw [e2] at v2
    rw [ptF_set hx]
    unfold mvP stO shO
    by_cases h1 : i = 2 * x
    · rw [if_pos h1, if_pos h1, if_pos (by omega), if_neg (by omega), v2]
    · by_cases h2 : i = 2 * x + 1
      · rw [if_neg h1, if_pos h2, if_neg h1, if_pos h2, if_pos (by omega), if_pos (by omega), v1, v2]; omega
      · rw [if_neg h1, if_neg h2, if_neg h1, if_neg h2, if_neg (by omega)]
        show ptF p i + 0 = _
        omega
  rw [e] at k
  exact k
theorem pt_joinO {n : Nat} {A B : Mat} {z : Nat → Int} (h : Pt n (tg n A) z) (hA : NoNeg n (tg n A)) : Pt n (joinM n A B) z := by
  by_cases hB : NoNeg n (tg n B)
  · rw [joinM_ab hA hB]
    intro i j hi hj
    have := h i j hi hj
    show okB _ (maxB (tg n A i j) (tg n B i j))
    revert this
    cases tg n A i j <;> cases tg n B i j <;> simp [okB, maxB]
    omega
  · rw [joinM_a hA hB]; exact h
theorem coh_wo {n x : Nat} (he : n % 2 = 0) {d : Mat} (h : Coh n d) : Coh n (woO d x) := by
  intro i j hi hj
  unfold woO
  rw [bar_half, bar_half, h i j hi hj]
  by_cases k : i ≠ j ∧ (i / 2 = x ∨ j / 2 = x)
  · rw [if_pos k, if_pos ⟨fun z => k.1 (bar_inj z).symm, k.2.symm⟩]
  · rw [if_neg k, if_neg (fun z => k ⟨fun q => z.1 (by rw [q]), z.2.symm⟩)]
def obar : Option Nat → Option Nat
  | none => none
  | some i => some (bar i)
theorem oix_bar {s : Int} (hs : s = 1 ∨ s = -1 ∨ s = 0) (y : Nat) : oix (-s) y = obar (oix s y) := by
  obtain ⟨b1, b2⟩ := bar_even y
  rcases hs with rfl | rfl | rfl <;> simp [oix, obar, b1, b2]
theorem stO_bar {x y : Nat} {s : Int} (hs : s = 1 ∨ s = -1 ∨ s = 0) (i : Nat) : stO x s y (bar i) = obar (stO x s y i) := by
  obtain ⟨b1, b2⟩ := bar_even x
  unfold stO
  by_cases h1 : i = 2 * x
  · subst h1
    rw [b1, if_neg (by omega), if_pos rfl, if_pos rfl, oix_bar hs]
  · by_cases h2 : i = 2 * x + 1
    · subst h2
      rw [b2, if_pos rfl, if_neg (by omega), if_pos rfl, oix_bar hs]
      cases oix s y <;> simp [obar, bar_bar]
    · have n1 : ¬ bar i = 2 * x := fun k => h2 (by rw [← b1, ← k, bar_bar])
      have n2 : ¬ bar i = 2 * x + 1 := fun k => h1 (by rw [← b2, ← k, bar_bar])
      rw [if_neg n1, if_neg n2, if_neg h1, if_neg h2]; rfl
theorem apM_bar {n : Nat} {d : Mat} (h : Coh n d) {a b : Option Nat} (ha : oLt n a) (hb : oLt n b) : apM d a b = apM d (obar b) (obar a) := by
  cases a with
  | none =>
    cases b with
    | none => rfl
    | some j => show topB d j = topB d (bar (bar j)); rw [bar_bar]
  | some i =>
    cases b with
    | none => rfl
    | some j => exact h i j ha hb
theorem coh_mv {n x y : Nat} (he : n % 2 = 0) {d : Mat} (h : Coh n d) (hy : 2 * y + 1 < n) {s c : Int} (hs : s = 1 ∨ s = -1 ∨ s = 0) : Coh n (mvO d x s y c) := by
  intro i j hi hj
  unfold mvO
  rw [stO_bar hs, stO_bar hs, shO_bar, shO_bar, apM_bar h (stO_lt hy hi s) (stO_lt hy hj s)]
  congr 2
  omega
theorem coh_joinM {n : Nat} (he : n % 2 = 0) {A B : Mat} (hT : Tight n (tg n A)) (hA : NoNeg n (tg n A)) (hB : Coh n B) : Coh n (joinM n A B) := by
  by_cases k : NoNeg n (tg n B)
  · rw [joinM_ab hA k]
    exact coh_with maxB hT.coh (tg_tight he hB k).coh
  · rw [joinM_a hA k]; exact hT.coh
theorem pair_0 {N M : Int} {l m : List Ce} (h : pairErr N l M m = 0) : zErr M m = 0 ∧ N = M := by
  unfold pairErr at h
  by_cases h1 : firstE [zErr N l, zErr M m] = 0
  · have h2 := h1
    rw [firstE_0, firstE_0] at h2
    refine ⟨h2.2.1, ?_⟩
    by_cases e : N = M
    · exact e
    · simp [h1, e] at h
  · simp [h1] at h
/-- A told octagon has a point that its bounds have. -/
theorem has_toldO (N : Int) (n len k : Nat) (D : Mat) (q : List Int) (z : Option Addr) (cz : Nat) (y : Option Addr) (cy : Nat) (a : Nat → Addr) (W : World) (hN : 2 * N = n) (hn : n % 2 = 0 ∧ n ≤ 8) (hll : len = n * n) (hkN : (k : Int) = N) (hq : k = q.length) (hs : ∀ v ∈ q, v.natAbs ≤ 1099511627776) (hD : Coh n D) (hP : Pt n D (ptF q)) (hS : ErrS W a) (hA : CsAt W z (tellL n D)) (hI : IntsAt W y q) :
    Calls Tryd.prog 17 #[(.agg #[.int .i64 N, (.slice z len cz)]), .slice y k cy] W fun e w' => e = .returned (.tuple #[.bool true, .nilIface]) ∧ Below W.heap.size W w' := by
  have hlen : len ≤ 64 := by
    have := Nat.mul_le_mul hn.2 hn.2
    omega
  refine (has_any N z len cz (tellL n D) y k cy q a W hS hA hI (by show _ = _; rw [tellL_len]; exact hll) (by omega) hq (by omega)).mono ?_
  have h0 : hasErr N (tellL n D) q = 0 := by
    unfold hasErr
    rw [firstE_0, firstE_0]
    refine ⟨tell_right hN hn D hD, ?_, rfl⟩
    unfold ptErr
    rw [if_neg (by rw [← hq]; omega), if_neg]
    simp only [List.any_eq_true, not_exists, not_and]
    intro v hv hf
    have := hs v hv
    simp [farP, farB] at hf
    omega
  rintro e w' ⟨hb, h | h⟩
  · exact absurd h0 h.1
  · refine ⟨?_, hb⟩
    rw [h.2, nOf_is hN, (inB_pt hs).2 hP.tell]

set_option maxRecDepth 20000 in
set_option maxHeartbeats 8000000 in
theorem octSound_by (N M x sg y c : Int) (xa xb : Option Addr) (ca cb la lb : Nat) (lA lB : List Ce) (yp : Option Addr) (cy k : Nat) (p : List Int) (a : Nat → Addr) (w : World) (hS : ErrS w a) (h3 : ErrAt w a 3) (hA : CsAt w xa lA) (hB : CsAt w xb lB) (hI : IntsAt w yp p) (hla : Hid (la = lA.length)) (hlb : Hid (lb = lB.length)) (hlal : la ≤ 9223372036854775807) (hlbl : lb ≤ 9223372036854775807) (hk : Hid (k = p.length)) (hkl : k ≤ 9223372036854775807) :
    Calls Tryd.prog 9 #[(.agg #[.int .i64 N, (.slice xa la ca)]), (.agg #[.int .i64 M, (.slice xb lb cb)]), .slice yp k cy, .int .i64 x, .int .i64 sg, .int .i64 y, .int .i64 c] w fun e w' => e = .returned (.bool true) ∧ Below w.heap.size w w' := by
  have s0 := (((St.startZs (em := true) (cs := [(xa, lA), (xb, lB)]) hS (fun _ => h3) (by intro p hp; simp at hp; rcases hp with rfl | rfl; exact hA; exact hB)).both (Y := fun W => IntsAt W yp p) hI (fun _ _ q hb => hI.stays q hb)).box2 24 (.int .i64 N) (.slice xa la ca)).box2 24 (.int .i64 M) (.slice xb lb cb)
  simp only [World.size_alloc] at s0
  go_enter Tryd.func9, Tryd.ntmps9
  go_wp2_with fail
  refine (free_any a _ s0.sent.1.e).mono ?_
  rintro e w1 ⟨rfl, hb1⟩
  (have s1 := s0.call hb1; have q1 := s1.hold; simp only [Holds, and_true] at q1; clear s0 hb1; try clear q0)
  clear hS hA hB hI h3
  by_cases h1 : la ≤ 100
  rotate_left
  · have h1' : (100 : Int) < (la : Int) := by omega
    go_wp2_with fail
    go_ret
    exact ⟨rfl, s1.bel⟩
  have h1' : ¬ (100 : Int) < (la : Int) := by omega
  by_cases h2 : lb ≤ 100
  rotate_left
  · have h2' : (100 : Int) < (lb : Int) := by omega
    go_wp2_with fail
    go_ret
    exact ⟨rfl, s1.bel⟩
  have h2' : ¬ (100 : Int) < (lb : Int) := by omega
  by_cases h4 : k ≤ 10
  rotate_left
  · have h4' : (10 : Int) < (k : Int) := by omega
    go_wp2_with fail
    go_ret
    exact ⟨rfl, s1.bel⟩
  have h4' : ¬ (10 : Int) < (k : Int) := by omega
  obtain ⟨na, hna⟩ : ∃ b, b = nearL lA 1048576 := ⟨_, rfl⟩
  obtain ⟨nb, hnb⟩ : ∃ b, b = nearL lB 1048576 := ⟨_, rfl⟩
  have HNa : Hid (∀ W : World, CsAt W xa lA → Calls Tryd.prog 24 #[.slice xa la ca] W fun e w' => e = .returned (.bool na) ∧ w' = W) := fun W h => by
    have := near_law xa ca la lA W h hla hlal
    rw [decide_eq_true h1, Bool.true_and, ← hna] at this
    exact this
  have HNb : Hid (∀ W : World, CsAt W xb lB → Calls Tryd.prog 24 #[.slice xb lb cb] W fun e w' => e = .returned (.bool nb) ∧ w' = W) := fun W h => by
    have := near_law xb cb lb lB W h hlb hlbl
    rw [decide_eq_true h2, Bool.true_and, ← hnb] at this
    exact this
  clear hna hnb
  go_wp2_with fail
  refine (HNa.out _ (s1.sent.1.c (by simp))).mono ?_
  rintro e w2 ⟨rfl, hw2⟩
  rw [hw2]
  clear hw2 w2 HNa
  cases na
  · go_wp2_with fail
    go_ret
    exact ⟨rfl, s1.bel⟩
  go_wp2_with fail
  refine (HNb.out _ (s1.sent.1.c (by simp))).mono ?_
  rintro e w2 ⟨rfl, hw2⟩
  rw [hw2]
  clear hw2 w2 HNb
  cases nb
  · go_wp2_with fail
    go_ret
    exact ⟨rfl, s1.bel⟩
  obtain ⟨fc, hfc⟩ : ∃ b, b = farB c 1048576 := ⟨_, rfl⟩
  have HF : Hid (∀ W : World, Calls Tryd.prog 21 #[.int .i64 c, .int .i64 1048576] W fun e w' => e = .returned (.bool fc) ∧ w' = W) := fun W => by rw [hfc]; exact far_any c _ W (by omega) (by omega)
  have Hfc := hide hfc
  clear hfc
  go_wp2_with fail
  refine (HF.out _).mono ?_
  rintro e w2 ⟨rfl, hw2⟩
  rw [hw2]
  clear hw2 w2 HF
  cases fc
  rotate_left
  · go_wp2_with fail
    go_ret
    exact ⟨rfl, s1.bel⟩
  have hc20 : c.natAbs ≤ 1048576 := far_ok Hfc.out.symm (by omega)
  have HZ : Hid (∀ W : World, CsAt W xa lA → Calls Tryd.prog 16 #[(.agg #[.int .i64 N, (.slice xa la ca)])] W fun e w' => ∃ z cap, e = .returned (.agg #[.int .i64 N, (.slice z la cap)]) ∧ CsAt w' z lA ∧ Below W.heap.size W w') := fun W h => zoneOf_any N xa ca la lA W h hla (by omega)
  have HZb : Hid (∀ W : World, CsAt W xb lB → Calls Tryd.prog 16 #[(.agg #[.int .i64 M, (.slice xb lb cb)])] W fun e w' => ∃ z cap, e = .returned (.agg #[.int .i64 M, (.slice z lb cap)]) ∧ CsAt w' z lB ∧ Below W.heap.size W w') := fun W h => zoneOf_any M xb cb lb lB W h hlb (by omega)
  have HI : Hid (∀ W : World, IntsAt W yp p → Calls Tryd.prog 18 #[.slice yp k cy] W fun e w' => ∃ y' cap, e = .returned (.slice y' k cap) ∧ IntsAt w' y' p ∧ Below W.heap.size W w') := fun W h => intsCopy_as yp k cy p W h hk (by omega)
  obtain ⟨F, hF⟩ : ∃ F, F = hasErr N lA p := ⟨_, rfl⟩
  obtain ⟨hv, hhv⟩ : ∃ b, b = (decide (F = 0) && inB (nOf N) (ptD p) (encM (matOf (nOf N) lA))) := ⟨_, rfl⟩
  have HH : Hid (∀ (W : World) (z y' : Option Addr) (cz cy : Nat), ErrS W a → CsAt W z lA → IntsAt W y' p → Calls Tryd.prog 17 #[(.agg #[.int .i64 N, (.slice z la cz)]), .slice y' k cy] W fun e w' => e = .returned (.tuple #[.bool hv, erV a F]) ∧ Below W.heap.size W w') := by
    intro W z y' cz cy h1 h2 h3
    refine (has_any N z la cz lA y' k cy p a W h1 h2 h3 hla (by omega) hk (by omega)).mono ?_
    rintro e w' ⟨hb, h | h⟩
    · rw [← hF] at h
      exact ⟨by rw [h.2, hhv, decide_eq_false h.1]; rfl, hb⟩
    · rw [← hF] at h
      exact ⟨by rw [h.2, hhv, decide_eq_true h.1, h.1]; rfl, hb⟩
  have HFq := hide hF
  have Hhv := hide hhv
  clear hF hhv
  go_wp2_with fail
  refine (HZ.out _ (s1.sent.1.c (by simp))).mono ?_
  rintro e w2 ⟨z2, d2, rfl, hz2, hb2⟩
  (have s2 := s1.call hb2; have q2 := s2.hold; simp only [Holds, and_true] at q2; clear s1 hb2; try clear q1)
  go_wp2_with fail
  refine (HI.out _ s2.sent.2).mono ?_
  rintro e w3 ⟨y3, d3, rfl, hy3, hb3⟩
  have hz3 := hz2.below hb3
  (have s3 := s2.call hb3; have q3 := s3.hold; simp only [Holds, and_true] at q3; clear s2 hb3; try clear q2)
  go_wp2_with fail
  refine (HH.out _ z2 y3 d2 d3 s3.sent.1.e hz3 hy3).mono ?_
  rintro e w4 ⟨rfl, hb4⟩
  (have s4 := s3.call hb4; have q4 := s4.hold; simp only [Holds, and_true] at q4; clear s3 hb4; try clear q3)
  clear hz2 hz3 hy3 HH HI
  by_cases hF0 : F = 0
  rotate_left
  · rw [erV_ne hF0]
    clear HFq Hhv hF0
    go_wp2_with fail
    go_ret
    exact ⟨rfl, s4.bel⟩
  subst hF0
  rw [erV_0]
  cases hv
  · clear HFq Hhv
    go_wp2_with fail
    go_ret
    exact ⟨rfl, s4.bel⟩
  by_cases x0 : x < 0
  · clear HFq Hhv
    go_wp2_with fail
    go_ret
    exact ⟨rfl, s4.bel⟩
  by_cases xN : N ≤ x
  · clear HFq Hhv
    go_wp2_with fail
    go_ret
    exact ⟨rfl, s4.bel⟩
  by_cases y0 : y < 0
  · clear HFq Hhv
    go_wp2_with fail
    go_ret
    exact ⟨rfl, s4.bel⟩
  by_cases yN : N ≤ y
  · clear HFq Hhv
    go_wp2_with fail
    go_ret
    exact ⟨rfl, s4.bel⟩
  by_cases g0 : sg < -1
  · clear HFq Hhv
    go_wp2_with fail
    go_ret
    exact ⟨rfl, s4.bel⟩
  by_cases g1 : 1 < sg
  · clear HFq Hhv
    go_wp2_with fail
    go_ret
    exact ⟨rfl, s4.bel⟩
  have hall : firstE [zErr N lA, ptErr N p] = 0 := HFq.out.symm
  rw [firstE_0, firstE_0] at hall
  obtain ⟨z1, z2', z3, z4, z5, z6⟩ := zErr_0 hall.1
  obtain ⟨p1, p2⟩ := ptErr_0 hall.2.1
  have hz0 : Hid (zErr N lA = 0) := hall.1
  have hinB : inB (nOf N) (ptD p) (encM (matOf (nOf N) lA)) = true := by have := Hhv.out; simpa using this.symm
  obtain ⟨n, hn⟩ : ∃ n, n = nOf N := ⟨_, rfl⟩
  rw [← hn] at z1 z2' z3 z4 hinB
  have Hn := hide hn
  have hP : OPt n (matOf n lA) (ptF p) := ⟨(inB_pt p2).1 hinB, ptF_bar p⟩
  have hcoh : Coh n (matOf n lA) := by rw [hn]; exact coh_of hall.1
  have hok : NoNeg n (tg n (matOf n lA)) := (tg_some z2' hcoh).1 ⟨_, hP⟩
  have hPd := hide ((tg_pt z2').2 hP)
  have HT := hide (tg_tight z2' hcoh hok)
  have Hok := hide hok
  have hll : Hid (la = n * n) := by show _ = _; rw [hla.out]; exact z4
  have hkN : (k : Int) = N := by rw [hk.out]; exact p1
  have hnn : Hid (n % 2 = 0 ∧ n ≤ 8) := ⟨z2', z3⟩
  have hN4 : 0 ≤ N ∧ N ≤ 4 := by omega
  obtain ⟨x', hx'⟩ : ∃ j : Nat, (j : Int) = x := ⟨x.toNat, by omega⟩
  obtain ⟨y', hy'⟩ : ∃ j : Nat, (j : Int) = y := ⟨y.toNat, by omega⟩
  subst hx' hy'
  have hxk : x' < k := by omega
  have hyk : y' < k := by omega
  have hyn : 2 * y' + 1 < n := by omega
  have hsg : Hid (sg = 1 ∨ sg = -1 ∨ sg = 0) := by show _ ∨ _; omega
  clear hall z2' z3 z4 z5 z6 p1 hinB hn hP hok HFq Hhv x0 xN y0 yN hcoh
  have HFo : Hid (∀ (W : World) (z : Option Addr) (cz : Nat), ErrS W a → CsAt W z lA → Calls Tryd.prog 34 #[(.agg #[.int .i64 N, (.slice z la cz)]), .int .i64 x'] W fun e w' => ∃ g cp, e = .returned (.tuple #[(.agg #[.int .i64 N, (.slice (some ⟨g, 0, none⟩) la cp)]), .bool true, .nilIface]) ∧ W.heap.size ≤ g ∧ RowC w' g 0 (tellL n (woO (tg n (matOf n lA)) x')) ∧ Below W.heap.size W w') := by
    intro W z cz h1 h2
    have hg := forgetO_any N x' z cz la lA a W h1 h2 hla (by omega)
    rw [← Hn.out] at hg
    refine hg.mono ?_
    have hw : wrap64 (N - 1) = N - 1 := by unfold wrap64; omega
    rintro e w' ⟨hb, h | h | h⟩
    · exact absurd (by unfold foOErr voErr varErr; rw [hw]; simp only [List.map]; rw [firstE_0, firstE_0, firstE_0]; exact ⟨hz0.out, ⟨by rw [if_neg (by omega)], rfl⟩, rfl⟩) h.1
    · exact absurd Hok.out h.2.1
    · obtain ⟨_, _, g, cp, rfl, hg, hR⟩ := h
      exact ⟨g, cp, rfl, hg, hR, hb⟩
  have HAs : Hid (∀ (W : World) (z : Option Addr) (cz : Nat), ErrS W a → CsAt W z lA → Calls Tryd.prog 35 #[(.agg #[.int .i64 N, (.slice z la cz)]), .int .i64 x', .int .i64 sg, .int .i64 y', .int .i64 c] W fun e w' => ∃ g cp, e = .returned (.tuple #[(.agg #[.int .i64 N, (.slice (some ⟨g, 0, none⟩) la cp)]), .bool true, .nilIface]) ∧ W.heap.size ≤ g ∧ RowC w' g 0 (tellL n (mvO (tg n (matOf n lA)) x' sg y' c)) ∧ Below W.heap.size W w') := by
    intro W z cz h1 h2
    have hg := assignO_any N x' sg y' c z cz la lA a W h1 h2 hla (by omega)
    rw [← Hn.out] at hg
    refine hg.mono ?_
    have hw : wrap64 (N - 1) = N - 1 := by unfold wrap64; omega
    rintro e w' ⟨hb, h | h | h⟩
    · exact absurd (by unfold asOErr voErr siErr varErr; rw [hw]; simp only [List.map]; rw [firstE_0, firstE_0, firstE_0, firstE_0, firstE_0, firstE_0, firstE_0]; exact ⟨hz0.out, ⟨by rw [if_neg (by omega)], by rw [if_neg (by omega)], rfl⟩, ⟨by rw [if_neg (by omega)], rfl⟩, by unfold numErr; rw [if_neg (by simp [farB]; omega)], rfl⟩) h.1
    · exact absurd Hok.out h.2.1
    · obtain ⟨_, _, g, cp, rfl, hg, hR⟩ := h
      exact ⟨g, cp, rfl, hg, hR, hb⟩
  have HO : Hid (∀ W : World, IntsAt W yp p → Calls Tryd.prog 18 #[.slice yp k cy] W fun e w' => ∃ g cp, e = .returned (.slice (some ⟨g, 0, none⟩) k cp) ∧ W.heap.size ≤ g ∧ IntsAt w' (some ⟨g, 0, none⟩) p ∧ g < w'.heap.size ∧ (∀ o, w'.frozen? ⟨g, o, none⟩ = false) ∧ Below W.heap.size W w') := fun W h => ints_own yp k cy p W h hk (by omega) (by omega)
  have hx3 : (x' : Int) < (k : Int) := by omega
  have hy3 : (y' : Int) < (k : Int) := by omega
  go_wp2_with fail
  go_loopg [18] k (fun gh iv wr => ∃ i : Nat, i + gh = k ∧ iv = .int .i64 i ∧ w4 = wr ∧ Hid (∀ v ∈ p.take i, v.natAbs ≤ 1048576))
  case atStart => exact ⟨0, by omega, rfl, rfl, fun v hv => by simp at hv⟩
  case round =>
    obtain ⟨i, hig, rfl, rfl, HL⟩ := hrel
    by_cases hik : i < k
    · have hik' : (i : Int) < (k : Int) := by omega
      have hil : i < p.length := by rw [← hk.out]; exact hik
      obtain ⟨v, hv'⟩ : ∃ v, v = p.getD i 0 := ⟨_, rfl⟩
      obtain ⟨bp, op, hy, hcv⟩ := s4.sent.2.get i hil v hv'
      obtain ⟨fb, hfb⟩ : ∃ b, b = farB v 1048576 := ⟨_, rfl⟩
      have HFr : Hid (∀ W : World, Calls Tryd.prog 21 #[.int .i64 v, .int .i64 1048576] W fun e w' => e = .returned (.bool fb) ∧ w' = W) := fun W => by rw [hfb]; exact far_any v _ W (by omega) (by omega)
      have Hv := hide hv'
      have Hfb := hide hfb
      clear hv' hfb
      subst hy
      go_wp2_with fail
      refine (HFr.out _).mono ?_
      rintro e w5 ⟨rfl, hw5⟩
      rw [hw5]
      cases fb
      · go_wp2_with fail
        go_roundg (k - (i + 1))
        case measure => omega
        case rel =>
          refine ⟨i + 1, by omega, by go_num, rfl, fun u hu => ?_⟩
          rw [List.take_add_one] at hu
          rcases List.mem_append.1 hu with hu | hu
          · exact HL.out u hu
          · have : u = v := by rw [Hv.out]; simp [hil] at hu; first | (rw [hu]; simp [hil]) | (rw [← hu]; simp [hil])
            rw [this]
            exact far_ok Hfb.out.symm (by omega)
      · go_wp2_with fail
        go_ret
        exact ⟨rfl, s4.bel⟩
    · have hik' : ¬ (i : Int) < (k : Int) := by omega
      have hs20 : Hid (∀ v ∈ p, v.natAbs ≤ 1048576) := by
        have := HL.out
        rw [List.take_of_length_le (by rw [← hk.out]; omega)] at this
        exact this
      clear HL
      obtain ⟨pv, hpv⟩ : ∃ v, v = p.getD y' 0 := ⟨_, rfl⟩
      have hpy : pv.natAbs ≤ 1048576 := by
        have hyy : y' < p.length := by rw [← hk.out]; exact hyk
        have e : p.getD y' 0 = p[y'] := by simp [hyy]
        rw [hpv, e]; exact hs20.out _ (List.getElem_mem hyy)
      obtain ⟨sv, hsv⟩ : ∃ z : Int, sg * pv = z := ⟨_, rfl⟩
      have hsb : -1048576 ≤ sv ∧ sv ≤ 1048576 := by
        rcases hsg.out with rfl | rfl | rfl <;> omega
      have hset : ∀ (u : Int), u.natAbs ≤ 4194304 → ∀ v ∈ p.set x' u, v.natAbs ≤ 1099511627776 := by
        intro u hu v hv
        rcases List.mem_or_eq_of_mem_set hv with h | h
        · have := hs20.out v h; omega
        · rw [h]; omega
      have hxl : x' < p.length := by rw [← hk.out]; exact hxk
      have HT1 : Hid (∀ (W : World) (z : Option Addr) (cz : Nat) (q : Option Addr) (cq : Nat), ErrS W a → CsAt W z (tellL n (woO (tg n (matOf n lA)) x')) → IntsAt W q (p.set x' c) → Calls Tryd.prog 17 #[(.agg #[.int .i64 N, (.slice z la cz)]), .slice q k cq] W fun e w' => e = .returned (.tuple #[.bool true, .nilIface]) ∧ Below W.heap.size W w') := fun W z cz q cq h1 h2 h3 =>
        has_toldO N n la k _ (p.set x' c) z cz q cq a W z1 hnn.out hll.out hkN (by rw [List.length_set]; exact hk.out) (hset c (by omega)) (coh_wo hnn.out.1 HT.out.coh) (pt_woO hPd.out hxl c).1 h1 h2 h3
      have HT2 : Hid (∀ (W : World) (z : Option Addr) (cz : Nat) (q : Option Addr) (cq : Nat), ErrS W a → CsAt W z (tellL n (mvO (tg n (matOf n lA)) x' sg y' c)) → IntsAt W q (p.set x' (sv + c)) → Calls Tryd.prog 17 #[(.agg #[.int .i64 N, (.slice z la cz)]), .slice q k cq] W fun e w' => e = .returned (.tuple #[.bool true, .nilIface]) ∧ Below W.heap.size W w') := fun W z cz q cq h1 h2 h3 =>
        has_toldO N n la k _ (p.set x' (sv + c)) z cz q cq a W z1 hnn.out hll.out hkN (by rw [List.length_set]; exact hk.out) (hset _ (by omega)) (coh_mv hnn.out.1 HT.out.coh hyn hsg.out) (by have := pt_mvO hnn.out.1 hPd.out hxl hyn hsg.out c; rw [← hpv, hsv] at this; exact this.1) h1 h2 h3
      have HT3 : Hid (∀ (W : World) (z : Option Addr) (cz : Nat) (q : Option Addr) (cq : Nat), zErr M lB = 0 → N = M → ErrS W a → CsAt W z (tellL n (joinM n (matOf n lA) (matOf n lB))) → IntsAt W q p → Calls Tryd.prog 17 #[(.agg #[.int .i64 N, (.slice z la cz)]), .slice q k cq] W fun e w' => e = .returned (.tuple #[.bool true, .nilIface]) ∧ Below W.heap.size W w') := fun W z cz q cq hzB hNM h1 h2 h3 =>
        has_toldO N n la k _ p z cz q cq a W z1 hnn.out hll.out hkN hk.out p2 (coh_joinM hnn.out.1 HT.out Hok.out (by have := coh_of hzB; rw [← hNM, ← Hn.out] at this; exact this)) (pt_joinO hPd.out.1 Hok.out) h1 h2 h3
      obtain ⟨Lf, hLf⟩ : ∃ L, L = tellL n (woO (tg n (matOf n lA)) x') := ⟨_, rfl⟩
      obtain ⟨Lg, hLg⟩ : ∃ L, L = tellL n (mvO (tg n (matOf n lA)) x' sg y' c) := ⟨_, rfl⟩
      rw [← hLf] at HFo HT1
      rw [← hLg] at HAs HT2
      have hpc : Hid (∀ (W : World), IntsAt W yp p → ∃ bp op, yp = some ⟨bp, op, none⟩ ∧ W.cell? ⟨bp, op + y', none⟩ = some (.int .i64 pv)) := by
        intro W h
        exact h.get y' (by rw [← hk.out]; exact hyk) _ hpv
      clear hLf hLg hset hs20 hPd p2 hpv
      go_wp2_with fail
      refine (HZ.out _ (s4.sent.1.c (by simp))).mono ?_
      rintro e w5 ⟨z5, d5, rfl, hz5, hb5⟩
      (have s5 := s4.call hb5; have q5 := s5.hold; simp only [Holds, and_true] at q5; clear s4 hb5; try clear q4)
      go_wp2_with fail
      refine (HFo.out _ z5 d5 s5.sent.1.e hz5).mono ?_
      rintro e w6 ⟨gf, cf, rfl, hgf, hRf, hb6⟩
      (have s6 := s5.call hb6; have q6 := s6.hold; simp only [Holds, and_true] at q6; clear s5 hb6; try clear q5)
      have s6b := s6.box2 30 (.int .i64 N) (.slice (some ⟨gf, 0, none⟩) la cf)
      have hRf2 : CsAt _ (some ⟨gf, 0, none⟩) Lf := .inr ⟨gf, 0, rfl, hRf.below ((Below.refl _ _).alloc (Nat.le_refl _) (.cells #[.int .i64 N, .slice (some ⟨gf, 0, none⟩) la cf] 30))⟩
      have hbV := s6b.bel
      have s7 := s6b.re.both (Y := fun W => CsAt W (some ⟨gf, 0, none⟩) Lf) hRf2 (fun _ _ q hb => CsAt.stays hRf2 q hb)
      clear s6 s6b hRf hRf2 hz5 hgf HFo
      go_wp2_with fail
      refine (HO.out _ s7.sent.1.2).mono ?_
      rintro e w8 ⟨gq, cq, rfl, hgq, hq8, hql, hfr8, hb8⟩
      have k7 := s7.hold
      have s8 := s7.call hb8
      have q8 := s8.hold
      simp only [Holds, and_true] at q8
      obtain ⟨_, _, eq8, hc8⟩ := hq8.get x' (by rw [← hk.out]; exact hxk) _ rfl
      obtain ⟨rfl, rfl⟩ : gq = _ ∧ 0 = _ := by simpa using eq8
      rw [Nat.zero_add] at hc8
      have f8 := hfr8 x'
      have s9 := s8.setP (p := ⟨gq, x', none⟩) hgq (k7.apart_ge hgq) (.int .i64 c)
      have hq9 := hq8.set (k := x') (by rw [← hk.out]; exact hxk) c
      have hfr9 : ∀ o, (w8.setCell ⟨gq, x', none⟩ (.int .i64 c)).frozen? ⟨gq, o, none⟩ = false := by intro o; rw [frozen?_setCell']; exact hfr8 o
      have hql9 : gq < (w8.setCell ⟨gq, x', none⟩ (.int .i64 c)).heap.size := by simpa [World.setCell] using hql
      clear s7 hfr8 hq8 eq8 hql hb8
      go_upto_region 19 with fail
      obtain ⟨W9, hW9, s9⟩ := s9.name'
      rw [← hW9] at hq9 hfr9 hql9 ⊢
      clear hW9 q8 s8 hc8 f8
      have q9 := s9.hold
      simp only [Holds, and_true] at q9
      go_wp2_with fail
      refine (HT1.out _ _ cf _ cq s9.sent.1.1.e s9.sent.2 hq9).mono ?_
      rintro e w10 ⟨rfl, hb10⟩
      have hq10 := hq9.below hb10
      have hfr10 : ∀ o, w10.frozen? ⟨gq, o, none⟩ = false := fun o => (hb10.frozen (p := ⟨gq, o, none⟩) hql9).trans (hfr9 o)
      have hql10 := Nat.lt_of_lt_of_le hql9 hb10.size
      (have s10 := s9.call hb10; have q10 := s10.hold; simp only [Holds, and_true] at q10; clear s9 hb10; try clear q9)
      clear hq9 hfr9 hql9 HT1
      go_wp2_with fail
      refine (HZ.out _ (s10.sent.1.1.c (by simp))).mono ?_
      rintro e w11 ⟨z11, d11, rfl, hz11, hb11⟩
      have hq11 := hq10.below hb11
      have hfr11 : ∀ o, w11.frozen? ⟨gq, o, none⟩ = false := fun o => (hb11.frozen (p := ⟨gq, o, none⟩) hql10).trans (hfr10 o)
      have hql11 := Nat.lt_of_lt_of_le hql10 hb11.size
      (have s11 := s10.call hb11; have q11 := s11.hold; simp only [Holds, and_true] at q11; clear s10 hb11; try clear q10)
      clear hq10 hfr10 hql10
      go_wp2_with fail
      refine (HAs.out _ z11 d11 s11.sent.1.1.e hz11).mono ?_
      rintro e w12 ⟨gg, cg, rfl, hgg, hRg, hb12⟩
      have hq12 := hq11.below hb12
      have hfr12 : ∀ o, w12.frozen? ⟨gq, o, none⟩ = false := fun o => (hb12.frozen (p := ⟨gq, o, none⟩) hql11).trans (hfr11 o)
      have hql12 := Nat.lt_of_lt_of_le hql11 hb12.size
      (have s12 := s11.call hb12; have q12 := s12.hold; simp only [Holds, and_true] at q12; clear s11 hb12; try clear q11)
      clear hq11 hfr11 hz11 HAs
      have s13 := s12.box2 30 (.int .i64 N) (.slice (some ⟨gg, 0, none⟩) la cg)
      have B13 : Below w12.heap.size w12 (w12.alloc (.cells #[.int .i64 N, .slice (some ⟨gg, 0, none⟩) la cg] 30)) := (Below.refl _ _).alloc (Nat.le_refl _) _
      have hRg13 := hRg.below B13
      have hq13 := hq12.below B13
      have hfr13 : ∀ o, (w12.alloc (.cells #[.int .i64 N, .slice (some ⟨gg, 0, none⟩) la cg] 30)).frozen? ⟨gq, o, none⟩ = false := fun o => (B13.frozen (p := ⟨gq, o, none⟩) hql12).trans (hfr12 o)
      clear hRg hq12 hfr12 B13
      have hggq : gq < gg := by omega
      go_upto_region 25 with fail
      obtain ⟨W13, hW13⟩ : ∃ W, W = w12.alloc (.cells #[.int .i64 N, .slice (some ⟨gg, 0, none⟩) la cg] 30) := ⟨_, rfl⟩
      rw [← hW13] at s13 hRg13 hq13 hfr13 ⊢
      clear hW13 q12
      have q13 := s13.hold
      simp only [Holds, and_true] at q13
      obtain ⟨bp, op, hyp, hcp⟩ := hpc.out W13 s13.sent.1.2
      have e3 : -8388608 ≤ sv + c ∧ sv + c ≤ 8388608 := by omega
      obtain ⟨b9, o9, eq9, hc9⟩ := hq13.get x' (by rw [List.length_set, ← hk.out]; exact hxk) _ rfl
      obtain ⟨rfl, rfl⟩ : gq = b9 ∧ 0 = o9 := by simpa using eq9
      rw [Nat.zero_add] at hc9
      have f9 := hfr13 x'
      have s14 := s13.setP (p := ⟨gq, x', none⟩) hgq ⟨by dsimp only; omega, by dsimp only; omega, k7.apart_ge hgq⟩ (.int .i64 (sv + c))
      have hq14 := hq13.set (k := x') (by rw [List.length_set, ← hk.out]; exact hxk) (sv + c)
      rw [List.set_set] at hq14
      have hR14 := hRg13.other (p := ⟨gq, x', none⟩) (by show gq ≠ gg; omega) (.int .i64 (sv + c))
      have hbpl : bp < W13.heap.size := World.block_lt_of_cell? W13 _ hcp
      subst hyp
      clear eq9
      go_upto_region 26 with fail
      obtain ⟨W14, hW14, s14⟩ := s14.name'
      rw [← hW14] at hq14 hR14 ⊢
      clear hW14 s13 q13 hq13 hRg13 hfr13 hc9 f9 hcp hbpl
      have q14 := s14.hold
      simp only [Holds, and_true] at q14
      go_wp2_with fail
      refine (HT2.out _ _ cg _ cq s14.sent.1.1.e (.inr ⟨gg, 0, rfl, hR14⟩) hq14).mono ?_
      rintro e w15 ⟨rfl, hb15⟩
      have s15 := s14.call hb15
      have hbX := hbV.trans (s15.bel.mono hbV.size)
      have s16 := s15.re.drop 4
      clear s14 q14 hq14 hR14 hb15 s15 hbV HT2 HO hpc k7 hql11 hql12 hggq hgg hgq
      obtain ⟨Lj, hLj⟩ : ∃ L, L = tellL n (joinM n (matOf n lA) (matOf n lB)) := ⟨_, rfl⟩
      rw [← hLj] at HT3
      have HJ : Hid (∀ (W : World) (z1 z2 : Option Addr) (c1 c2 : Nat), ErrS W a → ErrAt W a 3 → CsAt W z1 lA → CsAt W z2 lB → Calls Tryd.prog 28 #[(.agg #[.int .i64 N, (.slice z1 la c1)]), (.agg #[.int .i64 M, (.slice z2 lb c2)])] W fun e w' => ∃ (N5 : Int) (x5 : Option Addr) (k5 c5 : Nat) (er : Int), e = .returned (.tuple #[(.agg #[.int .i64 N5, (.slice x5 k5 c5)]), erV a er]) ∧ Hid (er = 0 → zErr M lB = 0 ∧ N = M) ∧ Hid (er = 0 → N5 = N ∧ k5 = la ∧ ∃ g, x5 = some ⟨g, 0, none⟩ ∧ W.heap.size ≤ g ∧ RowC w' g 0 Lj) ∧ Below W.heap.size W w') := by
        intro W z1 z2 c1 c2 h1 h2 h3 h4
        have hg := join_any N M z1 z2 la c1 lb c2 lA lB a W h1 h2 h3 h4 hla hlb (by omega) (by omega)
        rw [← Hn.out] at hg
        refine hg.mono ?_
        rintro e w' ⟨hb, h | h | h⟩
        · exact ⟨0, none, 0, 0, _, h.2, fun h0 => absurd h0 h.1, fun h0 => absurd h0 h.1, hb⟩
        · exact ⟨0, none, 0, 0, 4, h.2.2, fun h0 => absurd h0 (by omega), fun h0 => absurd h0 (by omega), hb⟩
        · obtain ⟨hpe, _, g5, cp5, rfl, hg5, hR5⟩ := h
          rw [← hLj] at hR5
          exact ⟨N, _, la, cp5, 0, rfl, fun _ => pair_0 hpe, fun _ => ⟨rfl, rfl, g5, rfl, hg5, hR5⟩, hb⟩
      clear hLj
      go_upto_region 29 with fail
      obtain ⟨W6, hW6, s16⟩ := s16.name'
      rw [← hW6] at hbX ⊢
      have s6 := (show St W6 W6 _ ((w.heap.size + 1, 0, Value.int .i64 M) :: (w.heap.size + 1, 1, Value.slice xb lb cb) :: (w.heap.size, 0, Value.int .i64 N) :: (w.heap.size, 1, Value.slice xa la ca) :: []) from s16.re)
      obtain ⟨ZZ4, hZZ⟩ : ∃ Z : World → Prop, Z = (Both (Both (Zs true a [(xa, lA), (xb, lB)]) (fun W => IntsAt W (some ⟨bp, op, none⟩) p)) (fun W => CsAt W (some ⟨gf, 0, none⟩) Lf)) := ⟨_, rfl⟩
      rw [← hZZ] at s6
      have hZe : Hid (∀ W, ZZ4 W → ErrS W a ∧ ErrAt W a 3 ∧ CsAt W xa lA ∧ CsAt W xb lB ∧ IntsAt W (some ⟨bp, op, none⟩) p) := by
        intro W h
        rw [hZZ] at h
        exact ⟨h.1.1.e, h.1.1.1.2 rfl, h.1.1.c (by simp), h.1.1.c (by simp), h.1.2⟩
      clear hW6 hZZ s16
      have q6 := s6.hold
      simp only [Holds, and_true] at q6
      go_cut [23, 17] (fun t21 t15 wx => ∃ (bj : Nat) (N5 : Int) (x5 : Option Addr) (k5 c5 : Nat) (er : Int), t15 = erV a er ∧ t21 = .pointer (some ⟨bj, 0, none⟩) ∧ Hid (er = 0 → zErr M lB = 0 ∧ N = M) ∧ Hid (er = 0 → N5 = N ∧ k5 = la ∧ CsAt wx x5 Lj) ∧ St W6 wx ZZ4 ((bj, 0, Value.int .i64 N5) :: (bj, 1, Value.slice x5 k5 c5) :: ((w.heap.size + 1, 0, Value.int .i64 M) :: (w.heap.size + 1, 1, Value.slice xb lb cb) :: (w.heap.size, 0, Value.int .i64 N) :: (w.heap.size, 1, Value.slice xa la ca) :: [])))
      case first =>
        have hwB := Nat.le_refl W6.heap.size
        have k2 := s6.hold
        go_region_held3 (fun w' => w'.cell? ⟨w.heap.size + 1, 0, none⟩ = some (.int .i64 M) ∧ w'.cell? ⟨w.heap.size + 1, 1, none⟩ = some (.slice xb lb cb) ∧ w'.cell? ⟨w.heap.size, 0, none⟩ = some (.int .i64 N) ∧ w'.cell? ⟨w.heap.size, 1, none⟩ = some (.slice xa la ca) ∧ St W6 w' ZZ4 ((w.heap.size + 1, 0, Value.int .i64 M) :: (w.heap.size + 1, 1, Value.slice xb lb cb) :: (w.heap.size, 0, Value.int .i64 N) :: (w.heap.size, 1, Value.slice xa la ca) :: [])) (first | (exact keepSt (((w.heap.size + 1, 0, Value.int .i64 M) :: (w.heap.size + 1, 1, Value.slice xb lb cb) :: (w.heap.size, 0, Value.int .i64 N) :: (w.heap.size, 1, Value.slice xa la ca) :: [])) (by assumption) (by assumption)) | (exact keepSt (((w.heap.size + 1, 0, Value.int .i64 M) :: (w.heap.size + 1, 1, Value.slice xb lb cb) :: (w.heap.size, 0, Value.int .i64 N) :: (w.heap.size, 1, Value.slice xa la ca) :: [])) (Below.refl _ _).drew (by assumption)) | (exact keepSt (((w.heap.size + 1, 0, Value.int .i64 M) :: (w.heap.size + 1, 1, Value.slice xb lb cb) :: (w.heap.size, 0, Value.int .i64 N) :: (w.heap.size, 1, Value.slice xa la ca) :: [])) ((Below.refl _ _).alloc (Nat.le_refl _) _) (by assumption)) | (exact keepSt0 (((w.heap.size + 1, 0, Value.int .i64 M) :: (w.heap.size + 1, 1, Value.slice xb lb cb) :: (w.heap.size, 0, Value.int .i64 N) :: (w.heap.size, 1, Value.slice xa la ca) :: [])) (St.drew (by assumption))) | (exact keepSt0 (((w.heap.size + 1, 0, Value.int .i64 M) :: (w.heap.size + 1, 1, Value.slice xb lb cb) :: (w.heap.size, 0, Value.int .i64 N) :: (w.heap.size, 1, Value.slice xa la ca) :: [])) (s9.alloc _)) | (exact keepSt0 (((w.heap.size + 1, 0, Value.int .i64 M) :: (w.heap.size + 1, 1, Value.slice xb lb cb) :: (w.heap.size, 0, Value.int .i64 N) :: (w.heap.size, 1, Value.slice xa la ca) :: [])) (St.twoP s9 k2 hwB (by first | exact Nat.le_refl _ | exact hb7.size | exact Nat.le_trans hb7.size hb8.size))) | (exact keepSt0 (((w.heap.size + 1, 0, Value.int .i64 M) :: (w.heap.size + 1, 1, Value.slice xb lb cb) :: (w.heap.size, 0, Value.int .i64 N) :: (w.heap.size, 1, Value.slice xa la ca) :: [])) (by assumption)))
          (first
            | (go_at_call_of 16 (Value.agg #[.int .i64 N, .slice xa la ca]); refine (HZ.out _ (hZe.out _ (keepSt_st (w := W6) (Z := ZZ4) ((w.heap.size + 1, 0, Value.int .i64 M) :: (w.heap.size + 1, 1, Value.slice xb lb cb) :: (w.heap.size, 0, Value.int .i64 N) :: (w.heap.size, 1, Value.slice xa la ca) :: []) (by assumption)).sent).2.2.1).mono ?_; rintro e w7 ⟨y7, c7, rfl, hy7, hb7⟩; have s7 := (keepSt_st (w := W6) (Z := ZZ4) ((w.heap.size + 1, 0, Value.int .i64 M) :: (w.heap.size + 1, 1, Value.slice xb lb cb) :: (w.heap.size, 0, Value.int .i64 N) :: (w.heap.size, 1, Value.slice xa la ca) :: []) (by assumption)).call hb7; first | (have hx7 := boxed2 hb7) | (have hx7 := boxed2' hb7) | skip)
            | (go_at_call_of 16 (Value.agg #[.int .i64 M, .slice xb lb cb]); refine (HZb.out _ (hZe.out _ (keepSt_st (w := W6) (Z := ZZ4) ((w.heap.size + 1, 0, Value.int .i64 M) :: (w.heap.size + 1, 1, Value.slice xb lb cb) :: (w.heap.size, 0, Value.int .i64 N) :: (w.heap.size, 1, Value.slice xa la ca) :: []) (by assumption)).sent).2.2.2.1).mono ?_; rintro e w8 ⟨y8, c8, rfl, hy8, hb8⟩; have hy78 := (show CsAt _ y7 lA from (by first | exact hy7 | exact hy7.below ((Below.refl _ _).alloc (Nat.le_refl _) _).drew | exact hy7.below ((Below.refl _ _).alloc (Nat.le_refl _) _))).below hb8; have s8 := (keepSt_st (w := W6) (Z := ZZ4) ((w.heap.size + 1, 0, Value.int .i64 M) :: (w.heap.size + 1, 1, Value.slice xb lb cb) :: (w.heap.size, 0, Value.int .i64 N) :: (w.heap.size, 1, Value.slice xa la ca) :: []) (by assumption)).call hb8; first | (have hx8 := hx7.below hb8; clear hx7) | (have hx8 := boxed2 hb8) | (have hx8 := boxed2' hb8) | skip)
            | (go_at_call 28; refine (HJ.out _ y7 y8 c7 c8 (hZe.out _ (keepSt_st (w := W6) (Z := ZZ4) ((w.heap.size + 1, 0, Value.int .i64 M) :: (w.heap.size + 1, 1, Value.slice xb lb cb) :: (w.heap.size, 0, Value.int .i64 N) :: (w.heap.size, 1, Value.slice xa la ca) :: []) (by assumption)).sent).1 (hZe.out _ (keepSt_st (w := W6) (Z := ZZ4) ((w.heap.size + 1, 0, Value.int .i64 M) :: (w.heap.size + 1, 1, Value.slice xb lb cb) :: (w.heap.size, 0, Value.int .i64 N) :: (w.heap.size, 1, Value.slice xa la ca) :: []) (by assumption)).sent).2.1 (by first | exact hy78 | exact hy78.below ((Below.refl _ _).alloc (Nat.le_refl _) _).drew | exact hy78.below ((Below.refl _ _).alloc (Nat.le_refl _) _)) (by first | exact hy8 | exact hy8.below ((Below.refl _ _).alloc (Nat.le_refl _) _).drew | exact hy8.below ((Below.refl _ _).alloc (Nat.le_refl _) _))).mono ?_; rintro e w9 ⟨N9, x9, k9, c9, er9, rfl, hp9, h9, hb9⟩; have s9 := (keepSt_st (w := W6) (Z := ZZ4) ((w.heap.size + 1, 0, Value.int .i64 M) :: (w.heap.size + 1, 1, Value.slice xb lb cb) :: (w.heap.size, 0, Value.int .i64 N) :: (w.heap.size, 1, Value.slice xa la ca) :: []) (by assumption)).call hb9; (first | (have hx9 := hx8.below hb9; clear hx8; have ho9 := hx9; simp only [Holds, and_true] at ho9) | (have hx9 := boxed2 hb9; have ho9 := hx9; simp only [Holds, and_true] at ho9) | (have hx9 := boxed2' hb9; have ho9 := hx9; simp only [Holds, and_true] at ho9) | skip)))
        all_goals
          have za := hb7.size
          try simp only [World.drew, World.size_alloc] at za
          have zb := hb8.size
          try simp only [World.size_alloc] at zb
          go_wp2_with fail
          go_meet
          case rel => first
            | exact ⟨_, N9, x9, k9, c9, er9, rfl, rfl, hp9, (fun h0 => by
                obtain ⟨e1, e2, g, rfl, hg, hR⟩ := h9.out h0
                exact ⟨e1, e2, .inr ⟨g, 0, rfl, hR.below ((Below.refl _ _).alloc (Nat.le_refl _) _)⟩⟩), s9.box2 30 _ _⟩
            | exact ⟨_, N9, x9, k9, c9, er9, rfl, rfl, hp9, (fun h0 => by
                obtain ⟨e1, e2, g, rfl, hg, hR⟩ := h9.out h0
                try simp only [World.size_alloc] at hg
                exact ⟨e1, e2, .inr ⟨g, 0, rfl, (hR.other (by dsimp only; omega) _).other (by dsimp only; omega) _⟩⟩), s9.late2 k2 hwB (by first | exact Nat.le_refl _ | exact hb7.size | exact Nat.le_trans hb7.size hb8.size) hx9 _ _⟩
      case rest =>
      clear s6 q6 HJ HZ HZb
      obtain ⟨bj, N5, x5, k5, c5, er, rfl, rfl, hPE, hC, s7⟩ := hcut
      by_cases her : er = 0
      rotate_left
      · rw [erV_ne her]
        clear her hC hPE
        go_wp2_with fail
        go_ret
        exact ⟨rfl, hbX.trans (s7.bel.mono hbX.size)⟩
      · obtain ⟨e5, e6, hC5⟩ := hC.out her
        have hPE2 := hide (hPE.out her)
        subst her e5 e6
        clear hPE
        rw [erV_0]
        obtain ⟨W7, hW7, s7⟩ := s7.name'
        rw [← hW7] at hC5 ⊢
        have hbY := hbX.trans (s7.bel.mono hbX.size)
        have s8 := s7.re.both (Y := fun W => CsAt W x5 Lj) hC5 (fun _ _ q hb => CsAt.stays hC5 q hb)
        clear hW7 s7 hbX hC5 hC
        have q8 := s8.hold
        simp only [Holds, and_true] at q8
        have HI2 : Hid (∀ W : World, IntsAt W (some ⟨bp, op, none⟩) p → Calls Tryd.prog 18 #[.slice (some ⟨bp, op, none⟩) k cy] W fun e w' => ∃ y' cap, e = .returned (.slice y' k cap) ∧ IntsAt w' y' p ∧ Below W.heap.size W w') := fun W h => intsCopy_as (some ⟨bp, op, none⟩) k cy p W h hk (by omega)
        go_wp2_with fail
        go_region_with (first
          | (go_at_call 18; refine (HI2.out _ (hZe.out _ s8.drew.sent.1).2.2.2.2).mono ?_; rintro e w9 ⟨y9, c9, rfl, hy9, hb9⟩; have s9 := s8.drew.call hb9; have q9 := s9.hold; simp only [Holds, and_true] at q9)
          | (go_at_call 17; refine (HT3.out _ x5 c5 y9 c9 hPE2.out.1 hPE2.out.2 (hZe.out _ s9.sent.1).1 s9.sent.2 hy9).mono ?_; rintro e w10 ⟨rfl, hb10⟩; have s10 := s9.call hb10))
        all_goals
          go_wp2_with fail
          go_ret
          exact ⟨rfl, hbY.trans (s10.bel.mono hbY.size)⟩

theorem octSound_true (N : Int) (xa : Option Addr) (ca : Nat) (lA : List Ce) (M : Int) (xb : Option Addr) (cb : Nat) (lB : List Ce) (yp : Option Addr) (cy k : Nat) (p : List Int) (x sg y c : Int) (a : Nat → Addr) (w : World) (hS : ErrS w a ∧ ErrAt w a 3)
    (hN : -9223372036854775808 ≤ N ∧ N ≤ 9223372036854775807) (hA : CsAt w xa lA) (hla : lA.length ≤ 9223372036854775807) (hma : ∀ A ∈ lA, -9223372036854775808 ≤ A.m ∧ A.m ≤ 9223372036854775807)
    (hM : -9223372036854775808 ≤ M ∧ M ≤ 9223372036854775807) (hB : CsAt w xb lB) (hlb : lB.length ≤ 9223372036854775807) (hmb : ∀ A ∈ lB, -9223372036854775808 ≤ A.m ∧ A.m ≤ 9223372036854775807)
    (hI : IntsAt w yp p) (hk : k = p.length) (hkl : k ≤ 9223372036854775807) (hw : ∀ v ∈ p, -9223372036854775808 ≤ v ∧ v ≤ 9223372036854775807)
    (hx : -9223372036854775808 ≤ x ∧ x ≤ 9223372036854775807) (hs : -9223372036854775808 ≤ sg ∧ sg ≤ 9223372036854775807) (hy : -9223372036854775808 ≤ y ∧ y ≤ 9223372036854775807) (hc : -9223372036854775808 ≤ c ∧ c ≤ 9223372036854775807) :
    Calls Tryd.prog 9 #[(.agg #[.int .i64 N, (.slice xa lA.length ca)]), (.agg #[.int .i64 M, (.slice xb lB.length cb)]), .slice yp k cy, .int .i64 x, .int .i64 sg, .int .i64 y, .int .i64 c] w fun e w' => e = .returned (.bool true) ∧ Below w.heap.size w w' :=
  octSound_by N M x sg y c xa xb ca cb lA.length lB.length lA lB yp cy k p a w hS.1 hS.2 hA hB hI rfl rfl hla hlb hk hkl
end Go.Proofs.YtofjjaabgfmnpaaDoor
