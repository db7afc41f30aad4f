/- Octagons: each bound of a tight one is reached: the law's walk. -/
import Derived.Test.YtofjjaabgfmnpaaDoorOg
import Derived.Test.YtofjjaabgfmnpaaDoorO1
import Derived.Test.YtofjjaabgfmnpaaDoorYs
import Derived.Test.YtofjjaabgfmnpaaDoorZo
import Derived.Deep.Cut
import Derived.Deep.DeepCutAuto
namespace Go.Proofs.YtofjjaabgfmnpaaDoor
open Go.RowKit
set_option linter.unusedVariables false

theorem St.setO {w W : World} {Z : World → Prop} {L : List (Nat × Nat × Value)} (h : St w W Z L) {p : Addr} (hb : w.heap.size ≤ p.block) (ap : Apart p.block L) (v : Value) : St w (W.setCell p v) Z L := by
  have b : Below w.heap.size W (W.setCell p v) := (Below.refl _ _).setCell hb _
  exact ⟨h.bel.trans b, h.hold.setCell ap v, h.cl _ _ h.sent b, h.cl⟩
theorem St.two {w W W2 : World} {Z : World → Prop} {L : List (Nat × Nat × Value)} {b : Nat} {v0 v1 : Value} (h : St w W Z L) (k : Holds W2 L) (hw : w.heap.size ≤ W2.heap.size) (hb : W2.heap.size ≤ b) : St w ((W.setCell ⟨b, 0, none⟩ v0).setCell ⟨b, 1, none⟩ v1) Z L :=
  (h.setO (p := ⟨b, 0, none⟩) (by dsimp only; omega) (k.apart_ge hb) v0).setO (p := ⟨b, 1, none⟩) (by dsimp only; omega) (k.apart_ge hb) v1


/-- What of a tight octagon's bounds is reached. -/
theorem reachO {n : Nat} {m : Mat} (C : CloNear n m) {i j : Nat} (hi : i < n) (hj : j < n) :
    (∀ v, tg n m j i = some v → v.natAbs ≤ 536870912) ∧
    (tg n m j i = none → NoNeg n (tg n (gdM m (bar j) (bar i) (-33554432)))) ∧
    (∀ v, tg n m j i = some v → NoNeg n (tg n (gdM m (bar j) (bar i) (-v))) ∧ ¬ NoNeg n (tg n (gdM m (bar j) (bar i) (-v - 1)))) := by
  have he := C.hn.1
  have t := C.tig
  have hbi := bar_lt he hi
  have hbj := bar_lt he hj
  have key : ∀ (y : Nat → Int) (c : Int), OPt n (gdM m (bar j) (bar i) c) y ↔ OPt n m y ∧ y (bar i) - y (bar j) ≤ c := fun y c => opt_gr he hbj hbi
  have put : ∀ (y : Nat → Int) (c : Int), OPt n (tg n m) y → y j - y i ≤ c → NoNeg n (tg n (gdM m (bar j) (bar i) c)) := by
    intro y c hy hyc
    refine (tg_some he (coh_gd C.coh)).1 ⟨y, (key y c).2 ⟨(tg_pt he).1 hy, ?_⟩⟩
    rw [hy.2, hy.2]; omega
  refine ⟨fun v hv => C.small j i hj hi v hv, fun h0 => ?_, fun v hv => ⟨?_, ?_⟩⟩
  · obtain ⟨y, hy, hK⟩ := t.free hj hi h0 33554432
    exact put y _ hy (by omega)
  · obtain ⟨y, hy, hK⟩ := t.reach hj hi hv
    exact put y _ hy (by omega)
  · intro hN2
    obtain ⟨y, hy⟩ := (tg_some he (coh_gd C.coh)).2 hN2
    obtain ⟨h1, h2⟩ := (key y _).1 hy
    have h3 := ((tg_pt he).2 h1).1 j i hj hi
    rw [hv] at h3
    simp [okB] at h3
    rw [hy.2, hy.2] at h2
    omega
/-- Where the bound stands, and its opposite. -/
theorem turned {av bv : Int} (ha : av = 1 ∨ av = -1) (hb : bv = 1 ∨ bv = -1) (x y : Nat) :
    gFr (-av) x (-bv) y = bar (if bv < 0 then 2 * y else 2 * y + 1) ∧ gTo (-av) x (-bv) y = bar (if av < 0 then 2 * x + 1 else 2 * x) ∧ ∀ c, gC (-av) (-bv) c = c := by
  obtain ⟨b1, b2⟩ := bar_even x
  obtain ⟨b3, b4⟩ := bar_even y
  rcases ha with rfl | rfl <;> rcases hb with rfl | rfl <;> simp [gFr, gTo, gC, idxN, b1, b2, b3, b4]

set_option maxRecDepth 20000 in
set_option maxHeartbeats 8000000 in
theorem octReached_by (N av xv bv yv : Int) (s : Option Addr) (c0 len : Nat) (l : List Ce) (a : Nat → Addr) (w : World) (hS : ErrS w a) (hA : CsAt w s l) (hl : Hid (len = l.length)) (hlen : len ≤ 9223372036854775807) :
    Calls Tryd.prog 8 #[(.agg #[.int .i64 N, (.slice s len c0)]), .int .i64 av, .int .i64 xv, .int .i64 bv, .int .i64 yv] w fun e w' => e = .returned (.bool true) ∧ Below w.heap.size w w' := by
  have s0 := (St.startEC hS hA).box2 24 (.int .i64 N) (.slice s len c0)
  have HN : Hid (∀ W : World, CsAt W s l → Calls Tryd.prog 24 #[.slice s len c0] W fun e w' => e = .returned (.bool (decide (len ≤ 100) && nearL l 1048576)) ∧ w' = W) := fun W h => near_law s c0 len l W h hl hlen
  go_enter Tryd.func8, Tryd.ntmps8
  go_wp2_with fail
  refine (free_any a _ s0.sent.1).mono ?_
  rintro e w1 ⟨rfl, hb1⟩
  have s1 := s0.call hb1
  have q1 := s1.hold
  simp only [Holds, and_true] at q1
  clear s0 hb1 hS hA
  by_cases h100 : len ≤ 100
  rotate_left
  · have h100' : (100 : Int) < (len : Int) := by omega
    go_wp2_with fail
    go_ret
    exact ⟨rfl, s1.bel⟩
  have h100' : ¬ (100 : Int) < (len : Int) := by omega
  rw [decide_eq_true h100, Bool.true_and] at HN
  obtain ⟨nr, hnr⟩ : ∃ b, b = nearL l 1048576 := ⟨_, rfl⟩
  rw [← hnr] at HN
  have Hnr := hide hnr
  clear hnr
  go_wp2_with fail
  refine (HN.out _ s1.sent.2).mono ?_
  rintro e w2 ⟨rfl, hw2⟩
  rw [hw2]
  clear hw2 w2 HN
  cases nr
  · go_wp2_with fail
    go_ret
    exact ⟨rfl, s1.bel⟩
  have HZ : Hid (∀ W : World, CsAt W s l → Calls Tryd.prog 16 #[(.agg #[.int .i64 N, (.slice s len c0)])] W fun e w' => ∃ y cap, e = .returned (.agg #[.int .i64 N, (.slice y len cap)]) ∧ CsAt w' y l ∧ Below W.heap.size W w') := fun W h => zoneOf_any N s c0 len l W h hl (by omega)
  go_wp2_with fail
  refine (HZ.out _ s1.sent.2).mono ?_
  rintro e w2 ⟨y, cy, rfl, hy, hb2⟩
  have s2 := s1.call hb2
  have q2 := s2.hold
  simp only [Holds, and_true] at q2
  clear s1 q1 hb2
  go_wp2_with fail
  refine (close_any N y cy len l a _ s2.sent.1 hy hl (by omega)).mono ?_
  rintro e w3 ⟨hb3, h3⟩
  have s3 := s2.call hb3
  have q3 := s3.hold
  simp only [Holds, and_true] at q3
  clear s2 q2 hb3 hy
  rcases h3 with ⟨h0, rfl⟩ | ⟨h0, hno, rfl⟩ | ⟨h0, hok, g, cp, rfl, hg, hR⟩
  · rw [erV_ne h0]
    clear h0
    go_wp2_with fail
    go_ret
    exact ⟨rfl, s3.bel.alloc (by have := s3.bel.size; omega) _⟩
  · clear hno
    go_wp2_with fail
    go_ret
    exact ⟨rfl, s3.bel.alloc (by have := s3.bel.size; omega) _⟩
  obtain ⟨z1, z2, z3, z4, z5, z6⟩ := zErr_0 h0
  obtain ⟨n, hn⟩ : ∃ n, n = nOf N := ⟨_, rfl⟩
  rw [← hn] at z1 z2 z3 z4 hok hR
  have hSz : Sz n 1048576 (matOf n l) := sz_mat z4 (by simpa using near_size Hnr.out.symm)
  have CN : CloNear n (matOf n l) := ⟨⟨z2, z3⟩, hSz, by rw [hn]; exact coh_of h0, hok⟩
  have hll : Hid (len = n * n) := by show _ = _; rw [hl.out]; exact z4
  have hmi : (n : Int) * (n : Int) = (len : Int) := by rw [hll.out, Int.natCast_mul]
  have hnn : (n : Int) ≤ 8 := by omega
  have hlenb : len ≤ 64 := by have := hll.out; have := Nat.mul_le_mul z3 z3; omega
  have hmi4 : (4 : Int) * N * N = (len : Int) := by
    have e2 : 4 * N * N = (2 * N) * (2 * N) := by rw [Int.mul_assoc, Int.mul_assoc, Int.mul_left_comm N 2 N, ← Int.mul_assoc 2 2]; simp
    rw [e2, z1]; exact hmi
  obtain ⟨N4, hN4⟩ : ∃ q : Int, (4 : Int) * N = q := ⟨_, rfl⟩
  rw [hN4] at hmi4
  have hN4b : 0 ≤ N4 ∧ N4 ≤ 16 := by omega
  have hNn : 0 ≤ N ∧ N ≤ 4 := by omega
  have HG : Hid (∀ (W : World) (y : Option Addr) (cy : Nat) (c : Int), ErrS W a → CsAt W y l → guOErr N l xv yv (-av) (-bv) c = 0 → (NoNeg n (tg n (gdM (matOf n l) (gFr (-av) xv.toNat (-bv) yv.toNat) (gTo (-av) xv.toNat (-bv) yv.toNat) (gC (-av) (-bv) c))) → Calls Tryd.prog 38 #[(.agg #[.int .i64 N, (.slice y len cy)]), .int .i64 (-av), .int .i64 xv, .int .i64 (-bv), .int .i64 yv, .int .i64 c] W fun e w' => ∃ g cp, e = .returned (.tuple #[(.agg #[.int .i64 N, (.slice (some ⟨g, 0, none⟩) len cp)]), .bool true, .nilIface]) ∧ Below W.heap.size W w') ∧ (¬ NoNeg n (tg n (gdM (matOf n l) (gFr (-av) xv.toNat (-bv) yv.toNat) (gTo (-av) xv.toNat (-bv) yv.toNat) (gC (-av) (-bv) c))) → Calls Tryd.prog 38 #[(.agg #[.int .i64 N, (.slice y len cy)]), .int .i64 (-av), .int .i64 xv, .int .i64 (-bv), .int .i64 yv, .int .i64 c] W fun e w' => e = .returned (.tuple #[(.agg #[.int .i64 0, .slice none 0 0]), .bool false, .nilIface]) ∧ Below W.heap.size W w')) := by
    intro W y cy c h1 h2 h3
    have hg := guardO_any N xv yv (-av) (-bv) c y cy len l a W h1 h2 hl (by omega)
    rw [← hn] at hg
    refine ⟨fun hk => hg.mono ?_, fun hk => hg.mono ?_⟩
    · rintro e w' ⟨hb, h | h | h⟩
      · exact absurd h3 h.1
      · exact absurd hk h.2.1
      · obtain ⟨_, _, g, cp, rfl, _, _⟩ := h
        exact ⟨g, cp, rfl, hb⟩
    · rintro e w' ⟨hb, h | h | h⟩
      · exact absurd h3 h.1
      · exact ⟨h.2.2, hb⟩
      · exact absurd h.2.1 hk
  have s4 := s3.box2 30 (.int .i64 N) (.slice (some ⟨g, 0, none⟩) len cp)
  have q4 := s4.hold
  simp only [Holds, and_true] at q4
  have hbel4 := s4.bel
  have hglt := hR.lt
  by_cases i0 : xv < 0
  · clear h0 hok hn
    go_wp2_with fail
    go_ret
    exact ⟨rfl, hbel4⟩
  by_cases j0 : yv < 0
  · clear h0 hok hn
    go_wp2_with fail
    go_ret
    exact ⟨rfl, hbel4⟩
  by_cases iN : N ≤ xv
  · clear h0 hok hn
    go_wp2_with fail
    go_ret
    exact ⟨rfl, hbel4⟩
  by_cases jN : N ≤ yv
  · clear h0 hok hn
    go_wp2_with fail
    go_ret
    exact ⟨rfl, hbel4⟩
  by_cases hij : xv = yv
  · subst hij
    clear h0 hok hn
    go_wp2_with fail
    go_ret
    exact ⟨rfl, hbel4⟩
  have hijb : (xv == yv) = false := by simp [hij]
  by_cases ha : av = 1 ∨ av = -1
  rotate_left
  · have a1 : (av != 1) = true := by simp; omega
    have a2 : (av != -1) = true := by simp; omega
    clear h0 hok hn
    go_wp2_with fail
    go_ret
    exact ⟨rfl, hbel4⟩
  by_cases hb : bv = 1 ∨ bv = -1
  rotate_left
  · have a1 : (bv != 1) = true := by simp; omega
    have a2 : (bv != -1) = true := by simp; omega
    clear h0 hok hn
    rcases ha with rfl | rfl
    all_goals
      go_wp2_with fail
      go_ret
      exact ⟨rfl, hbel4⟩
  obtain ⟨x', hx'⟩ : ∃ k : Nat, (k : Int) = xv := ⟨xv.toNat, by omega⟩
  obtain ⟨y', hy'⟩ : ∃ k : Nat, (k : Int) = yv := ⟨yv.toNat, by omega⟩
  obtain ⟨i', hi'⟩ : ∃ k, k = if av < 0 then 2 * x' + 1 else 2 * x' := ⟨_, rfl⟩
  obtain ⟨j', hj'⟩ : ∃ k, k = if bv < 0 then 2 * y' else 2 * y' + 1 := ⟨_, rfl⟩
  have hi2 : i' < n := by rw [hi']; split <;> omega
  have hj2 : j' < n := by rw [hj']; split <;> omega
  obtain ⟨f2, f3, f4⟩ := reachO CN hi2 hj2
  obtain ⟨t1, t2, t3⟩ := turned ha hb x' y'
  rw [← hj'] at t1
  rw [← hi'] at t2
  have ei : xv.toNat = x' := by omega
  have ej : yv.toNat = y' := by omega
  rw [ei, ej, t1, t2] at HG
  have hge : ∀ c : Int, c.natAbs ≤ 1099511627776 → guOErr N l xv yv (-av) (-bv) c = 0 := by
    intro c hc
    have hw : wrap64 (N - 1) = N - 1 := by unfold wrap64; omega
    unfold guOErr
    rw [firstE_0, firstE_0, firstE_0, firstE_0, firstE_0]
    refine ⟨h0, ?_, ?_, ?_, ?_, rfl⟩
    · unfold voErr varErr
      rw [hw]
      simp only [List.map]
      rw [firstE_0, firstE_0]
      exact ⟨by rw [if_neg (by omega)], by rw [if_neg (by omega)], rfl⟩
    · unfold siErr
      simp only [List.map]
      rw [firstE_0, firstE_0]
      exact ⟨by rw [if_neg (by omega)], by rw [if_neg (by omega)], rfl⟩
    · unfold saErr; rw [if_neg hij]
    · unfold numErr; rw [if_neg (by simp [farB]; omega)]
  have Hge := hide hge
  obtain ⟨j3, hj3⟩ : ∃ m : Nat, m = j' * 2 := ⟨_, rfl⟩
  obtain ⟨ik, hik⟩ : ∃ m : Nat, m = j' * n := ⟨_, rfl⟩
  obtain ⟨x1, hx1⟩ : ∃ m : Nat, m = ik + i' := ⟨_, rfl⟩
  have b1 : x1 < len := by rw [hll.out, hx1, hik]; exact idx_in hj2 hi2
  have b4 : (x1 : Int) < (len : Int) := by omega
  have a0 : (j' : Int) * 2 = (j3 : Int) := by omega
  have a1 : (j3 : Int) * N = (ik : Int) := by
    have e : (j3 : Int) * N = (j' : Int) * (2 * N) := by rw [← a0, Int.mul_assoc]
    rw [e, z1, hik, Int.natCast_mul]
  have a3 : (ik : Int) + (i' : Int) = (x1 : Int) := by omega
  have a4 : ik ≤ 64 := by omega
  have a5 : j3 ≤ 16 := by omega
  have hx2 : Hid ((tellL n (tg n (matOf n l))).getD x1 ceZ = ceOf (tg n (matOf n l) j' i')) := by show _ = _; rw [hx1, hik]; exact CN.at hj2 hi2
  have hxl : x1 < (tellL n (tg n (matOf n l))).length := by rw [tellL_len, ← hll.out]; exact b1
  obtain ⟨⟨ch, cm⟩, hc⟩ : ∃ C, C = ceOf (tg n (matOf n l) j' i') := ⟨_, rfl⟩
  have c1 : w3.cell? ⟨g, x1 * 2, none⟩ = some (.bool ch) := by have := hR.has x1 hxl; rw [hx2.out, ← hc, Nat.zero_add] at this; exact this
  have c2 : w3.cell? ⟨g, x1 * 2 + 1, none⟩ = some (.int .i64 cm) := by have := hR.most x1 hxl; rw [hx2.out, ← hc, Nat.zero_add] at this; exact this
  have s5 := s4.box2 73 (.bool ch) (.int .i64 cm)
  simp only [World.size_alloc] at s5
  have m0 : (2 : Int) * xv ≤ 8 ∧ 0 ≤ (2 : Int) * xv ∧ (2 : Int) * yv ≤ 8 ∧ 0 ≤ (2 : Int) * yv := by omega
  have HD : Hid ((ch = false ∧ cm = 0 ∧ tg n (matOf n l) j' i' = none) ∨ (ch = true ∧ tg n (matOf n l) j' i' = some cm)) := by
    cases hd : tg n (matOf n l) j' i' with
    | none => rw [hd] at hc; left; obtain ⟨rfl, rfl⟩ : ch = false ∧ cm = 0 := by simpa [ceOf] using hc
              exact ⟨rfl, rfl, rfl⟩
    | some v => rw [hd] at hc; right; obtain ⟨rfl, rfl⟩ : ch = true ∧ cm = v := by simpa [ceOf] using hc
                exact ⟨rfl, rfl⟩
  have Hx' := hide hx'
  have Hy' := hide hy'
  have Hi' := hide hi'
  have Hj' := hide hj'
  have i8 : i' ≤ 8 := by omega
  have j8 : j' ≤ 8 := by omega
  have Hf2 := hide f2
  have Hf3 := hide f3
  have Hf4 := hide f4
  have Ht3 := hide t3
  have q4' := q4
  clear f2 f3 f4 hc t1 t2 t3 hx1 hik hj3 hx2 hxl h0 hok hn ei ej hi2 hj2 hSz hll z2 z3 z4 z5 z6 hl CN hge hi' hj' hx' hy'
  go_upto_region 9 with fail
  go_cut [101] (fun t wx => t = .bool false ∧ wx = (w3.alloc (.cells #[.int .i64 N, .slice (some ⟨g, 0, none⟩) len cp] 30)))
  case first =>
    as_aux_lemma =>
    rcases ha with rfl | rfl <;> rcases hb with rfl | rfl
    all_goals
      go_wp2_with fail
      go_meet
      case rel => exact ⟨rfl, rfl⟩
  case rest =>
  obtain ⟨rfl, rfl⟩ := hcut
  go_upto_if 105 with fail
  go_cut [15] (fun t15 wx => t15 = .int .i64 i' ∧ wx = (w3.alloc (.cells #[.int .i64 N, .slice (some ⟨g, 0, none⟩) len cp] 30)))
  case first =>
    as_aux_lemma =>
    by_cases k1 : av < 0
    · have e1 : (i' : Int) = 2 * xv + 1 := by have := Hi'.out; rw [if_pos k1] at this; have := Hx'.out; omega
      go_wp2_with fail
      go_meet
      case rel => exact ⟨by first | (rw [e1]; done) | (rw [e1]; go_num), rfl⟩
    · have e1 : (i' : Int) = 2 * xv := by have := Hi'.out; rw [if_neg k1] at this; have := Hx'.out; omega
      go_wp2_with fail
      go_meet
      case rel => exact ⟨by first | (rw [e1]; done) | (rw [e1]; go_num), rfl⟩
  case rest =>
  obtain ⟨rfl, rfl⟩ := hcut
  go_upto_if 112 with fail
  go_cut [16] (fun t16 wx => t16 = .int .i64 j' ∧ wx = (w3.alloc (.cells #[.int .i64 N, .slice (some ⟨g, 0, none⟩) len cp] 30)))
  case first =>
    as_aux_lemma =>
    by_cases k2 : bv < 0
    · have e2 : (j' : Int) = 2 * yv := by have := Hj'.out; rw [if_pos k2] at this; have := Hy'.out; omega
      go_wp2_with fail
      go_meet
      case rel => exact ⟨by first | (rw [e2]; done) | (rw [e2]; go_num), rfl⟩
    · have e2 : (j' : Int) = 2 * yv + 1 := by have := Hj'.out; rw [if_neg k2] at this; have := Hy'.out; omega
      go_wp2_with fail
      go_meet
      case rel => exact ⟨by first | (rw [e2]; done) | (rw [e2]; go_num), rfl⟩
  case rest =>
  obtain ⟨rfl, rfl⟩ := hcut
  have q5 := s5.hold
  simp only [Holds, and_true] at q5
  have wa : IntKind.i64.wrap (-av) = -av := by unfold IntKind.wrap; simp [IntKind.signed, IntKind.bits]; omega
  have wb : IntKind.i64.wrap (-bv) = -bv := by unfold IntKind.wrap; simp [IntKind.signed, IntKind.bits]; omega
  have wa2 : -1 ≤ av ∧ av ≤ 1 := by omega
  have wb2 : -1 ≤ bv ∧ bv ≤ 1 := by omega
  rcases HD.out with ⟨rfl, rfl, hd⟩ | ⟨rfl, hd⟩
  · have HG1 : Hid (∀ (W : World) (y : Option Addr) (cy : Nat), ErrS W a → CsAt W y l → Calls Tryd.prog 38 #[(.agg #[.int .i64 N, (.slice y len cy)]), .int .i64 (-av), .int .i64 xv, .int .i64 (-bv), .int .i64 yv, .int .i64 (-33554432)] W fun e w' => ∃ g cp, e = .returned (.tuple #[(.agg #[.int .i64 N, (.slice (some ⟨g, 0, none⟩) len cp)]), .bool true, .nilIface]) ∧ Below W.heap.size W w') := fun W y cy h1 h2 => (HG.out W y cy _ h1 h2 (Hge.out _ (by omega))).1 (by rw [Ht3.out]; exact Hf3.out hd)
    clear hd HD HG Hge hR s3 s4 q4 Hf2 Hf3 Hf4 Ht3 ha hb Hi' Hj'
    go_wp2_with fail
    refine (HZ.out _ s5.sent.2).mono ?_
    rintro e w6 ⟨y6, c6, rfl, hy6, hb6⟩
    have s6 := s5.call hb6
    have q6 := s6.hold
    simp only [Holds, and_true] at q6
    clear s5 q5 hb6
    go_wp2_with fail
    refine (HG1.out _ y6 c6 s6.sent.1 hy6).mono ?_
    rintro e w7 ⟨g7, c7, rfl, hb7⟩
    have s7 := s6.call hb7
    have q7 := s7.hold
    simp only [Holds, and_true] at q7
    clear s6 q6 hb7
    go_wp2_with fail
    go_ret
    exact ⟨by first | rfl | exact ret_bool (by simp), s7.bel.alloc (by have := s7.bel.size; omega) _⟩
  · have hv := Hf2.out cm hd
    have HG1 : Hid (∀ (W : World) (y : Option Addr) (cy : Nat) (p q z : Int), p = -av → q = -bv → z = -cm → ErrS W a → CsAt W y l → Calls Tryd.prog 38 #[(.agg #[.int .i64 N, (.slice y len cy)]), .int .i64 p, .int .i64 xv, .int .i64 q, .int .i64 yv, .int .i64 z] W fun e w' => ∃ g cp, e = .returned (.tuple #[(.agg #[.int .i64 N, (.slice (some ⟨g, 0, none⟩) len cp)]), .bool true, .nilIface]) ∧ Below W.heap.size W w') := fun W y cy p q z hp hq hz h1 h2 => by
      subst hp hq hz; exact (HG.out W y cy _ h1 h2 (Hge.out _ (by omega))).1 (by rw [Ht3.out]; exact (Hf4.out cm hd).1)
    have HG2 : Hid (∀ (W : World) (y : Option Addr) (cy : Nat) (p q z : Int), p = -av → q = -bv → z = -cm - 1 → ErrS W a → CsAt W y l → Calls Tryd.prog 38 #[(.agg #[.int .i64 N, (.slice y len cy)]), .int .i64 p, .int .i64 xv, .int .i64 q, .int .i64 yv, .int .i64 z] W fun e w' => e = .returned (.tuple #[(.agg #[.int .i64 0, .slice none 0 0]), .bool false, .nilIface]) ∧ Below W.heap.size W w') := fun W y cy p q z hp hq hz h1 h2 => by
      subst hp hq hz; exact (HG.out W y cy _ h1 h2 (Hge.out _ (by omega))).2 (by rw [Ht3.out]; exact (Hf4.out cm hd).2)
    have wn1 : IntKind.i64.wrap (-cm) = -cm := by unfold IntKind.wrap; simp [IntKind.signed, IntKind.bits]; omega
    have wn2 : IntKind.i64.wrap (-cm - 1) = -cm - 1 := by unfold IntKind.wrap; simp [IntKind.signed, IntKind.bits]; omega
    clear hd HD HG Hge hR s3 s4 q4 Hf2 Hf3 Hf4 Ht3 ha hb Hi' Hj' hv
    go_upto_region 21 with fail
    obtain ⟨W5, hW5⟩ : ∃ W, W = (w3.alloc (.cells #[.int .i64 N, .slice (some ⟨g, 0, none⟩) len cp] 30)).alloc (.cells #[.bool true, .int .i64 cm] 73) := ⟨_, rfl⟩
    rw [← hW5] at s5 ⊢
    clear hW5 q5
    have q5 := s5.hold
    simp only [Holds, and_true] at q5
    clear q3
    go_cut [13, 14] (fun t9 t10 wx => t9 = .bool true ∧ t10 = .nilIface ∧ St w wx (EC a s l) ((w3.heap.size + 1, 0, Value.bool true) :: (w3.heap.size + 1, 1, Value.int .i64 cm) :: (w3.heap.size, 0, Value.int .i64 N) :: (w3.heap.size, 1, Value.slice (some ⟨g, 0, none⟩) len cp) :: (w.heap.size, 0, Value.int .i64 N) :: (w.heap.size, 1, Value.slice s len c0) :: []))
    case first =>
      as_aux_lemma =>
      have hwB := s5.bel.size
      have k2 := s5.hold
      go_region_held3 (fun w' => w'.cell? ⟨w3.heap.size + 1, 0, none⟩ = some (.bool true) ∧ w'.cell? ⟨w3.heap.size + 1, 1, none⟩ = some (.int .i64 cm) ∧ w'.cell? ⟨w3.heap.size, 0, none⟩ = some (.int .i64 N) ∧ w'.cell? ⟨w3.heap.size, 1, none⟩ = some (.slice (some ⟨g, 0, none⟩) len cp) ∧ w'.cell? ⟨w.heap.size, 0, none⟩ = some (.int .i64 N) ∧ w'.cell? ⟨w.heap.size, 1, none⟩ = some (.slice s len c0) ∧ St w w' (EC a s l) ((w3.heap.size + 1, 0, Value.bool true) :: (w3.heap.size + 1, 1, Value.int .i64 cm) :: (w3.heap.size, 0, Value.int .i64 N) :: (w3.heap.size, 1, Value.slice (some ⟨g, 0, none⟩) len cp) :: (w.heap.size, 0, Value.int .i64 N) :: (w.heap.size, 1, Value.slice s len c0) :: [])) (first | (exact keepSt (((w3.heap.size + 1, 0, Value.bool true) :: (w3.heap.size + 1, 1, Value.int .i64 cm) :: (w3.heap.size, 0, Value.int .i64 N) :: (w3.heap.size, 1, Value.slice (some ⟨g, 0, none⟩) len cp) :: (w.heap.size, 0, Value.int .i64 N) :: (w.heap.size, 1, Value.slice s len c0) :: [])) (by assumption) (by assumption)) | (exact keepSt (((w3.heap.size + 1, 0, Value.bool true) :: (w3.heap.size + 1, 1, Value.int .i64 cm) :: (w3.heap.size, 0, Value.int .i64 N) :: (w3.heap.size, 1, Value.slice (some ⟨g, 0, none⟩) len cp) :: (w.heap.size, 0, Value.int .i64 N) :: (w.heap.size, 1, Value.slice s len c0) :: [])) (Below.refl _ _).drew (by assumption)) | (exact keepSt (((w3.heap.size + 1, 0, Value.bool true) :: (w3.heap.size + 1, 1, Value.int .i64 cm) :: (w3.heap.size, 0, Value.int .i64 N) :: (w3.heap.size, 1, Value.slice (some ⟨g, 0, none⟩) len cp) :: (w.heap.size, 0, Value.int .i64 N) :: (w.heap.size, 1, Value.slice s len c0) :: [])) ((Below.refl _ _).alloc (Nat.le_refl _) _) (by assumption)) | (exact keepSt0 (((w3.heap.size + 1, 0, Value.bool true) :: (w3.heap.size + 1, 1, Value.int .i64 cm) :: (w3.heap.size, 0, Value.int .i64 N) :: (w3.heap.size, 1, Value.slice (some ⟨g, 0, none⟩) len cp) :: (w.heap.size, 0, Value.int .i64 N) :: (w.heap.size, 1, Value.slice s len c0) :: [])) (St.drew (by assumption))) | (exact keepSt0 (((w3.heap.size + 1, 0, Value.bool true) :: (w3.heap.size + 1, 1, Value.int .i64 cm) :: (w3.heap.size, 0, Value.int .i64 N) :: (w3.heap.size, 1, Value.slice (some ⟨g, 0, none⟩) len cp) :: (w.heap.size, 0, Value.int .i64 N) :: (w.heap.size, 1, Value.slice s len c0) :: [])) (s7.alloc _)) | (exact keepSt0 (((w3.heap.size + 1, 0, Value.bool true) :: (w3.heap.size + 1, 1, Value.int .i64 cm) :: (w3.heap.size, 0, Value.int .i64 N) :: (w3.heap.size, 1, Value.slice (some ⟨g, 0, none⟩) len cp) :: (w.heap.size, 0, Value.int .i64 N) :: (w.heap.size, 1, Value.slice s len c0) :: [])) (St.two s7 k2 hwB (by first | exact Nat.le_refl _ | exact hb6.size))) | (exact keepSt0 (((w3.heap.size + 1, 0, Value.bool true) :: (w3.heap.size + 1, 1, Value.int .i64 cm) :: (w3.heap.size, 0, Value.int .i64 N) :: (w3.heap.size, 1, Value.slice (some ⟨g, 0, none⟩) len cp) :: (w.heap.size, 0, Value.int .i64 N) :: (w.heap.size, 1, Value.slice s len c0) :: [])) (by assumption)))
        (first
          | (go_at_call 16; refine (HZ.out _ (keepEC2 (w := w) (a := a) ((w3.heap.size + 1, 0, Value.bool true) :: (w3.heap.size + 1, 1, Value.int .i64 cm) :: (w3.heap.size, 0, Value.int .i64 N) :: (w3.heap.size, 1, Value.slice (some ⟨g, 0, none⟩) len cp) :: (w.heap.size, 0, Value.int .i64 N) :: (w.heap.size, 1, Value.slice s len c0) :: []) (by assumption))).mono ?_; rintro e w6 ⟨y6, c6, rfl, hy6, hb6⟩; have s6 := (keepSt_st (w := w) (Z := EC a s l) ((w3.heap.size + 1, 0, Value.bool true) :: (w3.heap.size + 1, 1, Value.int .i64 cm) :: (w3.heap.size, 0, Value.int .i64 N) :: (w3.heap.size, 1, Value.slice (some ⟨g, 0, none⟩) len cp) :: (w.heap.size, 0, Value.int .i64 N) :: (w.heap.size, 1, Value.slice s len c0) :: []) (by assumption)).call hb6)
          | (go_at_call 38; refine (HG1.out _ y6 c6 _ _ _ (by first | rfl | exact wa) (by first | rfl | exact wb) (by first | rfl | exact wn1) (keepEC1 (w := w) (x := s) (l := l) ((w3.heap.size + 1, 0, Value.bool true) :: (w3.heap.size + 1, 1, Value.int .i64 cm) :: (w3.heap.size, 0, Value.int .i64 N) :: (w3.heap.size, 1, Value.slice (some ⟨g, 0, none⟩) len cp) :: (w.heap.size, 0, Value.int .i64 N) :: (w.heap.size, 1, Value.slice s len c0) :: []) (by assumption)) (by first | exact hy6 | exact hy6.below ((Below.refl _ _).alloc (Nat.le_refl _) _).drew | exact hy6.below ((Below.refl _ _).alloc (Nat.le_refl _) _))).mono ?_; rintro e w7 ⟨g7, c7, rfl, hb7⟩; have s7 := (keepSt_st (w := w) (Z := EC a s l) ((w3.heap.size + 1, 0, Value.bool true) :: (w3.heap.size + 1, 1, Value.int .i64 cm) :: (w3.heap.size, 0, Value.int .i64 N) :: (w3.heap.size, 1, Value.slice (some ⟨g, 0, none⟩) len cp) :: (w.heap.size, 0, Value.int .i64 N) :: (w.heap.size, 1, Value.slice s len c0) :: []) (by assumption)).call hb7))
      all_goals
        go_wp2_with fail
        go_meet
        case rel => exact ⟨rfl, rfl, s7⟩
    case rest =>
    clear s5 q5 HG1
    obtain ⟨rfl, rfl, s5⟩ := hcut
    have q5 := s5.hold
    simp only [Holds, and_true] at q5
    go_upto_region 22 with fail
    go_cut [21, 22, 23] (fun t16 t17 t18 wx => t17 = .bool false ∧ t18 = .nilIface ∧ ∃ be : Nat, t16 = .pointer (some ⟨be, 0, none⟩) ∧ w.heap.size ≤ be ∧ St w wx (EC a s l) ((be, 0, Value.int .i64 0) :: (be, 1, Value.slice none 0 0) :: ((w3.heap.size + 1, 0, Value.bool true) :: (w3.heap.size + 1, 1, Value.int .i64 cm) :: (w3.heap.size, 0, Value.int .i64 N) :: (w3.heap.size, 1, Value.slice (some ⟨g, 0, none⟩) len cp) :: (w.heap.size, 0, Value.int .i64 N) :: (w.heap.size, 1, Value.slice s len c0) :: [])))
    case first =>
      as_aux_lemma =>
      have hwB := s5.bel.size
      have k2 := s5.hold
      go_region_held3 (fun w' => w'.cell? ⟨w3.heap.size + 1, 0, none⟩ = some (.bool true) ∧ w'.cell? ⟨w3.heap.size + 1, 1, none⟩ = some (.int .i64 cm) ∧ w'.cell? ⟨w3.heap.size, 0, none⟩ = some (.int .i64 N) ∧ w'.cell? ⟨w3.heap.size, 1, none⟩ = some (.slice (some ⟨g, 0, none⟩) len cp) ∧ w'.cell? ⟨w.heap.size, 0, none⟩ = some (.int .i64 N) ∧ w'.cell? ⟨w.heap.size, 1, none⟩ = some (.slice s len c0) ∧ St w w' (EC a s l) ((w3.heap.size + 1, 0, Value.bool true) :: (w3.heap.size + 1, 1, Value.int .i64 cm) :: (w3.heap.size, 0, Value.int .i64 N) :: (w3.heap.size, 1, Value.slice (some ⟨g, 0, none⟩) len cp) :: (w.heap.size, 0, Value.int .i64 N) :: (w.heap.size, 1, Value.slice s len c0) :: [])) (first | (exact keepSt (((w3.heap.size + 1, 0, Value.bool true) :: (w3.heap.size + 1, 1, Value.int .i64 cm) :: (w3.heap.size, 0, Value.int .i64 N) :: (w3.heap.size, 1, Value.slice (some ⟨g, 0, none⟩) len cp) :: (w.heap.size, 0, Value.int .i64 N) :: (w.heap.size, 1, Value.slice s len c0) :: [])) (by assumption) (by assumption)) | (exact keepSt (((w3.heap.size + 1, 0, Value.bool true) :: (w3.heap.size + 1, 1, Value.int .i64 cm) :: (w3.heap.size, 0, Value.int .i64 N) :: (w3.heap.size, 1, Value.slice (some ⟨g, 0, none⟩) len cp) :: (w.heap.size, 0, Value.int .i64 N) :: (w.heap.size, 1, Value.slice s len c0) :: [])) (Below.refl _ _).drew (by assumption)) | (exact keepSt (((w3.heap.size + 1, 0, Value.bool true) :: (w3.heap.size + 1, 1, Value.int .i64 cm) :: (w3.heap.size, 0, Value.int .i64 N) :: (w3.heap.size, 1, Value.slice (some ⟨g, 0, none⟩) len cp) :: (w.heap.size, 0, Value.int .i64 N) :: (w.heap.size, 1, Value.slice s len c0) :: [])) ((Below.refl _ _).alloc (Nat.le_refl _) _) (by assumption)) | (exact keepSt0 (((w3.heap.size + 1, 0, Value.bool true) :: (w3.heap.size + 1, 1, Value.int .i64 cm) :: (w3.heap.size, 0, Value.int .i64 N) :: (w3.heap.size, 1, Value.slice (some ⟨g, 0, none⟩) len cp) :: (w.heap.size, 0, Value.int .i64 N) :: (w.heap.size, 1, Value.slice s len c0) :: [])) (St.drew (by assumption))) | (exact keepSt0 (((w3.heap.size + 1, 0, Value.bool true) :: (w3.heap.size + 1, 1, Value.int .i64 cm) :: (w3.heap.size, 0, Value.int .i64 N) :: (w3.heap.size, 1, Value.slice (some ⟨g, 0, none⟩) len cp) :: (w.heap.size, 0, Value.int .i64 N) :: (w.heap.size, 1, Value.slice s len c0) :: [])) (s7.alloc _)) | (exact keepSt0 (((w3.heap.size + 1, 0, Value.bool true) :: (w3.heap.size + 1, 1, Value.int .i64 cm) :: (w3.heap.size, 0, Value.int .i64 N) :: (w3.heap.size, 1, Value.slice (some ⟨g, 0, none⟩) len cp) :: (w.heap.size, 0, Value.int .i64 N) :: (w.heap.size, 1, Value.slice s len c0) :: [])) (St.two s7 k2 hwB (by first | exact Nat.le_refl _ | exact hb6.size))) | (exact keepSt0 (((w3.heap.size + 1, 0, Value.bool true) :: (w3.heap.size + 1, 1, Value.int .i64 cm) :: (w3.heap.size, 0, Value.int .i64 N) :: (w3.heap.size, 1, Value.slice (some ⟨g, 0, none⟩) len cp) :: (w.heap.size, 0, Value.int .i64 N) :: (w.heap.size, 1, Value.slice s len c0) :: [])) (by assumption)))
        (first
          | (go_at_call 16; refine (HZ.out _ (keepEC2 (w := w) (a := a) ((w3.heap.size + 1, 0, Value.bool true) :: (w3.heap.size + 1, 1, Value.int .i64 cm) :: (w3.heap.size, 0, Value.int .i64 N) :: (w3.heap.size, 1, Value.slice (some ⟨g, 0, none⟩) len cp) :: (w.heap.size, 0, Value.int .i64 N) :: (w.heap.size, 1, Value.slice s len c0) :: []) (by assumption))).mono ?_; rintro e w6 ⟨y6, c6, rfl, hy6, hb6⟩; have s6 := (keepSt_st (w := w) (Z := EC a s l) ((w3.heap.size + 1, 0, Value.bool true) :: (w3.heap.size + 1, 1, Value.int .i64 cm) :: (w3.heap.size, 0, Value.int .i64 N) :: (w3.heap.size, 1, Value.slice (some ⟨g, 0, none⟩) len cp) :: (w.heap.size, 0, Value.int .i64 N) :: (w.heap.size, 1, Value.slice s len c0) :: []) (by assumption)).call hb6; first | (have hx6 := boxed2 hb6) | (have hx6 := boxed2' hb6) | skip)
          | (go_at_call 38; refine (HG2.out _ y6 c6 _ _ _ (by first | rfl | exact wa) (by first | rfl | exact wb) (by first | rfl | exact wn2 | (rw [wn1]; exact wn2)) (keepEC1 (w := w) (x := s) (l := l) ((w3.heap.size + 1, 0, Value.bool true) :: (w3.heap.size + 1, 1, Value.int .i64 cm) :: (w3.heap.size, 0, Value.int .i64 N) :: (w3.heap.size, 1, Value.slice (some ⟨g, 0, none⟩) len cp) :: (w.heap.size, 0, Value.int .i64 N) :: (w.heap.size, 1, Value.slice s len c0) :: []) (by assumption)) (by first | exact hy6 | exact hy6.below ((Below.refl _ _).alloc (Nat.le_refl _) _).drew | exact hy6.below ((Below.refl _ _).alloc (Nat.le_refl _) _))).mono ?_; rintro e w7 ⟨rfl, hb7⟩; have s7 := (keepSt_st (w := w) (Z := EC a s l) ((w3.heap.size + 1, 0, Value.bool true) :: (w3.heap.size + 1, 1, Value.int .i64 cm) :: (w3.heap.size, 0, Value.int .i64 N) :: (w3.heap.size, 1, Value.slice (some ⟨g, 0, none⟩) len cp) :: (w.heap.size, 0, Value.int .i64 N) :: (w.heap.size, 1, Value.slice s len c0) :: []) (by assumption)).call hb7; first | (have hx7 := hx6.below hb7; clear hx6; have ho7 := hx7; simp only [Holds, and_true] at ho7) | (have hx7 := boxed2 hb7; have ho7 := hx7; simp only [Holds, and_true] at ho7) | (have hx7 := boxed2' hb7; have ho7 := hx7; simp only [Holds, and_true] at ho7) | skip))
      all_goals
        go_wp2_with fail
        go_meet
        case rel => first
          | exact ⟨rfl, rfl, _, rfl, s7.bel.size, s7.box2 30 _ _⟩
          | exact ⟨rfl, rfl, _, rfl, (by first | exact hwB | exact Nat.le_trans hwB hb6.size), s7.late2 k2 hwB (by first | exact Nat.le_refl _ | exact hb6.size) hx7 _ _⟩
    case rest =>
    clear s5 q5 HG2
    obtain ⟨rfl, rfl, be, rfl, hbe, s5⟩ := hcut
    have q5 := s5.hold
    simp only [Holds, and_true] at q5
    go_wp2_with fail
    go_ret
    exact ⟨by first | rfl | exact ret_bool (by simp), s5.bel⟩

theorem octReached_true (N : Int) (s : Option Addr) (c0 : Nat) (l : List Ce) (av xv bv yv : Int) (a : Nat → Addr) (w : World) (hS : ErrS w a) (hN : -9223372036854775808 ≤ N ∧ N ≤ 9223372036854775807) (hA : CsAt w s l) (hlen : l.length ≤ 9223372036854775807) (hm : ∀ A ∈ l, -9223372036854775808 ≤ A.m ∧ A.m ≤ 9223372036854775807)
    (h1 : -9223372036854775808 ≤ av ∧ av ≤ 9223372036854775807) (h2 : -9223372036854775808 ≤ xv ∧ xv ≤ 9223372036854775807) (h3 : -9223372036854775808 ≤ bv ∧ bv ≤ 9223372036854775807) (h4 : -9223372036854775808 ≤ yv ∧ yv ≤ 9223372036854775807) :
    Calls Tryd.prog 8 #[(.agg #[.int .i64 N, (.slice s l.length c0)]), .int .i64 av, .int .i64 xv, .int .i64 bv, .int .i64 yv] w fun e w' => e = .returned (.bool true) ∧ Below w.heap.size w w' :=
  octReached_by N av xv bv yv s c0 l.length l a w hS hA rfl hlen

end Go.Proofs.YtofjjaabgfmnpaaDoor
