/- Octagons: a variable that becomes its opposite, twice; c more and c less: the law's walk. -/
import Derived.Test.YtofjjaabgfmnpaaDoorO4
import Derived.Test.YtofjjaabgfmnpaaDoorYs
import Derived.Test.YtofjjaabgfmnpaaDoorZq
import Derived.Test.YtofjjaabgfmnpaaDoorZo
namespace Go.Proofs.YtofjjaabgfmnpaaDoor
open Go.RowKit
set_option linter.unusedVariables false

theorem mvO_congr {n : Nat} {d e : Mat} (he : n % 2 = 0) (h : ∀ i j, i < n → j < n → d i j = e i j) {x : Nat} {s c : Int} (hs : s = 1 ∨ s = -1) {i j : Nat} (hi : i < n) (hj : j < n) : mvO d x s x c i j = mvO e x s x c i j := by
  rw [mvO_own hs, mvO_own hs, h _ _ (sgI_lt he hi) (sgI_lt he hj)]
theorem tight_congr {n : Nat} {d e : Mat} (t : Tight n d) (h : ∀ i j, i < n → j < n → e i j = d i j) : Tight n e := by
  have he := t.even
  have et : ∀ i, i < n → topB e i = topB d i := fun i hi => by unfold topB; rw [h _ _ (bar_lt he hi) hi]
  refine ⟨he, ⟨fun i hi => by rw [h i i hi hi]; exact t.clo.diag i hi, fun i j k hi hj hk => by rw [h i j hi hj, h i k hi hk, h k j hk hj]; exact t.clo.tri i j k hi hj hk⟩, fun i j hi hj => ?_, fun i j hi hj => ?_, fun i v hi hv => t.par i v hi (by rw [← h _ _ (bar_lt he hi) hi]; exact hv)⟩
  · rw [h i j hi hj, h _ _ (bar_lt he hj) (bar_lt he hi)]; exact t.coh i j hi hj
  · rw [h i j hi hj, et _ (bar_lt he hi), et j hj]; exact t.str i j hi hj
/-- What is moved is told as it is, and moved back it is what it was. -/
theorem turns {n : Nat} {m : Mat} (C : CloNear n m) {x : Nat} {s c c' : Int} (hs : s = 1 ∨ s = -1) (hc' : c' = if s = -1 then c else -c) (hc : c.natAbs ≤ 1000) {N : Int} (hN : 2 * N = n) :
    zErr N (tellL n (mvO (tg n m) x s x c)) = 0 ∧ NoNeg n (tg n (matOf n (tellL n (mvO (tg n m) x s x c)))) ∧
    tellL n (mvO (tg n (matOf n (tellL n (mvO (tg n m) x s x c)))) x s x c') = tellL n (tg n m) := by
  have t := C.tig
  have tD := tight_own t (x := x) (s := s) (c := c) hs
  have he := C.hn.1
  have sz : Sz n 1099511627776 (mvO (tg n m) x s x c) := by
    intro i j hi hj v hv
    rw [mvO_own hs] at hv
    have h1 : (shO x c i).natAbs ≤ 1000 := by unfold shO; split; exact hc; split <;> omega
    have h2 : (shO x c j).natAbs ≤ 1000 := by unfold shO; split; exact hc; split <;> omega
    have h3 := C.small _ _ (sgI_lt (x := x) (s := s) he hi) (sgI_lt (x := x) (s := s) he hj)
    cases e : tg n m (sgI x s i) (sgI x s j) with
    | none => rw [e] at hv; simp [addB] at hv
    | some u =>
      have := h3 u e
      rw [e] at hv
      simp [addB] at hv
      omega
  have mat : ∀ i j, i < n → j < n → matOf n (tellL n (mvO (tg n m) x s x c)) i j = mvO (tg n m) x s x c i j := fun i j hi hj => by rw [tellL_near sz, mat_row hi hj]
  have tL := tight_congr tD mat
  obtain ⟨k1, k2⟩ := tg_same tL
  refine ⟨tell_right hN C.hn _ tD.coh, k1, ?_⟩
  apply tellL_congr
  intro i j hi hj
  rw [mvO_congr he (fun i j hi hj => by rw [k2 i j hi hj, mat i j hi hj]) hs hi hj]
  exact own_twice hs hc' i j

/-- Errors and slices of cells. -/
theorem asOErr_0 {N : Int} {l : List Ce} {x sg c : Int} (h0 : zErr N l = 0) (hN : 0 ≤ N ∧ N ≤ 4) (hx : 0 ≤ x ∧ x < N) (hs : sg = 1 ∨ sg = -1) (hc : c.natAbs ≤ 1099511627776) : asOErr N l x sg x c = 0 := by
  have hw : wrap64 (N - 1) = N - 1 := by unfold wrap64; omega
  unfold asOErr
  rw [firstE_0, firstE_0, firstE_0, firstE_0]
  refine ⟨h0, ?_, ?_, ?_, rfl⟩
  · unfold voErr varErr
    rw [hw]
    simp only [List.map]
    rw [firstE_0, firstE_0]
    exact ⟨by rw [if_neg (by omega)], by rw [if_neg (by omega)], rfl⟩
  · unfold siErr
    simp only [List.map]
    rw [firstE_0]
    exact ⟨by rw [if_neg (by omega)], rfl⟩
  · unfold numErr; rw [if_neg (by simp [farB]; omega)]

set_option maxRecDepth 20000 in
set_option maxHeartbeats 8000000 in
theorem octTurns_by (N xv c : Int) (s : Option Addr) (c0 len : Nat) (l : List Ce) (a : Nat → Addr) (w : World) (hS : ErrS w a) (hA : CsAt w s l) (hl : Hid (len = l.length)) (hlen : len ≤ 9223372036854775807) :
    Calls Tryd.prog 11 #[(.agg #[.int .i64 N, (.slice s len c0)]), .int .i64 xv, .int .i64 c] w fun e w' => e = .returned (.bool true) ∧ Below w.heap.size w w' := by
  have s0 := (St.startEC hS hA).box2 24 (.int .i64 N) (.slice s len c0)
  have HN : Hid (∀ W : World, CsAt W s l → Calls Tryd.prog 24 #[.slice s len c0] W fun e w' => e = .returned (.bool (decide (len ≤ 100) && nearL l 1048576)) ∧ w' = W) := fun W h => near_law s c0 len l W h hl hlen
  obtain ⟨fc, hfc⟩ : ∃ b, b = farB c 1000 := ⟨_, rfl⟩
  have HF : Hid (∀ W : World, Calls Tryd.prog 21 #[.int .i64 c, .int .i64 1000] W fun e w' => e = .returned (.bool fc) ∧ w' = W) := fun W => by rw [hfc]; exact far_any c _ W (by omega) (by omega)
  have Hfc := hide hfc
  clear hfc
  go_enter Tryd.func11, Tryd.ntmps11
  go_wp2_with fail
  refine (free_any a _ s0.sent.1).mono ?_
  rintro e w1 ⟨rfl, hb1⟩
  have s1 := s0.call hb1
  have q1 := s1.hold
  simp only [Holds, and_true] at q1
  clear s0 hb1 hS hA
  by_cases h100 : len ≤ 100
  rotate_left
  · have h100' : (100 : Int) < (len : Int) := by omega
    go_wp2_with fail
    go_ret
    exact ⟨rfl, s1.bel⟩
  have h100' : ¬ (100 : Int) < (len : Int) := by omega
  rw [decide_eq_true h100, Bool.true_and] at HN
  obtain ⟨nr, hnr⟩ : ∃ b, b = nearL l 1048576 := ⟨_, rfl⟩
  rw [← hnr] at HN
  have Hnr := hide hnr
  clear hnr
  go_wp2_with fail
  refine (HN.out _ s1.sent.2).mono ?_
  rintro e w2 ⟨rfl, hw2⟩
  rw [hw2]
  clear hw2 w2 HN
  cases nr
  · go_wp2_with fail
    go_ret
    exact ⟨rfl, s1.bel⟩
  go_wp2_with fail
  refine (HF.out _).mono ?_
  rintro e w2 ⟨rfl, hw2⟩
  rw [hw2]
  clear hw2 w2 HF
  cases fc
  rotate_left
  · go_wp2_with fail
    go_ret
    exact ⟨rfl, s1.bel⟩
  have hc1 : c.natAbs ≤ 1000 := by
    have := Hfc.out
    simp [farB] at this
    omega
  have HZ : Hid (∀ W : World, CsAt W s l → Calls Tryd.prog 16 #[(.agg #[.int .i64 N, (.slice s len c0)])] W fun e w' => ∃ y cap, e = .returned (.agg #[.int .i64 N, (.slice y len cap)]) ∧ CsAt w' y l ∧ Below W.heap.size W w') := fun W h => zoneOf_any N s c0 len l W h hl (by omega)
  go_wp2_with fail
  refine (HZ.out _ s1.sent.2).mono ?_
  rintro e w2 ⟨y, cy, rfl, hy, hb2⟩
  have s2 := s1.call hb2
  have q2 := s2.hold
  simp only [Holds, and_true] at q2
  clear s1 q1 hb2
  go_wp2_with fail
  refine (close_any N y cy len l a _ s2.sent.1 hy hl (by omega)).mono ?_
  rintro e w3 ⟨hb3, h3⟩
  have s3 := s2.call hb3
  have q3 := s3.hold
  simp only [Holds, and_true] at q3
  clear s2 q2 hb3 hy
  rcases h3 with ⟨h0, rfl⟩ | ⟨h0, hno, rfl⟩ | ⟨h0, hok, g, cp, rfl, hg, hR⟩
  · rw [erV_ne h0]
    clear h0
    go_wp2_with fail
    go_ret
    exact ⟨rfl, s3.bel.alloc (by have := s3.bel.size; omega) _⟩
  · clear hno
    go_wp2_with fail
    go_ret
    exact ⟨rfl, s3.bel.alloc (by have := s3.bel.size; omega) _⟩
  obtain ⟨z1, z2, z3, z4, z5, z6⟩ := zErr_0 h0
  obtain ⟨n, hn⟩ : ∃ n, n = nOf N := ⟨_, rfl⟩
  rw [← hn] at z1 z2 z3 z4 hok hR
  have hSz : Sz n 1048576 (matOf n l) := sz_mat z4 (by simpa using near_size Hnr.out.symm)
  have CN : CloNear n (matOf n l) := ⟨⟨z2, z3⟩, hSz, by rw [hn]; exact coh_of h0, hok⟩
  have hll : Hid (len = n * n) := by show _ = _; rw [hl.out]; exact z4
  have hlenb : len ≤ 64 := by have := hll.out; have := Nat.mul_le_mul z3 z3; omega
  have hNn : 0 ≤ N ∧ N ≤ 4 := by omega
  have s4 := s3.box2 30 (.int .i64 N) (.slice (some ⟨g, 0, none⟩) len cp)
  have hbel4 := s4.bel
  have hglt := hR.lt
  by_cases i0 : xv < 0
  · clear h0 hok hn
    go_wp2_with fail
    go_ret
    exact ⟨rfl, hbel4⟩
  by_cases iN : N ≤ xv
  · clear h0 hok hn
    go_wp2_with fail
    go_ret
    exact ⟨rfl, hbel4⟩
  obtain ⟨x', hx'⟩ : ∃ k, k = xv.toNat := ⟨_, rfl⟩
  obtain ⟨T, hT⟩ : ∃ T, T = tellL n (tg n (matOf n l)) := ⟨_, rfl⟩
  obtain ⟨L1, hL1⟩ : ∃ T, T = tellL n (mvO (tg n (matOf n l)) x' (-1) x' c) := ⟨_, rfl⟩
  obtain ⟨L3, hL3⟩ : ∃ T, T = tellL n (mvO (tg n (matOf n l)) x' 1 x' c) := ⟨_, rfl⟩
  have t1 := turns CN (x := x') (s := -1) (c := c) (c' := c) (.inr rfl) (by simp) hc1 z1
  have t2 := turns CN (x := x') (s := 1) (c := c) (c' := -c) (.inl rfl) (by simp) hc1 z1
  rw [← hL1, ← hT] at t1
  rw [← hL3, ← hT] at t2
  have len1 : Hid (len = L1.length) := by show _ = _; rw [hL1, tellL_len]; exact hll.out
  have len3 : Hid (len = L3.length) := by show _ = _; rw [hL3, tellL_len]; exact hll.out
  have lenT : Hid (len = T.length) := by show _ = _; rw [hT, tellL_len]; exact hll.out
  have HAs : ∀ (W : World) (y : Option Addr) (cy : Nat) (l' L' : List Ce) (sg c' : Int), (sg = 1 ∨ sg = -1) → c'.natAbs ≤ 1000 → len = l'.length → zErr N l' = 0 → NoNeg n (tg n (matOf n l')) → L' = tellL n (mvO (tg n (matOf n l')) x' sg x' c') → ErrS W a → CsAt W y l' → Calls Tryd.prog 35 #[(.agg #[.int .i64 N, (.slice y len cy)]), .int .i64 xv, .int .i64 sg, .int .i64 xv, .int .i64 c'] W fun e w' => ∃ g cp, e = .returned (.tuple #[(.agg #[.int .i64 N, (.slice (some ⟨g, 0, none⟩) len cp)]), .bool true, .nilIface]) ∧ W.heap.size ≤ g ∧ RowC w' g 0 L' ∧ Below W.heap.size W w' := by
    intro W y cy l' L' sg c' hs hc' hle hz' hok' hL' h1 h2
    have hg := assignO_any N xv sg xv c' y cy len l' a W h1 h2 hle (by omega)
    rw [← hn, ← hx'] at hg
    refine hg.mono ?_
    rintro e w' ⟨hb, h | h | h⟩
    · exact absurd (asOErr_0 hz' hNn ⟨by omega, by omega⟩ hs (by omega)) h.1
    · exact absurd hok' h.2.1
    · obtain ⟨_, _, g, cp, rfl, hg, hR⟩ := h
      rw [← hL'] at hR
      exact ⟨g, cp, rfl, hg, hR, hb⟩
  have H1 : Hid (∀ (W : World) (y : Option Addr) (cy : Nat), ErrS W a → CsAt W y l → Calls Tryd.prog 35 #[(.agg #[.int .i64 N, (.slice y len cy)]), .int .i64 xv, .int .i64 (-1), .int .i64 xv, .int .i64 c] W fun e w' => ∃ g cp, e = .returned (.tuple #[(.agg #[.int .i64 N, (.slice (some ⟨g, 0, none⟩) len cp)]), .bool true, .nilIface]) ∧ W.heap.size ≤ g ∧ RowC w' g 0 L1 ∧ Below W.heap.size W w') := fun W y cy => HAs W y cy l L1 (-1) c (.inr rfl) hc1 hl.out h0 hok hL1
  have H2 : Hid (∀ (W : World) (y : Option Addr) (cy : Nat), ErrS W a → CsAt W y L1 → Calls Tryd.prog 35 #[(.agg #[.int .i64 N, (.slice y len cy)]), .int .i64 xv, .int .i64 (-1), .int .i64 xv, .int .i64 c] W fun e w' => ∃ g cp, e = .returned (.tuple #[(.agg #[.int .i64 N, (.slice (some ⟨g, 0, none⟩) len cp)]), .bool true, .nilIface]) ∧ W.heap.size ≤ g ∧ RowC w' g 0 T ∧ Below W.heap.size W w') := fun W y cy => HAs W y cy L1 T (-1) c (.inr rfl) hc1 len1.out t1.1 t1.2.1 t1.2.2.symm
  have H3 : Hid (∀ (W : World) (y : Option Addr) (cy : Nat), ErrS W a → CsAt W y l → Calls Tryd.prog 35 #[(.agg #[.int .i64 N, (.slice y len cy)]), .int .i64 xv, .int .i64 1, .int .i64 xv, .int .i64 c] W fun e w' => ∃ g cp, e = .returned (.tuple #[(.agg #[.int .i64 N, (.slice (some ⟨g, 0, none⟩) len cp)]), .bool true, .nilIface]) ∧ W.heap.size ≤ g ∧ RowC w' g 0 L3 ∧ Below W.heap.size W w') := fun W y cy => HAs W y cy l L3 1 c (.inl rfl) hc1 hl.out h0 hok hL3
  have H4 : Hid (∀ (W : World) (y : Option Addr) (cy : Nat), ErrS W a → CsAt W y L3 → Calls Tryd.prog 35 #[(.agg #[.int .i64 N, (.slice y len cy)]), .int .i64 xv, .int .i64 1, .int .i64 xv, .int .i64 (-c)] W fun e w' => ∃ g cp, e = .returned (.tuple #[(.agg #[.int .i64 N, (.slice (some ⟨g, 0, none⟩) len cp)]), .bool true, .nilIface]) ∧ W.heap.size ≤ g ∧ RowC w' g 0 T ∧ Below W.heap.size W w') := fun W y cy => HAs W y cy L3 T 1 (-c) (.inl rfl) (by omega) len3.out t2.1 t2.2.1 t2.2.2.symm
  have HB : Hid (∀ W : World, CsAt W (some ⟨g, 0, none⟩) T → Calls Tryd.prog 44 #[(.agg #[.int .i64 N, (.slice (some ⟨g, 0, none⟩) len cp)])] W fun e w' => ∃ y cap, e = .returned (.agg #[.int .i64 N, (.slice y len cap)]) ∧ CsAt w' y T ∧ Below W.heap.size W w') := fun W h => zoneBack_any N _ cp len T W h lenT (by omega)
  have HI : Hid (∀ (W : World) (y1 y2 : Option Addr) (c1 c2 : Nat), CsAt W y1 T → CsAt W y2 T → Calls Tryd.prog 26 #[(.agg #[.int .i64 N, (.slice y1 len c1)]), (.agg #[.int .i64 N, (.slice y2 len c2)])] W fun e w' => e = .returned (.bool true) ∧ Below W.heap.size W w') := by
    intro W y1 y2 c1 c2 h1 h2
    refine (isZone_any N N y1 y2 len c1 len c2 T T W h1 h2 lenT lenT (by omega)).mono ?_
    rintro e w' ⟨rfl, hb⟩
    exact ⟨by simp, hb⟩
  rw [← hT] at hR
  have hR4 := hR.below ((Below.refl _ _).alloc (Nat.le_refl _) (.cells #[.int .i64 N, (.slice (some ⟨g, 0, none⟩) len cp)] 30))
  have hcb : -1000 ≤ c ∧ c ≤ 1000 := by omega
  have hbW := s4.bel
  obtain ⟨b4, hb4⟩ : ∃ b, b = w3.heap.size := ⟨_, rfl⟩
  obtain ⟨b0, hb0⟩ : ∃ b, b = w.heap.size := ⟨_, rfl⟩
  have s5 := s4.re.both (Y := fun W => CsAt W (some ⟨g, 0, none⟩) T) (.inr ⟨g, 0, rfl, hR4⟩) (fun _ _ q hb => (show CsAt _ _ _ from .inr ⟨g, 0, rfl, hR4⟩).stays q hb)
  clear h0 hok hn hx' hT hL1 hL3 t1 t2 len1 len3 lenT HAs CN hSz hll z1 z2 z3 z4 z5 z6 hR4 hR s3 s4 hl hc1 hg
  go_upto_region 7 with fail
  obtain ⟨W4, hW4⟩ : ∃ W, W = w3.alloc (.cells #[.int .i64 N, (.slice (some ⟨g, 0, none⟩) len cp)] 30) := ⟨_, rfl⟩
  rw [← hW4, ← hb4, ← hb0] at s5
  rw [← hW4, ← hb4, ← hb0] at ⊢
  rw [← hW4] at hbW
  clear hW4 hb4 hb0 q3 hbel4 hglt
  have q5 := s5.hold
  simp only [Holds, and_true] at q5
  go_wp2_with fail
  refine (HZ.out _ s5.sent.1.2).mono ?_
  rintro e w6 ⟨y6, c6, rfl, hy6, hb6⟩
  (have s6 := s5.call hb6; have q6 := s6.hold; simp only [Holds, and_true] at q6)
  clear q5 s5 hb6
  go_wp2_with fail
  refine (H1.out _ y6 c6 s6.sent.1.1 hy6).mono ?_
  rintro e w7 ⟨g7, c7, rfl, hg7, hR7, hb7⟩
  have s7 := (s6.call hb7).box2 30 (.int .i64 N) (.slice (some ⟨g7, 0, none⟩) len c7)
  have hR7' : CsAt _ (some ⟨g7, 0, none⟩) L1 := .inr ⟨g7, 0, rfl, hR7.below ((Below.refl _ _).alloc (Nat.le_refl _) (.cells #[.int .i64 N, (.slice (some ⟨g7, 0, none⟩) len c7)] 30))⟩
  have k7 := (s6.call hb7).hold
  simp only [Holds, and_true] at k7
  clear s6 q6 hy6 hb7 H1 hR7 hg7
  go_wp2_with fail
  refine (H2.out _ _ _ s7.sent.1.1 hR7').mono ?_
  rintro e w8 ⟨g8, c8, rfl, hg8, hR8, hb8⟩
  have s8 := ((s7.call hb8).box2 30 (.int .i64 N) (.slice (some ⟨g8, 0, none⟩) len c8))
  have hR8' : CsAt _ (some ⟨g8, 0, none⟩) T := .inr ⟨g8, 0, rfl, hR8.below ((Below.refl _ _).alloc (Nat.le_refl _) (.cells #[.int .i64 N, (.slice (some ⟨g8, 0, none⟩) len c8)] 30))⟩
  have k8 := (s7.call hb8).hold
  simp only [Holds, and_true] at k8
  have hbX := hbW.trans (s8.bel.mono hbW.size)
  have s9 := s8.re.both (Y := fun W => CsAt W (some ⟨g8, 0, none⟩) T) hR8' (fun _ _ q hb => hR8'.stays q hb)
  clear k7 s7 s8 hR7' hb8 H2 hR8 hg8 hR8'
  go_wp2_with fail
  refine (HZ.out _ s9.sent.1.1.2).mono ?_
  rintro e w10 ⟨y10, c10, rfl, hy10, hb10⟩
  (have s10 := s9.call hb10; have q10 := s10.hold; simp only [Holds, and_true] at q10)
  clear k8 s9 hb10
  go_wp2_with fail
  refine (H3.out _ y10 c10 s10.sent.1.1.1 hy10).mono ?_
  rintro e w11 ⟨g11, c11, rfl, hg11, hR11, hb11⟩
  have s11 := (s10.call hb11).box2 30 (.int .i64 N) (.slice (some ⟨g11, 0, none⟩) len c11)
  have hR11' : CsAt _ (some ⟨g11, 0, none⟩) L3 := .inr ⟨g11, 0, rfl, hR11.below ((Below.refl _ _).alloc (Nat.le_refl _) (.cells #[.int .i64 N, (.slice (some ⟨g11, 0, none⟩) len c11)] 30))⟩
  have k11 := (s10.call hb11).hold
  simp only [Holds, and_true] at k11
  clear s10 q10 hy10 hb11 H3 hR11 hg11
  go_wp2_with fail
  refine (H4.out _ _ _ s11.sent.1.1.1 hR11').mono ?_
  rintro e w12 ⟨g12, c12, rfl, hg12, hR12, hb12⟩
  have s12 := ((s11.call hb12).box2 30 (.int .i64 N) (.slice (some ⟨g12, 0, none⟩) len c12))
  have hR12' : CsAt _ (some ⟨g12, 0, none⟩) T := .inr ⟨g12, 0, rfl, hR12.below ((Below.refl _ _).alloc (Nat.le_refl _) (.cells #[.int .i64 N, (.slice (some ⟨g12, 0, none⟩) len c12)] 30))⟩
  have k12 := (s11.call hb12).hold
  simp only [Holds, and_true] at k12
  have hbY := hbX.trans (s12.bel.mono hbX.size)
  have s13 := s12.re.both (Y := fun W => CsAt W (some ⟨g12, 0, none⟩) T) hR12' (fun _ _ q hb => hR12'.stays q hb)
  clear k11 s11 s12 hR11' hb12 H4 hR12 hg12 hR12' hbX hbW
  go_upto_region 15 with fail
  obtain ⟨W13, hW13⟩ : ∃ W, W = w12.alloc (.cells #[.int .i64 N, (.slice (some ⟨g12, 0, none⟩) len c12)] 30) := ⟨_, rfl⟩
  rw [← hW13] at s13 hbY ⊢
  clear hW13 k12
  obtain ⟨bm, hbm⟩ : ∃ b, b = w12.heap.size := ⟨_, rfl⟩
  obtain ⟨bl, hbl⟩ : ∃ b, b = w11.heap.size := ⟨_, rfl⟩
  obtain ⟨bk, hbk⟩ : ∃ b, b = w8.heap.size := ⟨_, rfl⟩
  obtain ⟨bj, hbj⟩ : ∃ b, b = w7.heap.size := ⟨_, rfl⟩
  rw [← hbm, ← hbl, ← hbk, ← hbj] at s13
  rw [← hbm, ← hbk]
  obtain ⟨Z, hZ⟩ : ∃ Z : World → Prop, Z = Both (Both (Both (EC a s l) (fun W => CsAt W (some ⟨g, 0, none⟩) T)) (fun W => CsAt W (some ⟨g8, 0, none⟩) T)) (fun W => CsAt W (some ⟨g12, 0, none⟩) T) := ⟨_, rfl⟩
  have hZe : Hid (∀ W, Z W → CsAt W (some ⟨g, 0, none⟩) T ∧ CsAt W (some ⟨g8, 0, none⟩) T ∧ CsAt W (some ⟨g12, 0, none⟩) T) := by
    intro W h
    rw [hZ] at h
    exact ⟨h.1.1.2, h.1.2, h.2⟩
  rw [← hZ] at s13
  clear hbm hbl hbk hbj hZ HZ
  have q13 := s13.hold
  simp only [Holds, and_true] at q13
  go_region_held3 (fun w' => w'.cell? ⟨bm, 0, none⟩ = some (.int .i64 N) ∧ w'.cell? ⟨bm, 1, none⟩ = some (.slice (some ⟨g12, 0, none⟩) len c12) ∧ w'.cell? ⟨bl, 0, none⟩ = some (.int .i64 N) ∧ w'.cell? ⟨bl, 1, none⟩ = some (.slice (some ⟨g11, 0, none⟩) len c11) ∧ w'.cell? ⟨bk, 0, none⟩ = some (.int .i64 N) ∧ w'.cell? ⟨bk, 1, none⟩ = some (.slice (some ⟨g8, 0, none⟩) len c8) ∧ w'.cell? ⟨bj, 0, none⟩ = some (.int .i64 N) ∧ w'.cell? ⟨bj, 1, none⟩ = some (.slice (some ⟨g7, 0, none⟩) len c7) ∧ w'.cell? ⟨b4, 0, none⟩ = some (.int .i64 N) ∧ w'.cell? ⟨b4, 1, none⟩ = some (.slice (some ⟨g, 0, none⟩) len cp) ∧ w'.cell? ⟨b0, 0, none⟩ = some (.int .i64 N) ∧ w'.cell? ⟨b0, 1, none⟩ = some (.slice s len c0) ∧ St W13 w' Z ((bm, 0, Value.int .i64 N) :: (bm, 1, Value.slice (some ⟨g12, 0, none⟩) len c12) :: (bl, 0, Value.int .i64 N) :: (bl, 1, Value.slice (some ⟨g11, 0, none⟩) len c11) :: (bk, 0, Value.int .i64 N) :: (bk, 1, Value.slice (some ⟨g8, 0, none⟩) len c8) :: (bj, 0, Value.int .i64 N) :: (bj, 1, Value.slice (some ⟨g7, 0, none⟩) len c7) :: (b4, 0, Value.int .i64 N) :: (b4, 1, Value.slice (some ⟨g, 0, none⟩) len cp) :: (b0, 0, Value.int .i64 N) :: (b0, 1, Value.slice s len c0) :: [])) (first | (exact keepSt0 ((bm, 0, Value.int .i64 N) :: (bm, 1, Value.slice (some ⟨g12, 0, none⟩) len c12) :: (bl, 0, Value.int .i64 N) :: (bl, 1, Value.slice (some ⟨g11, 0, none⟩) len c11) :: (bk, 0, Value.int .i64 N) :: (bk, 1, Value.slice (some ⟨g8, 0, none⟩) len c8) :: (bj, 0, Value.int .i64 N) :: (bj, 1, Value.slice (some ⟨g7, 0, none⟩) len c7) :: (b4, 0, Value.int .i64 N) :: (b4, 1, Value.slice (some ⟨g, 0, none⟩) len cp) :: (b0, 0, Value.int .i64 N) :: (b0, 1, Value.slice s len c0) :: []) s13.drew) | (exact keepSt ((bm, 0, Value.int .i64 N) :: (bm, 1, Value.slice (some ⟨g12, 0, none⟩) len c12) :: (bl, 0, Value.int .i64 N) :: (bl, 1, Value.slice (some ⟨g11, 0, none⟩) len c11) :: (bk, 0, Value.int .i64 N) :: (bk, 1, Value.slice (some ⟨g8, 0, none⟩) len c8) :: (bj, 0, Value.int .i64 N) :: (bj, 1, Value.slice (some ⟨g7, 0, none⟩) len c7) :: (b4, 0, Value.int .i64 N) :: (b4, 1, Value.slice (some ⟨g, 0, none⟩) len cp) :: (b0, 0, Value.int .i64 N) :: (b0, 1, Value.slice s len c0) :: []) (by assumption) (by assumption)) | (exact keepSt ((bm, 0, Value.int .i64 N) :: (bm, 1, Value.slice (some ⟨g12, 0, none⟩) len c12) :: (bl, 0, Value.int .i64 N) :: (bl, 1, Value.slice (some ⟨g11, 0, none⟩) len c11) :: (bk, 0, Value.int .i64 N) :: (bk, 1, Value.slice (some ⟨g8, 0, none⟩) len c8) :: (bj, 0, Value.int .i64 N) :: (bj, 1, Value.slice (some ⟨g7, 0, none⟩) len c7) :: (b4, 0, Value.int .i64 N) :: (b4, 1, Value.slice (some ⟨g, 0, none⟩) len cp) :: (b0, 0, Value.int .i64 N) :: (b0, 1, Value.slice s len c0) :: []) (Below.refl _ _).drew (by assumption)) | assumption)
    (first
      | (go_at_call 44; (fail_if_success (have _ := hb14)); refine (HB.out _ (hZe.out _ (keepSt_st (w := W13) (Z := Z) ((bm, 0, Value.int .i64 N) :: (bm, 1, Value.slice (some ⟨g12, 0, none⟩) len c12) :: (bl, 0, Value.int .i64 N) :: (bl, 1, Value.slice (some ⟨g11, 0, none⟩) len c11) :: (bk, 0, Value.int .i64 N) :: (bk, 1, Value.slice (some ⟨g8, 0, none⟩) len c8) :: (bj, 0, Value.int .i64 N) :: (bj, 1, Value.slice (some ⟨g7, 0, none⟩) len c7) :: (b4, 0, Value.int .i64 N) :: (b4, 1, Value.slice (some ⟨g, 0, none⟩) len cp) :: (b0, 0, Value.int .i64 N) :: (b0, 1, Value.slice s len c0) :: []) (by assumption)).sent).1).mono ?_; rintro e w14 ⟨y14, c14, rfl, hy14, hb14⟩)
      | (go_at_call 44; refine (HB.out _ (hZe.out _ (keepSt_st (w := W13) (Z := Z) ((bm, 0, Value.int .i64 N) :: (bm, 1, Value.slice (some ⟨g12, 0, none⟩) len c12) :: (bl, 0, Value.int .i64 N) :: (bl, 1, Value.slice (some ⟨g11, 0, none⟩) len c11) :: (bk, 0, Value.int .i64 N) :: (bk, 1, Value.slice (some ⟨g8, 0, none⟩) len c8) :: (bj, 0, Value.int .i64 N) :: (bj, 1, Value.slice (some ⟨g7, 0, none⟩) len c7) :: (b4, 0, Value.int .i64 N) :: (b4, 1, Value.slice (some ⟨g, 0, none⟩) len cp) :: (b0, 0, Value.int .i64 N) :: (b0, 1, Value.slice s len c0) :: []) (by assumption)).sent).1).mono ?_; rintro e w16 ⟨y16, c16, rfl, hy16, hb16⟩)
      | (go_at_call 26; (fail_if_success (have _ := hb15)); refine (HI.out _ _ y14 c8 c14 (hZe.out _ (keepSt_st (w := W13) (Z := Z) ((bm, 0, Value.int .i64 N) :: (bm, 1, Value.slice (some ⟨g12, 0, none⟩) len c12) :: (bl, 0, Value.int .i64 N) :: (bl, 1, Value.slice (some ⟨g11, 0, none⟩) len c11) :: (bk, 0, Value.int .i64 N) :: (bk, 1, Value.slice (some ⟨g8, 0, none⟩) len c8) :: (bj, 0, Value.int .i64 N) :: (bj, 1, Value.slice (some ⟨g7, 0, none⟩) len c7) :: (b4, 0, Value.int .i64 N) :: (b4, 1, Value.slice (some ⟨g, 0, none⟩) len cp) :: (b0, 0, Value.int .i64 N) :: (b0, 1, Value.slice s len c0) :: []) (by assumption)).sent).2.1 hy14).mono ?_; rintro e w15 ⟨rfl, hb15⟩)
      | (go_at_call 26; refine (HI.out _ _ y16 c12 c16 (hZe.out _ (keepSt_st (w := W13) (Z := Z) ((bm, 0, Value.int .i64 N) :: (bm, 1, Value.slice (some ⟨g12, 0, none⟩) len c12) :: (bl, 0, Value.int .i64 N) :: (bl, 1, Value.slice (some ⟨g11, 0, none⟩) len c11) :: (bk, 0, Value.int .i64 N) :: (bk, 1, Value.slice (some ⟨g8, 0, none⟩) len c8) :: (bj, 0, Value.int .i64 N) :: (bj, 1, Value.slice (some ⟨g7, 0, none⟩) len c7) :: (b4, 0, Value.int .i64 N) :: (b4, 1, Value.slice (some ⟨g, 0, none⟩) len cp) :: (b0, 0, Value.int .i64 N) :: (b0, 1, Value.slice s len c0) :: []) (by assumption)).sent).2.2 hy16).mono ?_; rintro e w17 ⟨rfl, hb17⟩))
  all_goals
    go_wp2_with fail
    go_ret
    have hbZ := keepSt_bel (w := W13) ((bm, 0, Value.int .i64 N) :: (bm, 1, Value.slice (some ⟨g12, 0, none⟩) len c12) :: (bl, 0, Value.int .i64 N) :: (bl, 1, Value.slice (some ⟨g11, 0, none⟩) len c11) :: (bk, 0, Value.int .i64 N) :: (bk, 1, Value.slice (some ⟨g8, 0, none⟩) len c8) :: (bj, 0, Value.int .i64 N) :: (bj, 1, Value.slice (some ⟨g7, 0, none⟩) len c7) :: (b4, 0, Value.int .i64 N) :: (b4, 1, Value.slice (some ⟨g, 0, none⟩) len cp) :: (b0, 0, Value.int .i64 N) :: (b0, 1, Value.slice s len c0) :: []) (by assumption)
    exact ⟨rfl, hbY.trans (hbZ.mono hbY.size)⟩

theorem octTurns_true (N : Int) (s : Option Addr) (c0 : Nat) (l : List Ce) (xv c : Int) (a : Nat → Addr) (w : World) (hS : ErrS w a) (hN : -9223372036854775808 ≤ N ∧ N ≤ 9223372036854775807) (hA : CsAt w s l) (hlen : l.length ≤ 9223372036854775807) (hm : ∀ A ∈ l, -9223372036854775808 ≤ A.m ∧ A.m ≤ 9223372036854775807)
    (h1 : -9223372036854775808 ≤ xv ∧ xv ≤ 9223372036854775807) (h2 : -9223372036854775808 ≤ c ∧ c ≤ 9223372036854775807) :
    Calls Tryd.prog 11 #[(.agg #[.int .i64 N, (.slice s l.length c0)]), .int .i64 xv, .int .i64 c] w fun e w' => e = .returned (.bool true) ∧ Below w.heap.size w w' :=
  octTurns_by N xv c s c0 l.length l a w hS hA rfl hlen
end Go.Proofs.YtofjjaabgfmnpaaDoor
