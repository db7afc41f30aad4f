/- Octagons: any one with a bound more: the law's walk. -/
import Derived.Test.YtofjjaabgfmnpaaDoorOx
import Derived.Test.YtofjjaabgfmnpaaDoorZt
import Derived.Test.YtofjjaabgfmnpaaDoorYs
import Derived.Test.YtofjjaabgfmnpaaDoorZo
import Derived.Deep.Cut
import Derived.Deep.DeepCutAuto
namespace Go.Proofs.YtofjjaabgfmnpaaDoor
open Go.RowKit
set_option linter.unusedVariables false

/-- All errors, a slice of cells. -/
def SC (a : Nat → Addr) (x : Option Addr) (l : List Ce) (W : World) : Prop := Sents W a ∧ CsAt W x l
theorem St.startSC {w : World} {a : Nat → Addr} {x : Option Addr} {l : List Ce} (h : Sents w a) (k : CsAt w x l) : St w w (SC a x l) [] :=
  ⟨Below.refl _ _, trivial, ⟨h, k⟩, fun _ _ q hb => ⟨h.stays q.1 hb, k.stays q.2 hb⟩⟩
theorem below_step {B W w8 : World} (h : Below B.heap.size B W) (k : Below W.heap.size W w8) : Below B.heap.size B w8 := h.trans (k.mono h.size)
def bdB1 (N E x y : Int) : Bool := decide (E = 0 ∧ (x < 0 ∨ N ≤ x ∨ y < 0 ∨ N ≤ y ∨ x = y))
def bdB2 (E a b : Int) : Bool := decide (E = 0 ∧ (a < -1 ∨ 1 < a ∨ b < -1 ∨ 1 < b))
def bdB3 (E c : Int) : Bool := decide (E = 0 ∧ farB c 1099511627776 = true)
def bdE1 (N E x y : Int) : Int := if bdB1 N E x y = true then 3 else E
def bdE2 (E a b : Int) : Int := if bdB2 E a b = true then 3 else E
def bdE3 (E c : Int) : Int := if bdB3 E c = true then 2 else E
theorem bdE1_0 (N x y : Int) : bdE1 N 0 x y = if x < 0 ∨ N ≤ x ∨ y < 0 ∨ N ≤ y ∨ x = y then 3 else 0 := by
  unfold bdE1 bdB1
  by_cases h : x < 0 ∨ N ≤ x ∨ y < 0 ∨ N ≤ y ∨ x = y
  · rw [if_pos h, if_pos (decide_eq_true ⟨rfl, h⟩)]
  · rw [if_neg h, if_neg (fun k => h (of_decide_eq_true k).2)]
theorem bdE2_0 (a b : Int) : bdE2 0 a b = if a < -1 ∨ 1 < a ∨ b < -1 ∨ 1 < b then 3 else 0 := by
  unfold bdE2 bdB2
  by_cases h : a < -1 ∨ 1 < a ∨ b < -1 ∨ 1 < b
  · rw [if_pos h, if_pos (decide_eq_true ⟨rfl, h⟩)]
  · rw [if_neg h, if_neg (fun k => h (of_decide_eq_true k).2)]
theorem bdE3_0 (c : Int) : bdE3 0 c = if farB c 1099511627776 = true then 2 else 0 := by
  unfold bdE3 bdB3
  by_cases h : farB c 1099511627776 = true
  · rw [if_pos h, if_pos (decide_eq_true ⟨rfl, h⟩)]
  · rw [if_neg h, if_neg (fun k => h (of_decide_eq_true k).2)]
theorem bdE1_ne {N E x y : Int} (h : E ≠ 0) : bdE1 N E x y = E := by unfold bdE1 bdB1; rw [if_neg (fun k => h (of_decide_eq_true k).1)]
theorem bdE2_ne {E a b : Int} (h : E ≠ 0) : bdE2 E a b = E := by unfold bdE2 bdB2; rw [if_neg (fun k => h (of_decide_eq_true k).1)]
theorem bdE3_ne {E c : Int} (h : E ≠ 0) : bdE3 E c = E := by unfold bdE3 bdB3; rw [if_neg (fun k => h (of_decide_eq_true k).1)]
theorem firstE_z (es : List Int) : firstE (0 :: es) = firstE es := by simp [firstE]
theorem firstE_n {e : Int} (h : e ≠ 0) (es : List Int) : firstE (e :: es) = e := by simp [firstE, h]
theorem bdE_gu {N : Int} {l : List Ce} {x y a b c : Int} : bdE3 (bdE2 (bdE1 N (zErr N l) x y) a b) c = guOErr N l x y a b c := by
  unfold guOErr
  by_cases h0 : zErr N l = 0
  · obtain ⟨z1, z2, z3, z4, z5, z6⟩ := zErr_0 h0
    have hw : wrap64 (N - 1) = N - 1 := by unfold wrap64; omega
    have vo : voErr N [x, y] = if x < 0 ∨ N ≤ x ∨ y < 0 ∨ N ≤ y then 3 else 0 := by
      unfold voErr varErr
      rw [hw]
      simp only [List.map]
      by_cases a1 : x < 0 ∨ N - 1 < x
      · rw [if_pos a1, firstE_n (by omega), if_pos (by omega)]
      · rw [if_neg a1, firstE_z]
        by_cases a2 : y < 0 ∨ N - 1 < y
        · rw [if_pos a2, firstE_n (by omega), if_pos (by omega)]
        · rw [if_neg a2, firstE_z, if_neg (by omega)]; rfl
    have si : siErr [a, b] = if a < -1 ∨ 1 < a ∨ b < -1 ∨ 1 < b then 3 else 0 := by
      unfold siErr
      simp only [List.map]
      by_cases a1 : a < -1 ∨ 1 < a
      · rw [if_pos a1, firstE_n (by omega), if_pos (by omega)]
      · rw [if_neg a1, firstE_z]
        by_cases a2 : b < -1 ∨ 1 < b
        · rw [if_pos a2, firstE_n (by omega), if_pos (by omega)]
        · rw [if_neg a2, firstE_z, if_neg (by omega)]; rfl
    rw [h0, bdE1_0, firstE_z, vo, si]
    by_cases a1 : x < 0 ∨ N ≤ x ∨ y < 0 ∨ N ≤ y
    · rw [if_pos (show x < 0 ∨ N ≤ x ∨ y < 0 ∨ N ≤ y ∨ x = y by omega), if_pos a1, bdE2_ne (by omega), bdE3_ne (by omega), firstE_n (by omega)]
    rw [if_neg a1, firstE_z]
    by_cases a3 : a < -1 ∨ 1 < a ∨ b < -1 ∨ 1 < b
    · rw [if_pos a3, firstE_n (by omega)]
      by_cases a2 : x = y
      · rw [if_pos (show x < 0 ∨ N ≤ x ∨ y < 0 ∨ N ≤ y ∨ x = y by omega), bdE2_ne (by omega), bdE3_ne (by omega)]
      · rw [if_neg (show ¬ (x < 0 ∨ N ≤ x ∨ y < 0 ∨ N ≤ y ∨ x = y) by omega), bdE2_0, if_pos a3, bdE3_ne (by omega)]
    rw [if_neg a3, firstE_z]
    unfold saErr
    by_cases a2 : x = y
    · rw [if_pos (show x < 0 ∨ N ≤ x ∨ y < 0 ∨ N ≤ y ∨ x = y by omega), if_pos a2, bdE2_ne (by omega), bdE3_ne (by omega), firstE_n (by omega)]
    rw [if_neg (show ¬ (x < 0 ∨ N ≤ x ∨ y < 0 ∨ N ≤ y ∨ x = y) by omega), if_neg a2, firstE_z, bdE2_0, if_neg a3, bdE3_0]
    unfold numErr
    by_cases a6 : farB c 1099511627776 = true
    · rw [if_pos a6, firstE_n (by omega)]
    · rw [if_neg a6, firstE_z]; rfl
  · rw [bdE1_ne h0, bdE2_ne h0, bdE3_ne h0, firstE_n h0]
theorem guO_rng (N : Int) (l : List Ce) (x y a b c : Int) : 0 ≤ guOErr N l x y a b c ∧ guOErr N l x y a b c ≤ 8 := by
  rw [← bdE_gu]
  have := zErr_rngO N l
  unfold bdE3 bdE2 bdE1
  split
  · omega
  · split
    · omega
    · split
      · omega
      · exact this

set_option maxRecDepth 20000 in
set_option maxHeartbeats 8000000 in
theorem octGuard_by (N av xv bv yv c : Int) (s : Option Addr) (c0 len : Nat) (l : List Ce) (a : Nat → Addr) (w : World) (hS : Sents w a) (hA : CsAt w s l) (hl : Hid (len = l.length)) (hlen : len ≤ 9223372036854775807) (hN64 : -9223372036854775808 ≤ N ∧ N ≤ 9223372036854775807) :
    Calls Tryd.prog 6 #[(.agg #[.int .i64 N, (.slice s len c0)]), .int .i64 av, .int .i64 xv, .int .i64 bv, .int .i64 yv, .int .i64 c] w fun e w' => e = .returned (.bool true) ∧ Below w.heap.size w w' := by
  have s0 := (St.startSC hS hA).box2 24 (.int .i64 N) (.slice s len c0)
  go_enter Tryd.func6, Tryd.ntmps6
  go_wp2_with fail
  refine (free_any a _ s0.sent.1.errs).mono ?_
  rintro e w1 ⟨rfl, hb1⟩
  (have s1 := s0.call hb1; have q1 := s1.hold; simp only [Holds, and_true] at q1; clear s0 hb1; try clear q0)
  clear hS hA
  by_cases h100 : len ≤ 100
  rotate_left
  · have h100' : (100 : Int) < (len : Int) := by omega
    go_wp2_with fail
    go_ret
    exact ⟨rfl, s1.bel⟩
  have h100' : ¬ (100 : Int) < (len : Int) := by omega
  have HE : Hid (∀ W : World, CsAt W s l → Calls Tryd.prog 14 #[(.agg #[.int .i64 N, (.slice s len c0)])] W fun e w' => e = .returned (.int .i64 (zErr N l)) ∧ Below W.heap.size W w') := fun W h => octError_any N s c0 len l W hN64 h hl (by omega)
  have HZ : Hid (∀ W : World, CsAt W s l → Calls Tryd.prog 16 #[(.agg #[.int .i64 N, (.slice s len c0)])] W fun e w' => ∃ y cap, e = .returned (.agg #[.int .i64 N, (.slice y len cap)]) ∧ CsAt w' y l ∧ Below W.heap.size W w') := fun W h => zoneOf_any N s c0 len l W h hl (by omega)
  obtain ⟨E0, hE0⟩ : ∃ E, E = zErr N l := ⟨_, rfl⟩
  obtain ⟨E1, hE1⟩ : ∃ E, E = bdE1 N E0 xv yv := ⟨_, rfl⟩
  obtain ⟨E2, hE2⟩ : ∃ E, E = bdE2 E1 av bv := ⟨_, rfl⟩
  obtain ⟨E, hE⟩ : ∃ E, E = bdE3 E2 c := ⟨_, rfl⟩
  have hEg : E = guOErr N l xv yv av bv c := by rw [hE, hE2, hE1, hE0]; exact bdE_gu
  have hEr := guO_rng N l xv yv av bv c
  rw [← hEg] at hEr
  rw [← hE0] at HE
  have H0 := hide hE0
  have H1 := hide hE1
  have H2 := hide hE2
  have H3 := hide hE
  have HEg := hide hEg
  clear hE0 hE1 hE2 hE hEg
  go_wp2_with fail
  refine (HE.out _ s1.sent.2).mono ?_
  rintro e w2 ⟨rfl, hb2⟩
  (have s2 := s1.call hb2; have q2 := s2.hold; simp only [Holds, and_true] at q2; clear s1 hb2; try clear q1)
  clear HE
  go_upto_region 5 with fail
  go_cut [58] (fun t wx => t = .bool (bdB1 N E0 xv yv) ∧ w2 = wx)
  case first =>
    by_cases k0 : E0 = 0
    · subst k0
      by_cases k1 : xv < 0
      · go_wp2_with fail
        go_meet
        case rel => exact ⟨by simp [bdB1, k1], rfl⟩
      by_cases k2 : N ≤ xv
      · go_wp2_with fail
        go_meet
        case rel => exact ⟨by simp [bdB1, k2], rfl⟩
      by_cases k3 : yv < 0
      · go_wp2_with fail
        go_meet
        case rel => exact ⟨by simp [bdB1, k3], rfl⟩
      by_cases k4 : N ≤ yv
      · go_wp2_with fail
        go_meet
        case rel => exact ⟨by simp [bdB1, k4], rfl⟩
      by_cases k5 : xv = yv
      · subst k5
        go_wp2_with fail
        go_meet
        case rel => exact ⟨by simp [bdB1], rfl⟩
      · have k5b : (xv == yv) = false := by simp [k5]
        go_wp2_with fail
        go_meet
        case rel => exact ⟨by simp [bdB1, k1, k2, k3, k4, k5], rfl⟩
    · have k0b : (E0 == 0) = false := by simp [k0]
      go_wp2_with fail
      go_meet
      case rel => exact ⟨by simp [bdB1, k0], rfl⟩
  case rest =>
  obtain ⟨rfl, rfl⟩ := hcut
  go_upto_if 58 with fail
  go_cut [14] (fun t wx => t = .int .i64 E1 ∧ w2 = wx)
  case first =>
    by_cases kk : bdB1 N E0 xv yv = true
    · have e1 : E1 = 3 := by rw [H1.out]; unfold bdE1; rw [if_pos kk]
      rw [kk]
      go_wp2_with fail
      go_meet
      case rel => exact ⟨by rw [e1], rfl⟩
    · have e1 : E1 = E0 := by rw [H1.out]; unfold bdE1; rw [if_neg kk]
      have kf : bdB1 N E0 xv yv = false := by simpa using kk
      rw [kf]
      go_wp2_with fail
      go_meet
      case rel => exact ⟨by rw [e1], rfl⟩
  case rest =>
  obtain ⟨rfl, rfl⟩ := hcut
  go_upto_region 7 with fail
  go_cut [76] (fun t wx => t = .bool (bdB2 E1 av bv) ∧ w2 = wx)
  case first =>
    by_cases k0 : E1 = 0
    · subst k0
      by_cases k1 : av < -1
      · go_wp2_with fail
        go_meet
        case rel => exact ⟨by simp [bdB2, k1], rfl⟩
      by_cases k2 : 1 < av
      · go_wp2_with fail
        go_meet
        case rel => exact ⟨by simp [bdB2, k2], rfl⟩
      by_cases k3 : bv < -1
      · go_wp2_with fail
        go_meet
        case rel => exact ⟨by simp [bdB2, k3], rfl⟩
      by_cases k4 : 1 < bv
      · go_wp2_with fail
        go_meet
        case rel => exact ⟨by simp [bdB2, k4], rfl⟩
      · go_wp2_with fail
        go_meet
        case rel => exact ⟨by simp [bdB2, k1, k2, k3, k4], rfl⟩
    · have k0b : (E1 == 0) = false := by simp [k0]
      go_wp2_with fail
      go_meet
      case rel => exact ⟨by simp [bdB2, k0], rfl⟩
  case rest =>
  obtain ⟨rfl, rfl⟩ := hcut
  go_upto_if 76 with fail
  go_cut [14] (fun t wx => t = .int .i64 E2 ∧ w2 = wx)
  case first =>
    by_cases kk : bdB2 E1 av bv = true
    · have e1 : E2 = 3 := by rw [H2.out]; unfold bdE2; rw [if_pos kk]
      rw [kk]
      go_wp2_with fail
      go_meet
      case rel => exact ⟨by rw [e1], rfl⟩
    · have e1 : E2 = E1 := by rw [H2.out]; unfold bdE2; rw [if_neg kk]
      have kf : bdB2 E1 av bv = false := by simpa using kk
      rw [kf]
      go_wp2_with fail
      go_meet
      case rel => exact ⟨by rw [e1], rfl⟩
  case rest =>
  obtain ⟨rfl, rfl⟩ := hcut
  go_upto_region 9 with fail
  go_cut [82] (fun t wx => t = .bool (bdB3 E2 c) ∧ w2 = wx)
  case first =>
    by_cases k0 : E2 = 0
    · subst k0
      obtain ⟨fb, hfb⟩ : ∃ b, b = farB c 1099511627776 := ⟨_, rfl⟩
      have HFr : Hid (∀ W : World, Calls Tryd.prog 21 #[.int .i64 c, .int .i64 1099511627776] W fun e w' => e = .returned (.bool fb) ∧ w' = W) := fun W => by rw [hfb]; exact far_any c _ W (by omega) (by omega)
      have eb : Hid (bdB3 0 c = fb) := by show _ = _; unfold bdB3; rw [← hfb]; cases fb <;> simp
      clear hfb
      go_wp2_with fail
      refine (HFr.out _).mono ?_
      rintro e w3 ⟨rfl, hw3⟩
      rw [hw3]
      go_wp2_with fail
      go_meet
      case rel => exact ⟨by rw [eb.out], rfl⟩
    · have k0b : (E2 == 0) = false := by simp [k0]
      go_wp2_with fail
      go_meet
      case rel => exact ⟨by simp [bdB3, k0], rfl⟩
  case rest =>
  obtain ⟨rfl, rfl⟩ := hcut
  go_upto_if 82 with fail
  go_cut [14] (fun t wx => t = .int .i64 E ∧ w2 = wx)
  case first =>
    by_cases kk : bdB3 E2 c = true
    · have e1 : E = 2 := by rw [H3.out]; unfold bdE3; rw [if_pos kk]
      rw [kk]
      go_wp2_with fail
      go_meet
      case rel => exact ⟨by rw [e1], rfl⟩
    · have e1 : E = E2 := by rw [H3.out]; unfold bdE3; rw [if_neg kk]
      have kf : bdB3 E2 c = false := by simpa using kk
      rw [kf]
      go_wp2_with fail
      go_meet
      case rel => exact ⟨by rw [e1], rfl⟩
  case rest =>
  obtain ⟨rfl, rfl⟩ := hcut
  clear H0 H1 H2 H3
  obtain ⟨n, hn⟩ : ∃ n, n = nOf N := ⟨_, rfl⟩
  obtain ⟨D, hD⟩ : ∃ D, D = gdM (matOf n l) (gFr av xv.toNat bv yv.toNat) (gTo av xv.toNat bv yv.toNat) (gC av bv c) := ⟨_, rfl⟩
  have HGd : Hid (∀ (W : World) (y : Option Addr) (cy : Nat), ErrS W a → CsAt W y l → Calls Tryd.prog 38 #[(.agg #[.int .i64 N, (.slice y len cy)]), .int .i64 av, .int .i64 xv, .int .i64 bv, .int .i64 yv, .int .i64 c] W fun e w' => ZrPost W a E N len (NoNeg n (tg n D)) (tellL n (tg n D)) e w') := fun W y cy h1 h2 => by
    have := guardO_any N xv yv av bv c y cy len l a W h1 h2 hl (by omega)
    rw [← hn, ← hD, ← HEg.out] at this
    exact this
  have HD' : Hid (∀ (W : World), Sents W a → Calls Tryd.prog 19 #[erV a E, .int .i64 E] W fun e w' => e = .returned (.bool true) ∧ Below W.heap.size W w') := fun W h => coded_er E hEr.1 hEr.2 a W h
  go_wp2_with fail
  refine (HZ.out _ s2.sent.2).mono ?_
  rintro e w3 ⟨y3, d3, rfl, hy3, hb3⟩
  (have s3 := s2.call hb3; have q3 := s3.hold; simp only [Holds, and_true] at q3; clear s2 hb3; try clear q2)
  go_wp2_with fail
  refine (HGd.out _ y3 d3 s3.sent.1.errs hy3).mono ?_
  rintro e w4 ⟨hb4, h4⟩
  (have s4 := s3.call hb4; have q4 := s4.hold; simp only [Holds, and_true] at q4; clear s3 hb4; try clear q3)
  clear hy3 HGd HZ
  obtain ⟨N4, x4, k4, c4, is, L4, rfl, hx4, hk4, h4'⟩ : ∃ (N4 : Int) (x4 : Option Addr) (k4 c4 : Nat) (is : Bool) (L4 : List Ce), e = .returned (.tuple #[(.agg #[.int .i64 N4, (.slice x4 k4 c4)]), .bool is, erV a E]) ∧ CsAt w4 x4 L4 ∧ k4 = L4.length ∧ ((E ≠ 0 ∧ is = false ∧ N4 = 0 ∧ L4 = []) ∨ (E = 0 ∧ is = false ∧ N4 = 0 ∧ L4 = [] ∧ ¬ NoNeg n (tg n D)) ∨ (E = 0 ∧ is = true ∧ N4 = N ∧ NoNeg n (tg n D) ∧ L4 = tellL n (tg n D))) := by
    rcases h4 with ⟨h, rfl⟩ | ⟨h, h', rfl⟩ | ⟨h, h', g, cp, rfl, _, hR⟩
    · exact ⟨0, none, 0, 0, false, [], rfl, .inl rfl, rfl, .inl ⟨h, rfl, rfl, rfl⟩⟩
    · exact ⟨0, none, 0, 0, false, [], by rw [h, erV_0], .inl rfl, rfl, .inr (.inl ⟨h, rfl, rfl, rfl, h'⟩)⟩
    · have hz : zErr N l = 0 := by
        have := HEg.out.symm.trans h
        unfold guOErr at this
        rw [firstE_0] at this
        exact this.1
      have hz2 := zErr_0 hz
      exact ⟨N, some ⟨g, 0, none⟩, len, cp, true, _, by rw [h, erV_0], .inr ⟨g, 0, rfl, hR⟩, by rw [tellL_len, hl.out, hn]; exact hz2.2.2.2.1, .inr (.inr ⟨h, rfl, rfl, h', rfl⟩)⟩
  have H4 := hide h4'
  have Hk4 := hide hk4
  clear h4 h4' hk4
  have s5 := s4.box2 30 (.int .i64 N4) (.slice x4 k4 c4)
  have hx5 := hx4.below ((Below.refl _ _).alloc (Nat.le_refl _) (.cells #[.int .i64 N4, .slice x4 k4 c4] 30))
  have hbW := s5.bel
  have s6 := s5.re.both (Y := fun W => CsAt W x4 L4) hx5 (fun _ _ q hb => CsAt.stays hx5 q hb)
  clear s5 hx4 hx5
  have hfin : ∀ W : World, Below (w4.alloc (.cells #[.int .i64 N4, .slice x4 k4 c4] 30)).heap.size (w4.alloc (.cells #[.int .i64 N4, .slice x4 k4 c4] 30)) W → Below w.heap.size w W := fun W h => hbW.trans (h.mono hbW.size)
  have Hfin := hide hfin
  clear hfin hbW
  by_cases hE0 : E = 0
  rotate_left
  · have hEp : 0 < E := by omega
    obtain ⟨rfl, rfl, rfl⟩ : is = false ∧ N4 = 0 ∧ L4 = [] := by
      rcases H4.out with h | h | h
      · exact ⟨h.2.1, h.2.2.1, h.2.2.2⟩
      · exact absurd h.1 hE0
      · exact absurd h.1 hE0
    have hk40 : k4 = 0 := Hk4.out
    subst hk40
    have HN0 : Hid (∀ W : World, Calls Tryd.prog 23 #[(.agg #[.int .i64 0, (.slice x4 0 c4)])] W fun e w' => e = .returned (.bool true) ∧ Below W.heap.size W w') := fun W => (noZone_any 0 x4 0 c4 W).mono fun _ _ h => ⟨by rw [h.1]; rfl, h.2⟩
    clear H4 hE0 hD hn HEg
    go_wp2_with fail
    refine (HD'.out _ s6.sent.1.1).mono ?_
    rintro e w7 ⟨rfl, hb7⟩
    have s7 := s6.call hb7
    have q7 := s7.hold
    simp only [Holds, and_true] at q7
    go_wp2_with fail
    refine (HN0.out _).mono ?_
    rintro e w8 ⟨rfl, hb8⟩
    have s8 := s7.call hb8
    go_wp2_with fail
    go_ret
    exact ⟨rfl, Hfin.out _ s8.bel⟩
  subst hE0
  rw [erV_0]
  have hge := HEg.out.symm
  unfold guOErr at hge
  rw [firstE_0, firstE_0, firstE_0, firstE_0, firstE_0] at hge
  obtain ⟨hz, hv1, hs1, hsa, hnm, -⟩ := hge
  obtain ⟨z1, z2, z3, z4, z5, z6⟩ := zErr_0 hz
  obtain ⟨⟨x1, x2⟩, y1, y2⟩ := voErr_two (by omega) hv1
  obtain ⟨ha, hb⟩ := siErr_two hs1
  rw [← hn] at z1 z2 z3 z4
  have hll : Hid (len = n * n) := by show _ = _; rw [hl.out]; exact z4
  obtain ⟨x', hx'⟩ : ∃ k : Nat, (k : Int) = xv := ⟨xv.toNat, by omega⟩
  obtain ⟨y', hy'⟩ : ∃ k : Nat, (k : Int) = yv := ⟨yv.toNat, by omega⟩
  have ex : xv.toNat = x' := by omega
  have ey : yv.toNat = y' := by omega
  rw [ex, ey] at hD
  subst hx' hy'
  have hxn : 2 * x' + 1 < n := by omega
  have hyn : 2 * y' + 1 < n := by omega
  have h2n : 2 ≤ n := by omega
  have HNr : Hid (∀ W : World, CsAt W s l → Calls Tryd.prog 24 #[.slice s len c0] W fun e w' => e = .returned (.bool (nearL l 1048576)) ∧ w' = W) := fun W h => by
    have := near_law s c0 len l W h hl hlen
    rw [decide_eq_true h100, Bool.true_and] at this
    exact this
  obtain ⟨nr, hnr⟩ : ∃ b, b = nearL l 1048576 := ⟨_, rfl⟩
  rw [← hnr] at HNr
  have Hnr := hide hnr
  obtain ⟨fc, hfc⟩ : ∃ b, b = farB c 1048576 := ⟨_, rfl⟩
  have HFr : Hid (∀ W : World, Calls Tryd.prog 21 #[.int .i64 c, .int .i64 1048576] W fun e w' => e = .returned (.bool fc) ∧ w' = W) := fun W => by rw [hfc]; exact far_any c _ W (by omega) (by omega)
  have Hfc := hide hfc
  have HDd := hide hD
  have Hn := hide hn
  have Hz := hide hz
  have Ha := hide ha
  have Hb := hide hb
  clear hnr hfc HEg HD' hv1 hs1 hsa hnm hz hD hn x1 x2 y1 y2 ex ey ha hb z5 z6 hEr
  go_wp2_with fail
  refine (HNr.out _ s6.sent.1.2).mono ?_
  rintro e w7 ⟨rfl, hw7⟩
  rw [hw7]
  clear hw7 w7 HNr
  cases nr
  · go_wp2_with fail
    go_ret
    exact ⟨rfl, Hfin.out _ s6.bel⟩
  go_wp2_with fail
  refine (HFr.out _).mono ?_
  rintro e w7 ⟨rfl, hw7⟩
  rw [hw7]
  clear hw7 w7 HFr
  cases fc
  rotate_left
  · go_wp2_with fail
    go_ret
    exact ⟨rfl, Hfin.out _ s6.bel⟩
  have hc20 : c.natAbs ≤ 1048576 := by
    have := Hfc.out
    simp [farB] at this
    omega
  have za : NearO n l := by rw [Hn.out]; exact nearO Hz.out Hnr.out.symm
  have HCl : Hid (∀ W : World, CsAt W s l → Calls Tryd.prog 25 #[(.agg #[.int .i64 N, (.slice s len c0)])] W fun e w' => ∃ (N5 : Int) (x5 : Option Addr) (k5 c5 : Nat) (is5 : Bool) (L5 : List Ce), e = .returned (.tuple #[(.agg #[.int .i64 N5, (.slice x5 k5 c5)]), .bool is5]) ∧ Hid (k5 = L5.length) ∧ Hid ((¬ NoNeg n (tg n (matOf n l)) ∧ is5 = false ∧ N5 = 0 ∧ L5 = []) ∨ (NoNeg n (tg n (matOf n l)) ∧ is5 = true ∧ N5 = N ∧ L5 = tellL n (tg n (matOf n l)))) ∧ CsAt w' x5 L5 ∧ Below W.heap.size W w') := by
    intro W h
    refine (closedNearO N n len c0 s l W z1 h2n za hl h).mono ?_
    rintro e w' ⟨hb, h | h⟩
    · exact ⟨0, none, 0, 0, false, [], h.2, rfl, .inl ⟨h.1, rfl, rfl, rfl⟩, .inl rfl, hb⟩
    · obtain ⟨hyes, g, cap, rfl, _, _, hR'⟩ := h
      rw [← tellL_near za.szt] at hR'
      exact ⟨N, _, len, cap, true, _, rfl, by show _ = _; rw [tellL_len]; exact hll.out, .inr ⟨hyes, rfl, rfl, rfl⟩, .inr ⟨g, 0, rfl, hR'⟩, hb⟩
  have HBd : Hid (∀ W : World, CsAt W s l → Calls Tryd.prog 39 #[(.agg #[.int .i64 N, (.slice s len c0)]), .int .i64 av, .int .i64 x', .int .i64 bv, .int .i64 y', .int .i64 c] W fun e w' => ∃ g cap, e = .returned (.agg #[.int .i64 N, (.slice (some ⟨g, 0, none⟩) len cap)]) ∧ CsAt w' (some ⟨g, 0, none⟩) (bdL n l (bd1 av x' bv y') (bd2 av x' bv y') (bdC av bv c)) ∧ Below W.heap.size W w') := by
    intro W h
    have one : 1 ≤ l.length := by rw [za.len]; exact Nat.mul_le_mul (show 1 ≤ n by omega) (show 1 ≤ n by omega)
    obtain ⟨b, off, rfl, hR⟩ := row_of h one
    refine (boundOct_any N av bv c x' y' n b off c0 len l W hR hl hll (by omega) z2 z1 hxn hyn (by omega)).mono ?_
    rintro e w' ⟨hb, g, cap, rfl, hR'⟩
    exact ⟨g, cap, rfl, .inr ⟨g, 0, rfl, hR'⟩, hb⟩
  have HCb : Hid (¬ (av = 0 ∧ bv = 0) → ∀ (W : World) (x6 : Option Addr) (c6 : Nat), CsAt W x6 (bdL n l (bd1 av x' bv y') (bd2 av x' bv y') (bdC av bv c)) → Calls Tryd.prog 25 #[(.agg #[.int .i64 N, (.slice x6 len c6)])] W fun e w' => ∃ (x5 : Option Addr) (k5 c5 : Nat), e = .returned (.tuple #[(.agg #[.int .i64 N4, (.slice x5 k5 c5)]), .bool is]) ∧ Hid (k5 = L4.length) ∧ Hid (∀ (b : Nat) (v0 v1 : Value), b < W.heap.size → CsAt ((w'.setCell ⟨b, 0, none⟩ v0).setCell ⟨b, 1, none⟩ v1) x5 L4) ∧ Below W.heap.size W w') := by
    intro hab W x6 c6 h
    have hC : (bdC av bv c).natAbs ≤ 4194304 := by unfold bdC; split <;> omega
    have zp : NearP n (bdL n l (bd1 av x' bv y') (bd2 av x' bv y') (bdC av bv c)) := za.bd (bd1_lt hxn hyn) (bd2_lt hxn hyn) hC
    obtain ⟨g1, g2, g3⟩ := bd_gd Ha.out Hb.out hab x' y' c
    have eD : ∀ i j, i < n → j < n → matOf n (bdL n l (bd1 av x' bv y') (bd2 av x' bv y') (bdC av bv c)) i j = D i j := fun i j hi hj => by
      rw [HDd.out, g1, g2, g3]
      exact mat_bd z2 za.len (bd1_lt hxn hyn) (bd2_lt hxn hyn) _ i j hi hj
    obtain ⟨f1, f2⟩ := tg_congr z2 zp.coh eD
    refine (closedNearP N n len c6 x6 _ W z1 h2n zp (by show _ = _; rw [bdL_len]; exact hl.out) h).mono ?_
    rintro e w' ⟨hb, h | h⟩
    · rcases H4.out with h4 | h4 | h4
      · exact absurd rfl h4.1
      · obtain ⟨_, rfl, rfl, rfl, _⟩ := h4
        exact ⟨none, 0, 0, h.2, rfl, fun _ _ _ _ => .inl rfl, hb⟩
      · exact absurd (f1.2 h4.2.2.2.1) h.1
    · obtain ⟨hyes, g, cap, rfl, hgW, _, hR'⟩ := h
      rcases H4.out with h4 | h4 | h4
      · exact absurd rfl h4.1
      · exact absurd (f1.1 hyes) h4.2.2.2.2
      · obtain ⟨_, rfl, rfl, _, rfl⟩ := h4
        rw [← tellL_near zp.szt, tellL_congr (f2 hyes)] at hR'
        exact ⟨some ⟨g, 0, none⟩, len, cap, rfl, by show _ = _; rw [tellL_len]; exact hll.out, fun b v0 v1 hbW => .inr ⟨g, 0, rfl, (hR'.other (by show b ≠ g; omega) _).other (by show b ≠ g; omega) _⟩, hb⟩
  have hself : Hid (av = 0 ∧ bv = 0 → (c < 0 → ¬ NoNeg n (tg n D)) ∧ (0 ≤ c → (NoNeg n (tg n D) ↔ NoNeg n (tg n (matOf n l))) ∧ (NoNeg n (tg n (matOf n l)) → tellL n (tg n D) = tellL n (tg n (matOf n l))))) := by
    rintro ⟨rfl, rfl⟩
    have e : D = gdM (matOf n l) (2 * x') (2 * x') c := by rw [HDd.out]; simp [gFr, gTo, gC]
    rw [e]
    exact gd_self z2 za.coh (by omega) c
  have HIz : Hid (∀ (W : World) (x5 : Option Addr) (c5 k5 : Nat), k5 = L4.length → CsAt W x4 L4 → CsAt W x5 L4 → Calls Tryd.prog 26 #[(.agg #[.int .i64 N4, (.slice x4 k4 c4)]), (.agg #[.int .i64 N4, (.slice x5 k5 c5)])] W fun e w' => e = .returned (.bool true) ∧ Below W.heap.size W w') := by
    intro W x5 c5 k5 hk5 h1 h2
    have hL4 : L4.length ≤ 1000 := by
      rcases H4.out with h4 | h4 | h4
      · exact absurd rfl h4.1
      · rw [h4.2.2.2.1]; simp
      · rw [h4.2.2.2.2, tellL_len, ← hll.out]; omega
    refine (isZone_any N4 N4 x4 x5 k4 c4 k5 c5 L4 L4 W h1 h2 Hk4 hk5 (by have := Hk4.out; omega)).mono ?_
    rintro e w' ⟨rfl, hb⟩
    exact ⟨by simp, hb⟩
  clear za z1 z2 z3 z4 hxn hyn h2n hll Hz Hn HDd Hnr Hfc hl hc20
  go_wp2_with fail
  refine (HCl.out _ s6.sent.1.2).mono ?_
  rintro e w7 ⟨N5, x5, k5, c5, is5, L5, rfl, hk5, h5, hx5, hb7⟩
  have s7 := (s6.call hb7).box2 24 (.int .i64 N5) (.slice x5 k5 c5)
  have hx7 := hx5.below ((Below.refl _ _).alloc (Nat.le_refl _) (.cells #[.int .i64 N5, .slice x5 k5 c5] 24))
  have k6 := (s6.call hb7).hold
  simp only [Holds, and_true] at k6
  have hb67 := (s6.call hb7).bel
  have hlt47 : w4.heap.size < w7.heap.size := k6.1.2.1
  clear s6 HCl hx5 hb7
  by_cases hab : av = 0 ∧ bv = 0
  · obtain ⟨rfl, rfl⟩ := hab
    obtain ⟨u1, u2⟩ := hself.out ⟨rfl, rfl⟩
    clear hself HBd HCb
    by_cases hc0 : c < 0
    · obtain ⟨rfl, rfl, rfl⟩ : is = false ∧ N4 = 0 ∧ L4 = [] := by
        rcases H4.out with h | h | h
        · exact absurd rfl h.1
        · exact ⟨h.2.1, h.2.2.1, h.2.2.2.1⟩
        · exact absurd h.2.2.2.1 (u1 hc0)
      clear u1 u2 h5 H4
      go_wp2_with fail
      refine (HIz.out _ none 0 0 rfl (.inl rfl) (.inl rfl)).mono ?_
      rintro e w8 ⟨rfl, hb8⟩
      go_wp2_with fail
      go_ret
      refine ⟨rfl, Hfin.out _ (below_step ?_ hb8)⟩
      repeat' (first | exact s7.bel | exact hb67 | refine Below.alloc ?_ (by have := hb67.size; simp at this ⊢; omega) _ | refine Below.setCell ?_ (by first | (simp; done) | (simp; omega)) _)
    · obtain ⟨v1, v2⟩ := u2 (by omega)
      obtain ⟨rfl, rfl, rfl⟩ : is5 = is ∧ N5 = N4 ∧ L5 = L4 := by
        rcases H4.out with h | h | h
        · exact absurd rfl h.1
        · rcases h5.out with h' | h'
          · exact ⟨by rw [h.2.1, h'.2.1], by rw [h.2.2.1, h'.2.2.1], by rw [h.2.2.2.1, h'.2.2.2]⟩
          · exact absurd (v1.2 h'.1) h.2.2.2.2
        · rcases h5.out with h' | h'
          · exact absurd (v1.1 h.2.2.2.1) h'.1
          · exact ⟨by rw [h.2.1, h'.2.1], by rw [h.2.2.1, h'.2.2.1], by rw [h.2.2.2.2, h'.2.2.2, v2 h'.1]⟩
      clear u1 u2 v1 v2 h5 H4
      cases is5
      all_goals
        go_wp2_with fail
        refine (HIz.out _ x5 c5 k5 hk5.out s7.sent.2 hx7).mono ?_
        rintro e w8 ⟨rfl, hb8⟩
        have s8 := s7.call hb8
        go_wp2_with fail
        go_ret
        exact ⟨rfl, Hfin.out _ s8.bel⟩
  · obtain ⟨W7, hW7⟩ : ∃ W, W = w7.alloc (.cells #[.int .i64 N5, .slice x5 k5 c5] 24) := ⟨_, rfl⟩
    have k7 := s7.hold
    simp only [Holds, and_true] at k7
    clear hself h5 hk5 hx7
    have HCb2 := hide (HCb.out hab)
    clear HCb
    go_upto_region 17 with fail
    rw [← hW7] at s7 k7 ⊢
    clear hW7 k6
    go_cut [126] (fun t wx => t = .bool true ∧ W7 = wx)
    case first =>
      by_cases ka : av = 0
      · have kb : ¬ bv = 0 := fun h => hab ⟨ka, h⟩
        have k1 : (av != 0) = false := by simp [ka]
        have k2 : (bv != 0) = true := by simp [kb]
        go_wp2_with fail
        go_meet
        case rel => exact ⟨by first | rfl | simp [kb], rfl⟩
      · have k1 : (av != 0) = true := by simp [ka]
        go_wp2_with fail
        go_meet
        case rel => exact ⟨by first | rfl | simp [ka], rfl⟩
    case rest =>
    obtain ⟨rfl, rfl⟩ := hcut
    go_wp2_with fail
    refine (HBd.out _ s7.sent.1.2).mono ?_
    rintro e w8 ⟨g8, c8, rfl, hC8, hb8⟩
    have s8 := s7.call hb8
    have q8 := s8.hold
    simp only [Holds, and_true] at q8
    clear k7
    go_wp2_with fail
    refine (HCb2.out _ _ c8 hC8).mono ?_
    rintro e w9 ⟨x9, k9, c9, rfl, hk9, hx9, hb9⟩
    have s9 := s8.call hb9
    have q9 := s9.hold
    simp only [Holds, and_true] at q9
    have sz8 : w7.heap.size < w8.heap.size := q8.1.2.1
    have hxE := hx9.out w7.heap.size (.int .i64 N4) (.slice x9 k9 c9) sz8
    clear q8 s8 s7 hC8
    cases is
    all_goals
      go_wp2_with fail
      refine (HIz.out _ x9 c9 k9 hk9.out ?_ hxE).mono ?_
      · refine (s9.cl _ _ s9.sent ?_).2
        repeat' (first | exact Below.refl _ _ | refine Below.setCell ?_ (by first | (simp; done) | (simp; omega)) _)
      rintro e w10 ⟨rfl, hb10⟩
      go_wp2_with fail
      go_ret
      refine ⟨rfl, Hfin.out _ (below_step ?_ hb10)⟩
      repeat' (first | exact s9.bel | refine Below.setCell ?_ (by first | (simp; done) | (simp; omega)) _)

theorem octGuard_true (N : Int) (s : Option Addr) (c0 : Nat) (l : List Ce) (av xv bv yv c : Int) (a : Nat → Addr) (w : World) (hS : Sents w a) (hN : -9223372036854775808 ≤ N ∧ N ≤ 9223372036854775807) (hA : CsAt w s l) (hlen : l.length ≤ 9223372036854775807) (hm : ∀ A ∈ l, -9223372036854775808 ≤ A.m ∧ A.m ≤ 9223372036854775807)
    (h1 : -9223372036854775808 ≤ av ∧ av ≤ 9223372036854775807) (h2 : -9223372036854775808 ≤ xv ∧ xv ≤ 9223372036854775807) (h3 : -9223372036854775808 ≤ bv ∧ bv ≤ 9223372036854775807) (h4 : -9223372036854775808 ≤ yv ∧ yv ≤ 9223372036854775807) (h5 : -9223372036854775808 ≤ c ∧ c ≤ 9223372036854775807) :
    Calls Tryd.prog 6 #[(.agg #[.int .i64 N, (.slice s l.length c0)]), .int .i64 av, .int .i64 xv, .int .i64 bv, .int .i64 yv, .int .i64 c] w fun e w' => e = .returned (.bool true) ∧ Below w.heap.size w w' :=
  octGuard_by N av xv bv yv c s c0 l.length l a w hS hA rfl hlen hN
end Go.Proofs.YtofjjaabgfmnpaaDoor
