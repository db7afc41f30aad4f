/- The walk of CongrChinese, by what is asked of the program's functions. -/
import Derived.Test.YtfhofleeeiknjaaDoorCd
import Derived.Test.YtfhofleeeiknjaaDoorKu
namespace Go.Proofs.YtfhofleeeiknjaaDoor
open Go.RowKit
set_option linter.unusedVariables false

set_option maxRecDepth 20000 in
set_option maxHeartbeats 8000000 in
theorem chinese_in (a : Nat → Addr) (hT : SixthC a) (m n x : Int) (w : World) (hS : ErrS w a) (h1 : 1 ≤ m) (h2 : m ≤ 1000) (h3 : 1 ≤ n) (h4 : n ≤ 1000) (h5 : 0 ≤ x) (h6 : x < m * n) (rr rm : Int)
    (HM : Hid (∀ W : World, ErrS W a → Calls Tryd.prog 14 #[(.agg #[.int .i64 (x.tmod m), .int .i64 m]), (.agg #[.int .i64 (x.tmod n), .int .i64 n])] W fun e w' => e = .returned (.tuple #[(.agg #[.int .i64 rr, .int .i64 rm]), .bool true, .nilIface]) ∧ Below W.heap.size W w'))
    (HQ : Hid (∀ G : Nat, G = Nat.gcd m.toNat n.toNat → ∃ q : Int, m.tdiv G = q ∧ q * n = rm ∧ x.tmod rm = rr ∧ 0 < (G : Int) ∧ 0 < q ∧ q ≤ 1000 ∧ 0 < rm ∧ rm ≤ 1000000))
    (HH : Hid (∀ W : World, ErrS W a → Calls Tryd.prog 15 #[(.agg #[.int .i64 rr, .int .i64 rm]), .int .i64 x] W fun e w' => e = .returned (.bool true) ∧ Below W.heap.size W w')) :
    Calls Tryd.prog 4 #[.int .i64 m, .int .i64 n, .int .i64 x] w fun e w' => e = .returned (.bool true) ∧ Below w.heap.size w w' := by
  have hmn := mn_small h1 h2 h3 h4
  have hm0 : ¬ m = 0 := by omega
  have hn0 : ¬ n = 0 := by omega
  go_enter Tryd.func4, Tryd.ntmps4
  go_wp2_with fail
  have s0 := St.startE hS
  refine (hT _ s0.errz).mono ?_
  rintro x1 w1 ⟨rfl, hb⟩
  have s1 := s0.call hb
  clear s0 hb
  go_upto_region 4 with fail
  go_cut [8, 9, 10] (fun s8 s9 s10 wx => s9 = .bool true ∧ s10 = .nilIface ∧ ∃ bw : Nat, s8 = .pointer (some ⟨bw, 0, none⟩) ∧ w.heap.size ≤ bw ∧ St w wx (EZ a) ((bw, 0, Value.int .i64 rr) :: (bw, 1, Value.int .i64 rm) :: []))
  case first =>
    have hwB := s1.bel.size
    have k1 := s1.hold
    go_region_held3 (fun w' => St w w' (EZ a) []) (first | (exact s1.drew) | (exact s4) | (exact (s4.late2 k1 hwB (Nat.le_refl _) hx4 _ _).drop 2) | (exact s4.alloc _) | (exact (s1.alloc _).drew))
      (first
        | (go_at_call 14; refine (HM.out _ (by assumption : St w _ (EZ a) []).errz).mono ?_; rintro e w4 ⟨rfl, hb4⟩; have s4 := (by assumption : St w _ (EZ a) []).call hb4; first | (have hx4 := boxed2 hb4; have ho4 := hx4; simp only [Holds, and_true] at ho4) | (have hx4 := boxed2' hb4; have ho4 := hx4; simp only [Holds, and_true] at ho4) | skip))
    all_goals
      go_wp2_with fail
      go_meet
      case rel => first
        | exact ⟨rfl, rfl, _, rfl, s4.bel.size, s4.box2 33 _ _⟩
        | exact ⟨rfl, rfl, _, rfl, hwB, s4.late2 k1 hwB (Nat.le_refl _) hx4 _ _⟩
  case rest =>
  clear s1
  obtain ⟨rfl, rfl, bw, rfl, hbw, s4⟩ := hcut
  have q4 := s4.hold
  simp only [Holds, and_true] at q4
  go_wp2_with fail
  refine (HH.out _ s4.errz).mono ?_
  (rintro x1 w5 ⟨rfl, hb⟩; have s5 := s4.call hb; have q5 := s5.hold; simp only [Holds, and_true] at q5; clear hb s4; try clear q4)
  go_wp2_with fail
  go_loopg [11, 12] n.toNat (fun k gv hv wr => ∃ (G H : Nat), gv = .int .i64 G ∧ hv = .int .i64 H ∧ Hid (H = k) ∧ Hid (Nat.gcd G H = Nat.gcd m.toNat n.toNat) ∧ G ≤ 1000 ∧ H ≤ 1000 ∧ St w wr (EZ a) ((bw, 0, Value.int .i64 rr) :: (bw, 1, Value.int .i64 rm) :: []))
  case atStart => exact ⟨m.toNat, n.toNat, by rw [Int.toNat_of_nonneg (by omega)], by rw [Int.toNat_of_nonneg (by omega)], rfl, rfl, by omega, by omega, s5⟩
  case round =>
    clear s5 q5
    obtain ⟨G, H, rfl, rfl, hHk, hgcd, hG, hH, s5⟩ := hrel
    have q5 := s5.hold
    simp only [Holds, and_true] at q5
    by_cases hH0 : H = 0
    · subst hH0
      have hGg : G = Nat.gcd m.toNat n.toNat := by rw [← hgcd.out, Nat.gcd_zero_right]
      obtain ⟨q, hq1, hq2, hq3, hq4, hq5, hq6, hq7, hq8⟩ := HQ.out G hGg
      have hrm0 : ¬ rm = 0 := by omega
      have hG0 : ¬ (G : Int) = 0 := by omega
      clear hgcd hGg
      go_wp2_with fail
      go_region
      all_goals
        go_wp2_with fail
        go_ret
        exact ⟨ret_bool (by simp), s5.bel.drew⟩
    · have hH0' : (0 : Int) < (H : Int) := by omega
      have hH1 : ¬ (H : Int) = 0 := by omega
      have e1 : ((G : Int).tmod (H : Int)) = ((G % H : Nat) : Int) := rfl
      have hlt : G % H < H := Nat.mod_lt _ (by omega)
      have hgs : Hid (Nat.gcd H (G % H) = Nat.gcd m.toNat n.toNat) := by show _ = _; rw [gcd_step]; exact hgcd.out
      clear hgcd
      go_wp2_with fail
      go_region
      all_goals go_wp2_with fail
      go_roundg (G % H)
      case measure => have := hHk.out; omega
      case rel => exact ⟨H, G % H, rfl, by first | rfl | (rw [e1]) | (simp [e1]), rfl, hgs, by omega, by omega, s5.drew⟩

theorem lcm_dvd_both {m n z : Int} : ((Int.lcm m n : Nat) : Int) ∣ z ↔ m ∣ z ∧ n ∣ z := by
  constructor
  · intro h
    exact ⟨Int.dvd_trans (Int.dvd_lcm_left m n) h, Int.dvd_trans (Int.dvd_lcm_right m n) h⟩
  · rintro ⟨h1, h2⟩
    have h : Int.lcm m n ∣ z.natAbs := Nat.lcm_dvd (Int.natAbs_dvd_natAbs.2 h1) (Int.natAbs_dvd_natAbs.2 h2)
    exact Int.natAbs_dvd_natAbs.1 (by rw [Int.natAbs_natCast]; exact h)

theorem mod_dvd_iff {m k x : Int} : m ∣ k - x % m ↔ m ∣ k - x := by
  have h : m ∣ x - x % m := Int.dvd_self_sub_emod
  constructor
  · intro h1
    have := Int.dvd_sub h1 h
    rwa [show k - x % m - (x - x % m) = k - x by omega] at this
  · intro h1
    have := Int.dvd_add h1 h
    rwa [show k - x + (x - x % m) = k - x % m by omega] at this

theorem congrChinese_by (a : Nat → Addr) (hT : SixthC a) (hM : CMeetC a) (hH : CHasC a) (m n x : Int) (w : World) (hS : ErrS w a) :
    Calls Tryd.prog 4 #[.int .i64 m, .int .i64 n, .int .i64 x] w fun e w' => e = .returned (.bool true) ∧ Below w.heap.size w w' := by
  by_cases h : 1 ≤ m ∧ m ≤ 1000 ∧ 1 ≤ n ∧ n ≤ 1000 ∧ 0 ≤ x ∧ x < m * n
  · obtain ⟨h1, h2, h3, h4, h5, h6⟩ := h
    have hmn := mn_small h1 h2 h3 h4
    have em : x.tmod m = x % m := Int.tmod_eq_emod_of_nonneg h5
    have en : x.tmod n = x % n := Int.tmod_eq_emod_of_nonneg h5
    have rm1 := Int.emod_nonneg x (show m ≠ 0 by omega)
    have rm2 := Int.emod_lt_of_pos x (show 0 < m by omega)
    have rn1 := Int.emod_nonneg x (show n ≠ 0 by omega)
    have rn2 := Int.emod_lt_of_pos x (show 0 < n by omega)
    have okA : okC ⟨x % m, m⟩ := ⟨by show 0 ≤ m; omega, by show m ≤ 1048576; omega, fun e => absurd (show m = 0 from e) (by omega), fun _ => ⟨rm1, rm2⟩⟩
    have okB : okC ⟨x % n, n⟩ := ⟨by show 0 ≤ n; omega, by show n ≤ 1048576; omega, fun e => absurd (show n = 0 from e) (by omega), fun _ => ⟨rn1, rn2⟩⟩
    have e0 := (twoC_ok _ _).2 ⟨okA, okB⟩
    have inA : inC ⟨x % m, m⟩ x := Int.dvd_self_sub_emod
    have inB : inC ⟨x % n, n⟩ x := Int.dvd_self_sub_emod
    have hLn : Int.lcm m n ≤ 1000000 := by
      have d : Int.lcm m n ∣ (m * n).natAbs := by
        rw [Int.natAbs_mul]; exact Nat.lcm_dvd (Nat.dvd_mul_right _ _) (Nat.dvd_mul_left _ _)
      have := Nat.le_of_dvd (by omega) d
      omega
    have hLp : 0 < Int.lcm m n := Int.lcm_pos (by omega) (by omega)
    have facts : ∀ R b, MeetS ⟨x % m, m⟩ ⟨x % n, n⟩ R b → b = true ∧ R = ⟨x % (Int.lcm m n : Int), Int.lcm m n⟩ := by
      intro R b hs
      have hb := hs.some.2 ⟨x, inA, inB⟩
      obtain ⟨k1, k2⟩ := hs.fit hb (by show Int.lcm m n ≤ 1048576; omega)
      have := cg_is k1 (L := Int.lcm m n) (x := x) (by omega) (fun k => by
        rw [k2 k, lcm_dvd_both]
        exact and_congr mod_dvd_iff mod_dvd_iff)
      obtain ⟨rr, rm⟩ := R
      exact ⟨hb, by rw [show rm = _ from this.1, show rr = _ from this.2]⟩
    have hLb := Int.emod_lt_of_pos x (show 0 < (Int.lcm m n : Int) by omega)
    have hLa := Int.emod_nonneg x (show (Int.lcm m n : Int) ≠ 0 by omega)
    refine chinese_in a hT m n x w hS h1 h2 h3 h4 h5 h6 (x % (Int.lcm m n : Int)) (Int.lcm m n) ?_ ?_ ?_
    · intro W hs
      rw [em, en]
      refine (hM (x % m) m (x % n) n W hs (okC_r okA) (okC_r okB)).mono ?_
      rintro e w' ⟨⟨R, b, rfl, k, _⟩, hb⟩
      obtain ⟨rfl, rfl⟩ := facts R b (k e0)
      rw [e0]
      exact ⟨rfl, hb⟩
    · intro G hG
      have hGp : 0 < G := by rw [hG]; exact Nat.gcd_pos_of_pos_left _ (by omega)
      have hmG : ((m.toNat / G : Nat) : Int) = m.tdiv G := by
        conv => rhs; rw [← Int.toNat_of_nonneg (show 0 ≤ m by omega)]
        rfl
      have hL : m.toNat / G * n.toNat = Int.lcm m n := by
        rw [hG, Nat.div_mul_right_comm (Nat.gcd_dvd_left _ _)]
        show _ = Nat.lcm m.natAbs n.natAbs
        rw [show m.natAbs = m.toNat by omega, show n.natAbs = n.toNat by omega]; rfl
      have hq : 0 < m.toNat / G := Nat.div_pos (by rw [hG]; exact Nat.gcd_le_left _ (by omega)) hGp
      have hq2 : m.toNat / G ≤ 1000 := Nat.le_trans (Nat.div_le_self _ _) (by omega)
      refine ⟨((m.toNat / G : Nat) : Int), hmG.symm, ?_, Int.tmod_eq_emod_of_nonneg h5, by omega, by omega, by omega, by omega, by omega⟩
      rw [← hL]
      conv => lhs; rw [← Int.toNat_of_nonneg (show 0 ≤ n by omega)]
      exact (Int.natCast_mul _ _).symm
    · intro W hs
      have okR : okC ⟨x % (Int.lcm m n : Int), Int.lcm m n⟩ := ⟨by show (0 : Int) ≤ Int.lcm m n; omega, by show (Int.lcm m n : Int) ≤ 1048576; omega, fun e => absurd (show (Int.lcm m n : Int) = 0 from e) (by omega), fun _ => ⟨hLa, hLb⟩⟩
      refine (hH _ _ x W hs (okC_r okR) (by omega)).mono ?_
      rintro e w' ⟨rfl, hb⟩
      rw [(okC_iff ⟨_, _⟩).2 okR]
      refine ⟨?_, hb⟩
      have : inCB ⟨x % (Int.lcm m n : Int), Int.lcm m n⟩ x = true := decide_eq_true (Int.dvd_self_sub_emod)
      rw [this]; rfl
  · exact chinese_out a hT m n x w hS h

end Go.Proofs.YtfhofleeeiknjaaDoor
