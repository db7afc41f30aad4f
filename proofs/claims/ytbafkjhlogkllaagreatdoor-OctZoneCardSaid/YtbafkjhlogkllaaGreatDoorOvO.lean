/- Octagons: one bound more: the reference (BoundOct). -/
import Derived.Test.YtbafkjhlogkllaaGreatDoorOl
import Derived.Test.YtbafkjhlogkllaaGreatDoorXdO
import Derived.Test.YtbafkjhlogkllaaGreatDoorOfO
import Derived.Deep.Cut
import Derived.Deep.DeepCutAuto
namespace Go.Proofs.YtbafkjhlogkllaaGreatDoor.Oc
open Go.RowKit
set_option linter.unusedVariables false

/-- Where the bound is put, and how much it says. -/
def bdI (a : Int) (x : Nat) : Nat := if a < 0 then 2 * x + 1 else 2 * x
def bd1 (a : Int) (x : Nat) (b : Int) (y : Nat) : Nat := if a = 0 then bdI b y else bdI a x
def bd2 (a : Int) (x : Nat) (b : Int) (y : Nat) : Nat := if b = 0 then bd1 a x b y else bdI b y
def bdC (a b c : Int) : Int := if a = 0 ∨ b = 0 then 2 * c else c
/-- The row with both cells lowered. -/
def bdL (n : Nat) (l : List Ce) (i j : Nat) (c : Int) : List Ce := lowL (lowL l (bar j * n + i) c) (bar i * n + j) c
theorem bdI_lt {n x : Nat} {a : Int} (h : 2 * x + 1 < n) : bdI a x < n := by unfold bdI; split <;> omega
theorem bd1_lt {n x y : Nat} {a b : Int} (hx : 2 * x + 1 < n) (hy : 2 * y + 1 < n) : bd1 a x b y < n := by unfold bd1; split; exact bdI_lt hy; exact bdI_lt hx
theorem bd2_lt {n x y : Nat} {a b : Int} (hx : 2 * x + 1 < n) (hy : 2 * y + 1 < n) : bd2 a x b y < n := by unfold bd2; split; exact bd1_lt hx hy; exact bdI_lt hy
theorem bdL_len (n : Nat) (l : List Ce) (i j : Nat) (c : Int) : (bdL n l i j c).length = l.length := by unfold bdL; rw [lowL_len, lowL_len]

set_option maxRecDepth 20000 in
set_option maxHeartbeats 8000000 in
theorem boundOct_any (N av bv cv : Int) (x y n b off c len : Nat) (l : List Ce) (w : World) (hR : RowC w b off l) (hl : Hid (len = l.length)) (hll : Hid (len = n * n)) (hn : n ≤ 10) (he : n % 2 = 0) (hN : 2 * N = n) (hx : 2 * x + 1 < n) (hy : 2 * y + 1 < n) (hc : cv.natAbs ≤ 1099511627776) :
    Calls Tryz.prog 29 #[(.agg #[.int .i64 N, (.slice (some ⟨b, off, none⟩) len c)]), .int .i64 av, .int .i64 x, .int .i64 bv, .int .i64 y, .int .i64 cv] w fun e w' => MtPost w N len (bdL n l (bd1 av x bv y) (bd2 av x bv y) (bdC av bv cv)) e w' := by
  obtain ⟨i0, hi0, hz0, hz1, hz2⟩ := info_parts Tryz.infoCellM
  have s1 := (((St.start1' w).box2 42 (.int .i64 N) (.slice (some ⟨b, off, none⟩) len c)).box2 42 (.int .i64 0) (.slice none 0 0)).box2 42 (.int .i64 N) (.slice none 0 0)
  simp only [World.size_alloc] at s1
  have hR1 := hR.below (s1.bel)
  have hbl := hR.lt
  have hnews := hR1.news
  have hcl : (cellsV l).length = len * 2 := by rw [cellsV_len, hl.out]
  have hone := cellsV_one l
  obtain ⟨zs, hzs⟩ : ∃ zs, zs = cellsV l := ⟨_, rfl⟩
  rw [← hzs] at hnews hcl hone
  have Hzs := hide hzs
  have hlen : 4 ≤ len ∧ len ≤ 100 := by
    have h1 := Nat.mul_le_mul hn hn
    have h2 := Nat.mul_le_mul (show 2 ≤ n by omega) (show 2 ≤ n by omega)
    have := hll.out
    omega
  have hNb : 0 ≤ N ∧ N ≤ 5 := by omega
  obtain ⟨I0, hI0⟩ : ∃ k, k = bdI av x := ⟨_, rfl⟩
  obtain ⟨J0, hJ0⟩ : ∃ k, k = bdI bv y := ⟨_, rfl⟩
  obtain ⟨I, hI⟩ : ∃ k, k = bd1 av x bv y := ⟨_, rfl⟩
  obtain ⟨J, hJ⟩ : ∃ k, k = bd2 av x bv y := ⟨_, rfl⟩
  obtain ⟨C, hC⟩ : ∃ k, k = bdC av bv cv := ⟨_, rfl⟩
  have hIn : I < n := by rw [hI]; exact bd1_lt hx hy
  have hJn : J < n := by rw [hJ]; exact bd2_lt hx hy
  have HI0 := hide hI0
  have HJ0 := hide hJ0
  have HI : Hid (I = if av = 0 then J0 else I0) := by show _ = _; rw [hI, hJ0, hI0]; rfl
  have HJ : Hid (J = if bv = 0 then I else J0) := by show _ = _; rw [hJ, hI, hJ0]; rfl
  have HC := hide hC
  rw [← hI, ← hJ, ← hC]
  have hbI := bar_lt he hIn
  have hbJ := bar_lt he hJn
  obtain ⟨bi, hbi⟩ : ∃ k, k = bar I := ⟨_, rfl⟩
  obtain ⟨bj, hbj⟩ : ∃ k, k = bar J := ⟨_, rfl⟩
  rw [← hbi] at hbI
  rw [← hbj] at hbJ
  obtain ⟨bin, hbin⟩ : ∃ k, k = bi * n := ⟨_, rfl⟩
  obtain ⟨bjn, hbjn⟩ : ∃ k, k = bj * n := ⟨_, rfl⟩
  obtain ⟨k1, hk1⟩ : ∃ k, k = bjn + I := ⟨_, rfl⟩
  obtain ⟨k2, hk2⟩ : ∃ k, k = bin + J := ⟨_, rfl⟩
  have k1l : k1 < len := by rw [hll.out, hk1, hbjn]; exact idx_in hbJ hIn
  have k2l : k2 < len := by rw [hll.out, hk2, hbin]; exact idx_in hbI hJn
  have w1' : IntKind.i64.wrap ((bj : Int) * (n : Int)) = (bjn : Int) := by
    rw [show (bj : Int) * (n : Int) = (bjn : Int) by rw [hbjn, Int.natCast_mul]]
    unfold IntKind.wrap; simp [IntKind.signed, IntKind.bits]; omega
  have w2' : IntKind.i64.wrap ((bi : Int) * (n : Int)) = (bin : Int) := by
    rw [show (bi : Int) * (n : Int) = (bin : Int) by rw [hbin, Int.natCast_mul]]
    unfold IntKind.wrap; simp [IntKind.signed, IntKind.bits]; omega
  have w3' : IntKind.i64.wrap ((bjn : Int) + (I : Int)) = (k1 : Int) := by
    unfold IntKind.wrap; simp [IntKind.signed, IntKind.bits]; omega
  have w4' : IntKind.i64.wrap ((bin : Int) + (J : Int)) = (k2 : Int) := by
    unfold IntKind.wrap; simp [IntKind.signed, IntKind.bits]; omega
  have HO1 : Hid (∀ W : World, Calls Tryz.prog 26 #[.int .i64 J] W fun e w' => e = .returned (.int .i64 (bj : Int)) ∧ w' = W) := fun W => by rw [hbj]; exact other_any J (by omega) W
  have HO2 : Hid (∀ W : World, Calls Tryz.prog 26 #[.int .i64 I] W fun e w' => e = .returned (.int .i64 (bi : Int)) ∧ w' = W) := fun W => by rw [hbi]; exact other_any I (by omega) W
  have HL1 : Hid (∀ (W : World) (g cap : Nat) (z : Int), z = k1 → RowC W g 0 l → (∀ o, W.frozen? ⟨g, o, none⟩ = false) → Calls Tryz.prog 25 #[.slice (some ⟨g, 0, none⟩) len cap, .int .i64 z, .int .i64 C] W fun e w' => (∃ rb, e = .returned (.bool rb)) ∧ RowC w' g 0 (lowL l k1 C) ∧ Only g W w') := by
    intro W g cap z hz h1 h2
    exact (lower_as g 0 len cap k1 z C hz l hl k1l (by omega) W h1 h2).mono fun _ _ h => ⟨⟨_, h.1⟩, h.2⟩
  have HL2 : Hid (∀ (W : World) (g cap : Nat) (z : Int), z = k2 → RowC W g 0 (lowL l k1 C) → (∀ o, W.frozen? ⟨g, o, none⟩ = false) → Calls Tryz.prog 25 #[.slice (some ⟨g, 0, none⟩) len cap, .int .i64 z, .int .i64 C] W fun e w' => (∃ rb, e = .returned (.bool rb)) ∧ RowC w' g 0 (bdL n l I J C) ∧ Only g W w') := by
    intro W g cap z hz h1 h2
    have e : bdL n l I J C = lowL (lowL l k1 C) k2 C := by unfold bdL; rw [hk1, hk2, hbin, hbjn, hbi, hbj]
    rw [e]
    exact (lower_as g 0 len cap k2 z C hz (lowL l k1 C) (by show _ = _; rw [lowL_len]; exact hl.out) k2l (by omega) W h1 h2).mono fun _ _ h => ⟨⟨_, h.1⟩, h.2⟩
  obtain ⟨R, hRd⟩ : ∃ R, R = bdL n l I J C := ⟨_, rfl⟩
  rw [← hRd] at HL2 ⊢
  have n10 : (n : Int) ≤ 10 := by omega
  have x4 : x ≤ 4 := by omega
  have y4 : y ≤ 4 := by omega
  have cb : -1099511627776 ≤ cv ∧ cv ≤ 1099511627776 := by omega
  clear hzs hR1 hR hI0 hJ0 hI hJ hC hRd hbi hbj hbin hbjn hk1 hk2 k1l k2l hbI hbJ hIn hJn hll he hc hx hy
  go_enter Tryz.func29, Tryz.ntmps29
  go_wp2_with (at_builtin; refine wpList_append_lies _ rfl _ _ 22 rfl w.heap.size 56 i0 _ 2 16 Tryz.underlying22 hi0 hz0 hz1 hz2 rfl (by decide) _ _ _ rfl (World.ownsRow_nil _ _ _ _) ⟨b, off, none⟩ len c zs rfl hcl hnews hone (by omega) (by unfold maxLen; omega) (by omega) (by simp; omega) (w.heap.size + 1 + 1 + 1) (by simp) ?_)
  intro g cap w1 own1 hgrow hat hlt1
  have hg : g = w.heap.size + 1 + 1 + 1 := by
    rcases hat with h | h
    · simp [Value.ownBlock] at h
    · exact h
  have hb1 := (Below.refl _ _).grown hgrow (Nat.le_refl _) (fun j hj => by simp [Value.ownBlock] at hj)
  have s2 := s1.call hb1
  have own2 : w1.ownsRow w.heap.size 56 2 (.slice (some ⟨g, 0, none⟩) len cap) len (cellsV l) := by
    have := own1
    rw [Hzs.out] at this
    exact this
  obtain ⟨R2, F2⟩ := RowC.of_own own2 hl.out hlt1
  have q2 := s2.hold
  simp only [Holds, and_true] at q2
  have s3 := s2.put21 (by omega) ⟨by dsimp only; omega, by dsimp only; omega, by dsimp only; omega, by dsimp only; omega, trivial⟩ (.slice (some ⟨g, 0, none⟩) len cap)
  have R3 := R2.other (p := ⟨w.heap.size + 1 + 1, 1, none⟩) (by show w.heap.size + 1 + 1 ≠ g; omega) (.slice (some ⟨g, 0, none⟩) len cap)
  have F3 : Hid (∀ o, (w1.setCell ⟨w.heap.size + 1 + 1, 1, none⟩ (.slice (some ⟨g, 0, none⟩) len cap)).frozen? ⟨g, o, none⟩ = false) := fun o => by rw [frozen?_setCell']; exact F2 o
  have hgb : w.heap.size + 1 + 1 < g := by omega
  clear hg hat hgrow own1 own2 R2 F2 hb1 hnews hcl hone hlt1 hi0 hz0 hz1 hz2
  go_upto_region 4 with fail
  obtain ⟨W3, hW3⟩ : ∃ W, W = w1.setCell ⟨w.heap.size + 1 + 1, 1, none⟩ (.slice (some ⟨g, 0, none⟩) len cap) := ⟨_, rfl⟩
  rw [← hW3] at s3 R3 F3 ⊢
  clear hW3 q2 s2 s1 Hzs
  have q3 := s3.hold
  simp only [Holds, and_true] at q3
  go_upto_if 32 with fail
  go_cut [15] (fun t wx => t = .int .i64 I0 ∧ W3 = wx)
  case first =>
    by_cases kk : av < 0
    · have e1 : (I0 : Int) = 2 * (x : Int) + 1 := by have := HI0.out; unfold bdI at this; rw [if_pos kk] at this; omega
      go_wp2_with fail
      go_meet
      case rel => exact ⟨by first | (rw [e1]; done) | (rw [e1]; go_num), rfl⟩
    · have e1 : (I0 : Int) = 2 * (x : Int) := by have := HI0.out; unfold bdI at this; rw [if_neg kk] at this; omega
      go_wp2_with fail
      go_meet
      case rel => exact ⟨by first | (rw [e1]; done) | (rw [e1]; go_num), rfl⟩
  case rest =>
  obtain ⟨rfl, rfl⟩ := hcut
  go_upto_if 38 with fail
  go_cut [16] (fun t wx => t = .int .i64 J0 ∧ W3 = wx)
  case first =>
    by_cases kk : bv < 0
    · have e1 : (J0 : Int) = 2 * (y : Int) + 1 := by have := HJ0.out; unfold bdI at this; rw [if_pos kk] at this; omega
      go_wp2_with fail
      go_meet
      case rel => exact ⟨by first | (rw [e1]; done) | (rw [e1]; go_num), rfl⟩
    · have e1 : (J0 : Int) = 2 * (y : Int) := by have := HJ0.out; unfold bdI at this; rw [if_neg kk] at this; omega
      go_wp2_with fail
      go_meet
      case rel => exact ⟨by first | (rw [e1]; done) | (rw [e1]; go_num), rfl⟩
  case rest =>
  obtain ⟨rfl, rfl⟩ := hcut
  go_upto_if 42 with fail
  go_cut [15] (fun t wx => t = .int .i64 I ∧ W3 = wx)
  case first =>
    by_cases kk : av = 0
    · have e1 : I = J0 := by rw [HI.out, if_pos kk]
      have kb : (av == 0) = true := by simp [kk]
      go_wp2_with fail
      go_meet
      case rel => exact ⟨by rw [e1], rfl⟩
    · have e1 : I = I0 := by rw [HI.out, if_neg kk]
      have kb : (av == 0) = false := by simp [kk]
      go_wp2_with fail
      go_meet
      case rel => exact ⟨by rw [e1], rfl⟩
  case rest =>
  obtain ⟨rfl, rfl⟩ := hcut
  go_upto_if 45 with fail
  go_cut [16] (fun t wx => t = .int .i64 J ∧ W3 = wx)
  case first =>
    by_cases kk : bv = 0
    · have e1 : J = I := by rw [HJ.out, if_pos kk]
      have kb : (bv == 0) = true := by simp [kk]
      go_wp2_with fail
      go_meet
      case rel => exact ⟨by rw [e1], rfl⟩
    · have e1 : J = J0 := by rw [HJ.out, if_neg kk]
      have kb : (bv == 0) = false := by simp [kk]
      go_wp2_with fail
      go_meet
      case rel => exact ⟨by rw [e1], rfl⟩
  case rest =>
  obtain ⟨rfl, rfl⟩ := hcut
  go_upto_region 14 with fail
  go_cut [52] (fun t wx => t = .bool (decide (av = 0 ∨ bv = 0)) ∧ W3 = wx)
  case first =>
    by_cases kk : av = 0
    · have kb : (av == 0) = true := by simp [kk]
      go_wp2_with fail
      go_meet
      case rel => exact ⟨by simp [kk], rfl⟩
    · have kb : (av == 0) = false := by simp [kk]
      by_cases kl : bv = 0
      · have kc : (bv == 0) = true := by simp [kl]
        go_wp2_with fail
        go_meet
        case rel => exact ⟨by simp [kk, kl], rfl⟩
      · have kc : (bv == 0) = false := by simp [kl]
        go_wp2_with fail
        go_meet
        case rel => exact ⟨by simp [kk, kl], rfl⟩
  case rest =>
  obtain ⟨rfl, rfl⟩ := hcut
  go_upto_if 52 with fail
  go_cut [5] (fun t wx => t = .int .i64 C ∧ W3 = wx)
  case first =>
    by_cases kk : av = 0 ∨ bv = 0
    · have e1 : C = 2 * cv := by rw [HC.out]; unfold bdC; rw [if_pos kk]
      have kb : decide (av = 0 ∨ bv = 0) = true := decide_eq_true kk
      rw [kb]
      go_wp2_with fail
      go_meet
      case rel => exact ⟨by first | (rw [e1]; done) | (rw [e1]; go_num), rfl⟩
    · have e1 : C = cv := by rw [HC.out]; unfold bdC; rw [if_neg kk]
      have kb : decide (av = 0 ∨ bv = 0) = false := decide_eq_false kk
      rw [kb]
      go_wp2_with fail
      go_meet
      case rel => exact ⟨by rw [e1], rfl⟩
  case rest =>
  obtain ⟨rfl, rfl⟩ := hcut
  clear HI0 HJ0 HI HJ HC
  have bD : Below W3.heap.size W3 W3.drew := (Below.refl _ _).drew
  have R5 := R3.below bD
  have F5 : ∀ o, W3.drew.frozen? ⟨g, o, none⟩ = false := fun o => (bD.frozen (p := ⟨g, o, none⟩) R3.lt).trans (F3.out o)
  have hgl := R3.lt
  go_upto_region 16 with fail
  go_cut [64] (fun t wx => RowC wx g 0 (lowL l k1 C) ∧ Hid (∀ o, wx.frozen? ⟨g, o, none⟩ = false) ∧ St w wx (fun _ => True) [(w.heap.size + 1 + 1, 0, Value.int .i64 N), (w.heap.size + 1 + 1, 1, Value.slice (some ⟨g, 0, none⟩) len cap), (w.heap.size + 1, 0, Value.int .i64 0), (w.heap.size + 1, 1, Value.slice none 0 0), (w.heap.size, 0, Value.int .i64 N), (w.heap.size, 1, Value.slice (some ⟨b, off, none⟩) len c)])
  case first =>
    go_region_with (first
      | (go_at_call 26; refine (HO1.out _).mono ?_; rintro e w5 ⟨rfl, rfl⟩)
      | (go_at_call 25; refine (HL1.out _ g cap _ (by first | rfl | (simp only [w1', w3']; done) | (rw [w1']; exact w3')) R5 F5).mono ?_; rintro e w6 ⟨⟨rb, rfl⟩, hR6, hO⟩))
    all_goals
      go_wp2_with fail
      go_meet
      case rel => exact ⟨hR6, fun o => (hO.fr _).trans (F5 o), s3.drew.only hO ⟨by dsimp only; omega, by dsimp only; omega, by dsimp only; omega, by dsimp only; omega, by dsimp only; omega, by dsimp only; omega, trivial⟩ (by omega)⟩
  case rest =>
  clear s3 q3 R3 F3 bD R5 F5 hgl HO1 HL1
  obtain ⟨R3, F3, s3⟩ := hcut
  obtain ⟨W4, hW4⟩ : ∃ W, W = wc := ⟨_, rfl⟩
  rw [← hW4] at R3 F3 s3 ⊢
  clear hW4
  have q3 := s3.hold
  simp only [Holds, and_true] at q3
  have bD : Below W4.heap.size W4 W4.drew := (Below.refl _ _).drew
  have R5 := R3.below bD
  have F5 : ∀ o, W4.drew.frozen? ⟨g, o, none⟩ = false := fun o => (bD.frozen (p := ⟨g, o, none⟩) R3.lt).trans (F3.out o)
  have hgl := R3.lt
  go_upto_region 17 with fail
  go_cut [74] (fun t wx => RowC wx g 0 R ∧ St w wx (fun _ => True) [(w.heap.size + 1 + 1, 0, Value.int .i64 N), (w.heap.size + 1 + 1, 1, Value.slice (some ⟨g, 0, none⟩) len cap), (w.heap.size + 1, 0, Value.int .i64 0), (w.heap.size + 1, 1, Value.slice none 0 0), (w.heap.size, 0, Value.int .i64 N), (w.heap.size, 1, Value.slice (some ⟨b, off, none⟩) len c)])
  case first =>
    go_region_with (first
      | (go_at_call 26; refine (HO2.out _).mono ?_; rintro e w5 ⟨rfl, rfl⟩)
      | (go_at_call 25; refine (HL2.out _ g cap _ (by first | rfl | (simp only [w2', w4']; done) | (rw [w2']; exact w4')) R5 F5).mono ?_; rintro e w6 ⟨⟨rb, rfl⟩, hR6, hO⟩))
    all_goals
      go_wp2_with fail
      go_meet
      case rel => exact ⟨hR6, s3.drew.only hO ⟨by dsimp only; omega, by dsimp only; omega, by dsimp only; omega, by dsimp only; omega, by dsimp only; omega, by dsimp only; omega, trivial⟩ (by omega)⟩
  case rest =>
  clear s3 q3 R3 F3 bD R5 F5 hgl HO2 HL2
  obtain ⟨hR7, s7⟩ := hcut
  have q7 := s7.hold
  simp only [Holds, and_true] at q7
  go_wp2_with fail
  refine bodyPost_ret (v := (.agg #[.int .i64 N, (.slice (some ⟨g, 0, none⟩) len cap)])) (by simp [results, Tryz.results29, go_sem, q7]) rfl ⟨?_, g, cap, rfl, ?_⟩
  · repeat' (first | exact s7.bel | refine Below.setCell ?_ (by first | (simp; done) | (simp; omega)) _)
  · exact (hR7.other (by show w.heap.size + 1 ≠ g; omega) _).other (by show w.heap.size + 1 ≠ g; omega) _
end Go.Proofs.YtbafkjhlogkllaaGreatDoor.Oc
