/- IntervalWiden, walked, where both are right. -/
import Derived.Test.YtijbjahedfmfgaaDoorIl
import Derived.Deep.DeepCutAuto
import Derived.Deep.CutBlock
namespace Go.Proofs.YtijbjahedfmfgaaDoor
open Go.RowKit
set_option linter.unusedVariables false

set_option maxRecDepth 20000 in
set_option maxHeartbeats 8000000 in
theorem widen_good (a : Nat → Addr) (hT : ThreeC a) (d u d' u' : Bool) (lo hi lo' hi' : Int) (x : Option Addr) (n c : Nat) (l : List Int) (E : Int) (rd ru : Bool) (rl rh : Int) (v1 : Value) (w : World) (hS : Sents w a) (hA : IntsAt w x l) (hl : Hid (n = l.length)) (hn : n ≤ 100) (hE : Hid (E = farE (if 20 < n then 2 else 0) l))
    (HW : Hid (∀ (W : World) (y : Option Addr) (k : Nat), Sents W a → IntsAt W y l → Calls Tryd.prog 32 #[(.agg #[.bool d, .bool u, .int .i64 lo, .int .i64 hi]), (.agg #[.bool d', .bool u', .int .i64 lo', .int .i64 hi']), .slice y n k] W fun e w' => e = .returned (.tuple #[(.agg #[.bool rd, .bool ru, .int .i64 rl, .int .i64 rh]), v1]) ∧ Below W.heap.size W w'))
    (nd nu md mu : Bool) (nl nh ml mh : Int) (v2 : Value) (F : Int) (HNar : Hid (narrowed ⟨d, u, lo, hi⟩ ⟨d', u', lo', hi'⟩ = ⟨nd, nu, nl, nh⟩)) (HF : Hid (F = if nd = false ∧ nu = false ∧ nh < nl then 4 else 0))
    (HN : Hid (∀ W : World, Sents W a → Calls Tryd.prog 34 #[(.agg #[.bool d, .bool u, .int .i64 lo, .int .i64 hi]), (.agg #[.bool d', .bool u', .int .i64 lo', .int .i64 hi'])] W fun e w' => e = .returned (.tuple #[(.agg #[.bool md, .bool mu, .int .i64 ml, .int .i64 mh]), v2]) ∧ Below W.heap.size W w'))
    (HSp : Hid (∀ W : World, Sents W a → Calls Tryd.prog 19 #[(.agg #[.bool md, .bool mu, .int .i64 ml, .int .i64 mh]), v2, (.agg #[.bool nd, .bool nu, .int .i64 nl, .int .i64 nh]), .int .i64 F] W fun e w' => e = .returned (.bool true) ∧ Below W.heap.size W w'))
    (HSw : Hid (0 < E → ∀ W : World, Sents W a → Calls Tryd.prog 19 #[(.agg #[.bool rd, .bool ru, .int .i64 rl, .int .i64 rh]), v1, (.agg #[.bool rd, .bool ru, .int .i64 rl, .int .i64 rh]), .int .i64 E] W fun e w' => e = .returned (.bool true) ∧ Below W.heap.size W w'))
    (HG : Hid (E ≤ 0 → v1 = .nilIface ∧ (∀ W : World, IntsAt W x l → Calls Tryd.prog 35 #[(.agg #[.bool d, .bool u, .int .i64 lo, .int .i64 hi]), (.agg #[.bool d', .bool u', .int .i64 lo', .int .i64 hi']), .slice x n c] W fun e w' => e = .returned (.agg #[.bool rd, .bool ru, .int .i64 rl, .int .i64 rh]) ∧ Below W.heap.size W w') ∧ (∀ W : World, Calls Tryd.prog 22 #[(.agg #[.bool d, .bool u, .int .i64 lo, .int .i64 hi]), (.agg #[.bool rd, .bool ru, .int .i64 rl, .int .i64 rh])] W fun e w' => e = .returned (.bool true) ∧ Below W.heap.size W w')))
    (HE2 : Hid (∀ W : World, Calls Tryd.prog 15 #[(.agg #[.bool d, .bool u, .int .i64 lo, .int .i64 hi]), (.agg #[.bool d', .bool u', .int .i64 lo', .int .i64 hi'])] W fun e w' => e = .returned (.int .i64 0) ∧ Below W.heap.size W w')) :
    Calls Tryd.prog 7 #[(.agg #[.bool d, .bool u, .int .i64 lo, .int .i64 hi]), (.agg #[.bool d', .bool u', .int .i64 lo', .int .i64 hi']), .slice x n c] w fun e w' => e = .returned (.bool true) ∧ Below w.heap.size w w' := by
  obtain ⟨E1, hE1⟩ : ∃ E1, E1 = if 20 < n then (2 : Int) else 0 := ⟨_, rfl⟩
  have HE1 := hide hE1
  clear hE1
  go_enter Tryd.func7, Tryd.ntmps7
  go_wp2_with fail
  have s0 := ((St.startSI hS hA).box4 23 (.bool d) (.bool u) (.int .i64 lo) (.int .i64 hi)).box4 23 (.bool d') (.bool u') (.int .i64 lo') (.int .i64 hi')
  simp only [World.size_alloc] at s0
  refine (hT _ s0.ss.errs).mono ?_
  (rintro x1 w1 ⟨rfl, hb⟩; have s1 := s0.call hb; have q1 := s1.hold; simp only [Holds, and_true] at q1; clear hb s0; try clear q0)
  go_wp2_with fail
  refine (HE2.out _).mono ?_
  (rintro x1 w2 ⟨rfl, hb⟩; have s2 := s1.call hb; have q2 := s2.hold; simp only [Holds, and_true] at q2; clear hb s1; try clear q1)
  go_upto_if 35 with fail
  go_cut [8] (fun s8 wx => s8 = .int .i64 E1 ∧ wx = w2)
  case first =>
    go_wp2_with fail
    all_goals
      go_meet
      case rel => exact ⟨by rw [HE1.out]; first | rw [if_pos (by omega)] | rw [if_neg (by omega)], rfl⟩
  case rest =>
  obtain ⟨rfl, rfl⟩ := hcut
  go_upto_block 0 with fail
  go_cut [8, 10] (fun s8 s10 wx => s8 = .int .i64 E ∧ St w wx (SIZ a x l) ((w.heap.size + 1, 0, Value.bool d') :: (w.heap.size + 1, 1, Value.bool u') :: (w.heap.size + 1, 2, Value.int .i64 lo') :: (w.heap.size + 1, 3, Value.int .i64 hi') :: (w.heap.size, 0, Value.bool d) :: (w.heap.size, 1, Value.bool u) :: (w.heap.size, 2, Value.int .i64 lo) :: (w.heap.size, 3, Value.int .i64 hi) :: []))
  case first =>
    go_wp2_with fail
    go_loopw [8, 10] (fun e i wr => ∃ (k : Nat) (ev : Int), k ≤ n ∧ e = .int .i64 ev ∧ i = .int .i64 k ∧ Hid (ev = farE E1 (l.take k)) ∧ St w wr (SIZ a x l) ((w.heap.size + 1, 0, Value.bool d') :: (w.heap.size + 1, 1, Value.bool u') :: (w.heap.size + 1, 2, Value.int .i64 lo') :: (w.heap.size + 1, 3, Value.int .i64 hi') :: (w.heap.size, 0, Value.bool d) :: (w.heap.size, 1, Value.bool u) :: (w.heap.size, 2, Value.int .i64 lo) :: (w.heap.size, 3, Value.int .i64 hi) :: [])) (fun _ i _ => n - (intOf i).toNat)
    case atStart => exact ⟨0, E1, by omega, rfl, rfl, by simp [farE, anyFar, Hid], s2⟩
    case round =>
      clear s2 q2
      obtain ⟨k, ev, hkn, rfl, rfl, hev, s2⟩ := hrel
      have q2 := s2.hold
      simp only [Holds, and_true] at q2
      by_cases hlt : k < n
      · have hkn' : (k : Int) < (n : Int) := by omega
        by_cases hev0 : ev = 0
        · subst hev0
          have hkl : k < l.length := by rw [← hl.out]; exact hlt
          obtain ⟨y, hy⟩ : ∃ y, y = l.getD k 0 := ⟨_, rfl⟩
          obtain ⟨b, off, rfl, hcy⟩ := s2.si.get k hkl y hy
          obtain ⟨fb, hfb⟩ : ∃ fb, farB y 1099511627776 = fb := ⟨_, rfl⟩
          have hnx : anyFar (l.take (k + 1)) = (anyFar (l.take k) || fb) := by rw [anyFar_take hkl, ← hy, hfb]
          have Hfb := hide hfb
          have Hnx := hide hnx
          clear hy hfb hnx
          go_wp2_with fail
          refine (wd_far y fb Hfb _).mono ?_
          (rintro x1 w3 ⟨rfl, hb⟩; have s3 := s2.call hb; have q3 := s3.hold; simp only [Holds, and_true] at q3; clear hb s2; try clear q2)
          have Hev := hev
          clear hev
          cases fb
          · go_wp2_with fail
            go_roundw
            case rel => exact ⟨k + 1, 0, by omega, rfl, by go_num, farE_next0 Hev.out Hnx.out, s3⟩
            case measure => simp [intOf]; omega
          · go_wp2_with fail
            go_roundw
            case rel => exact ⟨k + 1, 2, by omega, rfl, by go_num, farE_next2 Hev.out Hnx.out, s3⟩
            case measure => simp [intOf]; omega
        · have hE' : ev = E := by rw [hE.out, ← HE1.out]; exact farE_stop hev.out hev0
          clear hev
          go_wp2_with fail
          go_meet
          case rel => exact ⟨by first | rfl | rw [hE'], s2⟩
      · have hke : l.take k = l := List.take_of_length_le (by rw [← hl.out]; omega)
        have hE' : ev = E := by rw [hE.out, ← HE1.out]; have := hev.out; rw [hke] at this; exact this
        have hkn' : ¬ (k : Int) < (n : Int) := by omega
        clear hke hev
        go_wp2_with fail
        go_meet
        case rel => exact ⟨by first | rfl | rw [hE'], s2⟩
  case rest =>
  clear s2 q2
  obtain ⟨rfl, s2⟩ := hcut
  have q2 := s2.hold
  simp only [Holds, and_true] at q2
  go_upto_region 13 with fail
  go_cut [11, 12] (fun s11 s12 wx => s12 = v1 ∧ ∃ bw : Nat, s11 = .pointer (some ⟨bw, 0, none⟩) ∧ w.heap.size ≤ bw ∧ St w wx (SIZ a x l) ((bw, 0, Value.bool rd) :: (bw, 1, Value.bool ru) :: (bw, 2, Value.int .i64 rl) :: (bw, 3, Value.int .i64 rh) :: ((w.heap.size + 1, 0, Value.bool d') :: (w.heap.size + 1, 1, Value.bool u') :: (w.heap.size + 1, 2, Value.int .i64 lo') :: (w.heap.size + 1, 3, Value.int .i64 hi') :: (w.heap.size, 0, Value.bool d) :: (w.heap.size, 1, Value.bool u) :: (w.heap.size, 2, Value.int .i64 lo) :: (w.heap.size, 3, Value.int .i64 hi) :: [])))
  case first =>
    have hwB := s2.bel.size
    have k2 := s2.hold
    go_region_held3 (fun w' => w'.cell? ⟨w.heap.size + 1, 0, none⟩ = some (.bool d') ∧ w'.cell? ⟨w.heap.size + 1, 1, none⟩ = some (.bool u') ∧ w'.cell? ⟨w.heap.size + 1, 2, none⟩ = some (.int .i64 lo') ∧ w'.cell? ⟨w.heap.size + 1, 3, none⟩ = some (.int .i64 hi') ∧ w'.cell? ⟨w.heap.size, 0, none⟩ = some (.bool d) ∧ w'.cell? ⟨w.heap.size, 1, none⟩ = some (.bool u) ∧ w'.cell? ⟨w.heap.size, 2, none⟩ = some (.int .i64 lo) ∧ w'.cell? ⟨w.heap.size, 3, none⟩ = some (.int .i64 hi) ∧ St w w' (SIZ a x l) ((w.heap.size + 1, 0, Value.bool d') :: (w.heap.size + 1, 1, Value.bool u') :: (w.heap.size + 1, 2, Value.int .i64 lo') :: (w.heap.size + 1, 3, Value.int .i64 hi') :: (w.heap.size, 0, Value.bool d) :: (w.heap.size, 1, Value.bool u) :: (w.heap.size, 2, Value.int .i64 lo) :: (w.heap.size, 3, Value.int .i64 hi) :: [])) (first | (exact keepSt0 (((w.heap.size + 1, 0, Value.bool d') :: (w.heap.size + 1, 1, Value.bool u') :: (w.heap.size + 1, 2, Value.int .i64 lo') :: (w.heap.size + 1, 3, Value.int .i64 hi') :: (w.heap.size, 0, Value.bool d) :: (w.heap.size, 1, Value.bool u) :: (w.heap.size, 2, Value.int .i64 lo) :: (w.heap.size, 3, Value.int .i64 hi) :: [])) s2.drew) | (exact keepSt (((w.heap.size + 1, 0, Value.bool d') :: (w.heap.size + 1, 1, Value.bool u') :: (w.heap.size + 1, 2, Value.int .i64 lo') :: (w.heap.size + 1, 3, Value.int .i64 hi') :: (w.heap.size, 0, Value.bool d) :: (w.heap.size, 1, Value.bool u) :: (w.heap.size, 2, Value.int .i64 lo) :: (w.heap.size, 3, Value.int .i64 hi) :: [])) (by assumption) (by assumption)) | (exact keepSt0 (((w.heap.size + 1, 0, Value.bool d') :: (w.heap.size + 1, 1, Value.bool u') :: (w.heap.size + 1, 2, Value.int .i64 lo') :: (w.heap.size + 1, 3, Value.int .i64 hi') :: (w.heap.size, 0, Value.bool d) :: (w.heap.size, 1, Value.bool u) :: (w.heap.size, 2, Value.int .i64 lo) :: (w.heap.size, 3, Value.int .i64 hi) :: [])) ((s5.late k2 hwB (by first | exact Nat.le_refl _ | exact hb4.size) hx5 _ _ _ _).drop 4)) | (exact keepSt0 (((w.heap.size + 1, 0, Value.bool d') :: (w.heap.size + 1, 1, Value.bool u') :: (w.heap.size + 1, 2, Value.int .i64 lo') :: (w.heap.size + 1, 3, Value.int .i64 hi') :: (w.heap.size, 0, Value.bool d) :: (w.heap.size, 1, Value.bool u) :: (w.heap.size, 2, Value.int .i64 lo) :: (w.heap.size, 3, Value.int .i64 hi) :: [])) (s5.alloc _)) | (exact keepSt (((w.heap.size + 1, 0, Value.bool d') :: (w.heap.size + 1, 1, Value.bool u') :: (w.heap.size + 1, 2, Value.int .i64 lo') :: (w.heap.size + 1, 3, Value.int .i64 hi') :: (w.heap.size, 0, Value.bool d) :: (w.heap.size, 1, Value.bool u) :: (w.heap.size, 2, Value.int .i64 lo) :: (w.heap.size, 3, Value.int .i64 hi) :: [])) (Below.refl _ _).drew (by assumption)) | (exact keepSt0 (((w.heap.size + 1, 0, Value.bool d') :: (w.heap.size + 1, 1, Value.bool u') :: (w.heap.size + 1, 2, Value.int .i64 lo') :: (w.heap.size + 1, 3, Value.int .i64 hi') :: (w.heap.size, 0, Value.bool d) :: (w.heap.size, 1, Value.bool u) :: (w.heap.size, 2, Value.int .i64 lo) :: (w.heap.size, 3, Value.int .i64 hi) :: [])) ((keepSt_st (((w.heap.size + 1, 0, Value.bool d') :: (w.heap.size + 1, 1, Value.bool u') :: (w.heap.size + 1, 2, Value.int .i64 lo') :: (w.heap.size + 1, 3, Value.int .i64 hi') :: (w.heap.size, 0, Value.bool d) :: (w.heap.size, 1, Value.bool u) :: (w.heap.size, 2, Value.int .i64 lo) :: (w.heap.size, 3, Value.int .i64 hi) :: [])) (by assumption)).alloc _)) | (exact keepSt0 (((w.heap.size + 1, 0, Value.bool d') :: (w.heap.size + 1, 1, Value.bool u') :: (w.heap.size + 1, 2, Value.int .i64 lo') :: (w.heap.size + 1, 3, Value.int .i64 hi') :: (w.heap.size, 0, Value.bool d) :: (w.heap.size, 1, Value.bool u) :: (w.heap.size, 2, Value.int .i64 lo) :: (w.heap.size, 3, Value.int .i64 hi) :: [])) ((keepSt_st (((w.heap.size + 1, 0, Value.bool d') :: (w.heap.size + 1, 1, Value.bool u') :: (w.heap.size + 1, 2, Value.int .i64 lo') :: (w.heap.size + 1, 3, Value.int .i64 hi') :: (w.heap.size, 0, Value.bool d) :: (w.heap.size, 1, Value.bool u) :: (w.heap.size, 2, Value.int .i64 lo) :: (w.heap.size, 3, Value.int .i64 hi) :: [])) (by assumption)).alloc _).drew))
      (first
        | (go_at_call 33; refine (intsCopy_as x n c l _ (keepSt_st ((w.heap.size + 1, 0, Value.bool d') :: (w.heap.size + 1, 1, Value.bool u') :: (w.heap.size + 1, 2, Value.int .i64 lo') :: (w.heap.size + 1, 3, Value.int .i64 hi') :: (w.heap.size, 0, Value.bool d) :: (w.heap.size, 1, Value.bool u) :: (w.heap.size, 2, Value.int .i64 lo) :: (w.heap.size, 3, Value.int .i64 hi) :: []) (by assumption)).si hl (by omega)).mono ?_; rintro e w4 ⟨y, cy, rfl, hy, hb4⟩; have s4 := (keepSt_st ((w.heap.size + 1, 0, Value.bool d') :: (w.heap.size + 1, 1, Value.bool u') :: (w.heap.size + 1, 2, Value.int .i64 lo') :: (w.heap.size + 1, 3, Value.int .i64 hi') :: (w.heap.size, 0, Value.bool d) :: (w.heap.size, 1, Value.bool u) :: (w.heap.size, 2, Value.int .i64 lo) :: (w.heap.size, 3, Value.int .i64 hi) :: []) (by assumption)).call hb4; first | (have hx4 := boxed hb4) | (have hx4 := boxed' hb4) | skip)
        | (go_at_call 32; refine (HW.out _ y cy (keepSt_st ((w.heap.size + 1, 0, Value.bool d') :: (w.heap.size + 1, 1, Value.bool u') :: (w.heap.size + 1, 2, Value.int .i64 lo') :: (w.heap.size + 1, 3, Value.int .i64 hi') :: (w.heap.size, 0, Value.bool d) :: (w.heap.size, 1, Value.bool u) :: (w.heap.size, 2, Value.int .i64 lo) :: (w.heap.size, 3, Value.int .i64 hi) :: []) (by assumption)).ss (by first | exact hy | exact hy.below ((Below.refl _ _).alloc (Nat.le_refl _) _).drew | exact hy.below ((Below.refl _ _).alloc (Nat.le_refl _) _))).mono ?_; rintro e w5 ⟨rfl, hb5⟩; have s5 := (keepSt_st ((w.heap.size + 1, 0, Value.bool d') :: (w.heap.size + 1, 1, Value.bool u') :: (w.heap.size + 1, 2, Value.int .i64 lo') :: (w.heap.size + 1, 3, Value.int .i64 hi') :: (w.heap.size, 0, Value.bool d) :: (w.heap.size, 1, Value.bool u) :: (w.heap.size, 2, Value.int .i64 lo) :: (w.heap.size, 3, Value.int .i64 hi) :: []) (by assumption)).call hb5; first | (have hx5 := hx4.below hb5; clear hx4; have ho5 := hx5; simp only [Holds, and_true] at ho5) | (have hx5 := boxed hb5; have ho5 := hx5; simp only [Holds, and_true] at ho5) | (have hx5 := boxed' hb5; have ho5 := hx5; simp only [Holds, and_true] at ho5) | skip))
    all_goals
      go_wp2_with fail
      go_meet
      case rel => first
        | exact ⟨rfl, _, rfl, s5.bel.size, s5.box4 23 _ _ _ _⟩
        | exact ⟨rfl, _, rfl, (by first | exact hwB | exact Nat.le_trans hwB hb4.size), s5.late k2 hwB (by first | exact Nat.le_refl _ | exact hb4.size) hx5 _ _ _ _⟩
  case rest =>
  clear s2 q2
  obtain ⟨rfl, bw, rfl, hbw, s5⟩ := hcut
  have q5 := s5.hold
  simp only [Holds, and_true] at q5
  go_wp2_with fail
  refine (HN.out _ s5.ss).mono ?_
  (rintro x1 w6 ⟨rfl, hb⟩; have s6 := s5.call hb; have q6 := s6.hold; simp only [Holds, and_true] at q6; clear hb s5; try clear q5)
  go_upto_if 67 with fail
  go_cut [9] (fun s9 wx => s9 = .int .i64 F ∧ St w wx (SIZ a x l) ((w6.heap.size + 1, 0, Value.bool nd) :: (w6.heap.size + 1, 1, Value.bool nu) :: (w6.heap.size + 1, 2, Value.int .i64 nl) :: (w6.heap.size + 1, 3, Value.int .i64 nh) :: (w6.heap.size, 0, Value.bool md) :: (w6.heap.size, 1, Value.bool mu) :: (w6.heap.size, 2, Value.int .i64 ml) :: (w6.heap.size, 3, Value.int .i64 mh) :: (bw, 0, Value.bool rd) :: (bw, 1, Value.bool ru) :: (bw, 2, Value.int .i64 rl) :: (bw, 3, Value.int .i64 rh) :: (w.heap.size + 1, 0, Value.bool d') :: (w.heap.size + 1, 1, Value.bool u') :: (w.heap.size + 1, 2, Value.int .i64 lo') :: (w.heap.size + 1, 3, Value.int .i64 hi') :: (w.heap.size, 0, Value.bool d) :: (w.heap.size, 1, Value.bool u) :: (w.heap.size, 2, Value.int .i64 lo) :: (w.heap.size, 3, Value.int .i64 hi) :: []))
  case first =>
    have s60 := s6.box4 23 (.bool md) (.bool mu) (.int .i64 ml) (.int .i64 mh)
    have hsz : (w6.alloc (.cells #[.bool md, .bool mu, .int .i64 ml, .int .i64 mh] 23)).heap.size = w6.heap.size + 1 := by simp
    have Hsz := hide hsz
    clear s6 hsz
    cases d <;> cases u
    all_goals
      have h := HNar.out
      simp only [narrowed, Bool.false_eq_true, if_false, if_true, Iv.mk.injEq] at h
      obtain ⟨rfl, rfl, rfl, rfl⟩ := h
      cases d' <;> cases u'
      all_goals
        go_wp2_with fail
        all_goals
          go_meet
          case rel =>
            refine ⟨?_, ?_⟩
            · rw [HF.out]; first | rw [if_pos (by simp; omega)] | rw [if_neg (by simp; omega)] | simp
            · rw [← Hsz.out]; exact s60.box4 _ _ _ _ _
  case rest =>
  clear s6 q6
  obtain ⟨rfl, s7⟩ := hcut
  have q7 := s7.hold
  simp only [Holds, and_true] at q7
  go_wp2_with fail
  refine (HSp.out _ s7.ss).mono ?_
  (rintro x1 w8 ⟨rfl, hb⟩; have s8 := s7.call hb; have q8 := s8.hold; simp only [Holds, and_true] at q8; clear hb s7; try clear q7)
  by_cases hE0 : 0 < E
  · go_wp2_with fail
    refine (HSw.out hE0 _ s8.ss).mono ?_
    (rintro x1 w9 ⟨rfl, hb⟩; have s9 := s8.call hb; have q9 := s9.hold; simp only [Holds, and_true] at q9; clear hb s8; try clear q8)
    go_wp2_with fail
    go_ret
    exact ⟨ret_bool (by simp), s9.bel⟩
  · obtain ⟨rfl, HD, HI⟩ := HG.out (by omega)
    have HD := hide HD
    have HI := hide HI
    have HO : Hid (∀ W : World, Calls Tryd.prog 19 #[(.agg #[.bool rd, .bool ru, .int .i64 rl, .int .i64 rh]), .nilIface, (.agg #[.bool rd, .bool ru, .int .i64 rl, .int .i64 rh]), .int .i64 0] W fun x w' => x = .returned (.bool true) ∧ Below W.heap.size W w') := by
      intro W
      refine (isSpan_ok rd ru rd ru rl rh rl rh W).mono ?_
      rintro e w' ⟨rfl, hb⟩
      exact ⟨by simp, hb⟩
    go_upto_region 29 with fail
    have s2 := s8
    go_region_held3 (fun w' => w'.cell? ⟨bw, 0, none⟩ = some (.bool rd) ∧ w'.cell? ⟨bw, 1, none⟩ = some (.bool ru) ∧ w'.cell? ⟨bw, 2, none⟩ = some (.int .i64 rl) ∧ w'.cell? ⟨bw, 3, none⟩ = some (.int .i64 rh) ∧ w'.cell? ⟨w.heap.size + 1, 0, none⟩ = some (.bool d') ∧ w'.cell? ⟨w.heap.size + 1, 1, none⟩ = some (.bool u') ∧ w'.cell? ⟨w.heap.size + 1, 2, none⟩ = some (.int .i64 lo') ∧ w'.cell? ⟨w.heap.size + 1, 3, none⟩ = some (.int .i64 hi') ∧ w'.cell? ⟨w.heap.size, 0, none⟩ = some (.bool d) ∧ w'.cell? ⟨w.heap.size, 1, none⟩ = some (.bool u) ∧ w'.cell? ⟨w.heap.size, 2, none⟩ = some (.int .i64 lo) ∧ w'.cell? ⟨w.heap.size, 3, none⟩ = some (.int .i64 hi) ∧ St w w' (SIZ a x l) ((bw, 0, Value.bool rd) :: (bw, 1, Value.bool ru) :: (bw, 2, Value.int .i64 rl) :: (bw, 3, Value.int .i64 rh) :: (w.heap.size + 1, 0, Value.bool d') :: (w.heap.size + 1, 1, Value.bool u') :: (w.heap.size + 1, 2, Value.int .i64 lo') :: (w.heap.size + 1, 3, Value.int .i64 hi') :: (w.heap.size, 0, Value.bool d) :: (w.heap.size, 1, Value.bool u) :: (w.heap.size, 2, Value.int .i64 lo) :: (w.heap.size, 3, Value.int .i64 hi) :: [])) (first | (exact keepSt (((bw, 0, Value.bool rd) :: (bw, 1, Value.bool ru) :: (bw, 2, Value.int .i64 rl) :: (bw, 3, Value.int .i64 rh) :: (w.heap.size + 1, 0, Value.bool d') :: (w.heap.size + 1, 1, Value.bool u') :: (w.heap.size + 1, 2, Value.int .i64 lo') :: (w.heap.size + 1, 3, Value.int .i64 hi') :: (w.heap.size, 0, Value.bool d) :: (w.heap.size, 1, Value.bool u) :: (w.heap.size, 2, Value.int .i64 lo) :: (w.heap.size, 3, Value.int .i64 hi) :: [])) (by assumption) (by assumption)) | (exact keepSt0 (((bw, 0, Value.bool rd) :: (bw, 1, Value.bool ru) :: (bw, 2, Value.int .i64 rl) :: (bw, 3, Value.int .i64 rh) :: (w.heap.size + 1, 0, Value.bool d') :: (w.heap.size + 1, 1, Value.bool u') :: (w.heap.size + 1, 2, Value.int .i64 lo') :: (w.heap.size + 1, 3, Value.int .i64 hi') :: (w.heap.size, 0, Value.bool d) :: (w.heap.size, 1, Value.bool u) :: (w.heap.size, 2, Value.int .i64 lo) :: (w.heap.size, 3, Value.int .i64 hi) :: [])) (s8.drop 8).drew))
      (first
        | (go_at_call 35; refine (HD.out _ (keepSt_st (((bw, 0, Value.bool rd) :: (bw, 1, Value.bool ru) :: (bw, 2, Value.int .i64 rl) :: (bw, 3, Value.int .i64 rh) :: (w.heap.size + 1, 0, Value.bool d') :: (w.heap.size + 1, 1, Value.bool u') :: (w.heap.size + 1, 2, Value.int .i64 lo') :: (w.heap.size + 1, 3, Value.int .i64 hi') :: (w.heap.size, 0, Value.bool d) :: (w.heap.size, 1, Value.bool u) :: (w.heap.size, 2, Value.int .i64 lo) :: (w.heap.size, 3, Value.int .i64 hi) :: [])) (by assumption)).si).mono ?_; rintro e w9 ⟨rfl, hb9⟩)
        | (go_at_call 19; refine (HO.out _).mono ?_; rintro e w10 ⟨rfl, hb10⟩)
        | (go_at_call 22; refine (HI.out _).mono ?_; rintro e w11 ⟨rfl, hb11⟩))
    go_wp2_with fail
    go_ret
    exact ⟨ret_bool (by simp), keepSt_bel (((bw, 0, Value.bool rd) :: (bw, 1, Value.bool ru) :: (bw, 2, Value.int .i64 rl) :: (bw, 3, Value.int .i64 rh) :: (w.heap.size + 1, 0, Value.bool d') :: (w.heap.size + 1, 1, Value.bool u') :: (w.heap.size + 1, 2, Value.int .i64 lo') :: (w.heap.size + 1, 3, Value.int .i64 hi') :: (w.heap.size, 0, Value.bool d) :: (w.heap.size, 1, Value.bool u) :: (w.heap.size, 2, Value.int .i64 lo) :: (w.heap.size, 3, Value.int .i64 hi) :: [])) (by assumption)⟩

end Go.Proofs.YtijbjahedfmfgaaDoor
