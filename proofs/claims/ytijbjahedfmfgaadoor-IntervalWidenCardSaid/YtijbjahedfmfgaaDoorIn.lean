/- IntervalWiden, walked, where one is not right, and whole. -/
import Derived.Test.YtijbjahedfmfgaaDoorIm
import Derived.Deep.DeepCutAuto
import Derived.Deep.CutBlock
namespace Go.Proofs.YtijbjahedfmfgaaDoor
open Go.RowKit
set_option linter.unusedVariables false

set_option maxRecDepth 20000 in
set_option maxHeartbeats 8000000 in
theorem widen_bad (a : Nat → Addr) (hT : ThreeC a) (d u d' u' : Bool) (lo hi lo' hi' : Int) (x : Option Addr) (n c : Nat) (l : List Int) (E : Int) (rd ru : Bool) (rl rh : Int) (v1 : Value) (w : World) (hS : Sents w a) (hA : IntsAt w x l) (hl : Hid (n = l.length)) (hn : n ≤ 100) (hE0 : 0 < E) (hE1 : ¬ E = 0)
    (HW : Hid (∀ (W : World) (y : Option Addr) (k : Nat), Sents W a → IntsAt W y l → Calls Tryd.prog 32 #[(.agg #[.bool d, .bool u, .int .i64 lo, .int .i64 hi]), (.agg #[.bool d', .bool u', .int .i64 lo', .int .i64 hi']), .slice y n k] W fun e w' => e = .returned (.tuple #[(.agg #[.bool rd, .bool ru, .int .i64 rl, .int .i64 rh]), v1]) ∧ Below W.heap.size W w'))
    (HN : Hid (∀ W : World, Sents W a → Calls Tryd.prog 34 #[(.agg #[.bool d, .bool u, .int .i64 lo, .int .i64 hi]), (.agg #[.bool d', .bool u', .int .i64 lo', .int .i64 hi'])] W fun e w' => e = .returned (.tuple #[(.agg #[.bool rd, .bool ru, .int .i64 rl, .int .i64 rh]), v1]) ∧ Below W.heap.size W w'))
    (HSp : Hid (∀ (W : World) (p q : Bool) (r s : Int), Sents W a → Calls Tryd.prog 19 #[(.agg #[.bool rd, .bool ru, .int .i64 rl, .int .i64 rh]), v1, (.agg #[.bool p, .bool q, .int .i64 r, .int .i64 s]), .int .i64 E] W fun e w' => e = .returned (.bool true) ∧ Below W.heap.size W w'))
    (HE2 : Hid (∀ W : World, Calls Tryd.prog 15 #[(.agg #[.bool d, .bool u, .int .i64 lo, .int .i64 hi]), (.agg #[.bool d', .bool u', .int .i64 lo', .int .i64 hi'])] W fun e w' => e = .returned (.int .i64 E) ∧ Below W.heap.size W w')) :
    Calls Tryd.prog 7 #[(.agg #[.bool d, .bool u, .int .i64 lo, .int .i64 hi]), (.agg #[.bool d', .bool u', .int .i64 lo', .int .i64 hi']), .slice x n c] w fun e w' => e = .returned (.bool true) ∧ Below w.heap.size w w' := by
  go_enter Tryd.func7, Tryd.ntmps7
  go_wp2_with fail
  have s0 := ((St.startSI hS hA).box4 23 (.bool d) (.bool u) (.int .i64 lo) (.int .i64 hi)).box4 23 (.bool d') (.bool u') (.int .i64 lo') (.int .i64 hi')
  simp only [World.size_alloc] at s0
  refine (hT _ s0.ss.errs).mono ?_
  (rintro x1 w1 ⟨rfl, hb⟩; have s1 := s0.call hb; have q1 := s1.hold; simp only [Holds, and_true] at q1; clear hb s0; try clear q0)
  go_wp2_with fail
  refine (HE2.out _).mono ?_
  (rintro x1 w2 ⟨rfl, hb⟩; have s2 := s1.call hb; have q2 := s2.hold; simp only [Holds, and_true] at q2; clear hb s1; try clear q1)
  go_upto_block 0 with fail
  go_cut [8, 10] (fun s8 s10 wx => s8 = .int .i64 E ∧ wx = w2)
  case first =>
    go_wp2_with fail
    refine wp_loop_rounds 1 ?_
    rw [rounds_succ]
    by_cases h0 : (0 : Int) < (n : Int)
    all_goals
      go_wp2_with fail
      go_meet
      case rel => exact ⟨rfl, rfl⟩
  case rest =>
  obtain ⟨rfl, rfl⟩ := hcut
  go_upto_region 13 with fail
  go_cut [11, 12] (fun s11 s12 wx => s12 = v1 ∧ ∃ bw : Nat, s11 = .pointer (some ⟨bw, 0, none⟩) ∧ w.heap.size ≤ bw ∧ St w wx (SIZ a x l) ((bw, 0, Value.bool rd) :: (bw, 1, Value.bool ru) :: (bw, 2, Value.int .i64 rl) :: (bw, 3, Value.int .i64 rh) :: ((w.heap.size + 1, 0, Value.bool d') :: (w.heap.size + 1, 1, Value.bool u') :: (w.heap.size + 1, 2, Value.int .i64 lo') :: (w.heap.size + 1, 3, Value.int .i64 hi') :: (w.heap.size, 0, Value.bool d) :: (w.heap.size, 1, Value.bool u) :: (w.heap.size, 2, Value.int .i64 lo) :: (w.heap.size, 3, Value.int .i64 hi) :: [])))
  case first =>
    have hwB := s2.bel.size
    have k2 := s2.hold
    go_region_held3 (fun w' => w'.cell? ⟨w.heap.size + 1, 0, none⟩ = some (.bool d') ∧ w'.cell? ⟨w.heap.size + 1, 1, none⟩ = some (.bool u') ∧ w'.cell? ⟨w.heap.size + 1, 2, none⟩ = some (.int .i64 lo') ∧ w'.cell? ⟨w.heap.size + 1, 3, none⟩ = some (.int .i64 hi') ∧ w'.cell? ⟨w.heap.size, 0, none⟩ = some (.bool d) ∧ w'.cell? ⟨w.heap.size, 1, none⟩ = some (.bool u) ∧ w'.cell? ⟨w.heap.size, 2, none⟩ = some (.int .i64 lo) ∧ w'.cell? ⟨w.heap.size, 3, none⟩ = some (.int .i64 hi) ∧ St w w' (SIZ a x l) ((w.heap.size + 1, 0, Value.bool d') :: (w.heap.size + 1, 1, Value.bool u') :: (w.heap.size + 1, 2, Value.int .i64 lo') :: (w.heap.size + 1, 3, Value.int .i64 hi') :: (w.heap.size, 0, Value.bool d) :: (w.heap.size, 1, Value.bool u) :: (w.heap.size, 2, Value.int .i64 lo) :: (w.heap.size, 3, Value.int .i64 hi) :: [])) (first | (exact keepSt0 (((w.heap.size + 1, 0, Value.bool d') :: (w.heap.size + 1, 1, Value.bool u') :: (w.heap.size + 1, 2, Value.int .i64 lo') :: (w.heap.size + 1, 3, Value.int .i64 hi') :: (w.heap.size, 0, Value.bool d) :: (w.heap.size, 1, Value.bool u) :: (w.heap.size, 2, Value.int .i64 lo) :: (w.heap.size, 3, Value.int .i64 hi) :: [])) s2.drew) | (exact keepSt (((w.heap.size + 1, 0, Value.bool d') :: (w.heap.size + 1, 1, Value.bool u') :: (w.heap.size + 1, 2, Value.int .i64 lo') :: (w.heap.size + 1, 3, Value.int .i64 hi') :: (w.heap.size, 0, Value.bool d) :: (w.heap.size, 1, Value.bool u) :: (w.heap.size, 2, Value.int .i64 lo) :: (w.heap.size, 3, Value.int .i64 hi) :: [])) (by assumption) (by assumption)) | (exact keepSt0 (((w.heap.size + 1, 0, Value.bool d') :: (w.heap.size + 1, 1, Value.bool u') :: (w.heap.size + 1, 2, Value.int .i64 lo') :: (w.heap.size + 1, 3, Value.int .i64 hi') :: (w.heap.size, 0, Value.bool d) :: (w.heap.size, 1, Value.bool u) :: (w.heap.size, 2, Value.int .i64 lo) :: (w.heap.size, 3, Value.int .i64 hi) :: [])) ((s5.late k2 hwB (by first | exact Nat.le_refl _ | exact hb4.size) hx5 _ _ _ _).drop 4)) | (exact keepSt0 (((w.heap.size + 1, 0, Value.bool d') :: (w.heap.size + 1, 1, Value.bool u') :: (w.heap.size + 1, 2, Value.int .i64 lo') :: (w.heap.size + 1, 3, Value.int .i64 hi') :: (w.heap.size, 0, Value.bool d) :: (w.heap.size, 1, Value.bool u) :: (w.heap.size, 2, Value.int .i64 lo) :: (w.heap.size, 3, Value.int .i64 hi) :: [])) (s5.alloc _)) | (exact keepSt (((w.heap.size + 1, 0, Value.bool d') :: (w.heap.size + 1, 1, Value.bool u') :: (w.heap.size + 1, 2, Value.int .i64 lo') :: (w.heap.size + 1, 3, Value.int .i64 hi') :: (w.heap.size, 0, Value.bool d) :: (w.heap.size, 1, Value.bool u) :: (w.heap.size, 2, Value.int .i64 lo) :: (w.heap.size, 3, Value.int .i64 hi) :: [])) (Below.refl _ _).drew (by assumption)) | (exact keepSt0 (((w.heap.size + 1, 0, Value.bool d') :: (w.heap.size + 1, 1, Value.bool u') :: (w.heap.size + 1, 2, Value.int .i64 lo') :: (w.heap.size + 1, 3, Value.int .i64 hi') :: (w.heap.size, 0, Value.bool d) :: (w.heap.size, 1, Value.bool u) :: (w.heap.size, 2, Value.int .i64 lo) :: (w.heap.size, 3, Value.int .i64 hi) :: [])) ((keepSt_st (((w.heap.size + 1, 0, Value.bool d') :: (w.heap.size + 1, 1, Value.bool u') :: (w.heap.size + 1, 2, Value.int .i64 lo') :: (w.heap.size + 1, 3, Value.int .i64 hi') :: (w.heap.size, 0, Value.bool d) :: (w.heap.size, 1, Value.bool u) :: (w.heap.size, 2, Value.int .i64 lo) :: (w.heap.size, 3, Value.int .i64 hi) :: [])) (by assumption)).alloc _)) | (exact keepSt0 (((w.heap.size + 1, 0, Value.bool d') :: (w.heap.size + 1, 1, Value.bool u') :: (w.heap.size + 1, 2, Value.int .i64 lo') :: (w.heap.size + 1, 3, Value.int .i64 hi') :: (w.heap.size, 0, Value.bool d) :: (w.heap.size, 1, Value.bool u) :: (w.heap.size, 2, Value.int .i64 lo) :: (w.heap.size, 3, Value.int .i64 hi) :: [])) ((keepSt_st (((w.heap.size + 1, 0, Value.bool d') :: (w.heap.size + 1, 1, Value.bool u') :: (w.heap.size + 1, 2, Value.int .i64 lo') :: (w.heap.size + 1, 3, Value.int .i64 hi') :: (w.heap.size, 0, Value.bool d) :: (w.heap.size, 1, Value.bool u) :: (w.heap.size, 2, Value.int .i64 lo) :: (w.heap.size, 3, Value.int .i64 hi) :: [])) (by assumption)).alloc _).drew))
      (first
        | (go_at_call 33; refine (intsCopy_as x n c l _ (keepSt_st ((w.heap.size + 1, 0, Value.bool d') :: (w.heap.size + 1, 1, Value.bool u') :: (w.heap.size + 1, 2, Value.int .i64 lo') :: (w.heap.size + 1, 3, Value.int .i64 hi') :: (w.heap.size, 0, Value.bool d) :: (w.heap.size, 1, Value.bool u) :: (w.heap.size, 2, Value.int .i64 lo) :: (w.heap.size, 3, Value.int .i64 hi) :: []) (by assumption)).si hl (by omega)).mono ?_; rintro e w4 ⟨y, cy, rfl, hy, hb4⟩; have s4 := (keepSt_st ((w.heap.size + 1, 0, Value.bool d') :: (w.heap.size + 1, 1, Value.bool u') :: (w.heap.size + 1, 2, Value.int .i64 lo') :: (w.heap.size + 1, 3, Value.int .i64 hi') :: (w.heap.size, 0, Value.bool d) :: (w.heap.size, 1, Value.bool u) :: (w.heap.size, 2, Value.int .i64 lo) :: (w.heap.size, 3, Value.int .i64 hi) :: []) (by assumption)).call hb4; first | (have hx4 := boxed hb4) | (have hx4 := boxed' hb4) | skip)
        | (go_at_call 32; refine (HW.out _ y cy (keepSt_st ((w.heap.size + 1, 0, Value.bool d') :: (w.heap.size + 1, 1, Value.bool u') :: (w.heap.size + 1, 2, Value.int .i64 lo') :: (w.heap.size + 1, 3, Value.int .i64 hi') :: (w.heap.size, 0, Value.bool d) :: (w.heap.size, 1, Value.bool u) :: (w.heap.size, 2, Value.int .i64 lo) :: (w.heap.size, 3, Value.int .i64 hi) :: []) (by assumption)).ss (by first | exact hy | exact hy.below ((Below.refl _ _).alloc (Nat.le_refl _) _).drew | exact hy.below ((Below.refl _ _).alloc (Nat.le_refl _) _))).mono ?_; rintro e w5 ⟨rfl, hb5⟩; have s5 := (keepSt_st ((w.heap.size + 1, 0, Value.bool d') :: (w.heap.size + 1, 1, Value.bool u') :: (w.heap.size + 1, 2, Value.int .i64 lo') :: (w.heap.size + 1, 3, Value.int .i64 hi') :: (w.heap.size, 0, Value.bool d) :: (w.heap.size, 1, Value.bool u) :: (w.heap.size, 2, Value.int .i64 lo) :: (w.heap.size, 3, Value.int .i64 hi) :: []) (by assumption)).call hb5; first | (have hx5 := hx4.below hb5; clear hx4; have ho5 := hx5; simp only [Holds, and_true] at ho5) | (have hx5 := boxed hb5; have ho5 := hx5; simp only [Holds, and_true] at ho5) | (have hx5 := boxed' hb5; have ho5 := hx5; simp only [Holds, and_true] at ho5) | skip))
    all_goals
      go_wp2_with fail
      go_meet
      case rel => first
        | exact ⟨rfl, _, rfl, s5.bel.size, s5.box4 23 _ _ _ _⟩
        | exact ⟨rfl, _, rfl, (by first | exact hwB | exact Nat.le_trans hwB hb4.size), s5.late k2 hwB (by first | exact Nat.le_refl _ | exact hb4.size) hx5 _ _ _ _⟩
  case rest =>
  clear s2 q2
  obtain ⟨rfl, bw, rfl, hbw, s5⟩ := hcut
  have q5 := s5.hold
  simp only [Holds, and_true] at q5
  go_wp2_with fail
  refine (HN.out _ s5.ss).mono ?_
  (rintro x1 w6 ⟨rfl, hb⟩; have s6 := s5.call hb; have q6 := s6.hold; simp only [Holds, and_true] at q6; clear hb s5; try clear q5)
  go_wp2_with fail
  have s7 := (s6.box4 23 (.bool rd) (.bool ru) (.int .i64 rl) (.int .i64 rh)).box4 23 (.bool d) (.bool u) (.int .i64 lo) (.int .i64 hi)
  refine (HSp.out _ _ _ _ _ s7.ss).mono ?_
  (rintro x1 w8 ⟨rfl, hb⟩; have s8 := s7.call hb; have q8 := s8.hold; simp only [Holds, and_true] at q8; clear hb s7; try clear q7)
  go_wp2_with fail
  refine (HSp.out _ _ _ _ _ s8.ss).mono ?_
  (rintro x1 w9 ⟨rfl, hb⟩; have s9 := s8.call hb; have q9 := s9.hold; simp only [Holds, and_true] at q9; clear hb s8; try clear q8)
  go_wp2_with fail
  go_ret
  exact ⟨ret_bool (by simp), s9.bel⟩

set_option maxHeartbeats 1000000 in
theorem widen_long (a : Nat → Addr) (hT : ThreeC a) (d u d' u' : Bool) (lo hi lo' hi' : Int) (x : Option Addr) (n c : Nat) (w : World) (hS : Sents w a) (hn : (100 : Int) < (n : Int)) :
    Calls Tryd.prog 7 #[(.agg #[.bool d, .bool u, .int .i64 lo, .int .i64 hi]), (.agg #[.bool d', .bool u', .int .i64 lo', .int .i64 hi']), .slice x n c] w fun e w' => e = .returned (.bool true) ∧ Below w.heap.size w w' := by
  go_enter Tryd.func7, Tryd.ntmps7
  go_wp2_with fail
  have s0 := ((St.start hS).box4 23 (.bool d) (.bool u) (.int .i64 lo) (.int .i64 hi)).box4 23 (.bool d') (.bool u') (.int .i64 lo') (.int .i64 hi')
  simp only [World.size_alloc] at s0
  refine (hT _ s0.sents.errs).mono ?_
  (rintro x1 w1 ⟨rfl, hb⟩; have s1 := s0.call hb; have q1 := s1.hold; simp only [Holds, and_true] at q1; clear hb s0; try clear q0)
  go_wp2_with fail
  go_ret
  exact ⟨ret_bool (by simp), s1.bel⟩

theorem isSpan_errZ (e : Int) (h1 : 0 < e) (h2 : e ≤ 8) (a : Nat → Addr) (p q : Bool) (r s : Int) (W : World) (hS : Sents W a) :
    Calls Tryd.prog 19 #[(.agg #[.bool false, .bool false, .int .i64 0, .int .i64 0]), errV a e, (.agg #[.bool p, .bool q, .int .i64 r, .int .i64 s]), .int .i64 e] W fun x w' => x = .returned (.bool true) ∧ Below W.heap.size W w' := by
  refine (isSpan_err false false p q 0 0 r s e h1 h2 a W hS _ rfl).mono ?_
  rintro x w' ⟨rfl, hb⟩
  exact ⟨by simp, hb⟩

theorem intervalWiden_by (a : Nat → Addr) (hT : ThreeC a) (hW : WidenC a) (hN : NarrowC a) (d u d' u' : Bool) (lo hi lo' hi' : Int) (x : Option Addr) (n c : Nat) (l : List Int) (w : World) (hS : Sents w a) (r1 : (-9223372036854775808 ≤ lo ∧ lo ≤ 9223372036854775807) ∧ (-9223372036854775808 ≤ hi ∧ hi ≤ 9223372036854775807)) (r2 : (-9223372036854775808 ≤ lo' ∧ lo' ≤ 9223372036854775807) ∧ (-9223372036854775808 ≤ hi' ∧ hi' ≤ 9223372036854775807)) (hA : IntsAt w x l) (hl : n = l.length) (hr : ∀ s ∈ l, (-9223372036854775808 ≤ s ∧ s ≤ 9223372036854775807)) :
    Calls Tryd.prog 7 #[(.agg #[.bool d, .bool u, .int .i64 lo, .int .i64 hi]), (.agg #[.bool d', .bool u', .int .i64 lo', .int .i64 hi']), .slice x n c] w fun e w' => e = .returned (.bool true) ∧ Below w.heap.size w w' := by
  by_cases hn : 100 < n
  · exact widen_long a hT d u d' u' lo hi lo' hi' x n c w hS (by omega)
  have HW0 : ∀ (W : World) (y : Option Addr) (k : Nat), Sents W a → IntsAt W y l → _ := fun W y k h1 h2 => hW d u d' u' lo hi lo' hi' y n k l W h1.errs r1 r2 h2 hl (by omega) hr
  obtain ⟨E, hE⟩ : ∃ E, E = widErr ⟨d, u, lo, hi⟩ ⟨d', u', lo', hi'⟩ l := ⟨_, rfl⟩
  have hEr := widErr_range ⟨d, u, lo, hi⟩ ⟨d', u', lo', hi'⟩ l
  -- the answer of Widen: one, by what it is
  have hRex : ∃ R : Iv, ((E = 0 → IsWid ⟨d, u, lo, hi⟩ ⟨d', u', lo', hi'⟩ l R) ∧ (E ≠ 0 → R = ivZ)) := by
    by_cases h : E = 0
    · by_cases hex : ∃ R, IsWid ⟨d, u, lo, hi⟩ ⟨d', u', lo', hi'⟩ l R
      · obtain ⟨R, hR⟩ := hex
        exact ⟨R, fun _ => hR, fun k => absurd h k⟩
      · exact absurd (IsWid.exists _ _ _) hex
    · exact ⟨ivZ, fun k => absurd k h, fun _ => rfl⟩
  obtain ⟨⟨rd, ru, rl, rh⟩, hR1, hR2⟩ := hRex
  have HW1 : ∀ (W : World) (y : Option Addr) (k : Nat), Sents W a → IntsAt W y l → Calls Tryd.prog 32 #[(.agg #[.bool d, .bool u, .int .i64 lo, .int .i64 hi]), (.agg #[.bool d', .bool u', .int .i64 lo', .int .i64 hi']), .slice y n k] W fun e w' => e = .returned (.tuple #[(.agg #[.bool rd, .bool ru, .int .i64 rl, .int .i64 rh]), errV a E]) ∧ Below W.heap.size W w' := by
    intro W y k h1 h2
    refine (HW0 W y k h1 h2).mono ?_
    rintro e w' ⟨⟨R, rfl, k1, k2⟩, hb⟩
    have hRR : R = ⟨rd, ru, rl, rh⟩ := by
      by_cases h : E = 0
      · exact (k1 (by rw [← hE]; exact h)).unique (hR1 h)
      · rw [hR2 h]; exact k2 (by rw [← hE]; exact h)
    rw [hRR, ← hE]
    exact ⟨rfl, hb⟩
  by_cases h2 : twoErr ⟨d, u, lo, hi⟩ ⟨d', u', lo', hi'⟩ = 0
  · have hE' : E = farE (if 20 < n then 2 else 0) l := by
      rw [hE]; unfold widErr farE; rw [if_pos h2, ← hl]
      by_cases h20 : 20 < n
      · simp [h20]
      · by_cases hf : anyFar l = true <;> simp [h20, hf]
    obtain ⟨⟨nd, nu, nl, nh⟩, hNar⟩ : ∃ N, narrowed ⟨d, u, lo, hi⟩ ⟨d', u', lo', hi'⟩ = N := ⟨_, rfl⟩
    obtain ⟨F, hF⟩ : ∃ F, F = narErr ⟨d, u, lo, hi⟩ ⟨d', u', lo', hi'⟩ := ⟨_, rfl⟩
    have hF' : F = if nd = false ∧ nu = false ∧ nh < nl then 4 else 0 := by rw [hF]; unfold narErr; rw [if_pos h2, hNar]
    obtain ⟨⟨md, mu, ml, mh⟩, hM⟩ : ∃ M, M = (if F = 0 then narrowed ⟨d, u, lo, hi⟩ ⟨d', u', lo', hi'⟩ else ivZ) := ⟨_, rfl⟩
    refine widen_good a hT d u d' u' lo hi lo' hi' x n c l E rd ru rl rh (errV a E) w hS hA hl (by omega) hE' HW1 nd nu md mu nl nh ml mh (errV a F) F hNar hF' ?_ ?_ ?_ ?_ ?_
    · intro W h
      have := hN d u d' u' lo hi lo' hi' W h r1 r2
      rw [← hF, ← hM] at this
      exact this
    · intro W h
      by_cases hF0 : F = 0
      · rw [if_pos hF0, hNar] at hM
        obtain ⟨rfl, rfl, rfl, rfl⟩ := Iv.mk.inj hM
        subst hF0
        rw [show errV a 0 = .nilIface from rfl]
        refine (isSpan_ok _ _ _ _ _ _ _ _ W).mono ?_
        rintro e w' ⟨rfl, hb⟩
        exact ⟨by simp, hb⟩
      · have hF4 : F = 4 := by rw [hF'] at hF0 ⊢; split at hF0 <;> simp_all
        rw [if_neg hF0] at hM
        obtain ⟨rfl, rfl, rfl, rfl⟩ := Iv.mk.inj hM
        rw [hF4]
        exact isSpan_errZ 4 (by omega) (by omega) a _ _ _ _ W h
    · intro h0 W h
      obtain ⟨rfl, rfl, rfl, rfl⟩ := Iv.mk.inj (hR2 (by omega))
      exact isSpan_errZ E h0 (by omega) a _ _ _ _ W h
    · intro h0
      have hE0 : E = 0 := by omega
      refine ⟨by rw [hE0]; rfl, fun W h => ?_, fun W => ?_⟩
      · refine (widened_any d u d' u' lo hi lo' hi' x n c l W h hl (by omega)).mono ?_
        rintro e w' ⟨⟨R, rfl, k⟩, hb⟩
        rw [k.unique (hR1 hE0)]
        exact ⟨rfl, hb⟩
      · refine (inside_any d u rd ru lo hi rl rh W).mono ?_
        rintro e w' ⟨rfl, hb⟩
        exact ⟨by rw [decide_eq_true (hR1 hE0).inside], hb⟩
    · intro W
      have := twoErr_any d u d' u' lo hi lo' hi' W
      rw [h2] at this
      exact this
  · have hE' : E = twoErr ⟨d, u, lo, hi⟩ ⟨d', u', lo', hi'⟩ := by rw [hE]; unfold widErr; rw [if_neg h2]
    have h0 := twoErr_range ⟨d, u, lo, hi⟩ ⟨d', u', lo', hi'⟩
    obtain ⟨rfl, rfl, rfl, rfl⟩ := Iv.mk.inj (hR2 (by omega))
    refine widen_bad a hT d u d' u' lo hi lo' hi' x n c l E false false 0 0 (errV a E) w hS hA hl (by omega) (by omega) (by omega) HW1 ?_ ?_ ?_
    · intro W h
      have := hN d u d' u' lo hi lo' hi' W h r1 r2
      have e1 : narErr ⟨d, u, lo, hi⟩ ⟨d', u', lo', hi'⟩ = E := by unfold narErr; rw [if_neg h2, hE']
      rw [e1, if_neg (by omega)] at this
      exact this
    · intro W p q r s h
      exact isSpan_errZ E (by omega) (by omega) a p q r s W h
    · intro W
      have := twoErr_any d u d' u' lo hi lo' hi' W
      rw [← hE'] at this
      exact this

end Go.Proofs.YtijbjahedfmfgaaDoor
