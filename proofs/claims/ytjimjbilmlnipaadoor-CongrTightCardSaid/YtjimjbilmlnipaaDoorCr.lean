/- The walk of CongrTight, by what is asked of the program's functions. -/
import Derived.Test.YtjimjbilmlnipaaDoorCg
import Derived.Test.YtjimjbilmlnipaaDoorCt
import Derived.Test.YtjimjbilmlnipaaDoorKt
import Derived.Deep.DeepCutAuto
import Derived.Deep.CutBlock
namespace Go.Proofs.YtjimjbilmlnipaaDoor
open Go.RowKit
set_option linter.unusedVariables false

set_option maxRecDepth 20000 in
set_option maxHeartbeats 8000000 in
theorem ctight_walk (a : Nat → Addr) (hT : SixthC a) (r m : Int) (d u : Bool) (lo hi : Int) (w : World) (hS : Sents w a) (E jl jh : Int) (jd ju jb : Bool) (v : Value) (hE : 0 ≤ E)
    (HE : Hid (E = if cgErr r m = 0 then ivErr d u lo hi else cgErr r m))
    (HJ : Hid (∀ W : World, Sents W a → Calls Tryd.prog 29 #[(.agg #[.int .i64 r, .int .i64 m]), (.agg #[.bool d, .bool u, .int .i64 lo, .int .i64 hi])] W fun x w' => x = .returned (.tuple #[(.agg #[.bool jd, .bool ju, .int .i64 jl, .int .i64 jh]), .bool jb, v]) ∧ Below W.heap.size W w'))
    (HS : Hid (0 < E → ∀ W : World, Sents W a → Calls Tryd.prog 30 #[(.agg #[.bool jd, .bool ju, .int .i64 jl, .int .i64 jh]), v, (.agg #[.bool jd, .bool ju, .int .i64 jl, .int .i64 jh]), .int .i64 E] W fun x w' => x = .returned (.bool true) ∧ Below W.heap.size W w'))
    (HB0 : Hid (0 < E → jb = false))
    (HG : Hid (E = 0 → v = .nilIface ∧ okC ⟨r, m⟩ ∧ okI ⟨d, u, lo, hi⟩ ∧ TightS ⟨r, m⟩ ⟨d, u, lo, hi⟩ ⟨jd, ju, jl, jh⟩ jb)) :
    Calls Tryd.prog 7 #[(.agg #[.int .i64 r, .int .i64 m]), (.agg #[.bool d, .bool u, .int .i64 lo, .int .i64 hi])] w fun x w' => x = .returned (.bool true) ∧ Below w.heap.size w w' := by
  have HO : Hid (∀ (p q : Int) (W : World), Calls Tryd.prog 14 #[(.agg #[.int .i64 p, .int .i64 q])] W fun e w' => e = .returned (.agg #[.int .i64 p, .int .i64 q]) ∧ Below W.heap.size W w') := own_any
  obtain ⟨E1, hE1⟩ : ∃ E1, E1 = cgErr r m := ⟨_, rfl⟩
  obtain ⟨E2, hE2⟩ : ∃ E2, E2 = ivErr d u lo hi := ⟨_, rfl⟩
  have HC : Hid (∀ W : World, Calls Tryd.prog 11 #[(.agg #[.int .i64 r, .int .i64 m])] W fun e w' => e = .returned (.int .i64 E1) ∧ Below W.heap.size W w') := fun W => by rw [hE1]; exact cgErr_any r m W
  have HI : Hid (∀ W : World, Calls Tryd.prog 28 #[(.agg #[.bool d, .bool u, .int .i64 lo, .int .i64 hi])] W fun e w' => e = .returned (.int .i64 E2) ∧ Below W.heap.size W w') := fun W => by rw [hE2]; exact ivErr_any d u lo hi W
  rw [← hE1, ← hE2] at HE
  clear hE1 hE2
  go_enter Tryd.func7, Tryd.ntmps7
  go_wp2_with fail
  have s0 := ((St.start hS).box2 23 (.int .i64 r) (.int .i64 m)).box4 50 (.bool d) (.bool u) (.int .i64 lo) (.int .i64 hi)
  simp only [World.size_alloc] at s0
  refine (hT _ s0.sents.errs).mono ?_
  (rintro x1 w1 ⟨rfl, hb⟩; have s1 := s0.call hb; have q1 := s1.hold; simp only [Holds, and_true] at q1; clear hb s0; try clear q0)
  go_wp2_with fail
  refine (HC.out _).mono ?_
  (rintro x1 w2 ⟨rfl, hb⟩; have s2 := s1.call hb; have q2 := s2.hold; simp only [Holds, and_true] at q2; clear hb s1; try clear q1)
  go_upto_if 18 with fail
  go_cut [6] (fun s6 wx => s6 = .int .i64 E ∧ St w wx (SZ a) ((w.heap.size + 1, 0, Value.bool d) :: (w.heap.size + 1, 1, Value.bool u) :: (w.heap.size + 1, 2, Value.int .i64 lo) :: (w.heap.size + 1, 3, Value.int .i64 hi) :: (w.heap.size, 0, Value.int .i64 r) :: (w.heap.size, 1, Value.int .i64 m) :: []))
  case first =>
    by_cases h1 : E1 = 0
    · have hE' : E2 = E := by have := HE.out; rw [if_pos h1] at this; omega
      go_wp2_with fail
      refine (HI.out _).mono ?_
      rintro x1 w3 ⟨rfl, hb3⟩
      have s3 := s2.call hb3
      clear hb3
      go_wp2_with fail
      go_meet
      case rel => exact ⟨by first | rfl | rw [hE'], s3⟩
    · have hE' : E1 = E := by have := HE.out; rw [if_neg h1] at this; omega
      go_wp2_with fail
      go_meet
      case rel => exact ⟨by first | rfl | rw [hE'], s2⟩
  case rest =>
  clear s2 q2
  obtain ⟨rfl, s2⟩ := hcut
  have q2 := s2.hold
  simp only [Holds, and_true] at q2
  go_upto_region 7 with fail
  go_cut [7, 8, 9] (fun s7 s8 s9 wx => s8 = .bool jb ∧ v = s9 ∧ ∃ bj : Nat, s7 = .pointer (some ⟨bj, 0, none⟩) ∧ w.heap.size + 1 < bj ∧ St w wx (SZ a) ((bj, 0, Value.bool jd) :: (bj, 1, Value.bool ju) :: (bj, 2, Value.int .i64 jl) :: (bj, 3, Value.int .i64 jh) :: (w.heap.size + 1, 0, Value.bool d) :: (w.heap.size + 1, 1, Value.bool u) :: (w.heap.size + 1, 2, Value.int .i64 lo) :: (w.heap.size + 1, 3, Value.int .i64 hi) :: (w.heap.size, 0, Value.int .i64 r) :: (w.heap.size, 1, Value.int .i64 m) :: []))
  case first =>
    have hwB := s2.bel.size
    have k2 := s2.hold
    have hlt : w.heap.size + 1 < wc.heap.size := s2.hold.1.2.1
    go_region_held3 (fun w' => w'.cell? ⟨w.heap.size + 1, 0, none⟩ = some (.bool d) ∧ w'.cell? ⟨w.heap.size + 1, 1, none⟩ = some (.bool u) ∧ w'.cell? ⟨w.heap.size + 1, 2, none⟩ = some (.int .i64 lo) ∧ w'.cell? ⟨w.heap.size + 1, 3, none⟩ = some (.int .i64 hi) ∧ w'.cell? ⟨w.heap.size, 0, none⟩ = some (.int .i64 r) ∧ w'.cell? ⟨w.heap.size, 1, none⟩ = some (.int .i64 m) ∧ St w w' (SZ a) ((w.heap.size + 1, 0, Value.bool d) :: (w.heap.size + 1, 1, Value.bool u) :: (w.heap.size + 1, 2, Value.int .i64 lo) :: (w.heap.size + 1, 3, Value.int .i64 hi) :: (w.heap.size, 0, Value.int .i64 r) :: (w.heap.size, 1, Value.int .i64 m) :: [])) (first | (exact keepSt0 (((w.heap.size + 1, 0, Value.bool d) :: (w.heap.size + 1, 1, Value.bool u) :: (w.heap.size + 1, 2, Value.int .i64 lo) :: (w.heap.size + 1, 3, Value.int .i64 hi) :: (w.heap.size, 0, Value.int .i64 r) :: (w.heap.size, 1, Value.int .i64 m) :: [])) s2.drew) | (exact keepSt (((w.heap.size + 1, 0, Value.bool d) :: (w.heap.size + 1, 1, Value.bool u) :: (w.heap.size + 1, 2, Value.int .i64 lo) :: (w.heap.size + 1, 3, Value.int .i64 hi) :: (w.heap.size, 0, Value.int .i64 r) :: (w.heap.size, 1, Value.int .i64 m) :: [])) (by assumption) (by assumption)) | (exact keepSt0 (((w.heap.size + 1, 0, Value.bool d) :: (w.heap.size + 1, 1, Value.bool u) :: (w.heap.size + 1, 2, Value.int .i64 lo) :: (w.heap.size + 1, 3, Value.int .i64 hi) :: (w.heap.size, 0, Value.int .i64 r) :: (w.heap.size, 1, Value.int .i64 m) :: [])) ((s5.late k2 hwB (by first | exact Nat.le_refl _ | exact hb4.size) hx5 _ _ _ _).drop 4)) | (exact keepSt0 (((w.heap.size + 1, 0, Value.bool d) :: (w.heap.size + 1, 1, Value.bool u) :: (w.heap.size + 1, 2, Value.int .i64 lo) :: (w.heap.size + 1, 3, Value.int .i64 hi) :: (w.heap.size, 0, Value.int .i64 r) :: (w.heap.size, 1, Value.int .i64 m) :: [])) (s5.alloc _)) | (exact keepSt (((w.heap.size + 1, 0, Value.bool d) :: (w.heap.size + 1, 1, Value.bool u) :: (w.heap.size + 1, 2, Value.int .i64 lo) :: (w.heap.size + 1, 3, Value.int .i64 hi) :: (w.heap.size, 0, Value.int .i64 r) :: (w.heap.size, 1, Value.int .i64 m) :: [])) (Below.refl _ _).drew (by assumption)) | (exact keepSt0 (((w.heap.size + 1, 0, Value.bool d) :: (w.heap.size + 1, 1, Value.bool u) :: (w.heap.size + 1, 2, Value.int .i64 lo) :: (w.heap.size + 1, 3, Value.int .i64 hi) :: (w.heap.size, 0, Value.int .i64 r) :: (w.heap.size, 1, Value.int .i64 m) :: [])) ((keepSt_st (((w.heap.size + 1, 0, Value.bool d) :: (w.heap.size + 1, 1, Value.bool u) :: (w.heap.size + 1, 2, Value.int .i64 lo) :: (w.heap.size + 1, 3, Value.int .i64 hi) :: (w.heap.size, 0, Value.int .i64 r) :: (w.heap.size, 1, Value.int .i64 m) :: [])) (by assumption)).alloc _)) | (exact keepSt0 (((w.heap.size + 1, 0, Value.bool d) :: (w.heap.size + 1, 1, Value.bool u) :: (w.heap.size + 1, 2, Value.int .i64 lo) :: (w.heap.size + 1, 3, Value.int .i64 hi) :: (w.heap.size, 0, Value.int .i64 r) :: (w.heap.size, 1, Value.int .i64 m) :: [])) ((keepSt_st (((w.heap.size + 1, 0, Value.bool d) :: (w.heap.size + 1, 1, Value.bool u) :: (w.heap.size + 1, 2, Value.int .i64 lo) :: (w.heap.size + 1, 3, Value.int .i64 hi) :: (w.heap.size, 0, Value.int .i64 r) :: (w.heap.size, 1, Value.int .i64 m) :: [])) (by assumption)).alloc _).drew))
      (first
        | (go_at_call 14; refine (HO.out r m _).mono ?_; rintro e w4 ⟨rfl, hb4⟩; have s4 := (keepSt_st ((w.heap.size + 1, 0, Value.bool d) :: (w.heap.size + 1, 1, Value.bool u) :: (w.heap.size + 1, 2, Value.int .i64 lo) :: (w.heap.size + 1, 3, Value.int .i64 hi) :: (w.heap.size, 0, Value.int .i64 r) :: (w.heap.size, 1, Value.int .i64 m) :: []) (by assumption)).call hb4; first | (have hx4 := boxed hb4) | (have hx4 := boxed' hb4) | skip)
        | (go_at_call 29; refine (HJ.out _ (keepSt_st ((w.heap.size + 1, 0, Value.bool d) :: (w.heap.size + 1, 1, Value.bool u) :: (w.heap.size + 1, 2, Value.int .i64 lo) :: (w.heap.size + 1, 3, Value.int .i64 hi) :: (w.heap.size, 0, Value.int .i64 r) :: (w.heap.size, 1, Value.int .i64 m) :: []) (by assumption)).sents).mono ?_; rintro e w5 ⟨rfl, hb5⟩; have s5 := (keepSt_st ((w.heap.size + 1, 0, Value.bool d) :: (w.heap.size + 1, 1, Value.bool u) :: (w.heap.size + 1, 2, Value.int .i64 lo) :: (w.heap.size + 1, 3, Value.int .i64 hi) :: (w.heap.size, 0, Value.int .i64 r) :: (w.heap.size, 1, Value.int .i64 m) :: []) (by assumption)).call hb5; first | (have hx5 := hx4.below hb5; clear hx4; have ho5 := hx5; simp only [Holds, and_true] at ho5) | (have hx5 := boxed hb5; have ho5 := hx5; simp only [Holds, and_true] at ho5) | (have hx5 := boxed' hb5; have ho5 := hx5; simp only [Holds, and_true] at ho5) | skip))
    all_goals
      go_wp2_with fail
      go_meet
      case rel => first
        | exact ⟨rfl, rfl, _, rfl, Nat.lt_of_lt_of_le hlt (Nat.le_trans hb4.size hb5.size), s5.box4 50 _ _ _ _⟩
        | exact ⟨rfl, rfl, _, rfl, (by first | exact hlt | exact Nat.lt_of_lt_of_le hlt hb4.size), s5.late k2 hwB (by first | exact Nat.le_refl _ | exact hb4.size) hx5 _ _ _ _⟩
  case rest =>
  clear s2 q2
  obtain ⟨rfl, rfl, bj, rfl, hbj, s6⟩ := hcut
  have q6 := s6.hold
  simp only [Holds, and_true] at q6
  by_cases hE0 : 0 < E
  · have hj0 := HB0.out hE0
    subst hj0
    go_wp2_with fail
    refine (HS.out hE0 _ s6.sents).mono ?_
    (rintro x1 w7 ⟨rfl, hb⟩; have s7 := s6.call hb; have q7 := s7.hold; simp only [Holds, and_true] at q7; clear hb s6; try clear q6)
    go_wp2_with fail
    go_ret
    exact ⟨ret_bool (by simp), s7.bel⟩
  · obtain ⟨rfl, ok1, ok2, hM⟩ := HG.out (by omega)
    have ob1 := okC_b ok1
    dsimp only at ob1
    have HM := hide hM
    have OK1 := hide ok1
    have OK2 := hide ok2
    have hE00 : E = 0 := by omega
    subst hE00
    clear hM ok1 ok2
    have HF : Hid (∀ (n : Int) (W : World), Calls Tryd.prog 10 #[.int .i64 n, .int .i64 1073741824] W fun e w' => e = .returned (.bool (farB n 1073741824)) ∧ w' = W) := fun n W => far_any n 1073741824 W (by omega) (by omega)
    by_cases hfar : farB lo 1073741824 = true ∨ farB hi 1073741824 = true ∨ 5000 < m ∨ farB r 1073741824 = true
    · cases f1 : farB lo 1073741824 <;> cases f2 : farB hi 1073741824 <;> cases f3 : farB r 1073741824 <;> by_cases f4 : 5000 < m
      all_goals
        first
        | (exfalso; simp_all; done)
        | (go_wp2_with (go_at_call 10; refine (HF.out _ _).mono ?_; rintro e w9 ⟨rfl, hw9⟩; rw [hw9]; clear hw9)
           all_goals
             go_ret
             exact ⟨ret_bool (by simp), s6.bel⟩)
    · have f1 : farB lo 1073741824 = false := by simpa using fun h => hfar (.inl h)
      have f2 : farB hi 1073741824 = false := by simpa using fun h => hfar (.inr (.inl h))
      have f4 : ¬ 5000 < m := fun h => hfar (.inr (.inr (.inl h)))
      have f3 : farB r 1073741824 = false := by simpa using fun h => hfar (.inr (.inr (.inr h)))
      clear hfar
      have g1 : -1073741824 ≤ lo ∧ lo ≤ 1073741824 := by unfold farB at f1; simp at f1; omega
      have g2 : -1073741824 ≤ hi ∧ hi ≤ 1073741824 := by unfold farB at f2; simp at f2; omega
      have g3 : -1073741824 ≤ r ∧ r ≤ 1073741824 := by unfold farB at f3; simp at f3; omega
      by_cases hm0 : m = 0
      · subst hm0
        obtain ⟨t1, t2⟩ := tight_one (A := ⟨r, 0⟩) rfl ob1.1 HM.out
        dsimp only at t1 t2
        have hIn : ∀ W : World, Calls Tryd.prog 31 #[(.agg #[.bool d, .bool u, .int .i64 lo, .int .i64 hi]), .int .i64 r] W fun e w' => e = .returned (.bool (inB ⟨d, u, lo, hi⟩ r)) ∧ Below W.heap.size W w' := fun W => inOf_any d u lo hi r W
        cases hb : inB ⟨d, u, lo, hi⟩ r
        · rw [hb] at t1 hIn
          subst t1
          obtain ⟨rfl, rfl, rfl, rfl⟩ := Iv.mk.inj (HM.out.none rfl)
          have hEq := fun W => eqIv false false false false 0 0 0 0 W
          have HIN := hide hIn
          clear t2 hb hIn
          go_wp2_with (first | (go_at_call 10; refine (HF.out _ _).mono ?_; rintro e w9 ⟨rfl, hw9⟩; rw [hw9]; clear hw9) | (go_at_call 31; refine (HIN.out _).mono ?_; rintro e w7 ⟨rfl, hb7⟩; have s7 := s6.call hb7; have q7 := s7.hold; simp only [Holds, and_true] at q7; clear hb7 q6))
          all_goals
            go_ret
            exact ⟨ret_bool (by simp), s7.bel⟩
        · rw [hb] at t1 hIn
          subst t1
          obtain ⟨rfl, rfl, rfl, rfl⟩ := Iv.mk.inj (t2 rfl)
          have HIN := hide hIn
          clear t2 hb hIn
          go_wp2_with (first | (go_at_call 10; refine (HF.out _ _).mono ?_; rintro e w9 ⟨rfl, hw9⟩; rw [hw9]; clear hw9) | (go_at_call 31; refine (HIN.out _).mono ?_; rintro e w7 ⟨rfl, hb7⟩; have s7 := s6.call hb7; have q7 := s7.hold; simp only [Holds, and_true] at q7; clear hb7 q6) | (go_at_call 30; refine (isSpan_ok _ _ _ _ _ _ _ _ _).mono ?_; rintro e w8 ⟨rfl, hb8⟩; have s8 := s7.call hb8; clear hb8))
          all_goals
            go_ret
            exact ⟨ret_bool (by simp), s8.bel⟩
      · have hm1 : 0 < m := by omega
        have e0 : (m == 0) = false := by simp [hm0]
        have FT := hide (tight_facts (A := ⟨r, m⟩) (B := ⟨d, u, lo, hi⟩) OK2.out hm1 (show m ≤ 5000 by omega) g3 g1 g2 HM.out)
        have nr := nxt_r (r := r) hm1 lo
        have pr := prv_r (r := r) hm1 hi
        have f4' : m ≤ 5000 := by omega
        obtain ⟨bw, hbw⟩ : ∃ b, b = wc.heap.size := ⟨_, rfl⟩
        have hap : Apart bw ((bj, 0, Value.bool jd) :: (bj, 1, Value.bool ju) :: (bj, 2, Value.int .i64 jl) :: (bj, 3, Value.int .i64 jh) :: (w.heap.size + 1, 0, Value.bool d) :: (w.heap.size + 1, 1, Value.bool u) :: (w.heap.size + 1, 2, Value.int .i64 lo) :: (w.heap.size + 1, 3, Value.int .i64 hi) :: (w.heap.size, 0, Value.int .i64 r) :: (w.heap.size, 1, Value.int .i64 m) :: []) := by rw [hbw]; exact s6.hold.older
        have hbw2 : w.heap.size ≤ bw := by rw [hbw]; exact s6.bel.size
        have s7 : St w (wc.alloc (.cells #[.bool d, .bool u, .int .i64 lo, .int .i64 hi] 50)) (SZ a) ((bw, 0, Value.bool d) :: (bw, 1, Value.bool u) :: (bw, 2, Value.int .i64 lo) :: (bw, 3, Value.int .i64 hi) :: ((bj, 0, Value.bool jd) :: (bj, 1, Value.bool ju) :: (bj, 2, Value.int .i64 jl) :: (bj, 3, Value.int .i64 jh) :: (w.heap.size + 1, 0, Value.bool d) :: (w.heap.size + 1, 1, Value.bool u) :: (w.heap.size + 1, 2, Value.int .i64 lo) :: (w.heap.size + 1, 3, Value.int .i64 hi) :: (w.heap.size, 0, Value.int .i64 r) :: (w.heap.size, 1, Value.int .i64 m) :: [])) := by rw [hbw]; exact s6.box4 50 _ _ _ _
        cases d <;> cases u
        · go_wp2_with (go_at_call 10; refine (HF.out _ _).mono ?_; rintro e w9 ⟨rfl, hw9⟩; rw [hw9]; clear hw9)
          rw [← hbw]
          have HBW := hide hbw
          clear hbw q6
          go_loopg [98] ((nxt r m lo - lo).toNat) (fun g s98 wr => ∃ x : Int, x + g = nxt r m lo ∧ lo ≤ x ∧ St w wr (SZ a) ((bw, 0, Value.bool false) :: (bw, 1, Value.bool false) :: (bw, 2, Value.int .i64 x) :: (bw, 3, Value.int .i64 hi) :: (bj, 0, Value.bool jd) :: (bj, 1, Value.bool ju) :: (bj, 2, Value.int .i64 jl) :: (bj, 3, Value.int .i64 jh) :: (w.heap.size + 1, 0, Value.bool false) :: (w.heap.size + 1, 1, Value.bool false) :: (w.heap.size + 1, 2, Value.int .i64 lo) :: (w.heap.size + 1, 3, Value.int .i64 hi) :: (w.heap.size, 0, Value.int .i64 r) :: (w.heap.size, 1, Value.int .i64 m) :: []))
          case atStart => exact ⟨lo, by omega, Int.le_refl _, s7⟩
          case round =>
            obtain ⟨x, hxg, hx1, t7⟩ := hrel
            have p7 := t7.hold
            simp only [Holds, and_true] at p7
            have HLV := hide (fun W => leaves_any r m x (by omega) ob1.1 ob1.2.1 W)
            rw [leaves_nxt (r := r) (x := x) hm1 hx1 (by omega)] at HLV
            by_cases hxe : x = nxt r m lo
            · rw [decide_eq_true hxe] at HLV
              subst hxe
              go_wp2_with fail
              refine (HLV.out _).mono ?_
              rintro e w8 ⟨rfl, hb8⟩
              have u7 := t7.call hb8
              clear hb8 p7 t7
              have qn := u7.hold
              simp only [Holds, and_true] at qn
              go_wp2_with fail
              go_loopg [110] ((hi - prv r m hi).toNat) (fun g s98 wr => ∃ x : Int, x - g = prv r m hi ∧ x ≤ hi ∧ St w wr (SZ a) ((bw, 0, Value.bool false) :: (bw, 1, Value.bool false) :: (bw, 2, Value.int .i64 (nxt r m lo)) :: (bw, 3, Value.int .i64 x) :: (bj, 0, Value.bool jd) :: (bj, 1, Value.bool ju) :: (bj, 2, Value.int .i64 jl) :: (bj, 3, Value.int .i64 jh) :: (w.heap.size + 1, 0, Value.bool false) :: (w.heap.size + 1, 1, Value.bool false) :: (w.heap.size + 1, 2, Value.int .i64 lo) :: (w.heap.size + 1, 3, Value.int .i64 hi) :: (w.heap.size, 0, Value.int .i64 r) :: (w.heap.size, 1, Value.int .i64 m) :: []))
              case atStart => exact ⟨hi, by omega, Int.le_refl _, u7⟩
              case round =>
                obtain ⟨x, hxg, hx1, t7⟩ := hrel
                have p7 := t7.hold
                simp only [Holds, and_true] at p7
                have HLV := hide (fun W => leaves_any r m x (by omega) ob1.1 ob1.2.1 W)
                rw [leaves_prv (r := r) (x := x) hm1 hx1 (by omega)] at HLV
                by_cases hxe : x = prv r m hi
                · rw [decide_eq_true hxe] at HLV
                  subst hxe
                  go_wp2_with fail
                  refine (HLV.out _).mono ?_
                  rintro e w8 ⟨rfl, hb8⟩
                  have v7 := t7.call hb8
                  clear hb8 p7 t7
                  have qn := v7.hold
                  simp only [Holds, and_true] at qn
                  by_cases hno : (prv r m hi) < (nxt r m lo)
                  · obtain ⟨fb, fz⟩ := FT.out.1 (by simpa [wantT] using hno)
                    subst fb
                    obtain ⟨rfl, rfl, rfl, rfl⟩ := Iv.mk.inj fz
                    have hEq := fun W => eqIv false false false false 0 0 0 0 W
                    clear fz
                    go_wp2_with fail
                    all_goals
                      go_ret
                      exact ⟨ret_bool (by simp), v7.bel⟩
                  · obtain ⟨fb, fz⟩ := FT.out.2 (by simp [wantT]; omega)
                    subst fb
                    obtain ⟨rfl, rfl, rfl, rfl⟩ := Iv.mk.inj fz
                    clear fz
                    go_wp2_with fail
                    refine (isSpan_ok _ _ _ _ _ _ _ _ _).mono ?_
                    rintro e wz ⟨rfl, hbz⟩
                    have sz := v7.call hbz
                    go_wp2_with fail
                    all_goals
                      go_ret
                      exact ⟨ret_bool (by simp), sz.bel⟩
                · rw [decide_eq_false hxe] at HLV
                  go_wp2_with fail
                  refine (HLV.out _).mono ?_
                  rintro e w8 ⟨rfl, hb8⟩
                  have s8 := t7.call hb8
                  have q8 := s8.hold
                  simp only [Holds, and_true] at q8
                  have s9 := s8.put3 (by omega) hap (.int .i64 (x - 1))
                  clear hb8 p7 t7
                  go_wp2_with fail
                  go_roundg ((x - 1 - prv r m hi).toNat)
                  case measure => omega
                  case rel => exact ⟨x - 1, by omega, by omega, s9⟩
            · rw [decide_eq_false hxe] at HLV
              go_wp2_with fail
              refine (HLV.out _).mono ?_
              rintro e w8 ⟨rfl, hb8⟩
              have s8 := t7.call hb8
              have q8 := s8.hold
              simp only [Holds, and_true] at q8
              have s9 := s8.put2 (by omega) hap (.int .i64 (x + 1))
              clear hb8 p7 t7
              go_wp2_with fail
              go_roundg ((nxt r m lo - (x + 1)).toNat)
              case measure => omega
              case rel => exact ⟨x + 1, by omega, by omega, s9⟩
        · go_wp2_with (go_at_call 10; refine (HF.out _ _).mono ?_; rintro e w9 ⟨rfl, hw9⟩; rw [hw9]; clear hw9)
          rw [← hbw]
          have HBW := hide hbw
          clear hbw q6
          go_loopg [98] ((nxt r m lo - lo).toNat) (fun g s98 wr => ∃ x : Int, x + g = nxt r m lo ∧ lo ≤ x ∧ St w wr (SZ a) ((bw, 0, Value.bool false) :: (bw, 1, Value.bool true) :: (bw, 2, Value.int .i64 x) :: (bw, 3, Value.int .i64 hi) :: (bj, 0, Value.bool jd) :: (bj, 1, Value.bool ju) :: (bj, 2, Value.int .i64 jl) :: (bj, 3, Value.int .i64 jh) :: (w.heap.size + 1, 0, Value.bool false) :: (w.heap.size + 1, 1, Value.bool true) :: (w.heap.size + 1, 2, Value.int .i64 lo) :: (w.heap.size + 1, 3, Value.int .i64 hi) :: (w.heap.size, 0, Value.int .i64 r) :: (w.heap.size, 1, Value.int .i64 m) :: []))
          case atStart => exact ⟨lo, by omega, Int.le_refl _, s7⟩
          case round =>
            obtain ⟨x, hxg, hx1, t7⟩ := hrel
            have p7 := t7.hold
            simp only [Holds, and_true] at p7
            have HLV := hide (fun W => leaves_any r m x (by omega) ob1.1 ob1.2.1 W)
            rw [leaves_nxt (r := r) (x := x) hm1 hx1 (by omega)] at HLV
            by_cases hxe : x = nxt r m lo
            · rw [decide_eq_true hxe] at HLV
              subst hxe
              go_wp2_with fail
              refine (HLV.out _).mono ?_
              rintro e w8 ⟨rfl, hb8⟩
              have u7 := t7.call hb8
              clear hb8 p7 t7
              have qn := u7.hold
              simp only [Holds, and_true] at qn
              obtain ⟨fb, fz⟩ := FT.out.2 (by simp [wantT])
              subst fb
              obtain ⟨rfl, rfl, rfl, rfl⟩ := Iv.mk.inj fz
              clear fz
              go_wp2_with fail
              refine (isSpan_ok _ _ _ _ _ _ _ _ _).mono ?_
              rintro e wz ⟨rfl, hbz⟩
              have sz := u7.call hbz
              go_wp2_with fail
              all_goals
                go_ret
                exact ⟨ret_bool (by simp), sz.bel⟩
            · rw [decide_eq_false hxe] at HLV
              go_wp2_with fail
              refine (HLV.out _).mono ?_
              rintro e w8 ⟨rfl, hb8⟩
              have s8 := t7.call hb8
              have q8 := s8.hold
              simp only [Holds, and_true] at q8
              have s9 := s8.put2 (by omega) hap (.int .i64 (x + 1))
              clear hb8 p7 t7
              go_wp2_with fail
              go_roundg ((nxt r m lo - (x + 1)).toNat)
              case measure => omega
              case rel => exact ⟨x + 1, by omega, by omega, s9⟩
        · go_wp2_with (go_at_call 10; refine (HF.out _ _).mono ?_; rintro e w9 ⟨rfl, hw9⟩; rw [hw9]; clear hw9)
          rw [← hbw]
          have HBW := hide hbw
          clear hbw q6
          go_loopg [110] ((hi - prv r m hi).toNat) (fun g s98 wr => ∃ x : Int, x - g = prv r m hi ∧ x ≤ hi ∧ St w wr (SZ a) ((bw, 0, Value.bool true) :: (bw, 1, Value.bool false) :: (bw, 2, Value.int .i64 (lo)) :: (bw, 3, Value.int .i64 x) :: (bj, 0, Value.bool jd) :: (bj, 1, Value.bool ju) :: (bj, 2, Value.int .i64 jl) :: (bj, 3, Value.int .i64 jh) :: (w.heap.size + 1, 0, Value.bool true) :: (w.heap.size + 1, 1, Value.bool false) :: (w.heap.size + 1, 2, Value.int .i64 lo) :: (w.heap.size + 1, 3, Value.int .i64 hi) :: (w.heap.size, 0, Value.int .i64 r) :: (w.heap.size, 1, Value.int .i64 m) :: []))
          case atStart => exact ⟨hi, by omega, Int.le_refl _, s7⟩
          case round =>
            obtain ⟨x, hxg, hx1, t7⟩ := hrel
            have p7 := t7.hold
            simp only [Holds, and_true] at p7
            have HLV := hide (fun W => leaves_any r m x (by omega) ob1.1 ob1.2.1 W)
            rw [leaves_prv (r := r) (x := x) hm1 hx1 (by omega)] at HLV
            by_cases hxe : x = prv r m hi
            · rw [decide_eq_true hxe] at HLV
              subst hxe
              go_wp2_with fail
              refine (HLV.out _).mono ?_
              rintro e w8 ⟨rfl, hb8⟩
              have v7 := t7.call hb8
              clear hb8 p7 t7
              have qn := v7.hold
              simp only [Holds, and_true] at qn
              obtain ⟨fb, fz⟩ := FT.out.2 (by simp [wantT])
              subst fb
              obtain ⟨rfl, rfl, rfl, rfl⟩ := Iv.mk.inj fz
              clear fz
              go_wp2_with fail
              refine (isSpan_ok _ _ _ _ _ _ _ _ _).mono ?_
              rintro e wz ⟨rfl, hbz⟩
              have sz := v7.call hbz
              go_wp2_with fail
              all_goals
                go_ret
                exact ⟨ret_bool (by simp), sz.bel⟩
            · rw [decide_eq_false hxe] at HLV
              go_wp2_with fail
              refine (HLV.out _).mono ?_
              rintro e w8 ⟨rfl, hb8⟩
              have s8 := t7.call hb8
              have q8 := s8.hold
              simp only [Holds, and_true] at q8
              have s9 := s8.put3 (by omega) hap (.int .i64 (x - 1))
              clear hb8 p7 t7
              go_wp2_with fail
              go_roundg ((x - 1 - prv r m hi).toNat)
              case measure => omega
              case rel => exact ⟨x - 1, by omega, by omega, s9⟩
        · obtain ⟨fb, fz⟩ := FT.out.2 (by simp [wantT])
          subst fb
          obtain ⟨rfl, rfl, rfl, rfl⟩ := Iv.mk.inj fz
          clear fz
          go_wp2_with (go_at_call 10; refine (HF.out _ _).mono ?_; rintro e w9 ⟨rfl, hw9⟩; rw [hw9]; clear hw9)
          refine (isSpan_ok _ _ _ _ _ _ _ _ _).mono ?_
          rintro e wz ⟨rfl, hbz⟩
          have sz := s7.call hbz
          go_wp2_with fail
          all_goals
            go_ret
            exact ⟨ret_bool (by simp), sz.bel⟩

end Go.Proofs.YtjimjbilmlnipaaDoor
