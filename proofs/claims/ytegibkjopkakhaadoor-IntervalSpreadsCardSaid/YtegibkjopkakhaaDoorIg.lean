/- The walk of IntervalSpreads, by what is asked of the program's functions. -/
import Derived.Test.YtegibkjopkakhaaDoorIu
namespace Go.Proofs.YtegibkjopkakhaaDoor
open Go.RowKit

theorem joined_ok {A B : Iv} (h1 : okI A) (h2 : okI B) : okI (joined A B) := by
  obtain ⟨o1, o2, o3, o4, o5, o6, o7⟩ := h1
  obtain ⟨p1, p2, p3, p4, p5, p6, p7⟩ := h2
  obtain ⟨d, u, lo, hi⟩ := A
  obtain ⟨d', u', lo', hi'⟩ := B
  unfold joined okI
  dsimp only at *
  grind

theorem joined_left {A B : Iv} (n : Int) (h : inI A n) : inI (joined A B) n := by
  obtain ⟨d, u, lo, hi⟩ := A
  obtain ⟨d', u', lo', hi'⟩ := B
  unfold joined inI at *
  dsimp only at *
  grind

theorem twoErr_as' (d u d' u' : Bool) (lo hi lo' hi' : Int) (e : Int) (he : Hid (twoErr ⟨d, u, lo, hi⟩ ⟨d', u', lo', hi'⟩ = e)) (w : World) :
    Calls Tryd.prog 8 #[(.agg #[.bool d, .bool u, .int .i64 lo, .int .i64 hi]), (.agg #[.bool d', .bool u', .int .i64 lo', .int .i64 hi'])] w fun x w' => x = .returned (.int .i64 e) ∧ Below w.heap.size w w' := by
  rw [← he.out]; exact twoErr_any d u d' u' lo hi lo' hi' w
theorem ivErr_as (d u : Bool) (lo hi e : Int) (he : Hid (ivErr d u lo hi = e)) (w : World) :
    Calls Tryd.prog 22 #[(.agg #[.bool d, .bool u, .int .i64 lo, .int .i64 hi])] w fun x w' => x = .returned (.int .i64 e) ∧ Below w.heap.size w w' := by
  rw [← he.out]; exact ivErr_any d u lo hi w

set_option maxHeartbeats 1000000 in
theorem spreads_out (a : Nat → Addr) (hT : ThreeC a) (d u d' u' d2 u2 : Bool) (lo hi lo' hi' lo2 hi2 : Int) (w : World) (hS : ErrS w a) (h : ¬ (okI ⟨d, u, lo, hi⟩ ∧ okI ⟨d', u', lo', hi'⟩ ∧ okI ⟨d2, u2, lo2, hi2⟩)) :
    Calls Tryd.prog 6 #[(.agg #[.bool d, .bool u, .int .i64 lo, .int .i64 hi]), (.agg #[.bool d', .bool u', .int .i64 lo', .int .i64 hi']), (.agg #[.bool d2, .bool u2, .int .i64 lo2, .int .i64 hi2])] w fun x w' => x = .returned (.bool true) ∧ Below w.heap.size w w' := by
  by_cases h1 : twoErr ⟨d, u, lo, hi⟩ ⟨d', u', lo', hi'⟩ = 0
  · have h2 : ivErr d2 u2 lo2 hi2 ≠ 0 := fun e => h ⟨((twoErr_ok _ _).1 h1).1, ((twoErr_ok _ _).1 h1).2, (okI_iff ⟨d2, u2, lo2, hi2⟩).1 e⟩
    obtain ⟨e, he⟩ : ∃ e, e = ivErr d2 u2 lo2 hi2 := ⟨_, rfl⟩
    have he0 : 0 < e := by have := (ivErr_range d2 u2 lo2 hi2).1; omega
    have He := hide he.symm
    have H1 := hide h1
    clear h h1 he h2
    (go_enter Tryd.func6, Tryd.ntmps6; go_wp2_with fail; have s0 := (((St.startE hS).box4 23 (.bool d) (.bool u) (.int .i64 lo) (.int .i64 hi)).box4 23 (.bool d') (.bool u') (.int .i64 lo') (.int .i64 hi')).box4 23 (.bool d2) (.bool u2) (.int .i64 lo2) (.int .i64 hi2); simp only [World.size_alloc] at s0; refine (hT _ s0.errz).mono ?_; (rintro x1 w1 ⟨rfl, hb⟩; have s1 := s0.call hb; have q1 := s1.hold; simp only [Holds, and_true] at q1; clear hb s0; try clear q0); go_wp2_with fail)
    refine (twoErr_as' d u d' u' lo hi lo' hi' 0 H1 _).mono ?_
    (rintro x1 w2 ⟨rfl, hb⟩; have s2 := s1.call hb; have q2 := s2.hold; simp only [Holds, and_true] at q2; clear hb s1; try clear q1)
    go_wp2_with fail
    refine (ivErr_as d2 u2 lo2 hi2 e He _).mono ?_
    (rintro x1 w3 ⟨rfl, hb⟩; have s3 := s2.call hb; have q3 := s3.hold; simp only [Holds, and_true] at q3; clear hb s2; try clear q2)
    go_wp2_with fail
    go_ret
    exact ⟨rfl, s3.bel⟩
  · obtain ⟨e, he⟩ : ∃ e, e = twoErr ⟨d, u, lo, hi⟩ ⟨d', u', lo', hi'⟩ := ⟨_, rfl⟩
    have he0 : 0 < e := by have := (twoErr_range ⟨d, u, lo, hi⟩ ⟨d', u', lo', hi'⟩).1; omega
    have He := hide he.symm
    clear h h1 he
    (go_enter Tryd.func6, Tryd.ntmps6; go_wp2_with fail; have s0 := (((St.startE hS).box4 23 (.bool d) (.bool u) (.int .i64 lo) (.int .i64 hi)).box4 23 (.bool d') (.bool u') (.int .i64 lo') (.int .i64 hi')).box4 23 (.bool d2) (.bool u2) (.int .i64 lo2) (.int .i64 hi2); simp only [World.size_alloc] at s0; refine (hT _ s0.errz).mono ?_; (rintro x1 w1 ⟨rfl, hb⟩; have s1 := s0.call hb; have q1 := s1.hold; simp only [Holds, and_true] at q1; clear hb s0; try clear q0); go_wp2_with fail)
    refine (twoErr_as' d u d' u' lo hi lo' hi' e He _).mono ?_
    (rintro x1 w2 ⟨rfl, hb⟩; have s2 := s1.call hb; have q2 := s2.hold; simp only [Holds, and_true] at q2; clear hb s1; try clear q1)
    go_wp2_with fail
    go_ret
    exact ⟨rfl, s2.bel⟩

theorem WithinC.yes {a : Nat → Addr} (h : WithinC a) (d u d' u' : Bool) (lo hi lo' hi' : Int) (h1 : okI ⟨d, u, lo, hi⟩) (h2 : okI ⟨d', u', lo', hi'⟩) (hin : insideB ⟨d, u, lo, hi⟩ ⟨d', u', lo', hi'⟩ = true) (w : World) (hS : ErrS w a) :
    Calls Tryd.prog 25 #[(.agg #[.bool d, .bool u, .int .i64 lo, .int .i64 hi]), (.agg #[.bool d', .bool u', .int .i64 lo', .int .i64 hi'])] w fun e w' => e = .returned (.tuple #[.bool true, .nilIface]) ∧ Below w.heap.size w w' := by
  have := h.good d u d' u' lo hi lo' hi' h1 h2 w hS
  rw [hin] at this
  exact this

set_option maxRecDepth 20000 in
set_option maxHeartbeats 8000000 in
theorem spreads_in (a : Nat → Addr) (hT : ThreeC a) (hJ : JoinC a) (hW : WithinC a) (hA : AddC a) (hB : SubC a) (hM : MulC a) (d u d' u' d2 u2 : Bool) (lo hi lo' hi' lo2 hi2 : Int) (w : World) (hS : ErrS w a) (h1 : okI ⟨d, u, lo, hi⟩) (h2 : okI ⟨d', u', lo', hi'⟩) (h3 : okI ⟨d2, u2, lo2, hi2⟩) :
    Calls Tryd.prog 6 #[(.agg #[.bool d, .bool u, .int .i64 lo, .int .i64 hi]), (.agg #[.bool d', .bool u', .int .i64 lo', .int .i64 hi']), (.agg #[.bool d2, .bool u2, .int .i64 lo2, .int .i64 hi2])] w fun x w' => x = .returned (.bool true) ∧ Below w.heap.size w w' := by
  have H1 := hide ((twoErr_ok _ _).2 ⟨h1, h2⟩)
  have H3 := hide ((okI_iff ⟨d2, u2, lo2, hi2⟩).2 h3)
  obtain ⟨⟨jd, ju, jl, jh⟩, hj⟩ : ∃ J, J = joined ⟨d, u, lo, hi⟩ ⟨d', u', lo', hi'⟩ := ⟨_, rfl⟩
  have J : ∀ W : World, ErrS W a → Calls Tryd.prog 23 #[(.agg #[.bool d, .bool u, .int .i64 lo, .int .i64 hi]), (.agg #[.bool d', .bool u', .int .i64 lo', .int .i64 hi'])] W fun x w' => x = .returned (.tuple #[(.agg #[.bool jd, .bool ju, .int .i64 jl, .int .i64 jh]), .nilIface]) ∧ Below W.heap.size W w' := by
    intro W h
    have := hJ.good d u d' u' lo hi lo' hi' h1 h2 W h
    rw [← hj] at this
    exact this
  have HJ := hide J
  have K4 := hide (show okI ⟨jd, ju, jl, jh⟩ by rw [hj]; exact joined_ok h1 h2)
  have K5 := hide (show ∀ n, inI ⟨d, u, lo, hi⟩ n → inI ⟨jd, ju, jl, jh⟩ n by rw [hj]; exact fun n => joined_left n)
  have K1 := hide h1
  have K2 := hide h2
  have K3 := hide h3
  clear h1 h2 h3 hj J
  (go_enter Tryd.func6, Tryd.ntmps6; go_wp2_with fail; have s0 := (((St.startE hS).box4 23 (.bool d) (.bool u) (.int .i64 lo) (.int .i64 hi)).box4 23 (.bool d') (.bool u') (.int .i64 lo') (.int .i64 hi')).box4 23 (.bool d2) (.bool u2) (.int .i64 lo2) (.int .i64 hi2); simp only [World.size_alloc] at s0; refine (hT _ s0.errz).mono ?_; (rintro x1 w1 ⟨rfl, hb⟩; have s1 := s0.call hb; have q1 := s1.hold; simp only [Holds, and_true] at q1; clear hb s0; try clear q0); go_wp2_with fail)
  refine (twoErr_as' d u d' u' lo hi lo' hi' 0 H1 _).mono ?_
  (rintro x1 w2 ⟨rfl, hb⟩; have s2 := s1.call hb; have q2 := s2.hold; simp only [Holds, and_true] at q2; clear hb s1; try clear q1)
  go_wp2_with fail
  refine (ivErr_as d2 u2 lo2 hi2 0 H3 _).mono ?_
  (rintro x1 w3 ⟨rfl, hb⟩; have s3 := s2.call hb; have q3 := s3.hold; simp only [Holds, and_true] at q3; clear hb s2; try clear q2)
  go_wp2_with fail
  refine (HJ.out _ s3.errz).mono ?_
  (rintro x1 w4 ⟨rfl, hb⟩; have s4 := s3.call hb; have q4 := s4.hold; simp only [Holds, and_true] at q4; clear hb s3; try clear q3)
  go_wp2_with fail
  (have s41 := s4.box4 23 (.bool jd) (.bool ju) (.int .i64 jl) (.int .i64 jh))
  go_loopw [10] (fun i wr => ∃ k : Nat, k ≤ 3 ∧ i = .int .i64 k ∧ St w wr (EZ a) ((w4.heap.size, 0, Value.bool jd) :: (w4.heap.size, 1, Value.bool ju) :: (w4.heap.size, 2, Value.int .i64 jl) :: (w4.heap.size, 3, Value.int .i64 jh) :: (w.heap.size + 2, 0, Value.bool d2) :: (w.heap.size + 2, 1, Value.bool u2) :: (w.heap.size + 2, 2, Value.int .i64 lo2) :: (w.heap.size + 2, 3, Value.int .i64 hi2) :: (w.heap.size + 1, 0, Value.bool d') :: (w.heap.size + 1, 1, Value.bool u') :: (w.heap.size + 1, 2, Value.int .i64 lo') :: (w.heap.size + 1, 3, Value.int .i64 hi') :: (w.heap.size, 0, Value.bool d) :: (w.heap.size, 1, Value.bool u) :: (w.heap.size, 2, Value.int .i64 lo) :: (w.heap.size, 3, Value.int .i64 hi) :: [])) (fun i _ => 3 - (intOf i).toNat)
  case atStart => exact ⟨0, by omega, rfl, s41⟩
  case round =>
    obtain ⟨k, hk, rfl, sr⟩ := hrel
    have qr := sr.hold
    simp only [Holds, and_true] at qr
    clear s41
    rcases (show k = 0 ∨ k = 1 ∨ k = 2 ∨ k = 3 by omega) with rfl | rfl | rfl | rfl
    · go_wp2_with fail
      refine (hA.good d u d2 u2 lo hi lo2 hi2 K1.out K3.out _ sr.errz).mono ?_
      (rintro x1 w5 ⟨pd, pu, pl, ph, rfl, hp, hb⟩; have s5 := sr.call hb; have q5 := s5.hold; simp only [Holds, and_true] at q5; clear hb sr; try clear qr)
      have HP := hide hp
      clear hp
      go_wp2_with fail
      (have s51 := s5.box4 23 (.bool pd) (.bool pu) (.int .i64 pl) (.int .i64 ph))
      refine (hA.good jd ju d2 u2 jl jh lo2 hi2 K4.out K3.out _ s51.errz).mono ?_
      (rintro x1 w6 ⟨qd, qu, ql, qh, rfl, hp, hb⟩; have s6 := s51.call hb; have q6 := s6.hold; simp only [Holds, and_true] at q6; clear hb s51; try clear q51)
      have HQ := hide hp
      clear hp
      go_wp2_with fail
      (have s61 := s6.box4 23 (.bool qd) (.bool qu) (.int .i64 ql) (.int .i64 qh))
      have hin : insideB ⟨pd, pu, pl, ph⟩ ⟨qd, qu, ql, qh⟩ = true := decide_eq_true (HP.out.mono HQ.out fun n ⟨x, y, hx, hy, e⟩ => ⟨x, y, K5.out x hx, hy, e⟩)
      refine (WithinC.yes hW pd pu qd qu pl ph ql qh HP.out.ok HQ.out.ok hin _ s61.errz).mono ?_
      (rintro x1 w7 ⟨rfl, hb⟩; have s7 := s61.call hb; have q7 := s7.hold; simp only [Holds, and_true] at q7; clear hb s61; try clear q61)
      go_wp2_with fail
      go_roundw
      case rel => exact ⟨1, by omega, by go_num, s7.drop 8⟩
      case measure => simp [intOf]
    · go_wp2_with fail
      refine (hA.good d u d2 u2 lo hi lo2 hi2 K1.out K3.out _ sr.errz).mono ?_
      (rintro x1 w5 ⟨pd, pu, pl, ph, rfl, hp, hb⟩; have s5 := sr.call hb; have q5 := s5.hold; simp only [Holds, and_true] at q5; clear hb sr; try clear qr)
      clear hp
      go_wp2_with fail
      have o5 := s5.hold.older
      have z5 := s5.bel.size
      (have s51 := s5.box4 23 (.bool pd) (.bool pu) (.int .i64 pl) (.int .i64 ph))
      refine (hA.good jd ju d2 u2 jl jh lo2 hi2 K4.out K3.out _ s51.errz).mono ?_
      (rintro x1 w6 ⟨qd, qu, ql, qh, rfl, hp, hb⟩; have s6 := s51.call hb; have q6 := s6.hold; simp only [Holds, and_true] at q6; clear hb s51; try clear q51)
      clear hp
      go_wp2_with fail
      have o6 := s6.hold.older
      have z6 := s6.bel.size
      (have s61 := s6.box4 23 (.bool qd) (.bool qu) (.int .i64 ql) (.int .i64 qh))
      refine (hB.good d2 u2 d u lo2 hi2 lo hi K3.out K1.out _ s61.errz).mono ?_
      (rintro x1 w7 ⟨pd', pu', pl', ph', rfl, hp, hb⟩; have s7 := s61.call hb; have q7 := s7.hold; simp only [Holds, and_true] at q7; clear hb s61; try clear q61)
      have HP := hide hp
      clear hp
      go_wp2_with fail
      have s71 : St w _ (EZ a) ((w6.heap.size, 0, Value.bool qd) :: (w6.heap.size, 1, Value.bool qu) :: (w6.heap.size, 2, Value.int .i64 ql) :: (w6.heap.size, 3, Value.int .i64 qh) :: (w5.heap.size, 0, Value.bool pd') :: (w5.heap.size, 1, Value.bool pu') :: (w5.heap.size, 2, Value.int .i64 pl') :: (w5.heap.size, 3, Value.int .i64 ph') :: ((w4.heap.size, 0, Value.bool jd) :: (w4.heap.size, 1, Value.bool ju) :: (w4.heap.size, 2, Value.int .i64 jl) :: (w4.heap.size, 3, Value.int .i64 jh) :: (w.heap.size + 2, 0, Value.bool d2) :: (w.heap.size + 2, 1, Value.bool u2) :: (w.heap.size + 2, 2, Value.int .i64 lo2) :: (w.heap.size + 2, 3, Value.int .i64 hi2) :: (w.heap.size + 1, 0, Value.bool d') :: (w.heap.size + 1, 1, Value.bool u') :: (w.heap.size + 1, 2, Value.int .i64 lo') :: (w.heap.size + 1, 3, Value.int .i64 hi') :: (w.heap.size, 0, Value.bool d) :: (w.heap.size, 1, Value.bool u) :: (w.heap.size, 2, Value.int .i64 lo) :: (w.heap.size, 3, Value.int .i64 hi) :: [])) := s7.set4 ((w6.heap.size, 0, Value.bool qd) :: (w6.heap.size, 1, Value.bool qu) :: (w6.heap.size, 2, Value.int .i64 ql) :: (w6.heap.size, 3, Value.int .i64 qh) :: []) _ z5 (by have := o6.1; exact ⟨fun e => this e.symm, fun e => this e.symm, fun e => this e.symm, fun e => this e.symm, trivial⟩) o5 (.bool pd') (.bool pu') (.int .i64 pl') (.int .i64 ph')
      have q71 := s71.hold
      simp only [Holds, and_true] at q71
      refine (hB.good d2 u2 jd ju lo2 hi2 jl jh K3.out K4.out _ s71.errz).mono ?_
      (rintro x1 w8 ⟨qd', qu', ql', qh', rfl, hp, hb⟩; have s8 := s71.call hb; have q8 := s8.hold; simp only [Holds, and_true] at q8; clear hb s71; try clear q71)
      have HQ := hide hp
      clear hp
      go_wp2_with fail
      have s81 : St w _ (EZ a) ((w6.heap.size, 0, Value.bool qd') :: (w6.heap.size, 1, Value.bool qu') :: (w6.heap.size, 2, Value.int .i64 ql') :: (w6.heap.size, 3, Value.int .i64 qh') :: (w5.heap.size, 0, Value.bool pd') :: (w5.heap.size, 1, Value.bool pu') :: (w5.heap.size, 2, Value.int .i64 pl') :: (w5.heap.size, 3, Value.int .i64 ph') :: ((w4.heap.size, 0, Value.bool jd) :: (w4.heap.size, 1, Value.bool ju) :: (w4.heap.size, 2, Value.int .i64 jl) :: (w4.heap.size, 3, Value.int .i64 jh) :: (w.heap.size + 2, 0, Value.bool d2) :: (w.heap.size + 2, 1, Value.bool u2) :: (w.heap.size + 2, 2, Value.int .i64 lo2) :: (w.heap.size + 2, 3, Value.int .i64 hi2) :: (w.heap.size + 1, 0, Value.bool d') :: (w.heap.size + 1, 1, Value.bool u') :: (w.heap.size + 1, 2, Value.int .i64 lo') :: (w.heap.size + 1, 3, Value.int .i64 hi') :: (w.heap.size, 0, Value.bool d) :: (w.heap.size, 1, Value.bool u) :: (w.heap.size, 2, Value.int .i64 lo) :: (w.heap.size, 3, Value.int .i64 hi) :: [])) := s8.set4 [] _ z6 trivial ⟨o6.1, o6.2.1, o6.2.2.1, o6.2.2.2.1, o6.2.2.2.2⟩ (.bool qd') (.bool qu') (.int .i64 ql') (.int .i64 qh')
      have q81 := s81.hold
      simp only [Holds, and_true] at q81
      have hin : insideB ⟨pd', pu', pl', ph'⟩ ⟨qd', qu', ql', qh'⟩ = true := decide_eq_true (HP.out.mono HQ.out fun n ⟨x, y, hx, hy, e⟩ => ⟨x, y, hx, K5.out y hy, e⟩)
      refine (WithinC.yes hW pd' pu' qd' qu' pl' ph' ql' qh' HP.out.ok HQ.out.ok hin _ s81.errz).mono ?_
      (rintro x1 w9 ⟨rfl, hb⟩; have s9 := s81.call hb; have q9 := s9.hold; simp only [Holds, and_true] at q9; clear hb s81; try clear q81)
      go_wp2_with fail
      go_roundw
      case rel => exact ⟨2, by omega, by go_num, s9.drop 8⟩
      case measure => simp [intOf]
    · go_wp2_with fail
      refine (hA.good d u d2 u2 lo hi lo2 hi2 K1.out K3.out _ sr.errz).mono ?_
      (rintro x1 w5 ⟨pd, pu, pl, ph, rfl, hp, hb⟩; have s5 := sr.call hb; have q5 := s5.hold; simp only [Holds, and_true] at q5; clear hb sr; try clear qr)
      clear hp
      go_wp2_with fail
      have o5 := s5.hold.older
      have z5 := s5.bel.size
      (have s51 := s5.box4 23 (.bool pd) (.bool pu) (.int .i64 pl) (.int .i64 ph))
      refine (hA.good jd ju d2 u2 jl jh lo2 hi2 K4.out K3.out _ s51.errz).mono ?_
      (rintro x1 w6 ⟨qd, qu, ql, qh, rfl, hp, hb⟩; have s6 := s51.call hb; have q6 := s6.hold; simp only [Holds, and_true] at q6; clear hb s51; try clear q51)
      clear hp
      go_wp2_with fail
      have o6 := s6.hold.older
      have z6 := s6.bel.size
      (have s61 := s6.box4 23 (.bool qd) (.bool qu) (.int .i64 ql) (.int .i64 qh))
      refine (hM.good d u d2 u2 lo hi lo2 hi2 K1.out K3.out _ s61.errz).mono ?_
      (rintro x1 w7 ⟨pd', pu', pl', ph', rfl, hp, hb⟩; have s7 := s61.call hb; have q7 := s7.hold; simp only [Holds, and_true] at q7; clear hb s61; try clear q61)
      have HP := hide hp
      clear hp
      go_wp2_with fail
      have s71 : St w _ (EZ a) ((w6.heap.size, 0, Value.bool qd) :: (w6.heap.size, 1, Value.bool qu) :: (w6.heap.size, 2, Value.int .i64 ql) :: (w6.heap.size, 3, Value.int .i64 qh) :: (w5.heap.size, 0, Value.bool pd') :: (w5.heap.size, 1, Value.bool pu') :: (w5.heap.size, 2, Value.int .i64 pl') :: (w5.heap.size, 3, Value.int .i64 ph') :: ((w4.heap.size, 0, Value.bool jd) :: (w4.heap.size, 1, Value.bool ju) :: (w4.heap.size, 2, Value.int .i64 jl) :: (w4.heap.size, 3, Value.int .i64 jh) :: (w.heap.size + 2, 0, Value.bool d2) :: (w.heap.size + 2, 1, Value.bool u2) :: (w.heap.size + 2, 2, Value.int .i64 lo2) :: (w.heap.size + 2, 3, Value.int .i64 hi2) :: (w.heap.size + 1, 0, Value.bool d') :: (w.heap.size + 1, 1, Value.bool u') :: (w.heap.size + 1, 2, Value.int .i64 lo') :: (w.heap.size + 1, 3, Value.int .i64 hi') :: (w.heap.size, 0, Value.bool d) :: (w.heap.size, 1, Value.bool u) :: (w.heap.size, 2, Value.int .i64 lo) :: (w.heap.size, 3, Value.int .i64 hi) :: [])) := s7.set4 ((w6.heap.size, 0, Value.bool qd) :: (w6.heap.size, 1, Value.bool qu) :: (w6.heap.size, 2, Value.int .i64 ql) :: (w6.heap.size, 3, Value.int .i64 qh) :: []) _ z5 (by have := o6.1; exact ⟨fun e => this e.symm, fun e => this e.symm, fun e => this e.symm, fun e => this e.symm, trivial⟩) o5 (.bool pd') (.bool pu') (.int .i64 pl') (.int .i64 ph')
      have q71 := s71.hold
      simp only [Holds, and_true] at q71
      refine (hM.good jd ju d2 u2 jl jh lo2 hi2 K4.out K3.out _ s71.errz).mono ?_
      (rintro x1 w8 ⟨qd', qu', ql', qh', rfl, hp, hb⟩; have s8 := s71.call hb; have q8 := s8.hold; simp only [Holds, and_true] at q8; clear hb s71; try clear q71)
      have HQ := hide hp
      clear hp
      go_wp2_with fail
      have s81 : St w _ (EZ a) ((w6.heap.size, 0, Value.bool qd') :: (w6.heap.size, 1, Value.bool qu') :: (w6.heap.size, 2, Value.int .i64 ql') :: (w6.heap.size, 3, Value.int .i64 qh') :: (w5.heap.size, 0, Value.bool pd') :: (w5.heap.size, 1, Value.bool pu') :: (w5.heap.size, 2, Value.int .i64 pl') :: (w5.heap.size, 3, Value.int .i64 ph') :: ((w4.heap.size, 0, Value.bool jd) :: (w4.heap.size, 1, Value.bool ju) :: (w4.heap.size, 2, Value.int .i64 jl) :: (w4.heap.size, 3, Value.int .i64 jh) :: (w.heap.size + 2, 0, Value.bool d2) :: (w.heap.size + 2, 1, Value.bool u2) :: (w.heap.size + 2, 2, Value.int .i64 lo2) :: (w.heap.size + 2, 3, Value.int .i64 hi2) :: (w.heap.size + 1, 0, Value.bool d') :: (w.heap.size + 1, 1, Value.bool u') :: (w.heap.size + 1, 2, Value.int .i64 lo') :: (w.heap.size + 1, 3, Value.int .i64 hi') :: (w.heap.size, 0, Value.bool d) :: (w.heap.size, 1, Value.bool u) :: (w.heap.size, 2, Value.int .i64 lo) :: (w.heap.size, 3, Value.int .i64 hi) :: [])) := s8.set4 [] _ z6 trivial ⟨o6.1, o6.2.1, o6.2.2.1, o6.2.2.2.1, o6.2.2.2.2⟩ (.bool qd') (.bool qu') (.int .i64 ql') (.int .i64 qh')
      have q81 := s81.hold
      simp only [Holds, and_true] at q81
      have hin : insideB ⟨pd', pu', pl', ph'⟩ ⟨qd', qu', ql', qh'⟩ = true := decide_eq_true (HP.out.mono HQ.out fun n ⟨x, y, hx, hy, e⟩ => ⟨x, y, K5.out x hx, hy, e⟩)
      refine (WithinC.yes hW pd' pu' qd' qu' pl' ph' ql' qh' HP.out.ok HQ.out.ok hin _ s81.errz).mono ?_
      (rintro x1 w9 ⟨rfl, hb⟩; have s9 := s81.call hb; have q9 := s9.hold; simp only [Holds, and_true] at q9; clear hb s81; try clear q81)
      go_wp2_with fail
      go_roundw
      case rel => exact ⟨3, by omega, by go_num, s9.drop 8⟩
      case measure => simp [intOf]
    · go_wp2_with fail
      go_ret
      exact ⟨rfl, sr.bel⟩

theorem intervalSpreads_by (a : Nat → Addr) (hT : ThreeC a) (hJ : JoinC a) (hW : WithinC a) (hA : AddC a) (hB : SubC a) (hM : MulC a) (d u d' u' d2 u2 : Bool) (lo hi lo' hi' lo2 hi2 : Int) (w : World) (hS : ErrS w a) :
    Calls Tryd.prog 6 #[(.agg #[.bool d, .bool u, .int .i64 lo, .int .i64 hi]), (.agg #[.bool d', .bool u', .int .i64 lo', .int .i64 hi']), (.agg #[.bool d2, .bool u2, .int .i64 lo2, .int .i64 hi2])] w fun x w' => x = .returned (.bool true) ∧ Below w.heap.size w w' := by
  by_cases h : okI ⟨d, u, lo, hi⟩ ∧ okI ⟨d', u', lo', hi'⟩ ∧ okI ⟨d2, u2, lo2, hi2⟩
  · exact spreads_in a hT hJ hW hA hB hM d u d' u' d2 u2 lo hi lo' hi' lo2 hi2 w hS h.1 h.2.1 h.2.2
  · exact spreads_out a hT d u d' u' d2 u2 lo hi lo' hi' lo2 hi2 w hS h

end Go.Proofs.YtegibkjopkakhaaDoor
