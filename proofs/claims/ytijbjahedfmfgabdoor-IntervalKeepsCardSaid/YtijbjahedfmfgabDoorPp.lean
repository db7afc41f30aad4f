/- The program's Refine does what is asked of it. -/
import Derived.Test.YtijbjahedfmfgabDoorPo
import Derived.Test.YtijbjahedfmfgabDoorPl
namespace Go.Proofs.YtijbjahedfmfgabDoor
open Go.RowKit
set_option linter.unusedVariables false

theorem sum_hi_c {p q : Int} (h : EndR p q) (z : Int) (hz : -1 ≤ z ∧ z ≤ 1) (W : World) : Calls Tryd.prog 43 #[.int .i64 q, .int .i64 z] W fun e w' => e = .returned (.int .i64 (sumE q z)) ∧ w' = W := by
  obtain ⟨h1, h2, h3⟩ := h
  exact sum_any q z W (by omega) (by omega)
theorem sum_lo_c {p q : Int} (h : EndR p q) (z : Int) (hz : -1 ≤ z ∧ z ≤ 1) (W : World) : Calls Tryd.prog 43 #[.int .i64 p, .int .i64 z] W fun e w' => e = .returned (.int .i64 (sumE p z)) ∧ w' = W := by
  obtain ⟨h1, h2, h3⟩ := h
  exact sum_any p z W (by omega) (by omega)

theorem without_c {p q p' q' : Int} (h : EndR p q) (k : EndR p' q') (W : World) : Calls Tryd.prog 40 #[(Value.agg #[Value.int .i64 (p), Value.int .i64 (q)]), (Value.agg #[Value.int .i64 (p'), Value.int .i64 (q')])] W fun e w' => e = .returned (Value.agg #[Value.int .i64 (wiL p p' q'), Value.int .i64 (wiH q p' q')]) ∧ Below W.heap.size W w' := by
  have f := h.f
  obtain ⟨k1, k2, k3⟩ := k
  exact without_any p q p' q' W f.1 f.2 (by intro e; omega)

theorem refined_c (k : Nat) (h1 : 1 ≤ k) (h2 : k ≤ 6) {p q p' q' : Int} (h : EndR p q) (g : EndR p' q') (w : World) :
    Calls Tryd.prog 25 #[(Value.agg #[Value.int .i64 (p), Value.int .i64 (q)]), (Value.agg #[Value.int .i64 (p'), Value.int .i64 (q')]), .string (howS k)] w fun e w' => e = .returned (.tuple #[(Value.agg #[Value.int .i64 (rxL k p q p' q'), Value.int .i64 (rxH k p q p' q')]), (Value.agg #[Value.int .i64 (rxL (opp k) p' q' p q), Value.int .i64 (rxH (opp k) p' q' p q)]), .nilIface]) ∧ Below w.heap.size w w' := by
  match k with
  | 1 => exact refined_1 p q p' q' _ _ _ _ w (fun W => below_any p q p' q' 1 _ _ W (by omega) (fun z W hz => by subst hz; exact sum_hi_c g (-1) (by omega) W) (fun W => sum_lo_c h 1 (by omega) W))
  | 2 => exact refined_2 p q p' q' _ _ _ _ w (fun W => below_any p q p' q' 0 _ _ W (by omega) (fun z W hz => by subst hz; exact sum_hi_c g 0 (by omega) W) (fun W => sum_lo_c h 0 (by omega) W))
  | 3 => exact refined_3 p q p' q' meL meH w (fun a b c d W _ => emeet_any a b c d W)
  | 4 => exact refined_4 p q p' q' (fun a b c d => wiL a c d) (fun a b c d => wiH b c d) w (fun a b c d W hc => by
      rcases hc with ⟨rfl, rfl, rfl, rfl⟩ | ⟨rfl, rfl, rfl, rfl⟩
      · exact without_c h g W
      · exact without_c g h W)
  | 5 => exact refined_5 p q p' q' _ _ _ _ w (fun W => below_any p' q' p q 1 _ _ W (by omega) (fun z W hz => by subst hz; exact sum_hi_c h (-1) (by omega) W) (fun W => sum_lo_c g 1 (by omega) W))
  | 6 => exact refined_6 p q p' q' _ _ _ _ w (fun W => below_any p' q' p q 0 _ _ W (by omega) (fun z W hz => by subst hz; exact sum_hi_c h 0 (by omega) W) (fun W => sum_lo_c g 0 (by omega) W))
  | 0 => omega
  | n + 7 => omega


set_option maxRecDepth 20000 in
set_option maxHeartbeats 2000000 in
theorem refine_two (a : Nat → Addr) (d u d' u' : Bool) (lo hi lo' hi' : Int) (s : ByteArray) (w : World) (hS : ErrT w a) (hE : twoErr ⟨d, u, lo, hi⟩ ⟨d', u', lo', hi'⟩ ≠ 0) :
    Calls Tryd.prog 9 #[(.agg #[.bool d, .bool u, .int .i64 lo, .int .i64 hi]), (.agg #[.bool d', .bool u', .int .i64 lo', .int .i64 hi']), .string s] w fun e w' => e = .returned (.tuple #[(.agg #[.bool false, .bool false, .int .i64 0, .int .i64 0]), (.agg #[.bool false, .bool false, .int .i64 0, .int .i64 0]), .bool false, errV a (twoErr ⟨d, u, lo, hi⟩ ⟨d', u', lo', hi'⟩)]) ∧ Below w.heap.size w w' := by
  have HB := hide (fun W h => both_err d u d' u' lo hi lo' hi' a W h hE)
  rw [errV_some hE] at HB ⊢
  generalize (twoErr ⟨d, u, lo, hi⟩ ⟨d', u', lo', hi'⟩).toNat - 1 = k at *
  clear hE
  go_enter Tryd.func9, Tryd.ntmps9
  go_wp2_with fail
  have s0 := ((((St.startT hS).box4 23 (.bool d) (.bool u) (.int .i64 lo) (.int .i64 hi)).box4 23 (.bool d') (.bool u') (.int .i64 lo') (.int .i64 hi')).box4 23 (.bool false) (.bool false) (.int .i64 0) (.int .i64 0)).box4 23 (.bool false) (.bool false) (.int .i64 0) (.int .i64 0)
  simp only [allocSize] at s0
  refine (HB.out _ s0.errt.1).mono ?_
  rintro e w1 ⟨rfl, hb1⟩
  have s1 := (s0.call hb1).take 8
  simp only [List.take] at s1
  clear hb1 s0
  go_upto_region 2 with fail
  obtain ⟨b, hb⟩ : ∃ b, b = w1.heap.size := ⟨_, rfl⟩
  have hlt : w.heap.size + 1 + 1 + 1 < b := by rw [hb]; exact s1.hold.1.2.1
  have s2 : St w ((w1.alloc (.cells #[.int .i64 0, .int .i64 0] 48)).alloc (.cells #[.int .i64 0, .int .i64 0] 48)) (TZ a) ((b + 1, 0, Value.int .i64 (0)) :: (b + 1, 1, Value.int .i64 (0)) :: (b, 0, Value.int .i64 (0)) :: (b, 1, Value.int .i64 (0)) :: (w.heap.size + 1 + 1 + 1, 0, Value.bool false) :: (w.heap.size + 1 + 1 + 1, 1, Value.bool false) :: (w.heap.size + 1 + 1 + 1, 2, Value.int .i64 0) :: (w.heap.size + 1 + 1 + 1, 3, Value.int .i64 0) :: (w.heap.size + 1 + 1, 0, Value.bool false) :: (w.heap.size + 1 + 1, 1, Value.bool false) :: (w.heap.size + 1 + 1, 2, Value.int .i64 0) :: (w.heap.size + 1 + 1, 3, Value.int .i64 0) :: []) := by
    have := (s1.box2 48 (.int .i64 0) (.int .i64 0)).box2 48 (.int .i64 0) (.int .i64 0)
    simp only [allocSize, ← hb] at this
    exact this
  rw [← hb]
  have HBB := hide hb
  clear hb s1
  obtain ⟨W, hW⟩ : ∃ W, W = ((w1.alloc (.cells #[.int .i64 0, .int .i64 0] 48)).alloc (.cells #[.int .i64 0, .int .i64 0] 48)) := ⟨_, rfl⟩
  rw [← hW] at s2 ⊢
  clear hW
  have q2 := s2.hold
  simp only [Holds, and_true] at q2
  go_wp2_with fail
  have s8 : St w ((((((((W.setCell ⟨w.heap.size + 1 + 1, 0, none⟩ (.bool false)).setCell ⟨w.heap.size + 1 + 1, 1, none⟩ (.bool false)).setCell ⟨w.heap.size + 1 + 1, 2, none⟩ (.int .i64 0)).setCell ⟨w.heap.size + 1 + 1, 3, none⟩ (.int .i64 0)).setCell ⟨w.heap.size + 1 + 1 + 1, 0, none⟩ (.bool false)).setCell ⟨w.heap.size + 1 + 1 + 1, 1, none⟩ (.bool false)).setCell ⟨w.heap.size + 1 + 1 + 1, 2, none⟩ (.int .i64 0)).setCell ⟨w.heap.size + 1 + 1 + 1, 3, none⟩ (.int .i64 0)) (TZ a) ((w.heap.size + 1 + 1 + 1, 0, Value.bool false) :: (w.heap.size + 1 + 1 + 1, 1, Value.bool false) :: (w.heap.size + 1 + 1 + 1, 2, Value.int .i64 0) :: (w.heap.size + 1 + 1 + 1, 3, Value.int .i64 0) :: (w.heap.size + 1 + 1, 0, Value.bool false) :: (w.heap.size + 1 + 1, 1, Value.bool false) :: (w.heap.size + 1 + 1, 2, Value.int .i64 0) :: (w.heap.size + 1 + 1, 3, Value.int .i64 0) :: []) := St.set4 [] _ (St.set4 ((w.heap.size + 1 + 1 + 1, 0, Value.bool false) :: (w.heap.size + 1 + 1 + 1, 1, Value.bool false) :: (w.heap.size + 1 + 1 + 1, 2, Value.int .i64 0) :: (w.heap.size + 1 + 1 + 1, 3, Value.int .i64 0) :: []) [] (s2.drop 4) (by omega) ⟨(by dsimp only; omega), (by dsimp only; omega), (by dsimp only; omega), (by dsimp only; omega), trivial⟩ trivial (.bool false) (.bool false) (.int .i64 0) (.int .i64 0)) (by omega) trivial ⟨(by dsimp only; omega), (by dsimp only; omega), (by dsimp only; omega), (by dsimp only; omega), trivial⟩ (.bool false) (.bool false) (.int .i64 0) (.int .i64 0)
  obtain ⟨W8, hW8⟩ : ∃ W8, W8 = ((((((((W.setCell ⟨w.heap.size + 1 + 1, 0, none⟩ (.bool false)).setCell ⟨w.heap.size + 1 + 1, 1, none⟩ (.bool false)).setCell ⟨w.heap.size + 1 + 1, 2, none⟩ (.int .i64 0)).setCell ⟨w.heap.size + 1 + 1, 3, none⟩ (.int .i64 0)).setCell ⟨w.heap.size + 1 + 1 + 1, 0, none⟩ (.bool false)).setCell ⟨w.heap.size + 1 + 1 + 1, 1, none⟩ (.bool false)).setCell ⟨w.heap.size + 1 + 1 + 1, 2, none⟩ (.int .i64 0)).setCell ⟨w.heap.size + 1 + 1 + 1, 3, none⟩ (.int .i64 0)) := ⟨_, rfl⟩
  rw [← hW8] at s8 ⊢
  clear hW8
  have q8 := s8.hold
  simp only [Holds, and_true] at q8
  refine bodyPost_ret (v := .tuple #[(.agg #[.bool false, .bool false, .int .i64 0, .int .i64 0]), (.agg #[.bool false, .bool false, .int .i64 0, .int .i64 0]), .bool false, .iface 105 (.pointer (some (a k)))]) ?_ rfl ⟨rfl, s8.bel⟩
  simp [results, Tryd.results9, go_sem, q8]

set_option maxRecDepth 20000 in
set_option maxHeartbeats 2000000 in
theorem refine_how (a : Nat → Addr) (d u d' u' : Bool) (lo hi lo' hi' : Int) (s : ByteArray) (w : World) (hS : ErrT w a) (hE : twoErr ⟨d, u, lo, hi⟩ ⟨d', u', lo', hi'⟩ = 0) (hk : kindOf s = 0) :
    Calls Tryd.prog 9 #[(.agg #[.bool d, .bool u, .int .i64 lo, .int .i64 hi]), (.agg #[.bool d', .bool u', .int .i64 lo', .int .i64 hi']), .string s] w fun e w' => e = .returned (.tuple #[(.agg #[.bool false, .bool false, .int .i64 0, .int .i64 0]), (.agg #[.bool false, .bool false, .int .i64 0, .int .i64 0]), .bool false, .iface 105 (.pointer (some (a 0)))]) ∧ Below w.heap.size w w' := by
  have HB := hide (fun W h => both_ok d u d' u' lo hi lo' hi' a W h hE)
  clear hE
  generalize eLo ⟨d, u, lo, hi⟩ = p0 at *
  generalize eHi ⟨d, u, lo, hi⟩ = p1 at *
  generalize eLo ⟨d', u', lo', hi'⟩ = q0 at *
  generalize eHi ⟨d', u', lo', hi'⟩ = q1 at *
  have HR := hide (fun (W : World) (h : ErrAt W a 0) => refined_0 p0 p1 q0 q1 s a W h hk)
  clear hk
  go_enter Tryd.func9, Tryd.ntmps9
  go_wp2_with fail
  have s0 := ((((St.startT hS).box4 23 (.bool d) (.bool u) (.int .i64 lo) (.int .i64 hi)).box4 23 (.bool d') (.bool u') (.int .i64 lo') (.int .i64 hi')).box4 23 (.bool false) (.bool false) (.int .i64 0) (.int .i64 0)).box4 23 (.bool false) (.bool false) (.int .i64 0) (.int .i64 0)
  simp only [allocSize] at s0
  refine (HB.out _ s0.errt.1).mono ?_
  rintro e w1 ⟨rfl, hb1⟩
  have s1 := (s0.call hb1).take 8
  simp only [List.take] at s1
  clear hb1 s0
  go_wp2_with fail
  obtain ⟨b, hb⟩ : ∃ b, b = w1.heap.size := ⟨_, rfl⟩
  have hlt : w.heap.size + 1 + 1 + 1 < b := by rw [hb]; exact s1.hold.1.2.1
  have s2 : St w ((w1.alloc (.cells #[.int .i64 p0, .int .i64 p1] 48)).alloc (.cells #[.int .i64 q0, .int .i64 q1] 48)) (TZ a) ((b + 1, 0, Value.int .i64 (q0)) :: (b + 1, 1, Value.int .i64 (q1)) :: (b, 0, Value.int .i64 (p0)) :: (b, 1, Value.int .i64 (p1)) :: (w.heap.size + 1 + 1 + 1, 0, Value.bool false) :: (w.heap.size + 1 + 1 + 1, 1, Value.bool false) :: (w.heap.size + 1 + 1 + 1, 2, Value.int .i64 0) :: (w.heap.size + 1 + 1 + 1, 3, Value.int .i64 0) :: (w.heap.size + 1 + 1, 0, Value.bool false) :: (w.heap.size + 1 + 1, 1, Value.bool false) :: (w.heap.size + 1 + 1, 2, Value.int .i64 0) :: (w.heap.size + 1 + 1, 3, Value.int .i64 0) :: []) := by
    have := (s1.box2 48 (.int .i64 p0) (.int .i64 p1)).box2 48 (.int .i64 q0) (.int .i64 q1)
    simp only [allocSize, ← hb] at this
    exact this
  rw [← hb]
  have HBB := hide hb
  clear hb s1
  refine (HR.out _ s2.errt.2).mono ?_
  rintro e w2 ⟨rfl, hb2⟩
  have s3 := s2.call hb2
  clear hb2 s2
  have q3 := s3.hold
  simp only [Holds, and_true] at q3
  have s4 : St w ((((w2.setCell ⟨b, 0, none⟩ (.int .i64 0)).setCell ⟨b, 1, none⟩ (.int .i64 0)).setCell ⟨b + 1, 0, none⟩ (.int .i64 0)).setCell ⟨b + 1, 1, none⟩ (.int .i64 0)) (TZ a) ((b + 1, 0, Value.int .i64 (0)) :: (b + 1, 1, Value.int .i64 (0)) :: (b, 0, Value.int .i64 (0)) :: (b, 1, Value.int .i64 (0)) :: (w.heap.size + 1 + 1 + 1, 0, Value.bool false) :: (w.heap.size + 1 + 1 + 1, 1, Value.bool false) :: (w.heap.size + 1 + 1 + 1, 2, Value.int .i64 0) :: (w.heap.size + 1 + 1 + 1, 3, Value.int .i64 0) :: (w.heap.size + 1 + 1, 0, Value.bool false) :: (w.heap.size + 1 + 1, 1, Value.bool false) :: (w.heap.size + 1 + 1, 2, Value.int .i64 0) :: (w.heap.size + 1 + 1, 3, Value.int .i64 0) :: []) := St.set2 [] _ (St.set2 ((b + 1, 0, Value.int .i64 (q0)) :: (b + 1, 1, Value.int .i64 (q1)) :: []) _ s3 (by omega) ⟨(by dsimp only; omega), (by dsimp only; omega), trivial⟩ ⟨(by dsimp only; omega), (by dsimp only; omega), (by dsimp only; omega), (by dsimp only; omega), (by dsimp only; omega), (by dsimp only; omega), (by dsimp only; omega), (by dsimp only; omega), trivial⟩ (.int .i64 0) (.int .i64 0)) (by omega) trivial ⟨(by dsimp only; omega), (by dsimp only; omega), (by dsimp only; omega), (by dsimp only; omega), (by dsimp only; omega), (by dsimp only; omega), (by dsimp only; omega), (by dsimp only; omega), (by dsimp only; omega), (by dsimp only; omega), trivial⟩ (.int .i64 0) (.int .i64 0)
  clear s3
  go_upto_region 4 with fail
  obtain ⟨W, hW⟩ : ∃ W, W = ((((w2.setCell ⟨b, 0, none⟩ (.int .i64 0)).setCell ⟨b, 1, none⟩ (.int .i64 0)).setCell ⟨b + 1, 0, none⟩ (.int .i64 0)).setCell ⟨b + 1, 1, none⟩ (.int .i64 0)) := ⟨_, rfl⟩
  rw [← hW] at s4 ⊢
  clear hW q3
  have q4 := s4.hold
  simp only [Holds, and_true] at q4
  go_wp2_with fail
  have s8 : St w ((((((((W.setCell ⟨w.heap.size + 1 + 1, 0, none⟩ (.bool false)).setCell ⟨w.heap.size + 1 + 1, 1, none⟩ (.bool false)).setCell ⟨w.heap.size + 1 + 1, 2, none⟩ (.int .i64 0)).setCell ⟨w.heap.size + 1 + 1, 3, none⟩ (.int .i64 0)).setCell ⟨w.heap.size + 1 + 1 + 1, 0, none⟩ (.bool false)).setCell ⟨w.heap.size + 1 + 1 + 1, 1, none⟩ (.bool false)).setCell ⟨w.heap.size + 1 + 1 + 1, 2, none⟩ (.int .i64 0)).setCell ⟨w.heap.size + 1 + 1 + 1, 3, none⟩ (.int .i64 0)) (TZ a) ((w.heap.size + 1 + 1 + 1, 0, Value.bool false) :: (w.heap.size + 1 + 1 + 1, 1, Value.bool false) :: (w.heap.size + 1 + 1 + 1, 2, Value.int .i64 0) :: (w.heap.size + 1 + 1 + 1, 3, Value.int .i64 0) :: (w.heap.size + 1 + 1, 0, Value.bool false) :: (w.heap.size + 1 + 1, 1, Value.bool false) :: (w.heap.size + 1 + 1, 2, Value.int .i64 0) :: (w.heap.size + 1 + 1, 3, Value.int .i64 0) :: []) := St.set4 [] _ (St.set4 ((w.heap.size + 1 + 1 + 1, 0, Value.bool false) :: (w.heap.size + 1 + 1 + 1, 1, Value.bool false) :: (w.heap.size + 1 + 1 + 1, 2, Value.int .i64 0) :: (w.heap.size + 1 + 1 + 1, 3, Value.int .i64 0) :: []) [] (s4.drop 4) (by omega) ⟨(by dsimp only; omega), (by dsimp only; omega), (by dsimp only; omega), (by dsimp only; omega), trivial⟩ trivial (.bool false) (.bool false) (.int .i64 0) (.int .i64 0)) (by omega) trivial ⟨(by dsimp only; omega), (by dsimp only; omega), (by dsimp only; omega), (by dsimp only; omega), trivial⟩ (.bool false) (.bool false) (.int .i64 0) (.int .i64 0)
  obtain ⟨W8, hW8⟩ : ∃ W8, W8 = ((((((((W.setCell ⟨w.heap.size + 1 + 1, 0, none⟩ (.bool false)).setCell ⟨w.heap.size + 1 + 1, 1, none⟩ (.bool false)).setCell ⟨w.heap.size + 1 + 1, 2, none⟩ (.int .i64 0)).setCell ⟨w.heap.size + 1 + 1, 3, none⟩ (.int .i64 0)).setCell ⟨w.heap.size + 1 + 1 + 1, 0, none⟩ (.bool false)).setCell ⟨w.heap.size + 1 + 1 + 1, 1, none⟩ (.bool false)).setCell ⟨w.heap.size + 1 + 1 + 1, 2, none⟩ (.int .i64 0)).setCell ⟨w.heap.size + 1 + 1 + 1, 3, none⟩ (.int .i64 0)) := ⟨_, rfl⟩
  rw [← hW8] at s8 ⊢
  clear hW8
  have q8 := s8.hold
  simp only [Holds, and_true] at q8
  refine bodyPost_ret (v := .tuple #[(.agg #[.bool false, .bool false, .int .i64 0, .int .i64 0]), (.agg #[.bool false, .bool false, .int .i64 0, .int .i64 0]), .bool false, .iface 105 (.pointer (some (a 0)))]) ?_ rfl ⟨rfl, s8.bel⟩
  simp [results, Tryd.results9, go_sem, q8]

set_option maxRecDepth 20000 in
set_option maxHeartbeats 4000000 in
theorem refine_left (a : Nat → Addr) (d u d' u' : Bool) (lo hi lo' hi' x0 x1 y0 y1 : Int) (s : ByteArray) (w : World) (hS : ErrT w a) (hE : twoErr ⟨d, u, lo, hi⟩ ⟨d', u', lo', hi'⟩ = 0) (hR : Hid (∀ W : World, Calls Tryd.prog 25 #[(Value.agg #[Value.int .i64 (eLo ⟨d, u, lo, hi⟩), Value.int .i64 (eHi ⟨d, u, lo, hi⟩)]), (Value.agg #[Value.int .i64 (eLo ⟨d', u', lo', hi'⟩), Value.int .i64 (eHi ⟨d', u', lo', hi'⟩)]), .string s] W fun e w' => e = .returned (.tuple #[(Value.agg #[Value.int .i64 (x0), Value.int .i64 (x1)]), (Value.agg #[Value.int .i64 (y0), Value.int .i64 (y1)]), .nilIface]) ∧ Below W.heap.size W w')) :
    Calls Tryd.prog 9 #[(.agg #[.bool d, .bool u, .int .i64 lo, .int .i64 hi]), (.agg #[.bool d', .bool u', .int .i64 lo', .int .i64 hi']), .string s] w fun e w' => e = .returned (.tuple #[(if x1 < x0 then ivZ else told x0 x1).v, (if x1 < x0 then ivZ else told y0 y1).v, .bool (decide (x0 ≤ x1)), .nilIface]) ∧ Below w.heap.size w w' := by
  have HB := hide (fun W h => both_ok d u d' u' lo hi lo' hi' a W h hE)
  clear hE
  generalize eLo ⟨d, u, lo, hi⟩ = p0 at *
  generalize eHi ⟨d, u, lo, hi⟩ = p1 at *
  generalize eLo ⟨d', u', lo', hi'⟩ = q0 at *
  generalize eHi ⟨d', u', lo', hi'⟩ = q1 at *
  have hT1 : ∀ W : World, Calls Tryd.prog 27 #[(Value.agg #[Value.int .i64 (x0), Value.int .i64 (x1)])] W fun e w' => e = .returned (told x0 x1).v ∧ Below W.heap.size W w' := fun W => told_any x0 x1 W
  have hT2 : ∀ W : World, Calls Tryd.prog 27 #[(Value.agg #[Value.int .i64 (y0), Value.int .i64 (y1)])] W fun e w' => e = .returned (told y0 y1).v ∧ Below W.heap.size W w' := fun W => told_any y0 y1 W
  generalize told x0 x1 = t at *
  generalize told y0 y1 = v at *
  obtain ⟨td, tu, tl, th⟩ := t
  obtain ⟨vd, vu, vl, vh⟩ := v
  have HT1 := hide (show ∀ W : World, Calls Tryd.prog 27 #[(Value.agg #[Value.int .i64 (x0), Value.int .i64 (x1)])] W fun e w' => e = .returned (.agg #[.bool td, .bool tu, .int .i64 tl, .int .i64 th]) ∧ Below W.heap.size W w' from hT1)
  have HT2 := hide (show ∀ W : World, Calls Tryd.prog 27 #[(Value.agg #[Value.int .i64 (y0), Value.int .i64 (y1)])] W fun e w' => e = .returned (.agg #[.bool vd, .bool vu, .int .i64 vl, .int .i64 vh]) ∧ Below W.heap.size W w' from hT2)
  clear hT1 hT2
  go_enter Tryd.func9, Tryd.ntmps9
  go_wp2_with fail
  have s0 := ((((St.startT hS).box4 23 (.bool d) (.bool u) (.int .i64 lo) (.int .i64 hi)).box4 23 (.bool d') (.bool u') (.int .i64 lo') (.int .i64 hi')).box4 23 (.bool false) (.bool false) (.int .i64 0) (.int .i64 0)).box4 23 (.bool false) (.bool false) (.int .i64 0) (.int .i64 0)
  simp only [allocSize] at s0
  refine (HB.out _ s0.errt.1).mono ?_
  rintro e w1 ⟨rfl, hb1⟩
  have s1 := (s0.call hb1).take 8
  simp only [List.take] at s1
  clear hb1 s0
  go_wp2_with fail
  obtain ⟨b, hb⟩ : ∃ b, b = w1.heap.size := ⟨_, rfl⟩
  have hlt : w.heap.size + 1 + 1 + 1 < b := by rw [hb]; exact s1.hold.1.2.1
  have s2 : St w ((w1.alloc (.cells #[.int .i64 p0, .int .i64 p1] 48)).alloc (.cells #[.int .i64 q0, .int .i64 q1] 48)) (TZ a) ((b + 1, 0, Value.int .i64 (q0)) :: (b + 1, 1, Value.int .i64 (q1)) :: (b, 0, Value.int .i64 (p0)) :: (b, 1, Value.int .i64 (p1)) :: (w.heap.size + 1 + 1 + 1, 0, Value.bool false) :: (w.heap.size + 1 + 1 + 1, 1, Value.bool false) :: (w.heap.size + 1 + 1 + 1, 2, Value.int .i64 0) :: (w.heap.size + 1 + 1 + 1, 3, Value.int .i64 0) :: (w.heap.size + 1 + 1, 0, Value.bool false) :: (w.heap.size + 1 + 1, 1, Value.bool false) :: (w.heap.size + 1 + 1, 2, Value.int .i64 0) :: (w.heap.size + 1 + 1, 3, Value.int .i64 0) :: []) := by
    have := (s1.box2 48 (.int .i64 p0) (.int .i64 p1)).box2 48 (.int .i64 q0) (.int .i64 q1)
    simp only [allocSize, ← hb] at this
    exact this
  rw [← hb]
  have HBB := hide hb
  clear hb s1
  refine (hR.out _).mono ?_
  rintro e w2 ⟨rfl, hb2⟩
  have s3 := s2.call hb2
  clear hb2 s2
  have q3 := s3.hold
  simp only [Holds, and_true] at q3
  have s4 : St w ((((w2.setCell ⟨b, 0, none⟩ (.int .i64 x0)).setCell ⟨b, 1, none⟩ (.int .i64 x1)).setCell ⟨b + 1, 0, none⟩ (.int .i64 y0)).setCell ⟨b + 1, 1, none⟩ (.int .i64 y1)) (TZ a) ((b + 1, 0, Value.int .i64 (y0)) :: (b + 1, 1, Value.int .i64 (y1)) :: (b, 0, Value.int .i64 (x0)) :: (b, 1, Value.int .i64 (x1)) :: (w.heap.size + 1 + 1 + 1, 0, Value.bool false) :: (w.heap.size + 1 + 1 + 1, 1, Value.bool false) :: (w.heap.size + 1 + 1 + 1, 2, Value.int .i64 0) :: (w.heap.size + 1 + 1 + 1, 3, Value.int .i64 0) :: (w.heap.size + 1 + 1, 0, Value.bool false) :: (w.heap.size + 1 + 1, 1, Value.bool false) :: (w.heap.size + 1 + 1, 2, Value.int .i64 0) :: (w.heap.size + 1 + 1, 3, Value.int .i64 0) :: []) := St.set2 [] _ (St.set2 ((b + 1, 0, Value.int .i64 (q0)) :: (b + 1, 1, Value.int .i64 (q1)) :: []) _ s3 (by omega) ⟨(by dsimp only; omega), (by dsimp only; omega), trivial⟩ ⟨(by dsimp only; omega), (by dsimp only; omega), (by dsimp only; omega), (by dsimp only; omega), (by dsimp only; omega), (by dsimp only; omega), (by dsimp only; omega), (by dsimp only; omega), trivial⟩ (.int .i64 x0) (.int .i64 x1)) (by omega) trivial ⟨(by dsimp only; omega), (by dsimp only; omega), (by dsimp only; omega), (by dsimp only; omega), (by dsimp only; omega), (by dsimp only; omega), (by dsimp only; omega), (by dsimp only; omega), (by dsimp only; omega), (by dsimp only; omega), trivial⟩ (.int .i64 y0) (.int .i64 y1)
  clear s3
  go_upto_region 4 with fail
  obtain ⟨W, hW⟩ : ∃ W, W = ((((w2.setCell ⟨b, 0, none⟩ (.int .i64 x0)).setCell ⟨b, 1, none⟩ (.int .i64 x1)).setCell ⟨b + 1, 0, none⟩ (.int .i64 y0)).setCell ⟨b + 1, 1, none⟩ (.int .i64 y1)) := ⟨_, rfl⟩
  rw [← hW] at s4 ⊢
  clear hW q3
  have q4 := s4.hold
  simp only [Holds, and_true] at q4
  go_wp2_with fail
  refine (isNone_any _ _ _).mono ?_
  rintro e w5 ⟨rfl, hb5⟩
  have s5 := s4.call hb5
  have q5 := s5.hold
  simp only [Holds, and_true] at q5
  clear hb5 s4 q4
  by_cases hz : x1 < x0
  · rw [decide_eq_true hz]
    go_wp2_with fail
    have s8 : St w ((((((((w5.setCell ⟨w.heap.size + 1 + 1, 0, none⟩ (.bool false)).setCell ⟨w.heap.size + 1 + 1, 1, none⟩ (.bool false)).setCell ⟨w.heap.size + 1 + 1, 2, none⟩ (.int .i64 0)).setCell ⟨w.heap.size + 1 + 1, 3, none⟩ (.int .i64 0)).setCell ⟨w.heap.size + 1 + 1 + 1, 0, none⟩ (.bool false)).setCell ⟨w.heap.size + 1 + 1 + 1, 1, none⟩ (.bool false)).setCell ⟨w.heap.size + 1 + 1 + 1, 2, none⟩ (.int .i64 0)).setCell ⟨w.heap.size + 1 + 1 + 1, 3, none⟩ (.int .i64 0)) (TZ a) ((w.heap.size + 1 + 1 + 1, 0, Value.bool false) :: (w.heap.size + 1 + 1 + 1, 1, Value.bool false) :: (w.heap.size + 1 + 1 + 1, 2, Value.int .i64 0) :: (w.heap.size + 1 + 1 + 1, 3, Value.int .i64 0) :: (w.heap.size + 1 + 1, 0, Value.bool false) :: (w.heap.size + 1 + 1, 1, Value.bool false) :: (w.heap.size + 1 + 1, 2, Value.int .i64 0) :: (w.heap.size + 1 + 1, 3, Value.int .i64 0) :: []) := St.set4 [] _ (St.set4 ((w.heap.size + 1 + 1 + 1, 0, Value.bool false) :: (w.heap.size + 1 + 1 + 1, 1, Value.bool false) :: (w.heap.size + 1 + 1 + 1, 2, Value.int .i64 0) :: (w.heap.size + 1 + 1 + 1, 3, Value.int .i64 0) :: []) [] (s5.drop 4) (by omega) ⟨(by dsimp only; omega), (by dsimp only; omega), (by dsimp only; omega), (by dsimp only; omega), trivial⟩ trivial (.bool false) (.bool false) (.int .i64 0) (.int .i64 0)) (by omega) trivial ⟨(by dsimp only; omega), (by dsimp only; omega), (by dsimp only; omega), (by dsimp only; omega), trivial⟩ (.bool false) (.bool false) (.int .i64 0) (.int .i64 0)
    obtain ⟨W8, hW8⟩ : ∃ W8, W8 = ((((((((w5.setCell ⟨w.heap.size + 1 + 1, 0, none⟩ (.bool false)).setCell ⟨w.heap.size + 1 + 1, 1, none⟩ (.bool false)).setCell ⟨w.heap.size + 1 + 1, 2, none⟩ (.int .i64 0)).setCell ⟨w.heap.size + 1 + 1, 3, none⟩ (.int .i64 0)).setCell ⟨w.heap.size + 1 + 1 + 1, 0, none⟩ (.bool false)).setCell ⟨w.heap.size + 1 + 1 + 1, 1, none⟩ (.bool false)).setCell ⟨w.heap.size + 1 + 1 + 1, 2, none⟩ (.int .i64 0)).setCell ⟨w.heap.size + 1 + 1 + 1, 3, none⟩ (.int .i64 0)) := ⟨_, rfl⟩
    rw [← hW8] at s8 ⊢
    clear hW8
    have q8 := s8.hold
    simp only [Holds, and_true] at q8
    refine bodyPost_ret (v := .tuple #[(.agg #[.bool false, .bool false, .int .i64 0, .int .i64 0]), (.agg #[.bool false, .bool false, .int .i64 0, .int .i64 0]), .bool false, .nilIface]) ?_ rfl ⟨by first | (rw [if_pos (show x1 < x0 by omega), if_pos (show x1 < x0 by omega), decide_eq_false (show ¬ x0 ≤ x1 by omega)]; rfl) | (rw [decide_eq_false (show ¬ x0 ≤ x1 by omega)]; rfl) | rfl, s8.bel⟩
    simp [results, Tryd.results9, go_sem, q8]
  · rw [decide_eq_false hz]
    go_wp2_with fail
    go_region_with (first
      | (go_at_call_of 27 (Value.agg #[Value.int IntKind.i64 x0, Value.int IntKind.i64 x1]); refine (HT1.out _).mono ?_; rintro e w7 ⟨rfl, hb7⟩; first | (have s7 := s6.call hb7; have q7 := s7.hold; simp only [Holds, and_true] at q7; clear hb7 q6) | (have s6 := s5.drew.call hb7; have q6 := s6.hold; simp only [Holds, and_true] at q6; clear hb7 q5))
      | (go_at_call_of 27 (Value.agg #[Value.int IntKind.i64 y0, Value.int IntKind.i64 y1]); refine (HT2.out _).mono ?_; rintro e w7 ⟨rfl, hb7⟩; first | (have s7 := s6.call hb7; have q7 := s7.hold; simp only [Holds, and_true] at q7; clear hb7 q6) | (have s6 := s5.drew.call hb7; have q6 := s6.hold; simp only [Holds, and_true] at q6; clear hb7 q5)))
    all_goals
      go_wp2_with fail
      have s8 : St w ((((((((w7.setCell ⟨w.heap.size + 1 + 1, 0, none⟩ (.bool td)).setCell ⟨w.heap.size + 1 + 1, 1, none⟩ (.bool tu)).setCell ⟨w.heap.size + 1 + 1, 2, none⟩ (.int .i64 tl)).setCell ⟨w.heap.size + 1 + 1, 3, none⟩ (.int .i64 th)).setCell ⟨w.heap.size + 1 + 1 + 1, 0, none⟩ (.bool vd)).setCell ⟨w.heap.size + 1 + 1 + 1, 1, none⟩ (.bool vu)).setCell ⟨w.heap.size + 1 + 1 + 1, 2, none⟩ (.int .i64 vl)).setCell ⟨w.heap.size + 1 + 1 + 1, 3, none⟩ (.int .i64 vh)) (TZ a) ((w.heap.size + 1 + 1 + 1, 0, Value.bool vd) :: (w.heap.size + 1 + 1 + 1, 1, Value.bool vu) :: (w.heap.size + 1 + 1 + 1, 2, Value.int .i64 vl) :: (w.heap.size + 1 + 1 + 1, 3, Value.int .i64 vh) :: (w.heap.size + 1 + 1, 0, Value.bool td) :: (w.heap.size + 1 + 1, 1, Value.bool tu) :: (w.heap.size + 1 + 1, 2, Value.int .i64 tl) :: (w.heap.size + 1 + 1, 3, Value.int .i64 th) :: []) := St.set4 [] _ (St.set4 ((w.heap.size + 1 + 1 + 1, 0, Value.bool false) :: (w.heap.size + 1 + 1 + 1, 1, Value.bool false) :: (w.heap.size + 1 + 1 + 1, 2, Value.int .i64 0) :: (w.heap.size + 1 + 1 + 1, 3, Value.int .i64 0) :: []) [] (s7.drop 4) (by omega) ⟨(by dsimp only; omega), (by dsimp only; omega), (by dsimp only; omega), (by dsimp only; omega), trivial⟩ trivial (.bool td) (.bool tu) (.int .i64 tl) (.int .i64 th)) (by omega) trivial ⟨(by dsimp only; omega), (by dsimp only; omega), (by dsimp only; omega), (by dsimp only; omega), trivial⟩ (.bool vd) (.bool vu) (.int .i64 vl) (.int .i64 vh)
      obtain ⟨W8, hW8⟩ : ∃ W8, W8 = ((((((((w7.setCell ⟨w.heap.size + 1 + 1, 0, none⟩ (.bool td)).setCell ⟨w.heap.size + 1 + 1, 1, none⟩ (.bool tu)).setCell ⟨w.heap.size + 1 + 1, 2, none⟩ (.int .i64 tl)).setCell ⟨w.heap.size + 1 + 1, 3, none⟩ (.int .i64 th)).setCell ⟨w.heap.size + 1 + 1 + 1, 0, none⟩ (.bool vd)).setCell ⟨w.heap.size + 1 + 1 + 1, 1, none⟩ (.bool vu)).setCell ⟨w.heap.size + 1 + 1 + 1, 2, none⟩ (.int .i64 vl)).setCell ⟨w.heap.size + 1 + 1 + 1, 3, none⟩ (.int .i64 vh)) := ⟨_, rfl⟩
      rw [← hW8] at s8 ⊢
      clear hW8
      have q8 := s8.hold
      simp only [Holds, and_true] at q8
      refine bodyPost_ret (v := .tuple #[(.agg #[.bool td, .bool tu, .int .i64 tl, .int .i64 th]), (.agg #[.bool vd, .bool vu, .int .i64 vl, .int .i64 vh]), .bool true, .nilIface]) ?_ rfl ⟨by first | (rw [if_neg (show ¬ x1 < x0 by omega), if_neg (show ¬ x1 < x0 by omega), decide_eq_true (show x0 ≤ x1 by omega)]; rfl) | (rw [decide_eq_true (show x0 ≤ x1 by omega)]; rfl) | rfl, s8.bel⟩
      simp [results, Tryd.results9, go_sem, q8]

theorem refine_is (a : Nat → Addr) : RefineC a := by
  intro d u d' u' lo hi lo' hi' s w hS _ _
  by_cases hE : twoErr ⟨d, u, lo, hi⟩ ⟨d', u', lo', hi'⟩ = 0
  · by_cases hk : kindOf s = 0
    · have hr : refErr ⟨d, u, lo, hi⟩ ⟨d', u', lo', hi'⟩ s = 1 := by unfold refErr; rw [if_pos hE, if_pos hk]
      refine (refine_how a d u d' u' lo hi lo' hi' s w hS hE hk).mono ?_
      rintro e w' ⟨rfl, hb⟩
      exact ⟨⟨ivZ, ivZ, false, by rw [hr]; rfl, fun h => absurd h (by rw [hr]; decide), fun _ => ⟨rfl, rfl, rfl⟩⟩, hb⟩
    · have hr : refErr ⟨d, u, lo, hi⟩ ⟨d', u', lo', hi'⟩ s = 0 := by unfold refErr; rw [if_pos hE, if_neg hk]
      obtain ⟨kA, kB⟩ := (twoErr_ok _ _).1 hE
      obtain ⟨k, hk'⟩ : ∃ k, k = kindOf s := ⟨_, rfl⟩
      have hle := kindOf_le s
      have es : s = howS k := kindOf_eq hk'.symm (by omega)
      refine (refine_left a d u d' u' lo hi lo' hi' _ _ _ _ s w hS hE (fun W => by rw [es]; exact refined_c k (by omega) (by omega) (endR_of kA) (endR_of kB) W)).mono ?_
      rintro e w' ⟨rfl, hb⟩
      exact ⟨⟨_, _, _, by rw [hr]; rfl, fun _ => by rw [← hk']; exact refS_of kA kB k (by omega) (by omega) rfl rfl rfl rfl, fun h => absurd hr h⟩, hb⟩
  · have hr : refErr ⟨d, u, lo, hi⟩ ⟨d', u', lo', hi'⟩ s = twoErr ⟨d, u, lo, hi⟩ ⟨d', u', lo', hi'⟩ := by unfold refErr; rw [if_neg hE]
    refine (refine_two a d u d' u' lo hi lo' hi' s w hS hE).mono ?_
    rintro e w' ⟨rfl, hb⟩
    exact ⟨⟨ivZ, ivZ, false, by rw [hr]; rfl, fun h => absurd (hr ▸ h) hE, fun _ => ⟨rfl, rfl, rfl⟩⟩, hb⟩

end Go.Proofs.YtijbjahedfmfgabDoor
