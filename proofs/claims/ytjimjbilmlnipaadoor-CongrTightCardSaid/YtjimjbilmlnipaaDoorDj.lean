/- The program's congruences: the tight interval. -/
import Derived.Test.YtjimjbilmlnipaaDoorDi
import Derived.StillTailTactics
namespace Go.Proofs.YtjimjbilmlnipaaDoor
open Go.RowKit
set_option linter.unusedVariables false

/-- What tight answers. -/
def TiPost (w : World) (A : Cg) (B : Iv) (e : Ending) (w' : World) : Prop := ∃ (R : Iv) (b : Bool), e = .returned (.tuple #[R.v, .bool b]) ∧ TightS A B R b ∧ Below w.heap.size w w'
theorem TiPost.mk {w : World} {A : Cg} {B : Iv} {e : Ending} {w' : World} (R : Iv) (b : Bool) (h1 : e = .returned (.tuple #[R.v, .bool b])) (h2 : TightS A B R b) (h3 : Below w.heap.size w w') : TiPost w A B e w' := ⟨R, b, h1, h2, h3⟩

set_option maxRecDepth 20000 in
set_option maxHeartbeats 2000000 in
theorem tight_pos (r m : Int) (d u : Bool) (lo hi : Int) (a : Nat → Addr) (w : World) (hS : ErrS w a) (o1 : okC ⟨r, m⟩) (o2 : okI ⟨d, u, lo, hi⟩) (hm : 0 < m) :
    Calls Tryd.prog 42 #[(.agg #[.int .i64 r, .int .i64 m]), (.agg #[.bool d, .bool u, .int .i64 lo, .int .i64 hi])] w fun e w' => TiPost w ⟨r, m⟩ ⟨d, u, lo, hi⟩ e w' := by
  obtain ⟨b1, b2, c1⟩ := okC_rng o1
  obtain ⟨p1, p2, p3, p4, p5, p6, p7⟩ := o2
  dsimp only at p4 p5 p6 p7
  obtain ⟨z, hz⟩ : ∃ z, z = restI (r - lo) m := ⟨_, rfl⟩
  obtain ⟨y, hy⟩ : ∃ y, y = restI (hi - r) m := ⟨_, rfl⟩
  have zb := restI_range (n := r - lo) hm
  have yb := restI_range (n := hi - r) hm
  rw [← hz] at zb
  rw [← hy] at yb
  have HZ : Hid (∀ W : World, Calls Tryd.prog 34 #[.int .i64 (IntKind.i64.wrap (r - lo)), .int .i64 m] W fun e w' => e = .returned (.int .i64 z) ∧ w' = W) := fun W => by rw [wrap_small (r - lo) (by omega) (by omega)]; exact rest_as (r - lo) m z hz W (by omega) (by omega)
  have HY : Hid (∀ W : World, Calls Tryd.prog 34 #[.int .i64 (IntKind.i64.wrap (hi - r)), .int .i64 m] W fun e w' => e = .returned (.int .i64 y) ∧ w' = W) := fun W => by rw [wrap_small (hi - r) (by omega) (by omega)]; exact rest_as (hi - r) m y hy W (by omega) (by omega)
  obtain ⟨lo1, hlo1⟩ : ∃ x, x = tiL r m d lo := ⟨_, rfl⟩
  obtain ⟨hi1, hhi1⟩ : ∃ x, x = tiH r m u hi := ⟨_, rfl⟩
  have el : lo1 = if d then lo else lo + z := by rw [hlo1, hz]; rfl
  have eh : hi1 = if u then hi else hi - y := by rw [hhi1, hy]; rfl
  have O2 : okI ⟨d, u, lo, hi⟩ := ⟨p1, p2, p3, p4, p5, p6, p7⟩
  have TN : Hid (d = false → u = false → hi1 < lo1 → TightS ⟨r, m⟩ ⟨d, u, lo, hi⟩ ⟨false, false, 0, 0⟩ false) := by
    rintro rfl rfl h; rw [hlo1, hhi1] at h; exact tight_none hm h
  have TS : Hid (¬ (d = false ∧ u = false ∧ hi1 < lo1) → TightS ⟨r, m⟩ ⟨d, u, lo, hi⟩ ⟨d, u, min lo1 1099511627776, max hi1 (-1099511627776)⟩ true) := by
    intro h; rw [hlo1, hhi1] at h ⊢; exact tight_some o1 O2 hm h
  have El := hide el
  have Eh := hide eh
  have lb : -1099511627776 ≤ lo1 ∧ lo1 ≤ 1099513676352 := by rw [el]; split <;> omega
  have hb' : -1099513676352 ≤ hi1 ∧ hi1 ≤ 1099511627776 := by rw [eh]; split <;> omega
  clear hz hy hlo1 hhi1 el eh p1 p2 p3 O2 o1
  have hmb : (m == 0) = false := by simp; omega
  have s0 := (((St.startE hS).box2 31 (.int .i64 r) (.int .i64 m)).box4 50 (.bool d) (.bool u) (.int .i64 lo) (.int .i64 hi)).box4 50 (.bool false) (.bool false) (.int .i64 0) (.int .i64 0)
  simp only [callocSize] at s0
  go_enter Tryd.func42, Tryd.ntmps42
  go_upto_if 22 with fail
  obtain ⟨W0, hW0⟩ : ∃ W, W = ((w.alloc (.cells #[.int .i64 r, .int .i64 m] 31)).alloc (.cells #[.bool d, .bool u, .int .i64 lo, .int .i64 hi] 50)).alloc (.cells #[.bool false, .bool false, .int .i64 0, .int .i64 0] 50) := ⟨_, rfl⟩
  rw [← hW0] at s0 ⊢
  have q0 := s0.hold
  simp only [Holds, and_true] at q0
  clear hW0
  go_cut [5] (fun s5 wx => s5 = .bool false ∧ St w wx (EZ a) ((w.heap.size + 1 + 1, 0, Value.bool (false)) :: (w.heap.size + 1 + 1, 1, Value.bool (false)) :: (w.heap.size + 1 + 1, 2, Value.int .i64 (0)) :: (w.heap.size + 1 + 1, 3, Value.int .i64 (0)) :: (w.heap.size + 1, 0, Value.bool (d)) :: (w.heap.size + 1, 1, Value.bool (u)) :: (w.heap.size + 1, 2, Value.int .i64 (lo1)) :: (w.heap.size + 1, 3, Value.int .i64 (hi)) :: (w.heap.size, 0, Value.int .i64 (r)) :: (w.heap.size, 1, Value.int .i64 (m)) :: []))
  case first =>
    cases d
    · have e : lo1 = lo + z := by rw [El.out]; rfl
      have E := hide e
      clear e
      go_upto_region 6 with fail
      refine wp_region_still_tail 12 (by kernel_rfl) (by kernel_rfl) ?_
      simp only [List.take_succ_cons, List.take_zero, List.drop_succ_cons, List.drop_zero]
      repeat still_step
      still_call (HZ.out _)
      repeat still_step
      refine wpStill_nil ?_
      all_goals
        go_wp2_with fail
        go_meet
        case rel => exact ⟨rfl, by rw [E.out]; exact (put_lo (d := false) s0 (lo + z)).drew⟩
    · have e : lo1 = lo := by rw [El.out]; rfl
      subst e
      go_wp2_with fail
      go_meet
      case rel => exact ⟨rfl, s0⟩
  case rest =>
  obtain ⟨rfl, s1⟩ := hcut
  clear s0 q0
  have q1 := s1.hold
  simp only [Holds, and_true] at q1
  go_upto_if 37 with fail
  go_cut [5] (fun s5 wx => s5 = .bool false ∧ St w wx (EZ a) ((w.heap.size + 1 + 1, 0, Value.bool (false)) :: (w.heap.size + 1 + 1, 1, Value.bool (false)) :: (w.heap.size + 1 + 1, 2, Value.int .i64 (0)) :: (w.heap.size + 1 + 1, 3, Value.int .i64 (0)) :: (w.heap.size + 1, 0, Value.bool (d)) :: (w.heap.size + 1, 1, Value.bool (u)) :: (w.heap.size + 1, 2, Value.int .i64 (lo1)) :: (w.heap.size + 1, 3, Value.int .i64 (hi1)) :: (w.heap.size, 0, Value.int .i64 (r)) :: (w.heap.size, 1, Value.int .i64 (m)) :: []))
  case first =>
    cases u
    · have e : hi1 = hi - y := by rw [Eh.out]; rfl
      have E := hide e
      clear e
      go_upto_region 8 with fail
      refine wp_region_still_tail 12 (by kernel_rfl) (by kernel_rfl) ?_
      simp only [List.take_succ_cons, List.take_zero, List.drop_succ_cons, List.drop_zero]
      repeat still_step
      still_call (HY.out _)
      repeat still_step
      refine wpStill_nil ?_
      all_goals
        go_wp2_with fail
        go_meet
        case rel => exact ⟨rfl, by rw [E.out]; exact (put_hi (u := false) s1 (hi - y)).drew⟩
    · have e : hi1 = hi := by rw [Eh.out]; rfl
      subst e
      go_wp2_with fail
      go_meet
      case rel => exact ⟨rfl, s1⟩
  case rest =>
  obtain ⟨rfl, s2⟩ := hcut
  clear s1 q1
  have q2 := s2.hold
  simp only [Holds, and_true] at q2
  by_cases hno : d = false ∧ u = false ∧ hi1 < lo1
  · obtain ⟨rfl, rfl, hlt⟩ := hno
    have M := hide (TN.out rfl rfl hlt)
    clear TN TS
    go_wp2_with fail
    refine bodyPost_ret (v := .tuple #[(.agg #[.bool false, .bool false, .int .i64 0, .int .i64 0]), .bool false]) (by simp [results, Tryd.results42, go_sem, *]) rfl (TiPost.mk ⟨false, false, 0, 0⟩ false rfl M.out ?_)
    (repeat' (first | exact s4.bel | exact s3.bel | exact s2.bel | exact s1.bel | refine Below.setCell ?_ (by first | (simp; done) | (simp; omega) | (dsimp only; omega)) _ | refine Below.alloc ?_ (by first | (simp; done) | (simp; omega)) _ | refine Below.drew ?_ | exact Below.refl _ _))
  · have M := hide (TS.out hno)
    clear TN TS
    obtain ⟨lo2, hl2⟩ : ∃ x, x = min lo1 1099511627776 := ⟨_, rfl⟩
    obtain ⟨hi2, hh2⟩ : ∃ x, x = max hi1 (-1099511627776) := ⟨_, rfl⟩
    have M2 : Hid (TightS ⟨r, m⟩ ⟨d, u, lo, hi⟩ ⟨d, u, lo2, hi2⟩ true) := by show TightS _ _ _ _; rw [hl2, hh2]; exact M.out
    have L2 := hide hl2
    have H2 := hide hh2
    clear M hl2 hh2
    have hle : d = true ∨ u = true ∨ lo1 ≤ hi1 := by
      cases d <;> cases u <;> simp at hno ⊢
      omega
    clear hno
    cases d <;> cases u
    · have hle2 : lo1 ≤ hi1 := hle.resolve_left (by simp) |>.resolve_left (by simp)
      clear hle
      go_upto_region 11 with fail
      go_cut [5] (fun s5 wx => s5 = .bool false ∧ St w wx (EZ a) ((w.heap.size + 1 + 1, 0, Value.bool (false)) :: (w.heap.size + 1 + 1, 1, Value.bool (false)) :: (w.heap.size + 1 + 1, 2, Value.int .i64 (0)) :: (w.heap.size + 1 + 1, 3, Value.int .i64 (0)) :: (w.heap.size + 1, 0, Value.bool (false)) :: (w.heap.size + 1, 1, Value.bool (false)) :: (w.heap.size + 1, 2, Value.int .i64 (lo2)) :: (w.heap.size + 1, 3, Value.int .i64 (hi2)) :: (w.heap.size, 0, Value.int .i64 (r)) :: (w.heap.size, 1, Value.int .i64 (m)) :: []))
      case first =>
        go_wp2_with fail
        all_goals
          go_meet
          case rel => first
            | exact ⟨rfl, by rw [show lo2 = lo1 by have := L2.out; omega, show hi2 = hi1 by have := H2.out; omega]; exact put_hi (d := false) (u := false) (put_lo (d := false) (u := false) s2 _) _⟩
            | exact ⟨rfl, by rw [show lo2 = lo1 by have := L2.out; omega, show hi2 = -1099511627776 by have := H2.out; omega]; exact put_hi (d := false) (u := false) (put_lo (d := false) (u := false) s2 _) _⟩
            | exact ⟨rfl, by rw [show lo2 = 1099511627776 by have := L2.out; omega, show hi2 = hi1 by have := H2.out; omega]; exact put_hi (d := false) (u := false) (put_lo (d := false) (u := false) s2 _) _⟩
            | exact ⟨rfl, by rw [show lo2 = 1099511627776 by have := L2.out; omega, show hi2 = -1099511627776 by have := H2.out; omega]; exact put_hi (d := false) (u := false) (put_lo (d := false) (u := false) s2 _) _⟩
            | exact ⟨rfl, by rw [L2.out, H2.out]; exact put_hi (d := false) (u := false) (put_lo (d := false) (u := false) s2 _) _⟩
      case rest =>
      obtain ⟨rfl, s4⟩ := hcut
      clear s2 q2
      have q4 := s4.hold
      simp only [Holds, and_true] at q4
      go_wp2_with fail
      refine bodyPost_ret (v := .tuple #[(.agg #[.bool false, .bool false, .int .i64 lo2, .int .i64 hi2]), .bool true]) (by simp [results, Tryd.results42, go_sem, *]) rfl (TiPost.mk ⟨false, false, lo2, hi2⟩ true rfl M2.out ?_)
      (repeat' (first | exact s4.bel | exact s3.bel | exact s2.bel | exact s1.bel | refine Below.setCell ?_ (by first | (simp; done) | (simp; omega) | (dsimp only; omega)) _ | refine Below.alloc ?_ (by first | (simp; done) | (simp; omega)) _ | refine Below.drew ?_ | exact Below.refl _ _))
    · skip
      clear hle
      go_upto_region 11 with fail
      go_cut [5] (fun s5 wx => s5 = .bool false ∧ St w wx (EZ a) ((w.heap.size + 1 + 1, 0, Value.bool (false)) :: (w.heap.size + 1 + 1, 1, Value.bool (false)) :: (w.heap.size + 1 + 1, 2, Value.int .i64 (0)) :: (w.heap.size + 1 + 1, 3, Value.int .i64 (0)) :: (w.heap.size + 1, 0, Value.bool (false)) :: (w.heap.size + 1, 1, Value.bool (true)) :: (w.heap.size + 1, 2, Value.int .i64 (lo2)) :: (w.heap.size + 1, 3, Value.int .i64 (hi2)) :: (w.heap.size, 0, Value.int .i64 (r)) :: (w.heap.size, 1, Value.int .i64 (m)) :: []))
      case first =>
        go_wp2_with fail
        all_goals
          go_meet
          case rel => first
            | exact ⟨rfl, by rw [show lo2 = lo1 by have := L2.out; omega, show hi2 = hi1 by have := H2.out; omega]; exact put_hi (d := false) (u := true) (put_lo (d := false) (u := true) s2 _) _⟩
            | exact ⟨rfl, by rw [show lo2 = lo1 by have := L2.out; omega, show hi2 = -1099511627776 by have := H2.out; omega]; exact put_hi (d := false) (u := true) (put_lo (d := false) (u := true) s2 _) _⟩
            | exact ⟨rfl, by rw [show lo2 = 1099511627776 by have := L2.out; omega, show hi2 = hi1 by have := H2.out; omega]; exact put_hi (d := false) (u := true) (put_lo (d := false) (u := true) s2 _) _⟩
            | exact ⟨rfl, by rw [show lo2 = 1099511627776 by have := L2.out; omega, show hi2 = -1099511627776 by have := H2.out; omega]; exact put_hi (d := false) (u := true) (put_lo (d := false) (u := true) s2 _) _⟩
            | exact ⟨rfl, by rw [L2.out, H2.out]; exact put_hi (d := false) (u := true) (put_lo (d := false) (u := true) s2 _) _⟩
      case rest =>
      obtain ⟨rfl, s4⟩ := hcut
      clear s2 q2
      have q4 := s4.hold
      simp only [Holds, and_true] at q4
      go_wp2_with fail
      refine bodyPost_ret (v := .tuple #[(.agg #[.bool false, .bool true, .int .i64 lo2, .int .i64 hi2]), .bool true]) (by simp [results, Tryd.results42, go_sem, *]) rfl (TiPost.mk ⟨false, true, lo2, hi2⟩ true rfl M2.out ?_)
      (repeat' (first | exact s4.bel | exact s3.bel | exact s2.bel | exact s1.bel | refine Below.setCell ?_ (by first | (simp; done) | (simp; omega) | (dsimp only; omega)) _ | refine Below.alloc ?_ (by first | (simp; done) | (simp; omega)) _ | refine Below.drew ?_ | exact Below.refl _ _))
    · skip
      clear hle
      go_upto_region 11 with fail
      go_cut [5] (fun s5 wx => s5 = .bool false ∧ St w wx (EZ a) ((w.heap.size + 1 + 1, 0, Value.bool (false)) :: (w.heap.size + 1 + 1, 1, Value.bool (false)) :: (w.heap.size + 1 + 1, 2, Value.int .i64 (0)) :: (w.heap.size + 1 + 1, 3, Value.int .i64 (0)) :: (w.heap.size + 1, 0, Value.bool (true)) :: (w.heap.size + 1, 1, Value.bool (false)) :: (w.heap.size + 1, 2, Value.int .i64 (lo2)) :: (w.heap.size + 1, 3, Value.int .i64 (hi2)) :: (w.heap.size, 0, Value.int .i64 (r)) :: (w.heap.size, 1, Value.int .i64 (m)) :: []))
      case first =>
        go_wp2_with fail
        all_goals
          go_meet
          case rel => first
            | exact ⟨rfl, by rw [show lo2 = lo1 by have := L2.out; omega, show hi2 = hi1 by have := H2.out; omega]; exact put_hi (d := true) (u := false) (put_lo (d := true) (u := false) s2 _) _⟩
            | exact ⟨rfl, by rw [show lo2 = lo1 by have := L2.out; omega, show hi2 = -1099511627776 by have := H2.out; omega]; exact put_hi (d := true) (u := false) (put_lo (d := true) (u := false) s2 _) _⟩
            | exact ⟨rfl, by rw [show lo2 = 1099511627776 by have := L2.out; omega, show hi2 = hi1 by have := H2.out; omega]; exact put_hi (d := true) (u := false) (put_lo (d := true) (u := false) s2 _) _⟩
            | exact ⟨rfl, by rw [show lo2 = 1099511627776 by have := L2.out; omega, show hi2 = -1099511627776 by have := H2.out; omega]; exact put_hi (d := true) (u := false) (put_lo (d := true) (u := false) s2 _) _⟩
            | exact ⟨rfl, by rw [L2.out, H2.out]; exact put_hi (d := true) (u := false) (put_lo (d := true) (u := false) s2 _) _⟩
      case rest =>
      obtain ⟨rfl, s4⟩ := hcut
      clear s2 q2
      have q4 := s4.hold
      simp only [Holds, and_true] at q4
      go_wp2_with fail
      refine bodyPost_ret (v := .tuple #[(.agg #[.bool true, .bool false, .int .i64 lo2, .int .i64 hi2]), .bool true]) (by simp [results, Tryd.results42, go_sem, *]) rfl (TiPost.mk ⟨true, false, lo2, hi2⟩ true rfl M2.out ?_)
      (repeat' (first | exact s4.bel | exact s3.bel | exact s2.bel | exact s1.bel | refine Below.setCell ?_ (by first | (simp; done) | (simp; omega) | (dsimp only; omega)) _ | refine Below.alloc ?_ (by first | (simp; done) | (simp; omega)) _ | refine Below.drew ?_ | exact Below.refl _ _))
    · skip
      clear hle
      go_upto_region 11 with fail
      go_cut [5] (fun s5 wx => s5 = .bool false ∧ St w wx (EZ a) ((w.heap.size + 1 + 1, 0, Value.bool (false)) :: (w.heap.size + 1 + 1, 1, Value.bool (false)) :: (w.heap.size + 1 + 1, 2, Value.int .i64 (0)) :: (w.heap.size + 1 + 1, 3, Value.int .i64 (0)) :: (w.heap.size + 1, 0, Value.bool (true)) :: (w.heap.size + 1, 1, Value.bool (true)) :: (w.heap.size + 1, 2, Value.int .i64 (lo2)) :: (w.heap.size + 1, 3, Value.int .i64 (hi2)) :: (w.heap.size, 0, Value.int .i64 (r)) :: (w.heap.size, 1, Value.int .i64 (m)) :: []))
      case first =>
        go_wp2_with fail
        all_goals
          go_meet
          case rel => first
            | exact ⟨rfl, by rw [show lo2 = lo1 by have := L2.out; omega, show hi2 = hi1 by have := H2.out; omega]; exact put_hi (d := true) (u := true) (put_lo (d := true) (u := true) s2 _) _⟩
            | exact ⟨rfl, by rw [show lo2 = lo1 by have := L2.out; omega, show hi2 = -1099511627776 by have := H2.out; omega]; exact put_hi (d := true) (u := true) (put_lo (d := true) (u := true) s2 _) _⟩
            | exact ⟨rfl, by rw [show lo2 = 1099511627776 by have := L2.out; omega, show hi2 = hi1 by have := H2.out; omega]; exact put_hi (d := true) (u := true) (put_lo (d := true) (u := true) s2 _) _⟩
            | exact ⟨rfl, by rw [show lo2 = 1099511627776 by have := L2.out; omega, show hi2 = -1099511627776 by have := H2.out; omega]; exact put_hi (d := true) (u := true) (put_lo (d := true) (u := true) s2 _) _⟩
            | exact ⟨rfl, by rw [L2.out, H2.out]; exact put_hi (d := true) (u := true) (put_lo (d := true) (u := true) s2 _) _⟩
      case rest =>
      obtain ⟨rfl, s4⟩ := hcut
      clear s2 q2
      have q4 := s4.hold
      simp only [Holds, and_true] at q4
      go_wp2_with fail
      refine bodyPost_ret (v := .tuple #[(.agg #[.bool true, .bool true, .int .i64 lo2, .int .i64 hi2]), .bool true]) (by simp [results, Tryd.results42, go_sem, *]) rfl (TiPost.mk ⟨true, true, lo2, hi2⟩ true rfl M2.out ?_)
      (repeat' (first | exact s4.bel | exact s3.bel | exact s2.bel | exact s1.bel | refine Below.setCell ?_ (by first | (simp; done) | (simp; omega) | (dsimp only; omega)) _ | refine Below.alloc ?_ (by first | (simp; done) | (simp; omega)) _ | refine Below.drew ?_ | exact Below.refl _ _))
end Go.Proofs.YtjimjbilmlnipaaDoor
