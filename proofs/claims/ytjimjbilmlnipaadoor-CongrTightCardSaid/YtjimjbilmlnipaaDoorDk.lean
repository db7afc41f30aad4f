/- The program's congruences: Tight. -/
import Derived.Test.YtjimjbilmlnipaaDoorDj
namespace Go.Proofs.YtjimjbilmlnipaaDoor
open Go.RowKit
set_option linter.unusedVariables false

set_option maxRecDepth 20000 in
set_option maxHeartbeats 4000000 in
theorem tight_zero (r : Int) (d u : Bool) (lo hi : Int) (a : Nat → Addr) (w : World) (hS : ErrS w a) (o1 : okC ⟨r, 0⟩) (o2 : ivErr d u lo hi = 0) :
    Calls Tryd.prog 42 #[(.agg #[.int .i64 r, .int .i64 0]), (.agg #[.bool d, .bool u, .int .i64 lo, .int .i64 hi])] w fun e w' => TiPost w ⟨r, 0⟩ ⟨d, u, lo, hi⟩ e w' := by
  obtain ⟨f, hf⟩ : ∃ f, f = inB ⟨d, u, lo, hi⟩ r := ⟨_, rfl⟩
  have HH : Hid (∀ W : World, ErrS W a → Calls Tryd.prog 48 #[(.agg #[.bool d, .bool u, .int .i64 lo, .int .i64 hi]), .int .i64 r] W fun e w' => e = .returned (.bool f) ∧ Below W.heap.size W w') := fun W h => by rw [hf]; exact ihas_any d u lo hi r o2 a W h
  have T : Hid (TightS ⟨r, 0⟩ ⟨d, u, lo, hi⟩ (if f = true then ⟨false, false, r, r⟩ else ⟨false, false, 0, 0⟩) f) := by
    have := tight_num (r := r) (lo := lo) (hi := hi) (d := d) (u := u) o1
    rw [hf]; exact this
  clear hf o1 o2
  have s0 := (((St.startE hS).box2 31 (.int .i64 r) (.int .i64 0)).box4 50 (.bool d) (.bool u) (.int .i64 lo) (.int .i64 hi)).box4 50 (.bool false) (.bool false) (.int .i64 0) (.int .i64 0)
  simp only [callocSize] at s0
  go_enter Tryd.func42, Tryd.ntmps42
  go_wp2_with fail
  refine (HH.out _ s0.errz).mono ?_
  (rintro e1 w1 ⟨rfl, hb⟩; have s1 := s0.call hb; have q1 := s1.hold; simp only [Holds, and_true] at q1; clear hb; try clear q0)
  have hz := s1.bel.size
  cases f
  · have M : Hid (TightS ⟨r, 0⟩ ⟨d, u, lo, hi⟩ ⟨false, false, 0, 0⟩ false) := T.out
    clear T
    go_wp2_with fail
    refine bodyPost_ret (v := .tuple #[(.agg #[.bool false, .bool false, .int .i64 0, .int .i64 0]), .bool false]) (by simp [results, Tryd.results42, go_sem, *]) rfl (TiPost.mk ⟨false, false, 0, 0⟩ false rfl M.out ?_)
    (repeat' (first | exact s4.bel | exact s3.bel | exact s2.bel | exact s1.bel | refine Below.setCell ?_ (by first | (simp; done) | (simp; omega) | (dsimp only; omega)) _ | refine Below.alloc ?_ (by first | (simp; done) | (simp; omega) | omega) _ | refine Below.drew ?_ | exact Below.refl _ _))
  · have M : Hid (TightS ⟨r, 0⟩ ⟨d, u, lo, hi⟩ ⟨false, false, r, r⟩ true) := T.out
    clear T
    go_wp2_with fail
    refine bodyPost_ret (v := .tuple #[(.agg #[.bool false, .bool false, .int .i64 r, .int .i64 r]), .bool true]) (by simp [results, Tryd.results42, go_sem, *]) rfl (TiPost.mk ⟨false, false, r, r⟩ true rfl M.out ?_)
    (repeat' (first | exact s4.bel | exact s3.bel | exact s2.bel | exact s1.bel | refine Below.setCell ?_ (by first | (simp; done) | (simp; omega) | (dsimp only; omega)) _ | refine Below.alloc ?_ (by first | (simp; done) | (simp; omega) | omega) _ | refine Below.drew ?_ | exact Below.refl _ _))

theorem tight_any (r m : Int) (d u : Bool) (lo hi : Int) (a : Nat → Addr) (w : World) (hS : ErrS w a) (o1 : okC ⟨r, m⟩) (o2 : ivErr d u lo hi = 0) :
    Calls Tryd.prog 42 #[(.agg #[.int .i64 r, .int .i64 m]), (.agg #[.bool d, .bool u, .int .i64 lo, .int .i64 hi])] w fun e w' => TiPost w ⟨r, m⟩ ⟨d, u, lo, hi⟩ e w' := by
  by_cases h0 : m = 0
  · subst h0; exact tight_zero r d u lo hi a w hS o1 o2
  · exact tight_pos r m d u lo hi a w hS o1 ((okI_iff ⟨d, u, lo, hi⟩).1 o2) (by have := o1.1; dsimp only at this; omega)
/-- What Tight answers. -/
def TaPost (a : Nat → Addr) (w : World) (A : Cg) (B : Iv) (x : Int) (e : Ending) (w' : World) : Prop := (∃ (R : Iv) (b : Bool), e = .returned (.tuple #[R.v, .bool b, errV a x]) ∧ (x = 0 → TightS A B R b) ∧ (x ≠ 0 → R = ⟨false, false, 0, 0⟩ ∧ b = false)) ∧ Below w.heap.size w w'
theorem TaPost.mk {a : Nat → Addr} {w : World} {A : Cg} {B : Iv} {x : Int} {e : Ending} {w' : World} (R : Iv) (b : Bool) (h1 : e = .returned (.tuple #[R.v, .bool b, errV a x])) (h2 : x = 0 → TightS A B R b) (h4 : x ≠ 0 → R = ⟨false, false, 0, 0⟩ ∧ b = false) (h3 : Below w.heap.size w w') : TaPost a w A B x e w' := ⟨⟨R, b, h1, h2, h4⟩, h3⟩

set_option maxRecDepth 20000 in
set_option maxHeartbeats 4000000 in
theorem ctight_is (a : Nat → Addr) : CTightC a := by
  intro r m d u lo hi w hS hR hQ
  obtain ⟨x, hx⟩ : ∃ x, x = cgErr r m := ⟨_, rfl⟩
  obtain ⟨y, hy⟩ : ∃ y, y = ivErr d u lo hi := ⟨_, rfl⟩
  have HV : Hid (∀ W : World, ErrS W a → Calls Tryd.prog 13 #[(.agg #[.int .i64 r, .int .i64 m])] W fun e w' => e = .returned (errV a x) ∧ Below W.heap.size W w') := fun W h => by rw [hx]; exact cvalid_any r m a W h hR.1 hR.2
  have HW : Hid (∀ W : World, ErrS W a → Calls Tryd.prog 41 #[(.agg #[.bool d, .bool u, .int .i64 lo, .int .i64 hi])] W fun e w' => e = .returned (errV a y) ∧ Below W.heap.size W w') := fun W h => by rw [hy]; exact ivalid_any d u lo hi a W h
  have he : cgIvErr ⟨r, m⟩ ⟨d, u, lo, hi⟩ = if x = 0 then y else x := by unfold cgIvErr; rw [hx, hy]
  rw [he]
  show Calls _ _ _ _ fun e w' => TaPost a w ⟨r, m⟩ ⟨d, u, lo, hi⟩ (if x = 0 then y else x) e w'
  have s0 := (((St.startE hS).box2 31 (.int .i64 r) (.int .i64 m)).box4 50 (.bool d) (.bool u) (.int .i64 lo) (.int .i64 hi)).box4 50 (.bool false) (.bool false) (.int .i64 0) (.int .i64 0)
  simp only [callocSize] at s0
  by_cases h0 : x = 0
  · rw [if_pos h0]
    have o1 : okC ⟨r, m⟩ := (okC_iff ⟨r, m⟩).1 (by show cgErr r m = 0; rw [← hx]; exact h0)
    by_cases h1 : y = 0
    · have HT : Hid (∀ W : World, ErrS W a → Calls Tryd.prog 42 #[(.agg #[.int .i64 r, .int .i64 m]), (.agg #[.bool d, .bool u, .int .i64 lo, .int .i64 hi])] W fun e w' => ∃ (td tu : Bool) (tl th : Int) (b : Bool), e = .returned (.tuple #[(.agg #[.bool td, .bool tu, .int .i64 tl, .int .i64 th]), .bool b]) ∧ Hid (TightS ⟨r, m⟩ ⟨d, u, lo, hi⟩ ⟨td, tu, tl, th⟩ b) ∧ Below W.heap.size W w') := fun W h => (tight_any r m d u lo hi a W h o1 (by rw [← hy]; exact h1)).mono fun _ _ ⟨⟨td, tu, tl, th⟩, b, k1, k2, k3⟩ => ⟨td, tu, tl, th, b, k1, k2, k3⟩
      clear hx hy he o1
      subst h0 h1
      go_enter Tryd.func29, Tryd.ntmps29
      go_wp2_with fail
      refine (HV.out _ s0.errz).mono ?_
      (rintro e1 w1 ⟨rfl, hb⟩; have s1 := s0.call hb; have q1 := s1.hold; simp only [Holds, and_true] at q1; clear hb; try clear q0)
      rw [cerrV_zero]
      go_wp2_with fail
      refine (HW.out _ s1.errz).mono ?_
      (rintro e1 w2 ⟨rfl, hb⟩; have s2 := s1.call hb; have q2 := s2.hold; simp only [Holds, and_true] at q2; clear hb; try clear q1)
      rw [cerrV_zero]
      go_wp2_with fail
      refine (HT.out _ s2.errz).mono ?_
      rintro e2 w3 ⟨td, tu, tl, th, tb, rfl, hT, hb⟩
      have s3 := s2.call hb
      have q3 := s3.hold
      simp only [Holds, and_true] at q3
      clear hb q2
      have hz := s3.bel.size
      go_wp2_with fail
      refine bodyPost_ret (v := .tuple #[(.agg #[.bool td, .bool tu, .int .i64 tl, .int .i64 th]), .bool tb, .nilIface]) (by simp [results, Tryd.results29, go_sem, *]) rfl (TaPost.mk ⟨td, tu, tl, th⟩ tb rfl (fun _ => hT.out) (fun h => absurd rfl h) ?_)
      (repeat' (first | exact s4.bel | exact s3.bel | exact s2.bel | exact s1.bel | refine Below.setCell ?_ (by first | (simp; done) | (simp; omega) | (dsimp only; omega)) _ | refine Below.alloc ?_ (by first | (simp; done) | (simp; omega) | omega) _ | refine Below.drew ?_ | exact Below.refl _ _))
    · clear hx hy he o1
      subst h0
      go_enter Tryd.func29, Tryd.ntmps29
      go_wp2_with fail
      refine (HV.out _ s0.errz).mono ?_
      (rintro e1 w1 ⟨rfl, hb⟩; have s1 := s0.call hb; have q1 := s1.hold; simp only [Holds, and_true] at q1; clear hb; try clear q0)
      rw [cerrV_zero]
      go_wp2_with fail
      refine (HW.out _ s1.errz).mono ?_
      (rintro e1 w2 ⟨rfl, hb⟩; have s2 := s1.call hb; have q2 := s2.hold; simp only [Holds, and_true] at q2; clear hb; try clear q1)
      rw [cerrV_some h1]
      go_wp2_with fail
      refine bodyPost_ret (v := .tuple #[(.agg #[.bool false, .bool false, .int .i64 0, .int .i64 0]), .bool false, .iface 107 (.pointer (some (a (y.toNat - 1))))]) (by simp [results, Tryd.results29, go_sem, *]) rfl (TaPost.mk ⟨false, false, 0, 0⟩ false (by rw [cerrV_some h1]; rfl) (fun h => absurd h h1) (fun _ => ⟨rfl, rfl⟩) ?_)
      (repeat' (first | exact s4.bel | exact s3.bel | exact s2.bel | exact s1.bel | refine Below.setCell ?_ (by first | (simp; done) | (simp; omega) | (dsimp only; omega)) _ | refine Below.alloc ?_ (by first | (simp; done) | (simp; omega) | omega) _ | refine Below.drew ?_ | exact Below.refl _ _))
  · rw [if_neg h0]
    clear hx hy he
    go_enter Tryd.func29, Tryd.ntmps29
    go_wp2_with fail
    refine (HV.out _ s0.errz).mono ?_
    (rintro e1 w1 ⟨rfl, hb⟩; have s1 := s0.call hb; have q1 := s1.hold; simp only [Holds, and_true] at q1; clear hb; try clear q0)
    rw [cerrV_some h0]
    go_wp2_with fail
    refine bodyPost_ret (v := .tuple #[(.agg #[.bool false, .bool false, .int .i64 0, .int .i64 0]), .bool false, .iface 107 (.pointer (some (a (x.toNat - 1))))]) (by simp [results, Tryd.results29, go_sem, *]) rfl (TaPost.mk ⟨false, false, 0, 0⟩ false (by rw [cerrV_some h0]; rfl) (fun h => absurd h h0) (fun _ => ⟨rfl, rfl⟩) ?_)
    (repeat' (first | exact s4.bel | exact s3.bel | exact s2.bel | exact s1.bel | refine Below.setCell ?_ (by first | (simp; done) | (simp; omega) | (dsimp only; omega)) _ | refine Below.alloc ?_ (by first | (simp; done) | (simp; omega) | omega) _ | refine Below.drew ?_ | exact Below.refl _ _))

end Go.Proofs.YtjimjbilmlnipaaDoor
