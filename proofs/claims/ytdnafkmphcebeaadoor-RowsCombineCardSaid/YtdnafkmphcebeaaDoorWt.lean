/- Divisors and quotients of numbers up to B limbs, given limbs.over; rows of them told as ints. -/
import Derived.Test.YtdnafkmphcebeaaDoorWs
namespace Go.Proofs.YtdnafkmphcebeaaDoor
open Go.RowKit

/-- A number of at most B limbs. -/
def Lim (B : Nat) (z : Int) : Prop := (z.natAbs : Int) < pw B

theorem Lim_zero (B : Nat) : Lim B 0 := by have := pw_pos B; unfold Lim; simpa using this
theorem Lim_gcd (B : Nat) (x y : Int) (hx : Lim B x) (hy : Lim B y) : Lim B (Int.gcd x y) := by
  have h := gcd_lim x y (pw B) hx hy
  unfold Lim; simpa using h

def OverB (B : Nat) : Prop := OverL (fun l m => l.length ≤ B ∧ m.length ≤ B)

theorem two_divisor (B : Nat) (hB : B ≤ 1000) (hOv : Hid (OverB B)) : Two 62 (Lim B) (Lim B) (fun x y => (Int.gcd x y : Int)) := by
  intro W r x s y hx hy hr hs
  by_cases hn : r.n = 0 ∧ s.n = 0
  · rcases hr with ⟨r1, r2, r3, r4, r5, r6⟩ | ⟨ls, _, _, h0, _⟩
    · rcases hs with ⟨s1, s2, s3, s4, s5, s6⟩ | ⟨ls, _, _, h0, _⟩
      · rw [r1, r2, r3, r4, s1, s2, s3, s4]
        refine (divisorN_nn x y W r5 r6 s5 s6).mono ?_
        rintro e w' ⟨p, a, k, c, rfl, hN, hb⟩
        exact ⟨⟨p, a, k, c⟩, rfl, hN, hb⟩
      · omega
    · omega
  · refine (divisorN_far B hB hOv r.p r.a r.n r.c x s.p s.a s.n s.c y W hr hs hn hx hy).mono ?_
    rintro e w' ⟨p, a, k, c, rfl, hN, hb⟩
    exact ⟨⟨p, a, k, c⟩, rfl, hN, hb⟩

theorem two_over (B : Nat) (hOv : Hid (OverB B)) : Two 47 (Lim B) (Lim B) (fun x y => x.tdiv y) := by
  intro W r x s y hx hy hr hs
  by_cases hn : r.n = 0 ∧ s.n = 0
  · rcases hr with ⟨r1, r2, r3, r4, r5, r6⟩ | ⟨ls, _, _, h0, _⟩
    · rcases hs with ⟨s1, s2, s3, s4, s5, s6⟩ | ⟨ls, _, _, h0, _⟩
      · rw [r1, r2, r3, r4, s1, s2, s3, s4]
        refine (overN_nn x y W r5 r6 s5 s6).mono ?_
        rintro e w' ⟨p, a, k, c, rfl, hN, hb⟩
        exact ⟨⟨p, a, k, c⟩, rfl, hN, hb⟩
      · omega
    · omega
  · refine (overN_far _ hOv r.p r.a r.n r.c x s.p s.a s.n s.c y W hr hs hn (fun l m ll lm tl tm e1 e2 => ⟨len_of_pw ll tl (by rw [e1]; exact hx), len_of_pw lm tm (by rw [e2]; exact hy)⟩)).mono ?_
    rintro e w' ⟨p, a, k, c, rfl, hN, hb⟩
    exact ⟨⟨p, a, k, c⟩, rfl, hN, hb⟩

/-- A row divided by its divisor. -/
theorem rowNormal_lim (B : Nat) (hB : B ≤ 1000) (hOv : Hid (OverB B)) (b c n : Nat) (l : List Int) (w : World) (hr : Hid (NumsAt w b l)) (hP : Hid (∀ x ∈ l, Lim B x)) (hl : Hid (n = l.length)) (hn : n ≤ 1073741824) :
    Calls Tryd.prog 28 #[.slice (some ⟨b, 0, none⟩) n c] w fun e w' => ∃ g, e = .returned (.slice (some ⟨g, 0, none⟩) n n) ∧ w.heap.size ≤ g ∧ NumsAt w' g (l.map (·.tdiv (gcdL l))) ∧ Below w.heap.size w w' :=
  rowNormal_any (Lim B) (Lim_zero B) (Lim_gcd B) (two_divisor B hB hOv) (two_over B hOv) b c n l w hr hP hl hn

theorem overB_one : OverB 1 := overL_small

set_option maxHeartbeats 400000 in
theorem int_far (p : Int) (a : Option Addr) (n c : Nat) (w : World) (hn : 0 < n) :
    Calls Tryd.prog 24 #[.agg #[.int .i64 p, .slice a n c]] w fun e w' => e = .returned (.tuple #[.int .i64 0, .bool false]) ∧ Below w.heap.size w w' := by
  go_enter Tryd.func24, Tryd.ntmps24
  go_wp2_with (go_at_call 40; refine (isNear_no _ _ _ _ _ hn).mono ?_; rintro e w1 ⟨rfl, hb1⟩)
  go_ret2
  exact ⟨rfl, ((Below.refl _ _).alloc (Nat.le_refl _) _).trans (hb1.mono (by simp))⟩

/-- Does an int hold a number? -/
def Fit (z : Int) : Prop := -9223372036854775808 ≤ z ∧ z ≤ 9223372036854775807

instance (z : Int) : Decidable (Fit z) := by unfold Fit; infer_instance

theorem NumR.near {w : World} {r : Rep} {z : Int} (h : NumR w r z) (hf : Fit z) : r = ⟨z, none, 0, 0⟩ := by
  rcases h with ⟨r1, r2, r3, r4, _, _⟩ | ⟨ls, _, _, _, _, _, _, _, h⟩
  · cases r; simp_all
  · unfold Fit at hf; omega

theorem NumR.far {w : World} {r : Rep} {z : Int} (h : NumR w r z) (hf : ¬ Fit z) : 0 < r.n := by
  rcases h with ⟨_, _, _, _, h5, h6⟩ | ⟨ls, _, _, h0, _⟩
  · exact absurd ⟨h5, h6⟩ hf
  · exact h0

end Go.Proofs.YtdnafkmphcebeaaDoor
