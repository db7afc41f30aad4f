/- Octagons: one bound more, told (octagon.Guard). -/
import Derived.Test.YtbafkjhlogkllaaGreatDoorOfO
import Derived.Test.YtbafkjhlogkllaaGreatDoorYsO
import Derived.Deep.Cut
import Derived.Deep.DeepCutAuto
namespace Go.Proofs.YtbafkjhlogkllaaGreatDoor.Oc
open Go.RowKit
set_option linter.unusedVariables false

/-- Two numbers that lie in memory. -/
structure Sl2 (W : World) (b : Nat) (u v : Value) : Prop where
  lt : b < W.heap.size
  one : W.cell? ⟨b, 0, none⟩ = some u
  two : W.cell? ⟨b, 1, none⟩ = some v
theorem Sl2.below {W w2 : World} {b : Nat} {u v : Value} (h : Sl2 W b u v) (hb : Below W.heap.size W w2) : Sl2 w2 b u v :=
  ⟨Nat.lt_of_lt_of_le h.lt hb.size, (hb.cell (p := ⟨b, 0, none⟩) h.lt).trans h.one, (hb.cell (p := ⟨b, 1, none⟩) h.lt).trans h.two⟩
theorem Sl2.drew {W : World} {b : Nat} {u v : Value} (h : Sl2 W b u v) : Sl2 W.drew b u v := h.below (Below.refl _ _).drew
theorem Sl2.alloc {W : World} {b : Nat} {u v : Value} (h : Sl2 W b u v) (B : Obj) : Sl2 (W.alloc B) b u v := h.below ((Below.refl _ _).alloc (Nat.le_refl _) B)
theorem Sl2.here' {W : World} {b : Nat} {u v : Value} {t : TypeId} (h : b = W.heap.size) : Sl2 (W.alloc (.cells #[u, v] t)) b u v := by
  subst h
  exact ⟨by simp, by simp, by simp⟩
theorem Sl2.here {W : World} {u v : Value} {t : TypeId} : Sl2 (W.alloc (.cells #[u, v] t)) W.heap.size u v := Sl2.here' rfl

/-- One bound more, both ways. -/
def gdM (d : Mat) (p q : Nat) (c : Int) : Mat := grdM (grdM d p q c) (bar q) (bar p) c
theorem gd_enc {n m : Nat} {d : Mat} (hS : Sz n m d) (hm : m ≤ 2305843009213693952) (he : n % 2 = 0) {p q : Nat} (hp : p < n) (hq : q < n) {c : Int} (hc : c.natAbs ≤ m) (i j : Nat) : gdF (encM d) p q c i j = encM (gdM d p q c) i j := by
  have e : guF (encM d) p q c = encM (grdM d p q c) := by funext i j; exact gu_enc hS hm hp hq (by omega) i j
  unfold gdF
  rw [e]
  exact gu_enc (sz_grd hS hp hq hc) hm (bar_lt he hq) (bar_lt he hp) (by omega) i j
theorem sz_gd {n m : Nat} {d : Mat} (hS : Sz n m d) (he : n % 2 = 0) {p q : Nat} (hp : p < n) (hq : q < n) {c : Int} (hc : c.natAbs ≤ m) : Sz n m (gdM d p q c) := sz_grd (sz_grd hS hp hq hc) (bar_lt he hq) (bar_lt he hp) hc
theorem coh_gd {n : Nat} {d : Mat} (hd : Coh n d) {p q : Nat} {c : Int} : Coh n (gdM d p q c) := by
  intro i j hi hj
  unfold gdM grdM setM
  have h := hd i j hi hj
  have e1 : (bar j = p ∧ bar i = q) ↔ (i = bar q ∧ j = bar p) := ⟨fun k => ⟨by rw [← k.2, bar_bar], by rw [← k.1, bar_bar]⟩, fun k => ⟨by rw [k.2, bar_bar], by rw [k.1, bar_bar]⟩⟩
  have e2 : (bar j = bar q ∧ bar i = bar p) ↔ (i = p ∧ j = q) := ⟨fun k => ⟨bar_inj k.2, bar_inj k.1⟩, fun k => ⟨by rw [k.2], by rw [k.1]⟩⟩
  by_cases a1 : i = bar q ∧ j = bar p
  · obtain ⟨rfl, rfl⟩ := a1
    by_cases a2 : bar q = p
    · subst a2
      simp [bar_bar]
    · have n1 : ¬ (bar q = p ∧ bar p = q) := fun k => a2 k.1
      have n2 : ¬ (p = bar q ∧ q = bar p) := fun k => a2 k.1.symm
      rw [bar_bar, bar_bar] at h
      simp [bar_bar, n1, n2, h]
  · rw [if_neg a1]
    by_cases a3 : i = p ∧ j = q
    · obtain ⟨rfl, rfl⟩ := a3
      have n1 : ¬ (bar j = i ∧ bar i = j) := fun k => a1 ⟨by rw [← k.1], by rw [← k.2]⟩
      simp [n1, h]
    · rw [if_neg a3, if_neg (fun k => a3 (e2.1 k)), if_neg (fun k => a1 (e1.1 k))]
      exact h

/-- What may be wrong. -/
def guOErr (N : Int) (l : List Ce) (x y av bv c : Int) : Int := firstE [zErr N l, voErr N [x, y], siErr [av, bv], saErr x y, numErr c]
theorem voErr_two {N x y : Int} (hN : 0 ≤ N ∧ N ≤ 4) (h : voErr N [x, y] = 0) : (0 ≤ x ∧ x < N) ∧ 0 ≤ y ∧ y < N := by
  unfold voErr varErr at h
  have hw : wrap64 (N - 1) = N - 1 := by unfold wrap64; omega
  rw [hw] at h
  simp only [List.map] at h
  rw [firstE_0, firstE_0] at h
  obtain ⟨h1, h2, -⟩ := h
  constructor
  · by_cases k : x < 0 ∨ N - 1 < x
    · rw [if_pos k] at h1; omega
    · omega
  · by_cases k : y < 0 ∨ N - 1 < y
    · rw [if_pos k] at h2; omega
    · omega
theorem siErr_two {u v : Int} (h : siErr [u, v] = 0) : (u = 1 ∨ u = -1 ∨ u = 0) ∧ (v = 1 ∨ v = -1 ∨ v = 0) := by
  unfold siErr at h
  simp only [List.map] at h
  rw [firstE_0, firstE_0] at h
  obtain ⟨h1, h2, -⟩ := h
  constructor
  · by_cases k : u < -1 ∨ 1 < u
    · rw [if_pos k] at h1; omega
    · omega
  · by_cases k : v < -1 ∨ 1 < v
    · rw [if_pos k] at h2; omega
    · omega

end Go.Proofs.YtbafkjhlogkllaaGreatDoor.Oc
