/- What the small functions on numbers answer: comparing, the sign, the size, numbers that an int holds. -/
import Derived.Test.YtnkhipnnfmcaoabDoorProg
import Derived.WalkKit
import Derived.WalkSpells
import Derived.WalkLawsBesides
import Derived.Deep.RegionHeld3
import Derived.BigQuiet
import Derived.Deep.QuietTactic
namespace Go.Proofs.YtnkhipnnfmcaoabDoor
open Go.RowKit

def sgn3 (x y : Int) : Int := if x < y then -1 else if y < x then 1 else 0

theorem bcell {W w1 : World} (hb : Below W.heap.size W w1) : (∀ b o, b < W.heap.size → w1.cell? ⟨b, o, none⟩ = W.cell? ⟨b, o, none⟩) ∧ (∀ b o, b < W.heap.size → w1.frozen? ⟨b, o, none⟩ = W.frozen? ⟨b, o, none⟩) :=
  ⟨fun b o h => hb.cell (p := ⟨b, o, none⟩) h, fun b o h => hb.frozen (p := ⟨b, o, none⟩) h⟩

theorem frozen?_setCell' (W : World) (p q : Addr) (v : Value) : (W.setCell p v).frozen? q = W.frozen? q := by
  simp

/-- What a walk holds of the world: the boxes of the parameters read as they were laid, no mark of a box has turned, nothing that was there has turned. -/
theorem keepC {C B : Nat} {W0 w W w1 : World} (hb : Below W.heap.size W w1) (h : (∀ b o, b < C → W.cell? ⟨b, o, none⟩ = W0.cell? ⟨b, o, none⟩) ∧ (∀ b o, b < B → W.frozen? ⟨b, o, none⟩ = W0.frozen? ⟨b, o, none⟩) ∧ C ≤ B ∧ B ≤ W.heap.size ∧ Below w.heap.size w W) :
    (∀ b o, b < C → w1.cell? ⟨b, o, none⟩ = W0.cell? ⟨b, o, none⟩) ∧ (∀ b o, b < B → w1.frozen? ⟨b, o, none⟩ = W0.frozen? ⟨b, o, none⟩) ∧ C ≤ B ∧ B ≤ w1.heap.size ∧ Below w.heap.size w w1 := by
  obtain ⟨h1, h2, h3, h4, h5⟩ := h
  have hs := hb.size
  have hs5 := h5.size
  exact ⟨fun b o hlt => (hb.cell (p := ⟨b, o, none⟩) (by show b < _; omega)).trans (h1 b o hlt), fun b o hlt => (hb.frozen (p := ⟨b, o, none⟩) (by show b < _; omega)).trans (h2 b o hlt), h3, by omega, h5.trans (hb.mono hs5)⟩

theorem keepD {C B : Nat} {W0 w W : World} (h : (∀ b o, b < C → W.cell? ⟨b, o, none⟩ = W0.cell? ⟨b, o, none⟩) ∧ (∀ b o, b < B → W.frozen? ⟨b, o, none⟩ = W0.frozen? ⟨b, o, none⟩) ∧ C ≤ B ∧ B ≤ W.heap.size ∧ Below w.heap.size w W) :
    (∀ b o, b < C → W.drew.cell? ⟨b, o, none⟩ = W0.cell? ⟨b, o, none⟩) ∧ (∀ b o, b < B → W.drew.frozen? ⟨b, o, none⟩ = W0.frozen? ⟨b, o, none⟩) ∧ C ≤ B ∧ B ≤ W.drew.heap.size ∧ Below w.heap.size w W.drew :=
  keepC (Below.refl _ _).drew h

theorem keepE {C B : Nat} {W0 w W : World} {p : Addr} {v : Value} (hp : C ≤ p.block) (hw : w.heap.size ≤ p.block) (h : (∀ b o, b < C → W.cell? ⟨b, o, none⟩ = W0.cell? ⟨b, o, none⟩) ∧ (∀ b o, b < B → W.frozen? ⟨b, o, none⟩ = W0.frozen? ⟨b, o, none⟩) ∧ C ≤ B ∧ B ≤ W.heap.size ∧ Below w.heap.size w W) :
    (∀ b o, b < C → (W.setCell p v).cell? ⟨b, o, none⟩ = W0.cell? ⟨b, o, none⟩) ∧ (∀ b o, b < B → (W.setCell p v).frozen? ⟨b, o, none⟩ = W0.frozen? ⟨b, o, none⟩) ∧ C ≤ B ∧ B ≤ (W.setCell p v).heap.size ∧ Below w.heap.size w (W.setCell p v) := by
  obtain ⟨h1, h2, h3, h4, h5⟩ := h
  have e : ∀ b o, b < C → (W.setCell p v).cell? ⟨b, o, none⟩ = W.cell? ⟨b, o, none⟩ := fun b o hlt => World.cell?_of_block (Below.heap_setCell W p v b (by omega))
  exact ⟨fun b o hlt => (e b o hlt).trans (h1 b o hlt), fun b o hlt => by rw [frozen?_setCell']; exact h2 b o hlt, h3, by simpa [World.setCell] using h4, h5.setCell hw v⟩

/-- What a cell holds. -/
def cellOf (w : World) (b o : Nat) : Value := (w.cell? ⟨b, o, none⟩).getD undef

theorem cellOf_some {w : World} {b o : Nat} (h : (w.cell? ⟨b, o, none⟩).isSome = true) : w.cell? ⟨b, o, none⟩ = some (cellOf w b o) := by
  unfold cellOf; obtain ⟨v, hv⟩ := Option.isSome_iff_exists.1 h; rw [hv]; rfl

theorem keepCR {C B r : Nat} {W0 w W w1 : World} (hb : Below W.heap.size W w1) (h : (∀ b o, b < C → W.cell? ⟨b, o, none⟩ = W0.cell? ⟨b, o, none⟩) ∧ (∀ b o, b < B → W.frozen? ⟨b, o, none⟩ = W0.frozen? ⟨b, o, none⟩) ∧ C ≤ B ∧ B ≤ W.heap.size ∧ Below w.heap.size w W ∧ (∀ o, o < 2 → W.cell? ⟨r, o, none⟩ = some (cellOf W r o))) (hr : r < B) :
    (∀ b o, b < C → w1.cell? ⟨b, o, none⟩ = W0.cell? ⟨b, o, none⟩) ∧ (∀ b o, b < B → w1.frozen? ⟨b, o, none⟩ = W0.frozen? ⟨b, o, none⟩) ∧ C ≤ B ∧ B ≤ w1.heap.size ∧ Below w.heap.size w w1 ∧ (∀ o, o < 2 → w1.cell? ⟨r, o, none⟩ = some (cellOf w1 r o)) := by
  obtain ⟨h1, h2, h3, h4, h5, h6⟩ := h
  obtain ⟨k1, k2, k3, k4, k5⟩ := keepC hb ⟨h1, h2, h3, h4, h5⟩
  refine ⟨k1, k2, k3, k4, k5, fun o ho => cellOf_some ?_⟩
  rw [hb.cell (p := ⟨r, o, none⟩) (by show r < _; omega), h6 o ho]; rfl

theorem keepDR {C B r : Nat} {W0 w W : World} (h : (∀ b o, b < C → W.cell? ⟨b, o, none⟩ = W0.cell? ⟨b, o, none⟩) ∧ (∀ b o, b < B → W.frozen? ⟨b, o, none⟩ = W0.frozen? ⟨b, o, none⟩) ∧ C ≤ B ∧ B ≤ W.heap.size ∧ Below w.heap.size w W ∧ (∀ o, o < 2 → W.cell? ⟨r, o, none⟩ = some (cellOf W r o))) (hr : r < B) :
    (∀ b o, b < C → W.drew.cell? ⟨b, o, none⟩ = W0.cell? ⟨b, o, none⟩) ∧ (∀ b o, b < B → W.drew.frozen? ⟨b, o, none⟩ = W0.frozen? ⟨b, o, none⟩) ∧ C ≤ B ∧ B ≤ W.drew.heap.size ∧ Below w.heap.size w W.drew ∧ (∀ o, o < 2 → W.drew.cell? ⟨r, o, none⟩ = some (cellOf W.drew r o)) :=
  keepCR (Below.refl _ _).drew h hr

theorem keepER {C B r : Nat} {W0 w W : World} {p : Addr} {v : Value} (hp : C ≤ p.block) (hw : w.heap.size ≤ p.block) (h : (∀ b o, b < C → W.cell? ⟨b, o, none⟩ = W0.cell? ⟨b, o, none⟩) ∧ (∀ b o, b < B → W.frozen? ⟨b, o, none⟩ = W0.frozen? ⟨b, o, none⟩) ∧ C ≤ B ∧ B ≤ W.heap.size ∧ Below w.heap.size w W ∧ (∀ o, o < 2 → W.cell? ⟨r, o, none⟩ = some (cellOf W r o))) :
    (∀ b o, b < C → (W.setCell p v).cell? ⟨b, o, none⟩ = W0.cell? ⟨b, o, none⟩) ∧ (∀ b o, b < B → (W.setCell p v).frozen? ⟨b, o, none⟩ = W0.frozen? ⟨b, o, none⟩) ∧ C ≤ B ∧ B ≤ (W.setCell p v).heap.size ∧ Below w.heap.size w (W.setCell p v) ∧ (∀ o, o < 2 → (W.setCell p v).cell? ⟨r, o, none⟩ = some (cellOf (W.setCell p v) r o)) := by
  obtain ⟨h1, h2, h3, h4, h5, h6⟩ := h
  obtain ⟨k1, k2, k3, k4, k5⟩ := keepE (v := v) hp hw ⟨h1, h2, h3, h4, h5⟩
  refine ⟨k1, k2, k3, k4, k5, fun o ho => cellOf_some ?_⟩
  obtain ⟨v', hv'⟩ := cell?_setCell_some (w := W) (p := p) (x := v) (h6 o ho)
  rw [hv']; rfl

/-- The box of a result, as it is laid. -/
theorem boxR (w : World) (c : Array Value) (t : TypeId) (n : Nat) (hn : n = w.heap.size) (hc : c.size = 2) : ∀ o, o < 2 → (w.alloc (.cells c t)).drew.cell? ⟨n, o, none⟩ = some (cellOf (w.alloc (.cells c t)).drew n o) := by
  intro o ho
  refine cellOf_some ?_
  show ((w.alloc (.cells c t)).cell? ⟨n, o, none⟩).isSome = true
  rw [World.cell?_alloc_at _ _ _ _ hn]
  simp [hc, ho]

theorem hide {p : Prop} (h : p) : Hid p := h
theorem unhide {p : Prop} (h : Hid p) : p := h

theorem wrap_small (x : Int) (h1 : -9223372036854775808 ≤ x) (h2 : x ≤ 9223372036854775807) : IntKind.i64.wrap x = x := by
  rw [IntKind.wrap_i64]; omega

theorem gcd_step (a b : Nat) : Nat.gcd b (a % b) = Nat.gcd a b := by
  rw [Nat.gcd_comm b (a % b), ← Nat.gcd_rec, Nat.gcd_comm]

theorem ret_int {k : IntKind} {a b : Int} (h : a = b) : Ending.returned (.int k a) = .returned (.int k b) := by rw [h]

set_option maxHeartbeats 400000 in
theorem isNaN_any (x : Int) (w : World) :
    Calls Tryd.prog 103 #[.int .i64 x] w fun e w' => e = .returned (.bool false) ∧ w' = w := by
  go_enter Tryd.func103, Tryd.ntmps103
  go_wp2
  go_ret
  exact ⟨by simp, rfl⟩

set_option maxHeartbeats 400000 in
theorem cmpInt_any (x y : Int) (w : World) :
    Calls Tryd.prog 86 #[.int .i64 x, .int .i64 y] w fun e w' => e = .returned (.int .i64 (sgn3 x y)) ∧ w' = w := by
  go_enter Tryd.func86, Tryd.ntmps86
  go_wp2_with (go_at_call 103; refine (isNaN_any _ _).mono ?_; rintro e w' ⟨rfl, rfl⟩)
  all_goals
    go_ret
    exact ⟨ret_int (by unfold sgn3; split <;> (try split) <;> omega), rfl⟩

set_option maxHeartbeats 400000 in
theorem sign_any (z : Int) (f : Value) (w : World) :
    Calls Tryd.prog 54 #[.agg #[.int .i64 z, f]] w fun e w' => e = .returned (.int .i64 (sgn3 z 0)) ∧ Below w.heap.size w w' := by
  go_enter Tryd.func54, Tryd.ntmps54
  go_wp2_with (go_at_call 86; refine (cmpInt_any _ _ _).mono ?_; rintro e w' ⟨rfl, rfl⟩)
  go_ret
  exact ⟨rfl, (Below.refl _ _).alloc (Nat.le_refl _) _⟩

set_option maxHeartbeats 400000 in
theorem isNear_yes (z : Int) (w : World) :
    Calls Tryd.prog 57 #[.agg #[.int .i64 z, .slice none 0 0]] w fun e w' => e = .returned (.bool true) ∧ Below w.heap.size w w' := by
  go_enter Tryd.func57, Tryd.ntmps57
  go_wp2
  go_ret
  exact ⟨rfl, (Below.refl _ _).alloc (Nat.le_refl _) _⟩

theorem neg_wrap (z : Int) (h1 : -9223372036854775808 ≤ z) (h : z < 0) : IntKind.u64.wrap (-IntKind.u64.wrap z) = (z.natAbs : Int) := by
  simp only [IntKind.wrap, IntKind.signed, IntKind.bits]
  simp
  omega

set_option maxHeartbeats 400000 in
theorem nearSize_any (z : Int) (w : World) (h1 : -9223372036854775808 ≤ z) (h2 : z ≤ 9223372036854775807) :
    Calls Tryd.prog 62 #[.int .i64 z] w fun e w' => e = .returned (.int .u64 z.natAbs) ∧ w' = w := by
  go_enter Tryd.func62, Tryd.ntmps62
  go_wp2
  · go_ret
    exact ⟨ret_int (neg_wrap z h1 (by omega)), rfl⟩
  · go_ret
    exact ⟨ret_int (by omega), rfl⟩

theorem nearSize_as (z : Int) (n : Int) (hn : Hid (n = (z.natAbs : Int))) (w : World) (h1 : -9223372036854775808 ≤ z) (h2 : z ≤ 9223372036854775807) :
    Calls Tryd.prog 62 #[.int .i64 z] w fun e w' => e = .returned (.int .u64 n) ∧ w' = w := by
  rw [hn.out]; exact nearSize_any z w h1 h2

set_option maxHeartbeats 400000 in
theorem fromLimb_near (s : Int) (n : Int) (w : World) (h1 : 0 ≤ n) (h2 : n ≤ 9223372036854775807) (hs : -1 ≤ s) (hs2 : s ≤ 1) :
    Calls Tryd.prog 63 #[.int .i64 s, .int .u64 n] w fun e w' => e = .returned (.agg #[.int .i64 (s * n), .slice none 0 0]) ∧ Below w.heap.size w w' := by
  have Hw : Hid (wrap64 (s * n) = s * n) := by
    have : s = -1 ∨ s = 0 ∨ s = 1 := by omega
    rcases this with rfl | rfl | rfl <;> exact IntWalk.wrap64_in _ ⟨by omega, by omega⟩
  go_enter Tryd.func63, Tryd.ntmps63
  go_wp2
  rw [Hw.out]
  exact bodyPost_ret (v := .agg #[.int .i64 (s * n), .slice none 0 0]) (by simp [results, Tryd.results63, go_sem]) rfl ⟨rfl, (Below.refl _ _).alloc (Nat.le_refl _) _⟩

set_option maxHeartbeats 400000 in
theorem limbDivisor_any (x y : Nat) (w : World) (hx : x < 18446744073709551616) (hy : y < 18446744073709551616) :
    Calls Tryd.prog 92 #[.int .u64 x, .int .u64 y] w fun e w' => e = .returned (.int .u64 (Nat.gcd x y : Nat)) ∧ Below w.heap.size w w' := by
  go_enter Tryd.func92, Tryd.ntmps92
  go_wp2
  go_loopw [0, 1] (fun p q wr => ∃ a b : Nat, a < 18446744073709551616 ∧ b < 18446744073709551616 ∧ p = .int .u64 a ∧ q = .int .u64 b ∧ Nat.gcd a b = Nat.gcd x y ∧ Below w.heap.size w wr) (fun _ q _ => (intOf q).toNat)
  case atStart => exact ⟨x, y, hx, hy, rfl, rfl, rfl, Below.refl _ _⟩
  case round =>
    obtain ⟨a, b, ha, hb, rfl, rfl, hg, hbl⟩ := hrel
    have HG : Hid (Nat.gcd a b = Nat.gcd x y) := hg
    clear hg
    by_cases h0 : b = 0
    · subst h0
      go_wp2
      go_ret
      exact ⟨ret_int (by rw [← HG.out]; simp), hbl⟩
    · have hb0 : ((b : Int) == 0) = false := by simp; omega
      go_wp2
      go_region
      all_goals go_wp2
      all_goals
        go_roundw
        case rel => exact ⟨b, a % b, hb, by have := Nat.mod_lt a (Nat.pos_of_ne_zero h0); omega, rfl, by go_num, by rw [← HG.out, gcd_step], by exact hbl.drew⟩
        case measure => simp [intOf]; exact Nat.mod_lt _ (Nat.pos_of_ne_zero h0)

theorem limbDivisor_as (x y g : Int) (hg : Hid (g = (Int.gcd x y : Int))) (w : World) (hx0 : 0 ≤ x) (hx : x < 18446744073709551616) (hy0 : 0 ≤ y) (hy : y < 18446744073709551616) :
    Calls Tryd.prog 92 #[.int .u64 x, .int .u64 y] w fun e w' => e = .returned (.int .u64 g) ∧ Below w.heap.size w w' := by
  obtain ⟨m, rfl⟩ := Int.eq_ofNat_of_zero_le hx0
  obtain ⟨n, rfl⟩ := Int.eq_ofNat_of_zero_le hy0
  rw [hg.out]
  exact limbDivisor_any m n w (by omega) (by omega)

end Go.Proofs.YtnkhipnnfmcaoabDoor
