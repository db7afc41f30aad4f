/- The program's congruences: joins, sums, differences. -/
import Derived.Test.YtfhofleeeiknjaaDoorDc
namespace Go.Proofs.YtfhofleeeiknjaaDoor
open Go.RowKit
set_option linter.unusedVariables false

theorem ints_new1 (W : World) (t : TypeId) (x : Int) : IntsAt (W.alloc (.cells #[.int .i64 x] t)) (some ⟨W.heap.size, 0, none⟩) [x] :=
  .inr ⟨_, _, rfl, by simp, fun i hi => by
    rcases (by simp at hi; omega : i = 0) with rfl
    simp⟩
theorem ints_new2 (W : World) (t : TypeId) (x y : Int) : IntsAt (W.alloc (.cells #[.int .i64 x, .int .i64 y] t)) (some ⟨W.heap.size, 0, none⟩) [x, y] :=
  .inr ⟨_, _, rfl, by simp, fun i hi => by
    rcases (by simp at hi; omega : i = 0 ∨ i = 1) with rfl | rfl <;> simp⟩
theorem ints_new3 (W : World) (t : TypeId) (x y z : Int) : IntsAt (W.alloc (.cells #[.int .i64 x, .int .i64 y, .int .i64 z] t)) (some ⟨W.heap.size, 0, none⟩) [x, y, z] :=
  .inr ⟨_, _, rfl, by simp, fun i hi => by
    rcases (by simp at hi; omega : i = 0 ∨ i = 1 ∨ i = 2) with rfl | rfl | rfl <;> simp⟩

theorem firstError_as (x r m r' m' : Int) (hx : Hid (x = twoC ⟨r, m⟩ ⟨r', m'⟩)) (a : Nat → Addr) (hr : (-9223372036854775808 ≤ r ∧ r ≤ 9223372036854775807) ∧ (-9223372036854775808 ≤ m ∧ m ≤ 9223372036854775807)) (hr' : (-9223372036854775808 ≤ r' ∧ r' ≤ 9223372036854775807) ∧ (-9223372036854775808 ≤ m' ∧ m' ≤ 9223372036854775807)) (b : Nat) (w : World) (hS : ErrS w a) (hT : TwoAt w b r m r' m') :
    Calls Tryd.prog 20 #[.slice (some ⟨b, 0, none⟩) 2 2] w fun e w' => e = .returned (errV a x) ∧ Below w.heap.size w w' := by
  rw [hx.out]; exact firstError_any b r m r' m' a w hS hT hr hr'

theorem cleast_as (zr zm n : Int) (l : List Int) (k : Nat) (hz : Hid (formC n (gcdT l k) = ⟨zr, zm⟩)) (a : Nat → Addr) (hl : k = l.length) (hk : k ≤ 1000) (hb : ∀ s ∈ l, -4611686018427387904 ≤ s ∧ s ≤ 4611686018427387904) (hn : (-9223372036854775808 ≤ n ∧ n ≤ 9223372036854775807)) (b : Nat) (w : World) (hS : ErrS w a) (hA : IntsAt w (some ⟨b, 0, none⟩) l) :
    Calls Tryd.prog 29 #[.int .i64 n, .slice (some ⟨b, 0, none⟩) k k] w fun e w' => e = .returned (.agg #[.int .i64 zr, .int .i64 zm]) ∧ Below w.heap.size w w' := by
  have hle : ∀ j, j ≤ l.length → gcdT l j ≤ 4611686018427387904 := by
    intro j
    induction j with
    | zero => intro _; simp [gcdT]
    | succ j ih =>
      intro hj
      refine gcd_le' (ih (by omega)) ?_
      have := hb (l.getD j 0) (by rw [show l.getD j 0 = l[j] by simp [show j < l.length from hj]]; exact List.getElem_mem hj)
      omega
  have := cleast_any n b 0 k k l a w hS hA hl hk hb (hle k (by omega)) hn
  rw [hz.out] at this
  exact this

theorem TwoAt.of {w W : World} {Z : World → Prop} {b : Nat} {r m r' m' : Int} {L : List (Nat × Nat × Value)} (h : St w W Z ((b, 0, .int .i64 r) :: (b, 1, .int .i64 m) :: (b, 2, .int .i64 r') :: (b, 3, .int .i64 m') :: L)) : TwoAt W b r m r' m' :=
  ⟨h.hold.1, h.hold.2.1, h.hold.2.2.1, h.hold.2.2.2.1, trivial⟩

theorem okC_rng {r m : Int} (h : okC ⟨r, m⟩) : (-1099511627776 ≤ r ∧ r ≤ 1099511627776) ∧ (0 ≤ m ∧ m ≤ 1048576) ∧ (m ≠ 0 → 0 ≤ r ∧ r < 1048576) := by
  obtain ⟨h1, h2, h3, h4⟩ := h
  dsimp only at *
  by_cases h0 : m = 0
  · exact ⟨h3 h0, ⟨h1, h2⟩, fun h => absurd h0 h⟩
  · have := h4 (by omega)
    exact ⟨by omega, ⟨h1, h2⟩, fun _ => by omega⟩

end Go.Proofs.YtfhofleeeiknjaaDoor
