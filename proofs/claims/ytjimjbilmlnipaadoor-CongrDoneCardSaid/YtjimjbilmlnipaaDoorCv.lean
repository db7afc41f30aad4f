/- CongrDone: facts of the lists that grow. -/
import Derived.Test.YtjimjbilmlnipaaDoorCn
import Derived.Test.YtjimjbilmlnipaaDoorCg
import Derived.Deep.AppendLies
namespace Go.Proofs.YtjimjbilmlnipaaDoor
open Go.RowKit
set_option linter.unusedVariables false

theorem first_is (r m : Int) : firstL r m 3 1 = [r + (0 - 1) * m, r + (1 - 1) * m, r + (2 - 1) * m] := rfl

theorem first_bd {r m : Int} (hr : -1099511627776 ≤ r ∧ r ≤ 1099511627776) (hm : 0 ≤ m ∧ m ≤ 1048576) (k : Nat) (hk : k < 3) : -1099520016384 ≤ (firstL r m 3 1).getD k 0 ∧ (firstL r m 3 1).getD k 0 ≤ 1099520016384 := by
  rw [first_is]
  rcases (show k = 0 ∨ k = 1 ∨ k = 2 by omega) with rfl | rfl | rfl
  · show -1099520016384 ≤ r + (0 - 1) * m ∧ r + (0 - 1) * m ≤ 1099520016384; omega
  · show -1099520016384 ≤ r + (1 - 1) * m ∧ r + (1 - 1) * m ≤ 1099520016384; omega
  · show -1099520016384 ≤ r + (2 - 1) * m ∧ r + (2 - 1) * m ≤ 1099520016384; omega

theorem mul_nat {n x : Int} {B C : Nat} (h1 : n.natAbs ≤ B) (h2 : x.natAbs ≤ C) : (n * x).natAbs ≤ B * C := by
  rw [Int.natAbs_mul]; exact Nat.mul_le_mul h1 h2

theorem scale_bd {n x : Int} (hn : -1048576 ≤ n ∧ n ≤ 1048576) (hx : -1099520016384 ≤ x ∧ x ≤ 1099520016384) : -2305843009213693952 ≤ n * x ∧ n * x ≤ 2305843009213693952 := by
  have := mul_nat (n := n) (x := x) (B := 1048576) (C := 1099520016384) (by omega) (by omega)
  omega

theorem take_succ_getD' (l : List Int) (k : Nat) (h : k < l.length) : l.take (k + 1) = l.take k ++ [l.getD k 0] := by
  rw [List.take_add_one]; simp [h]

theorem scale_map (l : List Int) (n : Int) : l.map (fun x => Value.int .i64 (n * x)) = (l.map (fun x => n * x)).map (Value.int .i64) := by simp
theorem scale_first (n r m : Int) : (firstL r m 3 1).map (fun x => n * x) = scaleL n r m := by
  rw [first_is]; unfold scaleL
  simp only [List.map_cons, List.map_nil]
  rw [show r + (0 - 1) * m = r - m by omega, show r + (1 - 1) * m = r by omega, show r + (2 - 1) * m = r + m by omega]

theorem scaleL_bd {n r m : Int} (hn : -1048576 ≤ n ∧ n ≤ 1048576) (hr : -1099511627776 ≤ r ∧ r ≤ 1099511627776) (hm : 0 ≤ m ∧ m ≤ 1048576) : ∀ s ∈ scaleL n r m, -2305843009213693952 ≤ s ∧ s ≤ 2305843009213693952 := by
  intro s hs
  unfold scaleL at hs
  simp only [List.mem_cons, List.not_mem_nil, or_false] at hs
  rcases hs with rfl | rfl | rfl
  · exact scale_bd hn (by omega)
  · exact scale_bd hn (by omega)
  · exact scale_bd hn (by omega)

/-- The first k of what an operation makes of the first three numbers of both. -/
def pairAt (r m r' m' : Int) (j : Nat) : Int × Int := ((firstL r m 3 1).getD (j / 3) 0, (firstL r' m' 3 1).getD (j % 3) 0)
def pairF (f : Int → Int → Int) (r m r' m' : Int) (k : Nat) : List Int := (List.range k).map fun j => f (pairAt r m r' m' j).1 (pairAt r m r' m' j).2

theorem pairF_zero (f : Int → Int → Int) (r m r' m' : Int) : pairF f r m r' m' 0 = [] := rfl
theorem pairF_succ (f : Int → Int → Int) (r m r' m' : Int) (k : Nat) : pairF f r m r' m' (k + 1) = pairF f r m r' m' k ++ [f (pairAt r m r' m' k).1 (pairAt r m r' m' k).2] := by
  unfold pairF; rw [List.range_succ, List.map_append]; rfl
theorem pairF_len (f : Int → Int → Int) (r m r' m' : Int) (k : Nat) : (pairF f r m r' m' k).length = k := by simp [pairF]
theorem pairAt_is (r m r' m' : Int) {i k : Nat} (hk : k < 3) : pairAt r m r' m' (3 * i + k) = ((firstL r m 3 1).getD i 0, (firstL r' m' 3 1).getD k 0) := by
  unfold pairAt
  rw [show (3 * i + k) / 3 = i by omega, show (3 * i + k) % 3 = k by omega]

theorem pair_nine (f : Int → Int → Int) (r m r' m' : Int) : pairF f r m r' m' 9 = nineL f r m r' m' := by
  have e : pairF f r m r' m' 9 = [f (r + (0 - 1) * m) (r' + (0 - 1) * m'), f (r + (0 - 1) * m) (r' + (1 - 1) * m'), f (r + (0 - 1) * m) (r' + (2 - 1) * m'), f (r + (1 - 1) * m) (r' + (0 - 1) * m'), f (r + (1 - 1) * m) (r' + (1 - 1) * m'), f (r + (1 - 1) * m) (r' + (2 - 1) * m'), f (r + (2 - 1) * m) (r' + (0 - 1) * m'), f (r + (2 - 1) * m) (r' + (1 - 1) * m'), f (r + (2 - 1) * m) (r' + (2 - 1) * m')] := rfl
  rw [e]
  unfold nineL
  rw [show r + (0 - 1) * m = r - m by omega, show r + (1 - 1) * m = r by omega, show r + (2 - 1) * m = r + m by omega, show r' + (0 - 1) * m' = r' - m' by omega, show r' + (1 - 1) * m' = r' by omega, show r' + (2 - 1) * m' = r' + m' by omega]

theorem pairF_mem {f : Int → Int → Int} {r m r' m' : Int} {k : Nat} {P : Int → Prop} (h : ∀ j, j < k → P (f (pairAt r m r' m' j).1 (pairAt r m r' m' j).2)) : ∀ s ∈ pairF f r m r' m' k, P s := by
  intro s hs
  unfold pairF at hs
  obtain ⟨j, hj, rfl⟩ := List.mem_map.1 hs
  exact h j (List.mem_range.1 hj)

/-- All of the first k are near. -/
def nearN (x : Int) : Prop := -1073741824 ≤ x ∧ x ≤ 1073741824
def nearK (r m r' m' : Int) (k : Nat) : Prop := ∀ j, j < k → nearN (pairAt r m r' m' j).1 ∧ nearN (pairAt r m r' m' j).2

theorem nearK_succ {r m r' m' : Int} {k : Nat} (h : nearK r m r' m' k) (h1 : nearN (pairAt r m r' m' k).1) (h2 : nearN (pairAt r m r' m' k).2) : nearK r m r' m' (k + 1) := by
  intro j hj
  by_cases e : j = k
  · subst e; exact ⟨h1, h2⟩
  · exact h j (by omega)

theorem sum_bd {r m r' m' : Int} (hr : -1099511627776 ≤ r ∧ r ≤ 1099511627776) (hm : 0 ≤ m ∧ m ≤ 1048576) (hr' : -1099511627776 ≤ r' ∧ r' ≤ 1099511627776) (hm' : 0 ≤ m' ∧ m' ≤ 1048576) : (∀ s ∈ pairF (fun x y => x + y) r m r' m' 9, -2305843009213693952 ≤ s ∧ s ≤ 2305843009213693952) ∧ (∀ s ∈ pairF (fun x y => x - y) r m r' m' 9, -2305843009213693952 ≤ s ∧ s ≤ 2305843009213693952) := by
  constructor
  · refine pairF_mem fun j hj => ?_
    have a : -1099520016384 ≤ (pairAt r m r' m' j).1 ∧ (pairAt r m r' m' j).1 ≤ 1099520016384 := first_bd hr hm (j / 3) (by omega)
    have b : -1099520016384 ≤ (pairAt r m r' m' j).2 ∧ (pairAt r m r' m' j).2 ≤ 1099520016384 := first_bd hr' hm' (j % 3) (by omega)
    show -2305843009213693952 ≤ (pairAt r m r' m' j).1 + (pairAt r m r' m' j).2 ∧ (pairAt r m r' m' j).1 + (pairAt r m r' m' j).2 ≤ _
    omega
  · refine pairF_mem fun j hj => ?_
    have a : -1099520016384 ≤ (pairAt r m r' m' j).1 ∧ (pairAt r m r' m' j).1 ≤ 1099520016384 := first_bd hr hm (j / 3) (by omega)
    have b : -1099520016384 ≤ (pairAt r m r' m' j).2 ∧ (pairAt r m r' m' j).2 ≤ 1099520016384 := first_bd hr' hm' (j % 3) (by omega)
    show -2305843009213693952 ≤ (pairAt r m r' m' j).1 - (pairAt r m r' m' j).2 ∧ (pairAt r m r' m' j).1 - (pairAt r m r' m' j).2 ≤ _
    omega
theorem prod_bd {r m r' m' : Int} (h : nearK r m r' m' 9) : ∀ s ∈ pairF (fun x y => x * y) r m r' m' 9, -2305843009213693952 ≤ s ∧ s ≤ 2305843009213693952 := by
  refine pairF_mem fun j hj => ?_
  obtain ⟨⟨a1, a2⟩, ⟨b1, b2⟩⟩ := h j hj
  have := mul_nat (n := (pairAt r m r' m' j).1) (x := (pairAt r m r' m' j).2) (B := 1073741824) (C := 1073741824) (by omega) (by omega)
  show -2305843009213693952 ≤ (pairAt r m r' m' j).1 * (pairAt r m r' m' j).2 ∧ (pairAt r m r' m' j).1 * (pairAt r m r' m' j).2 ≤ _
  omega

/-- Two slices in blocks of their own. -/
def DisC (v1 v2 : Value) : Prop := ∀ g, v1.ownBlock = some g → v2.ownBlock ≠ some g
theorem DisC.symm {v1 v2 : Value} (h : DisC v1 v2) : DisC v2 v1 := fun g h1 h2 => h g h2 h1
theorem DisC.nil (v : Value) : DisC (.slice none 0 0) v := by intro g h; simp [Value.ownBlock] at h
theorem DisC.ne {v1 v2 : Value} (h : DisC v1 v2) : v1.ownBlock = none ∨ v1.ownBlock ≠ v2.ownBlock := by
  cases e : v1.ownBlock with
  | none => exact .inl rfl
  | some g => right; intro e2; exact h g e e2.symm
theorem DisC.grow {v1 v2 : Value} {g n c H : Nat} (h : DisC v1 v2) (hg : v1.ownBlock = some g ∨ g = H) (h2 : ∀ k, v2.ownBlock = some k → k < H) : DisC (.slice (some ⟨g, 0, none⟩) n c) v2 := by
  intro k hk hk2
  simp [Value.ownBlock] at hk
  subst hk
  rcases hg with hg | rfl
  · exact h g hg hk2
  · have := h2 g hk2; omega

theorem keepM2 {w W w1 : World} {b b' o o' : Nat} {x y : Value} (hb : b < w.heap.size) (hb' : b' < w.heap.size) (h : W.cell? ⟨b, o, none⟩ = some x ∧ W.cell? ⟨b', o', none⟩ = some y ∧ Below w.heap.size w W) (hB : Below w.heap.size w w1) : w1.cell? ⟨b, o, none⟩ = some x ∧ w1.cell? ⟨b', o', none⟩ = some y ∧ Below w.heap.size w w1 := by
  obtain ⟨h1, h2, h3⟩ := h
  rw [h3.cell hb] at h1
  rw [h3.cell hb'] at h2
  exact ⟨(hB.cell hb).trans h1, (hB.cell hb').trans h2, hB⟩

/-- All errors, and three lists. -/
def FZ (a : Nat → Addr) (x1 x2 x3 : Option Addr) (l1 l2 l3 : List Int) (W : World) : Prop := Sents W a ∧ IntsAt W x1 l1 ∧ IntsAt W x2 l2 ∧ IntsAt W x3 l3
theorem St.startF {w : World} {a : Nat → Addr} {x1 x2 x3 : Option Addr} {l1 l2 l3 : List Int} {L : List (Nat × Nat × Value)} (h : Holds w L) (hS : Sents w a) (h1 : IntsAt w x1 l1) (h2 : IntsAt w x2 l2) (h3 : IntsAt w x3 l3) : St w w (FZ a x1 x2 x3 l1 l2 l3) L :=
  ⟨Below.refl _ _, h, ⟨hS, h1, h2, h3⟩, fun _ _ q hb => ⟨hS.stays q.1 hb, h1.stays q.2.1 hb, h2.stays q.2.2.1 hb, h3.stays q.2.2.2 hb⟩⟩

theorem keepF1 {w W : World} {a : Nat → Addr} {x1 x2 x3 : Option Addr} {l1 l2 l3 : List Int} (L : List (Nat × Nat × Value)) (h : CellsAnd W L (St w W (FZ a x1 x2 x3 l1 l2 l3) L)) : IntsAt W x1 l1 := h.last.sent.2.1
theorem keepF2 {w W : World} {a : Nat → Addr} {x1 x2 x3 : Option Addr} {l1 l2 l3 : List Int} (L : List (Nat × Nat × Value)) (h : CellsAnd W L (St w W (FZ a x1 x2 x3 l1 l2 l3) L)) : IntsAt W x2 l2 := h.last.sent.2.2.1
theorem keepF3 {w W : World} {a : Nat → Addr} {x1 x2 x3 : Option Addr} {l1 l2 l3 : List Int} (L : List (Nat × Nat × Value)) (h : CellsAnd W L (St w W (FZ a x1 x2 x3 l1 l2 l3) L)) : IntsAt W x3 l3 := h.last.sent.2.2.2

/-- A list that is not empty lies somewhere. -/
theorem IntsAt.lies {W : World} {x : Option Addr} {l : List Int} (h : IntsAt W x l) (h0 : 0 < l.length) : ∃ b off, x = some ⟨b, off, none⟩ ∧ b < W.heap.size ∧ ∀ i, i < l.length → W.cell? ⟨b, off + i, none⟩ = some (.int .i64 (l.getD i 0)) := by
  rcases h with h | h
  · rw [h] at h0; simp at h0
  · exact h

theorem near_of {x : Int} (h : farB x 1073741824 = false) : nearN x := by
  simp [farB] at h
  unfold nearN
  omega

end Go.Proofs.YtjimjbilmlnipaaDoor
