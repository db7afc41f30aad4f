/- What a walk keeps from call to call: cells, the errors, all that was there. -/
import Derived.Test.YtmeaemjdmjhmdaaDoorEc
namespace Go.Proofs.YtmeaemjdmjhmdaaDoor
open Go.RowKit

def Holds (w : World) : List (Nat × Nat × Value) → Prop
  | [] => True
  | x :: L => (w.cell? ⟨x.1, x.2.1, none⟩ = some x.2.2 ∧ x.1 < w.heap.size ∧ w.frozen? ⟨x.1, x.2.1, none⟩ = false) ∧ Holds w L

def Cells (w : World) : List (Nat × Nat × Value) → Prop
  | [] => True
  | x :: L => w.cell? ⟨x.1, x.2.1, none⟩ = some x.2.2 ∧ Cells w L

theorem Holds.cells {w : World} {L : List (Nat × Nat × Value)} (h : Holds w L) : Cells w L := by
  induction L with
  | nil => trivial
  | cons x L ih => exact ⟨h.1.1, ih h.2⟩

theorem Holds.below {w w' : World} {L : List (Nat × Nat × Value)} (h : Holds w L) (hb : Below w.heap.size w w') : Holds w' L := by
  induction L with
  | nil => trivial
  | cons x L ih => exact ⟨⟨(hb.cell (p := ⟨x.1, x.2.1, none⟩) h.1.2.1).trans h.1.1, Nat.lt_of_lt_of_le h.1.2.1 hb.size, (hb.frozen (p := ⟨x.1, x.2.1, none⟩) h.1.2.1).trans h.1.2.2⟩, ih h.2⟩

/-- The errors ErrBound and ErrShape. -/
def ErrAt (w : World) (a : Nat → Addr) (k : Nat) : Prop := w.cell? ⟨gvar k, 0, none⟩ = some (.iface 118 (.pointer (some (a k))))
theorem ErrAt.below {w w' : World} {a : Nat → Addr} {k : Nat} (h : ErrAt w a k) (hb : Below w.heap.size w w') : ErrAt w' a k :=
  (hb.cell (World.block_lt_of_cell? w _ h)).trans h

def ErrS (w : World) (a : Nat → Addr) : Prop := ErrAt w a 1 ∧ ErrAt w a 2
theorem ErrS.below {w w' : World} {a : Nat → Addr} (h : ErrS w a) (hb : Below w.heap.size w w') : ErrS w' a := ⟨h.1.below hb, h.2.below hb⟩
theorem Sents.errs {w : World} {a : Nat → Addr} (h : Sents w a) : ErrS w a := ⟨h.cell 1 (by omega), h.cell 2 (by omega)⟩

theorem ErrS.stays {w W1 W2 : World} {a : Nat → Addr} (h : ErrS w a) (k : ErrS W1 a) (hb : Below w.heap.size W1 W2) : ErrS W2 a :=
  ⟨(hb.cell (World.block_lt_of_cell? w _ h.1)).trans k.1, (hb.cell (World.block_lt_of_cell? w _ h.2)).trans k.2⟩

theorem Sents.stays {w W1 W2 : World} {a : Nat → Addr} (h : Sents w a) (k : Sents W1 a) (hb : Below w.heap.size W1 W2) : Sents W2 a where
  cell i hi := (hb.cell (World.block_lt_of_cell? w _ (h.cell i hi))).trans (k.cell i hi)
  row i hi := by
    obtain ⟨c, t, e⟩ := h.row i hi
    obtain ⟨c', t', e'⟩ := k.row i hi
    exact ⟨c', t', (hb.block _ (lt_of_block e)).trans e'⟩
  ne := k.ne
  errType := (hb.cell (World.block_lt_of_cell? w _ h.errType)).trans k.errType

/-- What the walks keep of the errors: all of them, or ErrBound and ErrShape. -/
def SZ (a : Nat → Addr) (W : World) : Prop := Sents W a
def EZ (a : Nat → Addr) (W : World) : Prop := ErrS W a

/-- What holds of the world W in a walk that began in w. -/
structure St (w W : World) (Z : World → Prop) (L : List (Nat × Nat × Value)) : Prop where
  bel : Below w.heap.size w W
  hold : Holds W L
  sent : Z W
  cl : ∀ W1 W2 : World, Z W1 → Below w.heap.size W1 W2 → Z W2

theorem St.call {w W W' : World} {Z : World → Prop} {L : List (Nat × Nat × Value)} (h : St w W Z L) (hb : Below W.heap.size W W') : St w W' Z L :=
  ⟨h.bel.trans (hb.mono h.bel.size), h.hold.below hb, h.cl _ _ h.sent (hb.mono h.bel.size), h.cl⟩

theorem St.start {w : World} {a : Nat → Addr} (h : Sents w a) : St w w (SZ a) [] := ⟨Below.refl _ _, trivial, h, fun _ _ k hb => h.stays k hb⟩
theorem St.startE {w : World} {a : Nat → Addr} (h : ErrS w a) : St w w (EZ a) [] := ⟨Below.refl _ _, trivial, h, fun _ _ k hb => h.stays k hb⟩
theorem St.sents {w W : World} {a : Nat → Addr} {L : List (Nat × Nat × Value)} (h : St w W (SZ a) L) : Sents W a := h.sent
theorem St.errz {w W : World} {a : Nat → Addr} {L : List (Nat × Nat × Value)} (h : St w W (EZ a) L) : ErrS W a := h.sent

theorem St.drew {w W : World} {Z : World → Prop} {L : List (Nat × Nat × Value)} (h : St w W Z L) : St w W.drew Z L := h.call (Below.refl _ _).drew

theorem St.alloc {w W : World} {Z : World → Prop} {L : List (Nat × Nat × Value)} (h : St w W Z L) (o : Obj) : St w (W.alloc o) Z L := h.call ((Below.refl _ _).alloc (Nat.le_refl _) _)

theorem St.box4 {w W : World} {Z : World → Prop} {L : List (Nat × Nat × Value)} (h : St w W Z L) (t : TypeId) (v0 v1 v2 v3 : Value) :
    St w (W.alloc (.cells #[v0, v1, v2, v3] t)) Z ((W.heap.size, 0, v0) :: (W.heap.size, 1, v1) :: (W.heap.size, 2, v2) :: (W.heap.size, 3, v3) :: L) := by
  have k := h.alloc (.cells #[v0, v1, v2, v3] t)
  exact ⟨k.bel, ⟨⟨by simp, by simp, by simp⟩, ⟨by simp, by simp, by simp⟩, ⟨by simp, by simp, by simp⟩, ⟨by simp, by simp, by simp⟩, k.hold⟩, k.sent, k.cl⟩

theorem St.box2 {w W : World} {Z : World → Prop} {L : List (Nat × Nat × Value)} (h : St w W Z L) (t : TypeId) (v0 v1 : Value) :
    St w (W.alloc (.cells #[v0, v1] t)) Z ((W.heap.size, 0, v0) :: (W.heap.size, 1, v1) :: L) := by
  have k := h.alloc (.cells #[v0, v1] t)
  exact ⟨k.bel, ⟨⟨by simp, by simp, by simp⟩, ⟨by simp, by simp, by simp⟩, k.hold⟩, k.sent, k.cl⟩

theorem Holds.take {w : World} {L : List (Nat × Nat × Value)} (h : Holds w L) (n : Nat) : Holds w (L.take n) := by
  induction L generalizing n with
  | nil => simp only [List.take_nil]; trivial
  | cons x L ih =>
    cases n with
    | zero => trivial
    | succ n => exact ⟨h.1, ih h.2 n⟩

theorem St.take {w W : World} {Z : World → Prop} {L : List (Nat × Nat × Value)} (h : St w W Z L) (n : Nat) : St w W Z (L.take n) := ⟨h.bel, h.hold.take n, h.sent, h.cl⟩

theorem Holds.drop {w : World} {L : List (Nat × Nat × Value)} (h : Holds w L) (n : Nat) : Holds w (L.drop n) := by
  induction L generalizing n with
  | nil => simp only [List.drop_nil]; trivial
  | cons x L ih =>
    cases n with
    | zero => exact h
    | succ n => exact ih h.2 n

theorem St.drop {w W : World} {Z : World → Prop} {L : List (Nat × Nat × Value)} (h : St w W Z L) (n : Nat) : St w W Z (L.drop n) := ⟨h.bel, h.hold.drop n, h.sent, h.cl⟩

/-- No cell of the list lies in that block. -/
def Apart (b : Nat) : List (Nat × Nat × Value) → Prop
  | [] => True
  | x :: L => x.1 ≠ b ∧ Apart b L

theorem Holds.older {w : World} {L : List (Nat × Nat × Value)} (h : Holds w L) : Apart w.heap.size L := by
  induction L with
  | nil => trivial
  | cons x L ih => exact ⟨by have := h.1.2.1; omega, ih h.2⟩

theorem Holds.setCell {w : World} {L : List (Nat × Nat × Value)} (h : Holds w L) {p : Addr} (hp : Apart p.block L) (v : Value) : Holds (w.setCell p v) L := by
  induction L with
  | nil => trivial
  | cons x L ih =>
    refine ⟨⟨(World.cell?_of_block (Below.heap_setCell w p v x.1 hp.1)).trans h.1.1, by simpa [World.setCell] using h.1.2.1, by rw [frozen?_setCell']; exact h.1.2.2⟩, ih h.2 hp.2⟩

theorem Holds.append {w : World} {L1 L2 : List (Nat × Nat × Value)} : Holds w (L1 ++ L2) ↔ Holds w L1 ∧ Holds w L2 := by
  induction L1 with
  | nil => exact ⟨fun h => ⟨trivial, h⟩, fun h => h.2⟩
  | cons x L ih => exact ⟨fun h => ⟨⟨h.1, (ih.1 h.2).1⟩, (ih.1 h.2).2⟩, fun h => ⟨h.1.1, ih.2 ⟨h.1.2, h.2⟩⟩⟩

/-- A struct of four cells stored into a box. -/
theorem set4_cells {W : World} {b : Nat} {u0 u1 u2 u3 : Value} (h : Holds W [(b, 0, u0), (b, 1, u1), (b, 2, u2), (b, 3, u3)]) (v0 v1 v2 v3 : Value) :
    Holds ((((W.setCell ⟨b, 0, none⟩ v0).setCell ⟨b, 1, none⟩ v1).setCell ⟨b, 2, none⟩ v2).setCell ⟨b, 3, none⟩ v3) [(b, 0, v0), (b, 1, v1), (b, 2, v2), (b, 3, v3)] := by
  obtain ⟨⟨c0, hb, f0⟩, ⟨c1, _, f1⟩, ⟨c2, _, f2⟩, ⟨c3, _, f3⟩, _⟩ := h
  dsimp only at *
  have ne : ∀ i j : Nat, i ≠ j → (⟨b, i, none⟩ : Addr) ≠ ⟨b, j, none⟩ := fun i j h e => h (by cases e; rfl)
  have oth : ∀ (W : World) (i j : Nat) (v : Value), i ≠ j → (W.setCell ⟨b, i, none⟩ v).cell? ⟨b, j, none⟩ = W.cell? ⟨b, j, none⟩ := by
    intro W i j v h
    apply World.cell?_setCell_other
    exact ne i j h
  have sam : ∀ (W : World) (i : Nat) (v u : Value), W.cell? ⟨b, i, none⟩ = some u → (W.setCell ⟨b, i, none⟩ v).cell? ⟨b, i, none⟩ = some v := by
    intro W i v u h
    apply World.cell?_setCell_same
    exact h
  have k1 := (oth (W) 0 1 v0 (by omega)).trans c1
  have k2 := (oth (W) 0 2 v0 (by omega)).trans c2
  have k3 := (oth (W) 0 3 v0 (by omega)).trans c3
  have l0 := (oth (W.setCell ⟨b, 0, none⟩ v0) 1 0 v1 (by omega)).trans (sam _ _ v0 _ c0)
  have l1 := sam _ _ v1 _ k1
  have l2 := (oth (W.setCell ⟨b, 0, none⟩ v0) 1 2 v1 (by omega)).trans k2
  have l3 := (oth (W.setCell ⟨b, 0, none⟩ v0) 1 3 v1 (by omega)).trans k3
  have m0 := (oth ((W.setCell ⟨b, 0, none⟩ v0).setCell ⟨b, 1, none⟩ v1) 2 0 v2 (by omega)).trans l0
  have m1 := (oth ((W.setCell ⟨b, 0, none⟩ v0).setCell ⟨b, 1, none⟩ v1) 2 1 v2 (by omega)).trans l1
  have m2 := sam _ _ v2 _ l2
  have m3 := (oth ((W.setCell ⟨b, 0, none⟩ v0).setCell ⟨b, 1, none⟩ v1) 2 3 v2 (by omega)).trans l3
  have n0 := (oth (((W.setCell ⟨b, 0, none⟩ v0).setCell ⟨b, 1, none⟩ v1).setCell ⟨b, 2, none⟩ v2) 3 0 v3 (by omega)).trans m0
  have n1 := (oth (((W.setCell ⟨b, 0, none⟩ v0).setCell ⟨b, 1, none⟩ v1).setCell ⟨b, 2, none⟩ v2) 3 1 v3 (by omega)).trans m1
  have n2 := (oth (((W.setCell ⟨b, 0, none⟩ v0).setCell ⟨b, 1, none⟩ v1).setCell ⟨b, 2, none⟩ v2) 3 2 v3 (by omega)).trans m2
  have n3 := sam _ _ v3 _ m3
  have hs : b < ((((W.setCell ⟨b, 0, none⟩ v0).setCell ⟨b, 1, none⟩ v1).setCell ⟨b, 2, none⟩ v2).setCell ⟨b, 3, none⟩ v3).heap.size := by simpa [World.setCell] using hb
  exact ⟨⟨n0, hs, by simp only [frozen?_setCell']; exact f0⟩, ⟨n1, hs, by simp only [frozen?_setCell']; exact f1⟩, ⟨n2, hs, by simp only [frozen?_setCell']; exact f2⟩, ⟨n3, hs, by simp only [frozen?_setCell']; exact f3⟩, trivial⟩

theorem St.set4 {w W : World} {Z : World → Prop} {b : Nat} {u0 u1 u2 u3 : Value} (L1 L2 : List (Nat × Nat × Value)) (h : St w W Z (L1 ++ (b, 0, u0) :: (b, 1, u1) :: (b, 2, u2) :: (b, 3, u3) :: L2)) (hb : w.heap.size ≤ b) (n1 : Apart b L1) (n2 : Apart b L2) (v0 v1 v2 v3 : Value) :
    St w ((((W.setCell ⟨b, 0, none⟩ v0).setCell ⟨b, 1, none⟩ v1).setCell ⟨b, 2, none⟩ v2).setCell ⟨b, 3, none⟩ v3) Z (L1 ++ (b, 0, v0) :: (b, 1, v1) :: (b, 2, v2) :: (b, 3, v3) :: L2) := by
  have bel : Below w.heap.size W ((((W.setCell ⟨b, 0, none⟩ v0).setCell ⟨b, 1, none⟩ v1).setCell ⟨b, 2, none⟩ v2).setCell ⟨b, 3, none⟩ v3) := ((((Below.refl _ _).setCell hb _).setCell hb _).setCell hb _).setCell hb _
  obtain ⟨h1, h2⟩ := Holds.append.1 h.hold
  obtain ⟨h3, h4⟩ := Holds.append.1 (show Holds W ([(b, 0, u0), (b, 1, u1), (b, 2, u2), (b, 3, u3)] ++ L2) from h2)
  exact ⟨h.bel.trans bel, Holds.append.2 ⟨(((h1.setCell (p := ⟨b, 0, none⟩) n1 _).setCell (p := ⟨b, 1, none⟩) n1 _).setCell (p := ⟨b, 2, none⟩) n1 _).setCell (p := ⟨b, 3, none⟩) n1 _,
    show Holds _ ([(b, 0, v0), (b, 1, v1), (b, 2, v2), (b, 3, v3)] ++ L2) from Holds.append.2 ⟨set4_cells h3 v0 v1 v2 v3, (((h4.setCell (p := ⟨b, 0, none⟩) n2 _).setCell (p := ⟨b, 1, none⟩) n2 _).setCell (p := ⟨b, 2, none⟩) n2 _).setCell (p := ⟨b, 3, none⟩) n2 _⟩⟩, h.cl _ _ h.sent bel, h.cl⟩

/-- No cell of the list is that one. -/
def ApartC (b o : Nat) : List (Nat × Nat × Value) → Prop
  | [] => True
  | x :: L => (x.1 ≠ b ∨ x.2.1 ≠ o) ∧ ApartC b o L

theorem Holds.setCell1 {w : World} {L : List (Nat × Nat × Value)} (h : Holds w L) {b o : Nat} (hp : ApartC b o L) (v : Value) : Holds (w.setCell ⟨b, o, none⟩ v) L := by
  induction L with
  | nil => trivial
  | cons x L ih =>
    refine ⟨⟨?_, by simpa [World.setCell] using h.1.2.1, by rw [frozen?_setCell']; exact h.1.2.2⟩, ih h.2 hp.2⟩
    have hne : (⟨b, o, none⟩ : Addr) ≠ ⟨x.1, x.2.1, none⟩ := by
      intro e
      simp only [Addr.mk.injEq, and_true] at e
      rcases hp.1 with h1 | h1
      · exact h1 e.1.symm
      · exact h1 e.2.symm
    have k : (w.setCell ⟨b, o, none⟩ v).cell? ⟨x.1, x.2.1, none⟩ = w.cell? ⟨x.1, x.2.1, none⟩ := by
      apply World.cell?_setCell_other
      exact hne
    exact k.trans h.1.1

theorem St.set1 {w W : World} {Z : World → Prop} {b o : Nat} {u0 : Value} (L1 L2 : List (Nat × Nat × Value)) (h : St w W Z (L1 ++ (b, o, u0) :: L2)) (hb : w.heap.size ≤ b) (n1 : ApartC b o L1) (n2 : ApartC b o L2) (v : Value) :
    St w (W.setCell ⟨b, o, none⟩ v) Z (L1 ++ (b, o, v) :: L2) := by
  have bel : Below w.heap.size W (W.setCell ⟨b, o, none⟩ v) := (Below.refl _ _).setCell hb _
  obtain ⟨h1, h2⟩ := Holds.append.1 h.hold
  have c : (W.setCell ⟨b, o, none⟩ v).cell? ⟨b, o, none⟩ = some v := by
    apply World.cell?_setCell_same
    exact h2.1.1
  exact ⟨h.bel.trans bel, Holds.append.2 ⟨h1.setCell1 n1 v, ⟨c, by simpa [World.setCell] using h2.1.2.1, by rw [frozen?_setCell']; exact h2.1.2.2⟩, h2.2.setCell1 n2 v⟩, h.cl _ _ h.sent bel, h.cl⟩

/-- A list of ints that was there is kept. -/
theorem IntsAt.stays {w W1 W2 : World} {x : Option Addr} {l : List Int} (h : IntsAt w x l) (k : IntsAt W1 x l) (hb : Below w.heap.size W1 W2) : IntsAt W2 x l := by
  rcases h with h | ⟨b, off, h1, h2, _⟩
  · exact .inl h
  · rcases k with k | ⟨b', off', k1, k2, k3⟩
    · exact .inl k
    · obtain ⟨rfl, rfl⟩ : b = b' ∧ off = off' := by rw [h1] at k1; simpa using k1
      exact .inr ⟨b, off, h1, Nat.lt_of_lt_of_le k2 hb.size, fun i hi => (hb.cell (p := ⟨b, off + i, none⟩) h2).trans (k3 i hi)⟩

def IZ (x : Option Addr) (l : List Int) (W : World) : Prop := IntsAt W x l
theorem St.startI {w : World} {x : Option Addr} {l : List Int} (h : IntsAt w x l) : St w w (IZ x l) [] := ⟨Below.refl _ _, trivial, h, fun _ _ k hb => h.stays k hb⟩
theorem St.ints {w W : World} {x : Option Addr} {l : List Int} {L : List (Nat × Nat × Value)} (h : St w W (IZ x l) L) : IntsAt W x l := h.sent

/-- Two things kept. -/
def Both (Z Y : World → Prop) (W : World) : Prop := Z W ∧ Y W
theorem St.both {w W : World} {Z Y : World → Prop} {L : List (Nat × Nat × Value)} (h : St w W Z L) (k : Y W) (cl : ∀ W1 W2 : World, Y W1 → Below w.heap.size W1 W2 → Y W2) : St w W (Both Z Y) L :=
  ⟨h.bel, h.hold, ⟨h.sent, k⟩, fun _ _ q hb => ⟨h.cl _ _ q.1 hb, cl _ _ q.2 hb⟩⟩

theorem St.cells {w W : World} {Z : World → Prop} {L : List (Nat × Nat × Value)} (h : St w W Z L) : Cells W L := h.hold.cells

/-- The cells one by one, and P behind them. -/
def CellsAnd (w : World) : List (Nat × Nat × Value) → Prop → Prop
  | [], P => P
  | x :: L, P => w.cell? ⟨x.1, x.2.1, none⟩ = some x.2.2 ∧ CellsAnd w L P

theorem CellsAnd.last {w : World} {P : Prop} {L : List (Nat × Nat × Value)} (h : CellsAnd w L P) : P := by
  induction L with
  | nil => exact h
  | cons x L ih => exact ih h.2

theorem CellsAnd.mk {w : World} {P : Prop} {L : List (Nat × Nat × Value)} (h : Holds w L) (p : P) : CellsAnd w L P := by
  induction L with
  | nil => exact p
  | cons x L ih => exact ⟨h.1.1, ih h.2⟩

theorem keepSt0 {w W : World} {Z : World → Prop} (L : List (Nat × Nat × Value)) (h : St w W Z L) : CellsAnd W L (St w W Z L) := CellsAnd.mk h.hold h
theorem keepSt {w W W' : World} {Z : World → Prop} (L : List (Nat × Nat × Value)) (hb : Below W.heap.size W W') (h : CellsAnd W L (St w W Z L)) : CellsAnd W' L (St w W' Z L) := keepSt0 L (h.last.call hb)
theorem keepSt_bel {w W : World} {Z : World → Prop} (L : List (Nat × Nat × Value)) (h : CellsAnd W L (St w W Z L)) : Below w.heap.size w W := h.last.bel
theorem keepSt_st {w W : World} {Z : World → Prop} (L : List (Nat × Nat × Value)) (h : CellsAnd W L (St w W Z L)) : St w W Z L := h.last

end Go.Proofs.YtmeaemjdmjhmdaaDoor

/- A box of four cells that is stored into. -/
namespace Go.Proofs.YtmeaemjdmjhmdaaDoor
open Go.RowKit

theorem Apart.c {b o : Nat} {L : List (Nat × Nat × Value)} (h : Apart b L) : ApartC b o L := by
  induction L with
  | nil => trivial
  | cons x L ih => exact ⟨.inl h.1, ih h.2⟩

theorem St.put0 {w W : World} {Z : World → Prop} {b : Nat} {u0 u1 u2 u3 : Value} {L : List (Nat × Nat × Value)} (h : St w W Z ((b, 0, u0) :: (b, 1, u1) :: (b, 2, u2) :: (b, 3, u3) :: L)) (hb : w.heap.size ≤ b) (ap : Apart b L) (v : Value) :
    St w (W.setCell ⟨b, 0, none⟩ v) Z ((b, 0, v) :: (b, 1, u1) :: (b, 2, u2) :: (b, 3, u3) :: L) :=
  St.set1 [] _ h hb trivial ⟨.inr (by simp), .inr (by simp), .inr (by simp), ap.c⟩ v
theorem St.put1 {w W : World} {Z : World → Prop} {b : Nat} {u0 u1 u2 u3 : Value} {L : List (Nat × Nat × Value)} (h : St w W Z ((b, 0, u0) :: (b, 1, u1) :: (b, 2, u2) :: (b, 3, u3) :: L)) (hb : w.heap.size ≤ b) (ap : Apart b L) (v : Value) :
    St w (W.setCell ⟨b, 1, none⟩ v) Z ((b, 0, u0) :: (b, 1, v) :: (b, 2, u2) :: (b, 3, u3) :: L) :=
  St.set1 [(b, 0, u0)] _ h hb ⟨.inr (by simp), trivial⟩ ⟨.inr (by simp), .inr (by simp), ap.c⟩ v
theorem St.put2 {w W : World} {Z : World → Prop} {b : Nat} {u0 u1 u2 u3 : Value} {L : List (Nat × Nat × Value)} (h : St w W Z ((b, 0, u0) :: (b, 1, u1) :: (b, 2, u2) :: (b, 3, u3) :: L)) (hb : w.heap.size ≤ b) (ap : Apart b L) (v : Value) :
    St w (W.setCell ⟨b, 2, none⟩ v) Z ((b, 0, u0) :: (b, 1, u1) :: (b, 2, v) :: (b, 3, u3) :: L) :=
  St.set1 [(b, 0, u0), (b, 1, u1)] _ h hb ⟨.inr (by simp), .inr (by simp), trivial⟩ ⟨.inr (by simp), ap.c⟩ v
theorem St.put3 {w W : World} {Z : World → Prop} {b : Nat} {u0 u1 u2 u3 : Value} {L : List (Nat × Nat × Value)} (h : St w W Z ((b, 0, u0) :: (b, 1, u1) :: (b, 2, u2) :: (b, 3, u3) :: L)) (hb : w.heap.size ≤ b) (ap : Apart b L) (v : Value) :
    St w (W.setCell ⟨b, 3, none⟩ v) Z ((b, 0, u0) :: (b, 1, u1) :: (b, 2, u2) :: (b, 3, v) :: L) :=
  St.set1 [(b, 0, u0), (b, 1, u1), (b, 2, u2)] _ h hb ⟨.inr (by simp), .inr (by simp), .inr (by simp), trivial⟩ ap.c v

/-- A new box behind a call. -/
theorem boxed {W w' : World} {v0 v1 v2 v3 : Value} {t : TypeId} (hb : Below (W.alloc (.cells #[v0, v1, v2, v3] t)).drew.heap.size (W.alloc (.cells #[v0, v1, v2, v3] t)).drew w') : Holds w' [(W.heap.size, 0, v0), (W.heap.size, 1, v1), (W.heap.size, 2, v2), (W.heap.size, 3, v3)] := by
  have h : Holds (W.alloc (.cells #[v0, v1, v2, v3] t)).drew [(W.heap.size, 0, v0), (W.heap.size, 1, v1), (W.heap.size, 2, v2), (W.heap.size, 3, v3)] := by
    have := ((⟨Below.refl _ _, trivial, trivial, fun _ _ _ _ => trivial⟩ : St W W (fun _ => True) []).box4 t v0 v1 v2 v3).drew.hold
    exact this
  exact h.below hb

theorem boxed' {W w' : World} {v0 v1 v2 v3 : Value} {t : TypeId} (hb : Below (W.alloc (.cells #[v0, v1, v2, v3] t)).heap.size (W.alloc (.cells #[v0, v1, v2, v3] t)) w') : Holds w' [(W.heap.size, 0, v0), (W.heap.size, 1, v1), (W.heap.size, 2, v2), (W.heap.size, 3, v3)] := by
  have h : Holds (W.alloc (.cells #[v0, v1, v2, v3] t)) [(W.heap.size, 0, v0), (W.heap.size, 1, v1), (W.heap.size, 2, v2), (W.heap.size, 3, v3)] := by
    have := ((⟨Below.refl _ _, trivial, trivial, fun _ _ _ _ => trivial⟩ : St W W (fun _ => True) []).box4 t v0 v1 v2 v3).hold
    exact this
  exact h.below hb

theorem Holds.apart_ge {w : World} {L : List (Nat × Nat × Value)} (h : Holds w L) {b : Nat} (hb : w.heap.size ≤ b) : Apart b L := by
  induction L with
  | nil => trivial
  | cons x L ih => exact ⟨by have := h.1.2.1; omega, ih h.2⟩

theorem St.add {w W : World} {Z : World → Prop} {L L' : List (Nat × Nat × Value)} (h : St w W Z L) (k : Holds W L') : St w W Z (L' ++ L) := ⟨h.bel, Holds.append.2 ⟨k, h.hold⟩, h.sent, h.cl⟩

/-- A box that was made early, filled late. -/
theorem St.late {w W W2 : World} {Z : World → Prop} {L : List (Nat × Nat × Value)} {b : Nat} {u0 u1 u2 u3 : Value} (h : St w W Z L) (h2 : Holds W2 L) (hw : w.heap.size ≤ W2.heap.size) (hb : W2.heap.size ≤ b) (k : Holds W [(b, 0, u0), (b, 1, u1), (b, 2, u2), (b, 3, u3)]) (v0 v1 v2 v3 : Value) :
    St w ((((W.setCell ⟨b, 0, none⟩ v0).setCell ⟨b, 1, none⟩ v1).setCell ⟨b, 2, none⟩ v2).setCell ⟨b, 3, none⟩ v3) Z ((b, 0, v0) :: (b, 1, v1) :: (b, 2, v2) :: (b, 3, v3) :: L) := by
  have ap := h2.apart_ge hb
  have h0 : St w W Z ((b, 0, u0) :: (b, 1, u1) :: (b, 2, u2) :: (b, 3, u3) :: L) := h.add k
  exact (((h0.put0 (by omega) ap v0).put1 (by omega) ap v1).put2 (by omega) ap v2).put3 (by omega) ap v3

/-- All errors, and a list of ints. -/
def SIZ (a : Nat → Addr) (x : Option Addr) (l : List Int) (W : World) : Prop := Sents W a ∧ IntsAt W x l
theorem St.startSI {w : World} {a : Nat → Addr} {x : Option Addr} {l : List Int} (h : Sents w a) (k : IntsAt w x l) : St w w (SIZ a x l) [] :=
  ⟨Below.refl _ _, trivial, ⟨h, k⟩, fun _ _ q hb => ⟨h.stays q.1 hb, k.stays q.2 hb⟩⟩
theorem St.ss {w W : World} {a : Nat → Addr} {x : Option Addr} {l : List Int} {L : List (Nat × Nat × Value)} (h : St w W (SIZ a x l) L) : Sents W a := h.sent.1
theorem St.si {w W : World} {a : Nat → Addr} {x : Option Addr} {l : List Int} {L : List (Nat × Nat × Value)} (h : St w W (SIZ a x l) L) : IntsAt W x l := h.sent.2

/-- A cell of a list of ints. -/
theorem IntsAt.get {W : World} {x : Option Addr} {l : List Int} (h : IntsAt W x l) (k : Nat) (hk : k < l.length) (y : Int) (hy : y = l.getD k 0) : ∃ b off, x = some ⟨b, off, none⟩ ∧ W.cell? ⟨b, off + k, none⟩ = some (.int .i64 y) := by
  rcases h with rfl | ⟨b, off, h1, _, h3⟩
  · simp at hk
  · exact ⟨b, off, h1, by rw [hy]; exact h3 k hk⟩

end Go.Proofs.YtmeaemjdmjhmdaaDoor

/- Boxes of two cells. -/
namespace Go.Proofs.YtmeaemjdmjhmdaaDoor
open Go.RowKit

theorem St.put20 {w W : World} {Z : World → Prop} {b : Nat} {u0 u1 : Value} {L : List (Nat × Nat × Value)} (h : St w W Z ((b, 0, u0) :: (b, 1, u1) :: L)) (hb : w.heap.size ≤ b) (ap : Apart b L) (v : Value) :
    St w (W.setCell ⟨b, 0, none⟩ v) Z ((b, 0, v) :: (b, 1, u1) :: L) :=
  St.set1 [] _ h hb trivial ⟨.inr (by simp), ap.c⟩ v
theorem St.put21 {w W : World} {Z : World → Prop} {b : Nat} {u0 u1 : Value} {L : List (Nat × Nat × Value)} (h : St w W Z ((b, 0, u0) :: (b, 1, u1) :: L)) (hb : w.heap.size ≤ b) (ap : Apart b L) (v : Value) :
    St w (W.setCell ⟨b, 1, none⟩ v) Z ((b, 0, u0) :: (b, 1, v) :: L) :=
  St.set1 [(b, 0, u0)] _ h hb ⟨.inr (by simp), trivial⟩ ap.c v

theorem boxed2 {W w' : World} {v0 v1 : Value} {t : TypeId} (hb : Below (W.alloc (.cells #[v0, v1] t)).drew.heap.size (W.alloc (.cells #[v0, v1] t)).drew w') : Holds w' [(W.heap.size, 0, v0), (W.heap.size, 1, v1)] := by
  have h : Holds (W.alloc (.cells #[v0, v1] t)).drew [(W.heap.size, 0, v0), (W.heap.size, 1, v1)] := by
    have := ((⟨Below.refl _ _, trivial, trivial, fun _ _ _ _ => trivial⟩ : St W W (fun _ => True) []).box2 t v0 v1).drew.hold
    exact this
  exact h.below hb
theorem boxed2' {W w' : World} {v0 v1 : Value} {t : TypeId} (hb : Below (W.alloc (.cells #[v0, v1] t)).heap.size (W.alloc (.cells #[v0, v1] t)) w') : Holds w' [(W.heap.size, 0, v0), (W.heap.size, 1, v1)] := by
  have h : Holds (W.alloc (.cells #[v0, v1] t)) [(W.heap.size, 0, v0), (W.heap.size, 1, v1)] := by
    have := ((⟨Below.refl _ _, trivial, trivial, fun _ _ _ _ => trivial⟩ : St W W (fun _ => True) []).box2 t v0 v1).hold
    exact this
  exact h.below hb

theorem St.late2 {w W W2 : World} {Z : World → Prop} {L : List (Nat × Nat × Value)} {b : Nat} {u0 u1 : Value} (h : St w W Z L) (h2 : Holds W2 L) (hw : w.heap.size ≤ W2.heap.size) (hb : W2.heap.size ≤ b) (k : Holds W [(b, 0, u0), (b, 1, u1)]) (v0 v1 : Value) :
    St w ((W.setCell ⟨b, 0, none⟩ v0).setCell ⟨b, 1, none⟩ v1) Z ((b, 0, v0) :: (b, 1, v1) :: L) := by
  have ap := h2.apart_ge hb
  have h0 : St w W Z ((b, 0, u0) :: (b, 1, u1) :: L) := h.add k
  exact (h0.put20 (by omega) ap v0).put21 (by omega) ap v1

end Go.Proofs.YtmeaemjdmjhmdaaDoor
