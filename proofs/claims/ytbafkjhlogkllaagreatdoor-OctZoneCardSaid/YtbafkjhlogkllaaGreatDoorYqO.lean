/- Zones: two squares together (grid.With); the error of two zones. -/
import Derived.Test.YtbafkjhlogkllaaGreatDoorYd
import Derived.Test.YtbafkjhlogkllaaGreatDoorOfO
namespace Go.Proofs.YtbafkjhlogkllaaGreatDoor.Oc
open Go.RowKit
set_option linter.unusedVariables false

/-- Two squares kept. -/
def GZ2 (g h n : Nat) (f f' : Nat → Nat → Int) (W : World) : Prop := GrI W g n f ∧ GrI W h n f'
theorem St.startG2 {w : World} {g h n : Nat} {f f' : Nat → Nat → Int} (k : GrI w g n f) (k' : GrI w h n f') : St w w (GZ2 g h n f f') [] := ⟨Below.refl _ _, trivial, ⟨k, k'⟩, fun _ _ q hb => ⟨GrI.stays k.lt q.1 hb, GrI.stays k'.lt q.2 hb⟩⟩
theorem keepG21 {w W : World} {g h n : Nat} {f f' : Nat → Nat → Int} (L : List (Nat × Nat × Value)) (k : CellsAnd W L (St w W (GZ2 g h n f f') L)) : GrI W g n f := k.last.sent.1
theorem keepG22 {w W : World} {g h n : Nat} {f f' : Nat → Nat → Int} (L : List (Nat × Nat × Value)) (k : CellsAnd W L (St w W (GZ2 g h n f f') L)) : GrI W h n f' := k.last.sent.2

/-- What a function makes of two numbers. -/
def Mk2 (fn : Nat) (F : Int → Int → Int) : Prop := ∀ (W : World) (x y : Int), Calls Tryz.prog fn #[.int .i64 x, .int .i64 y] W fun e w' => e = .returned (.int .i64 (F x y)) ∧ w' = W

/-- The errors, and two slices of cells. -/
def EC2 (a : Nat → Addr) (x : Option Addr) (l : List Ce) (y : Option Addr) (m : List Ce) (W : World) : Prop := ErrS W a ∧ CsAt W x l ∧ CsAt W y m
theorem St.startEC2 {w : World} {a : Nat → Addr} {x y : Option Addr} {l m : List Ce} (h : ErrS w a) (k : CsAt w x l) (k' : CsAt w y m) : St w w (EC2 a x l y m) [] :=
  ⟨Below.refl _ _, trivial, ⟨h, k, k'⟩, fun _ _ q hb => ⟨h.stays q.1 hb, k.stays q.2.1 hb, k'.stays q.2.2 hb⟩⟩
theorem keepE1 {w W : World} {a : Nat → Addr} {x y : Option Addr} {l m : List Ce} (L : List (Nat × Nat × Value)) (h : CellsAnd W L (St w W (EC2 a x l y m) L)) : ErrS W a := h.last.sent.1
theorem keepE2 {w W : World} {a : Nat → Addr} {x y : Option Addr} {l m : List Ce} (L : List (Nat × Nat × Value)) (h : CellsAnd W L (St w W (EC2 a x l y m) L)) : CsAt W x l := h.last.sent.2.1
theorem keepE3 {w W : World} {a : Nat → Addr} {x y : Option Addr} {l m : List Ce} (L : List (Nat × Nat × Value)) (h : CellsAnd W L (St w W (EC2 a x l y m) L)) : CsAt W y m := h.last.sent.2.2

def pairErr (N : Int) (l : List Ce) (M : Int) (m : List Ce) : Int := if firstE [zErr N l, zErr M m] = 0 ∧ N ≠ M then 3 else firstE [zErr N l, zErr M m]

end Go.Proofs.YtbafkjhlogkllaaGreatDoor.Oc

/- Zones: the join and the meet of two, one widened by another one. -/
namespace Go.Proofs.YtbafkjhlogkllaaGreatDoor.Oc
open Go.RowKit
set_option linter.unusedVariables false

def maxI (x y : Int) : Int := if x < y then y else x
def keptI (x y : Int) : Int := if x < y then 9223372036854775807 else x
def maxB : Bd → Bd → Bd
  | some a, some b => some (max a b)
  | _, _ => none
/-- A bound, without it where another one goes beyond. -/
def keptB (a b : Bd) : Bd := if encB a < encB b then none else a
theorem enc_max {a b : Bd} (ha : OkB a) (hb : OkB b) : encB (maxB a b) = maxI (encB a) (encB b) := by
  unfold maxI
  cases a with
  | none =>
    cases b with
    | none => simp [encB, maxB]
    | some v => have := hb v rfl; simp [encB, maxB]; omega
  | some u =>
    have := ha u rfl
    cases b with
    | none => simp [encB, maxB]; omega
    | some v => simp only [encB, maxB]; by_cases h : u < v <;> simp [h] <;> omega
theorem enc_kept (a b : Bd) : encB (keptB a b) = keptI (encB a) (encB b) := by
  unfold keptI keptB; split <;> rfl

def With2 (F : Bd → Bd → Bd) (c d : Mat) : Mat := fun i j => F (c i j) (d i j)

theorem pairErr_0 {N M : Int} {l m : List Ce} (h : pairErr N l M m = 0) : zErr N l = 0 ∧ zErr M m = 0 ∧ N = M := by
  unfold pairErr at h
  by_cases k : firstE [zErr N l, zErr M m] = 0 ∧ N ≠ M
  · rw [if_pos k] at h; omega
  · rw [if_neg k] at h
    have h1 := h
    rw [firstE_0, firstE_0] at h1
    refine ⟨h1.1, h1.2.1, ?_⟩
    apply Classical.byContradiction
    intro e
    exact k ⟨h, e⟩

/-- Two zones are right, and of one size. -/
structure Right2 (N : Int) (n len : Nat) (l m : List Ce) : Prop where
  hN : 2 * N = n
  hn : n % 2 = 0 ∧ n ≤ 8
  hl : len = l.length
  hm : len = m.length
  hll : len = n * n
  sl : Sz n 1099511627776 (matOf n l)
  sm : Sz n 1099511627776 (matOf n m)
theorem right2 {N : Int} {l m : List Ce} (h : pairErr N l N m = 0) : Right2 N (nOf N) l.length l m := by
  obtain ⟨h1, h2, _⟩ := pairErr_0 h
  obtain ⟨z1, z2, z3, z4, z5, z6⟩ := zErr_0 h1
  obtain ⟨y1, y2, y3, y4, y5, y6⟩ := zErr_0 h2
  exact ⟨z1, ⟨z2, z3⟩, rfl, by rw [z4, y4], z4, sz_mat z4 z6, sz_mat y4 y6⟩

/-- What Join and Widen answer. -/
def JrPost (w : World) (a : Nat → Addr) (er Ni : Int) (len : Nat) (emp : Prop) (L : List Ce) (e : Ending) (w' : World) : Prop :=
  Below w.heap.size w w' ∧ ((er ≠ 0 ∧ e = .returned (.tuple #[(.agg #[.int .i64 0, .slice none 0 0]), erV a er])) ∨ (er = 0 ∧ emp ∧ e = .returned (.tuple #[(.agg #[.int .i64 0, .slice none 0 0]), erV a 4])) ∨
    (er = 0 ∧ ¬ emp ∧ ∃ g cp, e = .returned (.tuple #[(.agg #[.int .i64 Ni, (.slice (some ⟨g, 0, none⟩) len cp)]), .nilIface]) ∧ w.heap.size ≤ g ∧ RowC w' g 0 L))

/-- What the three functions on two zones share. -/
structure Parts (N : Int) (n len : Nat) (x y : Option Addr) (c c' : Nat) (l m : List Ce) : Prop where
  bA : ∀ W : World, CsAt W x l → Calls Tryz.prog 40 #[(.agg #[.int .i64 N, (.slice x len c)])] W fun e w' => GrPost W n len (encM (matOf n l)) e w'
  bB : ∀ W : World, CsAt W y m → Calls Tryz.prog 40 #[(.agg #[.int .i64 N, (.slice y len c')])] W fun e w' => GrPost W n len (encM (matOf n m)) e w'
  cA : ∀ (W : World) (g cp : Nat), GrI W g n (encM (matOf n l)) → Calls Tryz.prog 43 #[(.agg #[.int .i64 n, (.slice (some ⟨g, 0, none⟩) len cp)])] W fun e w' => TgPost W n len (matOf n l) e w'
  cB : ∀ (W : World) (g cp : Nat), GrI W g n (encM (matOf n m)) → Calls Tryz.prog 43 #[(.agg #[.int .i64 n, (.slice (some ⟨g, 0, none⟩) len cp)])] W fun e w' => TgPost W n len (matOf n m) e w'
  tl : ∀ (W : World) (g cp : Nat) (d : Mat), GrI W g n (encM d) → Calls Tryz.prog 44 #[(.agg #[.int .i64 n, (.slice (some ⟨g, 0, none⟩) len cp)])] W fun e w' => TellPost W N len (tellL n d) e w'
theorem parts {N : Int} {n len : Nat} {l m : List Ce} (h : Right2 N n len l m) (x y : Option Addr) (c c' : Nat) : Parts N n len x y c c' l m := by
  obtain ⟨hN, hn, hl, hm, hll, sl, sm⟩ := h
  refine ⟨?_, ?_, ?_, ?_, ?_⟩
  · intro W h
    exact boundsOf_cs N n c len _ l W h hl hll hn hN
  · intro W h
    exact boundsOf_cs N n c' len _ m W h hm hll hn hN
  · exact fun W g cp h => tight_any n g cp len 1099511627776 _ W h hll (by omega) sl (by omega)
  · exact fun W g cp h => tight_any n g cp len 1099511627776 _ W h hll (by omega) sm (by omega)
  · intro W g cp d h
    have := tellz_any N n g cp len _ W h hll hn hN
    rw [hll, gridL_enc] at this
    rw [hll]
    exact this

def nnB (n : Nat) (d : Mat) : Bool := (List.range n).all fun i => match d i i with | some v => decide (0 ≤ v) | none => true
theorem nnB_iff {n : Nat} {d : Mat} : nnB n d = true ↔ NoNeg n d := by
  unfold nnB NoNeg
  rw [List.all_eq_true]
  constructor
  · intro h i hi
    have := h i (List.mem_range.2 hi)
    cases e : d i i with
    | none => simp [leB]
    | some v => rw [e] at this; simpa [leB] using this
  · intro h i hi
    have := h i (List.mem_range.1 hi)
    cases e : d i i with
    | none => rfl
    | some v => rw [e] at this; simpa [leB] using this
theorem nnB_yes {n : Nat} {d : Mat} (h : NoNeg n d) : nnB n d = true := nnB_iff.2 h
theorem nnB_no {n : Nat} {d : Mat} (h : ¬ NoNeg n d) : nnB n d = false := by
  cases e : nnB n d with
  | false => rfl
  | true => exact absurd (nnB_iff.1 e) h

/-- What is joined. -/
def joinM (n : Nat) (A B : Mat) : Mat := fun i j => if nnB n (tg n A) = false then tg n B i j else if nnB n (tg n B) = false then tg n A i j else maxB (tg n A i j) (tg n B i j)
theorem joinM_b {n : Nat} {A B : Mat} (h : ¬ NoNeg n (tg n A)) : joinM n A B = tg n B := by
  funext i j; unfold joinM; rw [if_pos (nnB_no h)]
theorem joinM_a {n : Nat} {A B : Mat} (h : NoNeg n (tg n A)) (k : ¬ NoNeg n (tg n B)) : joinM n A B = tg n A := by
  funext i j; unfold joinM; rw [if_neg (by rw [nnB_yes h]; simp), if_pos (nnB_no k)]
theorem joinM_ab {n : Nat} {A B : Mat} (h : NoNeg n (tg n A)) (k : NoNeg n (tg n B)) : joinM n A B = fun i j => maxB (tg n A i j) (tg n B i j) := by
  funext i j; unfold joinM; rw [if_neg (by rw [nnB_yes h]; simp), if_neg (by rw [nnB_yes k]; simp)]

/-- The errors (the empty one too), and two slices of cells. -/
def ED2 (a : Nat → Addr) (x : Option Addr) (l : List Ce) (y : Option Addr) (m : List Ce) (W : World) : Prop := (ErrS W a ∧ ErrAt W a 3) ∧ CsAt W x l ∧ CsAt W y m
theorem St.startED2 {w : World} {a : Nat → Addr} {x y : Option Addr} {l m : List Ce} (h : ErrS w a) (h3 : ErrAt w a 3) (k : CsAt w x l) (k' : CsAt w y m) : St w w (ED2 a x l y m) [] :=
  ⟨Below.refl _ _, trivial, ⟨⟨h, h3⟩, k, k'⟩, fun _ _ q hb => ⟨⟨h.stays q.1.1 hb, (hb.cell (World.block_lt_of_cell? w _ h3)).trans q.1.2⟩, k.stays q.2.1 hb, k'.stays q.2.2 hb⟩⟩

end Go.Proofs.YtbafkjhlogkllaaGreatDoor.Oc

/- Zones: the meet of two. -/
namespace Go.Proofs.YtbafkjhlogkllaaGreatDoor.Oc
open Go.RowKit
set_option linter.unusedVariables false

/-- What is answered, in one form. -/
def ZaOne (w w' : World) (Ni : Int) (len : Nat) (ok : Prop) (L : List Ce) (N' : Int) (x' : Option Addr) (k cp : Nat) (ob : Bool) : Prop :=
  (ob = false ∧ ¬ ok ∧ N' = 0 ∧ x' = none ∧ k = 0 ∧ cp = 0) ∨ (ob = true ∧ ok ∧ N' = Ni ∧ k = len ∧ ∃ g, x' = some ⟨g, 0, none⟩ ∧ w.heap.size ≤ g ∧ RowC w' g 0 L)
theorem za_split {w w' : World} {Ni : Int} {len : Nat} {ok : Prop} {L : List Ce} {e : Ending} (h : ((¬ ok ∧ e = .returned (.tuple #[(.agg #[.int .i64 0, .slice none 0 0]), .bool false, .nilIface])) ∨
    (ok ∧ ∃ g cp, e = .returned (.tuple #[(.agg #[.int .i64 Ni, (.slice (some ⟨g, 0, none⟩) len cp)]), .bool true, .nilIface]) ∧ w.heap.size ≤ g ∧ RowC w' g 0 L))) :
    ∃ (N' : Int) (x' : Option Addr) (k cp : Nat) (ob : Bool), e = .returned (.tuple #[(.agg #[.int .i64 N', (.slice x' k cp)]), .bool ob, .nilIface]) ∧ ZaOne w w' Ni len ok L N' x' k cp ob := by
  rcases h with ⟨h1, h2⟩ | ⟨h1, g, cp, h2, h3, h4⟩
  · exact ⟨0, none, 0, 0, false, h2, .inl ⟨rfl, h1, rfl, rfl, rfl, rfl⟩⟩
  · exact ⟨Ni, some ⟨g, 0, none⟩, len, cp, true, h2, .inr ⟨rfl, h1, rfl, rfl, g, rfl, h3, h4⟩⟩

theorem sz_min {n k : Nat} {A B : Mat} (hA : Sz n k A) (hB : Sz n k B) : Sz n k (With2 minB A B) := by
  intro i j hi hj v hv
  rcases minB_cases (A i j) (B i j) with e | e
  · exact hA i j hi hj v (e.symm.trans hv)
  · exact hB i j hi hj v (e.symm.trans hv)

end Go.Proofs.YtbafkjhlogkllaaGreatDoor.Oc
