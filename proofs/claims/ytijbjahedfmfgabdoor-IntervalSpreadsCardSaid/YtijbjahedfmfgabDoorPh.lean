/- Boxes of ends that are read, and one into which is stored, in a region that draws its order: products, quotients and remainders of the program's ends. -/
import Derived.Test.YtijbjahedfmfgabDoorPg
namespace Go.Proofs.YtijbjahedfmfgabDoor
open Go.RowKit

structure Kq (w W : World) (L : List (Nat × Nat × Value)) (r : Nat) : Prop where
  st : St w W (fun _ => True) L
  ap : Apart r L
  ge : w.heap.size ≤ r
  r0 : ∃ n, W.cell? ⟨r, 0, none⟩ = some (.int .i64 n)
  r1 : ∃ n, W.cell? ⟨r, 1, none⟩ = some (.int .i64 n)
  f0 : W.frozen? ⟨r, 0, none⟩ = false
  f1 : W.frozen? ⟨r, 1, none⟩ = false
  lt : r < W.heap.size

def Rq (w W : World) (L : List (Nat × Nat × Value)) (r : Nat) : Prop := CellsAnd W L (W.cell? ⟨r, 0, none⟩ = some (.int .i64 (intC W (r) 0)) ∧ W.cell? ⟨r, 1, none⟩ = some (.int .i64 (intC W (r) 1)) ∧ W.frozen? ⟨r, 0, none⟩ = false ∧ W.frozen? ⟨r, 1, none⟩ = false ∧ Kq w W L (r))

theorem Kq.all {w W : World} {L : List (Nat × Nat × Value)} {r : Nat} (h : Kq w W L r) : CellsAnd W L (W.cell? ⟨r, 0, none⟩ = some (.int .i64 (intC W (r) 0)) ∧ W.cell? ⟨r, 1, none⟩ = some (.int .i64 (intC W (r) 1)) ∧ W.frozen? ⟨r, 0, none⟩ = false ∧ W.frozen? ⟨r, 1, none⟩ = false ∧ Kq w W L (r)) := by
  obtain ⟨n0, r0⟩ := h.r0
  obtain ⟨n1, r1⟩ := h.r1
  exact CellsAnd.mk h.st.hold ⟨intC_of r0, intC_of r1, h.f0, h.f1, h⟩

theorem Kq.of {w W : World} {L : List (Nat × Nat × Value)} {r : Nat} {x y : Int} (h : St w W (fun _ => True) ((r, 0, .int .i64 x) :: (r, 1, .int .i64 y) :: L)) (ap : Apart r L) (ge : w.heap.size ≤ r) : Kq w W L r := by
  have k := h.hold
  exact ⟨h.drop 2, ap, ge, ⟨x, k.1.1⟩, ⟨y, k.2.1.1⟩, k.1.2.2, k.2.1.2.2, k.1.2.1⟩

theorem Kq.call {w W W' : World} {L : List (Nat × Nat × Value)} {r : Nat} (h : Kq w W L r) (hb : Below W.heap.size W W') : Kq w W' L r := by
  have lt := h.lt
  obtain ⟨n0, r0⟩ := h.r0
  obtain ⟨n1, r1⟩ := h.r1
  exact ⟨h.st.call hb, h.ap, h.ge, ⟨n0, (hb.cell (p := ⟨_, _, none⟩) lt).trans r0⟩, ⟨n1, (hb.cell (p := ⟨_, _, none⟩) lt).trans r1⟩, (hb.frozen (p := ⟨_, _, none⟩) lt).trans h.f0, (hb.frozen (p := ⟨_, _, none⟩) lt).trans h.f1, Nat.lt_of_lt_of_le lt hb.size⟩

theorem Kq.drew {w W : World} {L : List (Nat × Nat × Value)} {r : Nat} (h : Kq w W L r) : Kq w W.drew L r := h.call (Below.refl _ _).drew

theorem Kq.store {w W : World} {L : List (Nat × Nat × Value)} {r : Nat} (h : Kq w W L r) (x y : Int) : Kq w ((W.setCell ⟨r, 0, none⟩ (.int .i64 x)).setCell ⟨r, 1, none⟩ (.int .i64 y)) L r := by
  obtain ⟨n0, r0⟩ := h.r0
  obtain ⟨n1, r1⟩ := h.r1
  have s0 : St w W (fun _ => True) ((r, 0, .int .i64 n0) :: (r, 1, .int .i64 n1) :: L) := h.st.add (L' := [(r, 0, .int .i64 n0), (r, 1, .int .i64 n1)]) ⟨⟨r0, h.lt, h.f0⟩, ⟨r1, h.lt, h.f1⟩, trivial⟩
  exact Kq.of ((s0.put20 h.ge h.ap (.int .i64 x)).put21 h.ge h.ap (.int .i64 y)) h.ap h.ge

theorem keepQ {w W W' : World} (L : List (Nat × Nat × Value)) (r : Nat) (hb : Below W.heap.size W W') (h : CellsAnd W L (W.cell? ⟨r, 0, none⟩ = some (.int .i64 (intC W (r) 0)) ∧ W.cell? ⟨r, 1, none⟩ = some (.int .i64 (intC W (r) 1)) ∧ W.frozen? ⟨r, 0, none⟩ = false ∧ W.frozen? ⟨r, 1, none⟩ = false ∧ Kq w W L (r))) : CellsAnd W' L (W'.cell? ⟨r, 0, none⟩ = some (.int .i64 (intC W' (r) 0)) ∧ W'.cell? ⟨r, 1, none⟩ = some (.int .i64 (intC W' (r) 1)) ∧ W'.frozen? ⟨r, 0, none⟩ = false ∧ W'.frozen? ⟨r, 1, none⟩ = false ∧ Kq w W' L (r)) := (h.last.2.2.2.2.call hb).all
theorem keepQd {w W : World} (L : List (Nat × Nat × Value)) (r : Nat) (h : CellsAnd W L (W.cell? ⟨r, 0, none⟩ = some (.int .i64 (intC W (r) 0)) ∧ W.cell? ⟨r, 1, none⟩ = some (.int .i64 (intC W (r) 1)) ∧ W.frozen? ⟨r, 0, none⟩ = false ∧ W.frozen? ⟨r, 1, none⟩ = false ∧ Kq w W L (r))) : CellsAnd W.drew L (W.drew.cell? ⟨r, 0, none⟩ = some (.int .i64 (intC W.drew (r) 0)) ∧ W.drew.cell? ⟨r, 1, none⟩ = some (.int .i64 (intC W.drew (r) 1)) ∧ W.drew.frozen? ⟨r, 0, none⟩ = false ∧ W.drew.frozen? ⟨r, 1, none⟩ = false ∧ Kq w W.drew L (r)) := h.last.2.2.2.2.drew.all
theorem keepQs {w W W1 : World} (L : List (Nat × Nat × Value)) (r : Nat) {x y : Int} (e : W1 = (W.setCell ⟨r, 0, none⟩ (.int .i64 x)).setCell ⟨r, 1, none⟩ (.int .i64 y)) (h : CellsAnd W L (W.cell? ⟨r, 0, none⟩ = some (.int .i64 (intC W (r) 0)) ∧ W.cell? ⟨r, 1, none⟩ = some (.int .i64 (intC W (r) 1)) ∧ W.frozen? ⟨r, 0, none⟩ = false ∧ W.frozen? ⟨r, 1, none⟩ = false ∧ Kq w W L (r))) : CellsAnd W1 L (W1.cell? ⟨r, 0, none⟩ = some (.int .i64 (intC W1 (r) 0)) ∧ W1.cell? ⟨r, 1, none⟩ = some (.int .i64 (intC W1 (r) 1)) ∧ W1.frozen? ⟨r, 0, none⟩ = false ∧ W1.frozen? ⟨r, 1, none⟩ = false ∧ Kq w W1 L (r)) := by
  subst e; exact (h.last.2.2.2.2.store x y).all


theorem Apart.append {b : Nat} {L1 L2 : List (Nat × Nat × Value)} (h : Apart b L1) (k : Apart b L2) : Apart b (L1 ++ L2) := by
  induction L1 with
  | nil => exact k
  | cons x L ih => exact ⟨h.1, ih h.2⟩
theorem ApartC.append {b o : Nat} {L1 L2 : List (Nat × Nat × Value)} (h : ApartC b o L1) (k : ApartC b o L2) : ApartC b o (L1 ++ L2) := by
  induction L1 with
  | nil => exact k
  | cons x L ih => exact ⟨h.1, ih h.2⟩

/-- A box of two cells, set anew. -/
theorem St.set2 {w W : World} {Z : World → Prop} {b : Nat} {u0 u1 : Value} (L1 L2 : List (Nat × Nat × Value)) (h : St w W Z (L1 ++ (b, 0, u0) :: (b, 1, u1) :: L2)) (hb : w.heap.size ≤ b) (n1 : Apart b L1) (n2 : Apart b L2) (v0 v1 : Value) :
    St w ((W.setCell ⟨b, 0, none⟩ v0).setCell ⟨b, 1, none⟩ v1) Z (L1 ++ (b, 0, v0) :: (b, 1, v1) :: L2) := by
  have h1 := St.set1 L1 _ h hb n1.c ⟨.inr (by simp), n2.c⟩ v0
  have h2 : St w (W.setCell ⟨b, 0, none⟩ v0) Z ((L1 ++ [(b, 0, v0)]) ++ (b, 1, u1) :: L2) := by rw [List.append_assoc]; exact h1
  have h3 := St.set1 (L1 ++ [(b, 0, v0)]) L2 h2 hb (ApartC.append n1.c ⟨.inr (by simp), trivial⟩) n2.c v1
  rw [List.append_assoc] at h3
  exact h3

/-- The least of four, from far on. -/
theorem mins4 {n0 n1 n2 n3 : Int} (h0 : n0 ≤ 9223372036854775807) : mins n0 n1 n2 n3 4 = min4 n0 n1 n2 n3 := by
  show min (min (min (min 9223372036854775807 n0) n1) n2) n3 = min (min (min n0 n1) n2) n3; omega
theorem maxs4 {n0 n1 n2 n3 : Int} (h0 : -9223372036854775807 ≤ n0) : maxs n0 n1 n2 n3 4 = max4 n0 n1 n2 n3 := by
  show max (max (max (max (-9223372036854775807) n0) n1) n2) n3 = max (max (max n0 n1) n2) n3; omega

theorem product_enters : Enters 45 := enters_of Tryd.func45 (by rfl) (by rfl)

set_option maxRecDepth 20000 in
set_option maxHeartbeats 2000000 in
theorem products_any (p q p' q' : Int) (w : World) (h1 : (-9223372036854775807 ≤ p ∧ p ≤ 9223372036854775807)) (h2 : (-9223372036854775807 ≤ q ∧ q ≤ 9223372036854775807)) (h3 : (-9223372036854775807 ≤ p' ∧ p' ≤ 9223372036854775807)) (h4 : (-9223372036854775807 ≤ q' ∧ q' ≤ 9223372036854775807)) :
    Calls Tryd.prog 32 #[(Value.agg #[Value.int .i64 (p), Value.int .i64 (q)]), (Value.agg #[Value.int .i64 (p'), Value.int .i64 (q')])] w fun e w' => e = .returned (Value.agg #[Value.int .i64 (min4 (clipE (p * p')) (clipE (p * q')) (clipE (q * p')) (clipE (q * q'))), Value.int .i64 (max4 (clipE (p * p')) (clipE (p * q')) (clipE (q * p')) (clipE (q * q')))]) ∧ Below w.heap.size w w' := by
  have hC := fun W => corners_any 45 p q p' q' (clipE (p * p')) (clipE (p * q')) (clipE (q * p')) (clipE (q * q')) W product_enters (fun W => product_any _ _ W h1 h3) (fun W => product_any _ _ W h1 h4) (fun W => product_any _ _ W h2 h3) (fun W => product_any _ _ W h2 h4)
  rw [mins4 (clip_r _).2, maxs4 (clip_r _).1] at hC
  have HC := hide hC
  clear hC
  obtain ⟨z0, hz0⟩ : ∃ z, z = min4 (clipE (p * p')) (clipE (p * q')) (clipE (q * p')) (clipE (q * q')) := ⟨_, rfl⟩
  obtain ⟨z1, hz1⟩ : ∃ z, z = max4 (clipE (p * p')) (clipE (p * q')) (clipE (q * p')) (clipE (q * q')) := ⟨_, rfl⟩
  rw [← hz0, ← hz1] at HC ⊢
  clear hz0 hz1
  go_enter Tryd.func32, Tryd.ntmps32
  go_wp2_with fail
  refine (HC.out _).mono ?_
  rintro e w1 ⟨rfl, hb1⟩
  have s1 := ((((St.start0 w).box2 48 (.int .i64 p) (.int .i64 q)).box2 48 (.int .i64 p') (.int .i64 q')).box2 48 (.int .i64 0) (.int .i64 0)).call hb1
  simp only [allocSize] at s1
  have q1 := s1.hold
  simp only [Holds, and_true] at q1
  clear hb1
  go_wp2_with fail
  refine bodyPost_ret (v := (Value.agg #[Value.int .i64 (z0), Value.int .i64 (z1)])) ?_ rfl ⟨rfl, ?_⟩
  · simp [results, Tryd.results32, go_sem, q1]
  · (repeat' (first | exact s4.bel | exact s3.bel | exact s2.bel | exact s1.bel | exact hK.st.bel | refine Below.setCell ?_ (by dsimp only; omega) _ | refine Below.alloc ?_ (by first | (simp; done) | (simp; omega)) _ | refine Below.drew ?_ | exact Below.refl _ _))

end Go.Proofs.YtijbjahedfmfgabDoor
