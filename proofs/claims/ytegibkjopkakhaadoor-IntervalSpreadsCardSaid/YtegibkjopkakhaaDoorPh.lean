/- Boxes of ends that are read, and one into which is stored, in a region that draws its order: products, quotients and remainders of the program's ends. -/
import Derived.Test.YtegibkjopkakhaaDoorPg
namespace Go.Proofs.YtegibkjopkakhaaDoor
open Go.RowKit

structure Kq (w W : World) (L : List (Nat × Nat × Value)) (r : Nat) : Prop where
  st : St w W (fun _ => True) L
  ap : Apart r L
  ge : w.heap.size ≤ r
  r0 : ∃ n, W.cell? ⟨r, 0, none⟩ = some (.int .i64 n)
  r1 : ∃ n, W.cell? ⟨r, 1, none⟩ = some (.int .i64 n)
  f0 : W.frozen? ⟨r, 0, none⟩ = false
  f1 : W.frozen? ⟨r, 1, none⟩ = false
  lt : r < W.heap.size

def Rq (w W : World) (L : List (Nat × Nat × Value)) (r : Nat) : Prop := CellsAnd W L (W.cell? ⟨r, 0, none⟩ = some (.int .i64 (intC W (r) 0)) ∧ W.cell? ⟨r, 1, none⟩ = some (.int .i64 (intC W (r) 1)) ∧ W.frozen? ⟨r, 0, none⟩ = false ∧ W.frozen? ⟨r, 1, none⟩ = false ∧ Kq w W L (r))

theorem Kq.all {w W : World} {L : List (Nat × Nat × Value)} {r : Nat} (h : Kq w W L r) : CellsAnd W L (W.cell? ⟨r, 0, none⟩ = some (.int .i64 (intC W (r) 0)) ∧ W.cell? ⟨r, 1, none⟩ = some (.int .i64 (intC W (r) 1)) ∧ W.frozen? ⟨r, 0, none⟩ = false ∧ W.frozen? ⟨r, 1, none⟩ = false ∧ Kq w W L (r)) := by
  obtain ⟨n0, r0⟩ := h.r0
  obtain ⟨n1, r1⟩ := h.r1
  exact CellsAnd.mk h.st.hold ⟨intC_of r0, intC_of r1, h.f0, h.f1, h⟩

theorem Kq.of {w W : World} {L : List (Nat × Nat × Value)} {r : Nat} {x y : Int} (h : St w W (fun _ => True) ((r, 0, .int .i64 x) :: (r, 1, .int .i64 y) :: L)) (ap : Apart r L) (ge : w.heap.size ≤ r) : Kq w W L r := by
  have k := h.hold
  exact ⟨h.drop 2, ap, ge, ⟨x, k.1.1⟩, ⟨y, k.2.1.1⟩, k.1.2.2, k.2.1.2.2, k.1.2.1⟩

theorem Kq.call {w W W' : World} {L : List (Nat × Nat × Value)} {r : Nat} (h : Kq w W L r) (hb : Below W.heap.size W W') : Kq w W' L r := by
  have lt := h.lt
  obtain ⟨n0, r0⟩ := h.r0
  obtain ⟨n1, r1⟩ := h.r1
  exact ⟨h.st.call hb, h.ap, h.ge, ⟨n0, (hb.cell (p := ⟨_, _, none⟩) lt).trans r0⟩, ⟨n1, (hb.cell (p := ⟨_, _, none⟩) lt).trans r1⟩, (hb.frozen (p := ⟨_, _, none⟩) lt).trans h.f0, (hb.frozen (p := ⟨_, _, none⟩) lt).trans h.f1, Nat.lt_of_lt_of_le lt hb.size⟩

theorem Kq.drew {w W : World} {L : List (Nat × Nat × Value)} {r : Nat} (h : Kq w W L r) : Kq w W.drew L r := h.call (Below.refl _ _).drew

theorem Kq.store {w W : World} {L : List (Nat × Nat × Value)} {r : Nat} (h : Kq w W L r) (x y : Int) : Kq w ((W.setCell ⟨r, 0, none⟩ (.int .i64 x)).setCell ⟨r, 1, none⟩ (.int .i64 y)) L r := by
  obtain ⟨n0, r0⟩ := h.r0
  obtain ⟨n1, r1⟩ := h.r1
  have s0 : St w W (fun _ => True) ((r, 0, .int .i64 n0) :: (r, 1, .int .i64 n1) :: L) := h.st.add (L' := [(r, 0, .int .i64 n0), (r, 1, .int .i64 n1)]) ⟨⟨r0, h.lt, h.f0⟩, ⟨r1, h.lt, h.f1⟩, trivial⟩
  exact Kq.of ((s0.put20 h.ge h.ap (.int .i64 x)).put21 h.ge h.ap (.int .i64 y)) h.ap h.ge

theorem keepQ {w W W' : World} (L : List (Nat × Nat × Value)) (r : Nat) (hb : Below W.heap.size W W') (h : CellsAnd W L (W.cell? ⟨r, 0, none⟩ = some (.int .i64 (intC W (r) 0)) ∧ W.cell? ⟨r, 1, none⟩ = some (.int .i64 (intC W (r) 1)) ∧ W.frozen? ⟨r, 0, none⟩ = false ∧ W.frozen? ⟨r, 1, none⟩ = false ∧ Kq w W L (r))) : CellsAnd W' L (W'.cell? ⟨r, 0, none⟩ = some (.int .i64 (intC W' (r) 0)) ∧ W'.cell? ⟨r, 1, none⟩ = some (.int .i64 (intC W' (r) 1)) ∧ W'.frozen? ⟨r, 0, none⟩ = false ∧ W'.frozen? ⟨r, 1, none⟩ = false ∧ Kq w W' L (r)) := (h.last.2.2.2.2.call hb).all
theorem keepQd {w W : World} (L : List (Nat × Nat × Value)) (r : Nat) (h : CellsAnd W L (W.cell? ⟨r, 0, none⟩ = some (.int .i64 (intC W (r) 0)) ∧ W.cell? ⟨r, 1, none⟩ = some (.int .i64 (intC W (r) 1)) ∧ W.frozen? ⟨r, 0, none⟩ = false ∧ W.frozen? ⟨r, 1, none⟩ = false ∧ Kq w W L (r))) : CellsAnd W.drew L (W.drew.cell? ⟨r, 0, none⟩ = some (.int .i64 (intC W.drew (r) 0)) ∧ W.drew.cell? ⟨r, 1, none⟩ = some (.int .i64 (intC W.drew (r) 1)) ∧ W.drew.frozen? ⟨r, 0, none⟩ = false ∧ W.drew.frozen? ⟨r, 1, none⟩ = false ∧ Kq w W.drew L (r)) := h.last.2.2.2.2.drew.all
theorem keepQs {w W W1 : World} (L : List (Nat × Nat × Value)) (r : Nat) {x y : Int} (e : W1 = (W.setCell ⟨r, 0, none⟩ (.int .i64 x)).setCell ⟨r, 1, none⟩ (.int .i64 y)) (h : CellsAnd W L (W.cell? ⟨r, 0, none⟩ = some (.int .i64 (intC W (r) 0)) ∧ W.cell? ⟨r, 1, none⟩ = some (.int .i64 (intC W (r) 1)) ∧ W.frozen? ⟨r, 0, none⟩ = false ∧ W.frozen? ⟨r, 1, none⟩ = false ∧ Kq w W L (r))) : CellsAnd W1 L (W1.cell? ⟨r, 0, none⟩ = some (.int .i64 (intC W1 (r) 0)) ∧ W1.cell? ⟨r, 1, none⟩ = some (.int .i64 (intC W1 (r) 1)) ∧ W1.frozen? ⟨r, 0, none⟩ = false ∧ W1.frozen? ⟨r, 1, none⟩ = false ∧ Kq w W1 L (r)) := by
  subst e; exact (h.last.2.2.2.2.store x y).all


set_option maxRecDepth 20000 in
set_option maxHeartbeats 2000000 in
theorem sizesOf_any (p q : Int) (w : World) (h1 : (-9223372036854775807 ≤ p ∧ p ≤ 9223372036854775807)) (h2 : (-9223372036854775807 ≤ q ∧ q ≤ 9223372036854775807)) :
    Calls Tryd.prog 47 #[(Value.agg #[Value.int .i64 (p), Value.int .i64 (q)])] w fun e w' => e = .returned (Value.agg #[Value.int .i64 (szL p q), Value.int .i64 (szH p q)]) ∧ Below w.heap.size w w' := by
  have hO := hide (fun W => opposite_any p q W h1 h2)
  have hA := hide (fun W => efrom_any p q 1 W)
  have hB := hide (fun W => efrom_any (-q) (-p) 1 W)
  have hJ := hide (fun W => ejoin_any (meL p q 1 9223372036854775807) (meH p q 1 9223372036854775807) (meL (-q) (-p) 1 9223372036854775807) (meH (-q) (-p) 1 9223372036854775807) W)
  have s0 := ((St.start0 w).box2 55 (.int .i64 p) (.int .i64 q)).box2 55 (.int .i64 0) (.int .i64 0)
  simp only [allocSize] at s0
  have hK0 := Kq.of s0 ⟨(by dsimp only; omega), (by dsimp only; omega), trivial⟩ (by omega)
  clear s0
  go_enter Tryd.func47, Tryd.ntmps47
  go_wp2_with fail
  go_region_held3 (fun w' => w'.cell? ⟨w.heap.size, 0, none⟩ = some (.int .i64 (p)) ∧ w'.cell? ⟨w.heap.size, 1, none⟩ = some (.int .i64 (q)) ∧ (w'.cell? ⟨w.heap.size + 1, 0, none⟩ = some (.int .i64 (intC w' (w.heap.size + 1) 0)) ∧ w'.cell? ⟨w.heap.size + 1, 1, none⟩ = some (.int .i64 (intC w' (w.heap.size + 1) 1)) ∧ w'.frozen? ⟨w.heap.size + 1, 0, none⟩ = false ∧ w'.frozen? ⟨w.heap.size + 1, 1, none⟩ = false ∧ Kq w w' ((w.heap.size, 0, Value.int .i64 (p)) :: (w.heap.size, 1, Value.int .i64 (q)) :: []) (w.heap.size + 1))) (first | (exact keepQd ((w.heap.size, 0, Value.int .i64 (p)) :: (w.heap.size, 1, Value.int .i64 (q)) :: []) (w.heap.size + 1) (by assumption)) | (exact keepQ ((w.heap.size, 0, Value.int .i64 (p)) :: (w.heap.size, 1, Value.int .i64 (q)) :: []) (w.heap.size + 1) (by assumption) (by assumption)) | (exact keepQs ((w.heap.size, 0, Value.int .i64 (p)) :: (w.heap.size, 1, Value.int .i64 (q)) :: []) (w.heap.size + 1) rfl (by assumption)) | (exact (Kq.drew hK0).all))
    (first
      | (go_at_call 41; refine (hO.out _).mono ?_; rintro e w2 ⟨rfl, hb2⟩)
      | (go_at_call_of 54 (Value.agg #[Value.int IntKind.i64 p, Value.int IntKind.i64 q]); refine (hA.out _).mono ?_; rintro e w4 ⟨rfl, hb4⟩)
      | (go_at_call_of 54 (Value.agg #[Value.int IntKind.i64 (-q), Value.int IntKind.i64 (-p)]); refine (hB.out _).mono ?_; rintro e w5 ⟨rfl, hb5⟩)
      | (go_at_call 37; refine (hJ.out _).mono ?_; rintro e w6 ⟨rfl, hb6⟩))
  have hK := (((hK0.drew.call hb4).call hb2).call hb5).call hb6
  (obtain ⟨n0, r0⟩ := hK.r0; obtain ⟨n1, r1⟩ := hK.r1; go_wp2_with fail; refine bodyPost_ret (v := (Value.agg #[Value.int .i64 (szL p q), Value.int .i64 (szH p q)])) ?_ rfl ⟨rfl, ?_⟩; (simp [results, Tryd.results47, go_sem, r0, r1]; try exact ⟨rfl, rfl⟩); (repeat' (first | exact s4.bel | exact s3.bel | exact s2.bel | exact s1.bel | exact hK.st.bel | refine Below.setCell ?_ (by dsimp only; omega) _ | refine Below.alloc ?_ (by first | (simp; done) | (simp; omega)) _ | refine Below.drew ?_ | exact Below.refl _ _)))

theorem Apart.append {b : Nat} {L1 L2 : List (Nat × Nat × Value)} (h : Apart b L1) (k : Apart b L2) : Apart b (L1 ++ L2) := by
  induction L1 with
  | nil => exact k
  | cons x L ih => exact ⟨h.1, ih h.2⟩
theorem ApartC.append {b o : Nat} {L1 L2 : List (Nat × Nat × Value)} (h : ApartC b o L1) (k : ApartC b o L2) : ApartC b o (L1 ++ L2) := by
  induction L1 with
  | nil => exact k
  | cons x L ih => exact ⟨h.1, ih h.2⟩

/-- A box of two cells, set anew. -/
theorem St.set2 {w W : World} {Z : World → Prop} {b : Nat} {u0 u1 : Value} (L1 L2 : List (Nat × Nat × Value)) (h : St w W Z (L1 ++ (b, 0, u0) :: (b, 1, u1) :: L2)) (hb : w.heap.size ≤ b) (n1 : Apart b L1) (n2 : Apart b L2) (v0 v1 : Value) :
    St w ((W.setCell ⟨b, 0, none⟩ v0).setCell ⟨b, 1, none⟩ v1) Z (L1 ++ (b, 0, v0) :: (b, 1, v1) :: L2) := by
  have h1 := St.set1 L1 _ h hb n1.c ⟨.inr (by simp), n2.c⟩ v0
  have h2 : St w (W.setCell ⟨b, 0, none⟩ v0) Z ((L1 ++ [(b, 0, v0)]) ++ (b, 1, u1) :: L2) := by rw [List.append_assoc]; exact h1
  have h3 := St.set1 (L1 ++ [(b, 0, v0)]) L2 h2 hb (ApartC.append n1.c ⟨.inr (by simp), trivial⟩) n2.c v1
  rw [List.append_assoc] at h3
  exact h3

/-- The least of four, from far on. -/
theorem mins4 {n0 n1 n2 n3 : Int} (h0 : n0 ≤ 9223372036854775807) : mins n0 n1 n2 n3 4 = min4 n0 n1 n2 n3 := by
  show min (min (min (min 9223372036854775807 n0) n1) n2) n3 = min (min (min n0 n1) n2) n3; omega
theorem maxs4 {n0 n1 n2 n3 : Int} (h0 : -9223372036854775807 ≤ n0) : maxs n0 n1 n2 n3 4 = max4 n0 n1 n2 n3 := by
  show max (max (max (max (-9223372036854775807) n0) n1) n2) n3 = max (max (max n0 n1) n2) n3; omega

theorem product_enters : Enters 43 := enters_of Tryd.func43 (by rfl) (by rfl)

set_option maxRecDepth 20000 in
set_option maxHeartbeats 2000000 in
theorem products_any (p q p' q' : Int) (w : World) (h1 : (-9223372036854775807 ≤ p ∧ p ≤ 9223372036854775807)) (h2 : (-9223372036854775807 ≤ q ∧ q ≤ 9223372036854775807)) (h3 : (-9223372036854775807 ≤ p' ∧ p' ≤ 9223372036854775807)) (h4 : (-9223372036854775807 ≤ q' ∧ q' ≤ 9223372036854775807)) :
    Calls Tryd.prog 29 #[(Value.agg #[Value.int .i64 (p), Value.int .i64 (q)]), (Value.agg #[Value.int .i64 (p'), Value.int .i64 (q')])] w fun e w' => e = .returned (Value.agg #[Value.int .i64 (min4 (clipE (p * p')) (clipE (p * q')) (clipE (q * p')) (clipE (q * q'))), Value.int .i64 (max4 (clipE (p * p')) (clipE (p * q')) (clipE (q * p')) (clipE (q * q')))]) ∧ Below w.heap.size w w' := by
  have hC := fun W => corners_any 43 p q p' q' (clipE (p * p')) (clipE (p * q')) (clipE (q * p')) (clipE (q * q')) W product_enters (fun W => product_any _ _ W h1 h3) (fun W => product_any _ _ W h1 h4) (fun W => product_any _ _ W h2 h3) (fun W => product_any _ _ W h2 h4)
  rw [mins4 (clip_r _).2, maxs4 (clip_r _).1] at hC
  have HC := hide hC
  clear hC
  obtain ⟨z0, hz0⟩ : ∃ z, z = min4 (clipE (p * p')) (clipE (p * q')) (clipE (q * p')) (clipE (q * q')) := ⟨_, rfl⟩
  obtain ⟨z1, hz1⟩ : ∃ z, z = max4 (clipE (p * p')) (clipE (p * q')) (clipE (q * p')) (clipE (q * q')) := ⟨_, rfl⟩
  rw [← hz0, ← hz1] at HC ⊢
  clear hz0 hz1
  go_enter Tryd.func29, Tryd.ntmps29
  go_wp2_with fail
  refine (HC.out _).mono ?_
  rintro e w1 ⟨rfl, hb1⟩
  have s1 := ((((St.start0 w).box2 55 (.int .i64 p) (.int .i64 q)).box2 55 (.int .i64 p') (.int .i64 q')).box2 55 (.int .i64 0) (.int .i64 0)).call hb1
  simp only [allocSize] at s1
  have q1 := s1.hold
  simp only [Holds, and_true] at q1
  clear hb1
  go_wp2_with fail
  refine bodyPost_ret (v := (Value.agg #[Value.int .i64 (z0), Value.int .i64 (z1)])) ?_ rfl ⟨rfl, ?_⟩
  · simp [results, Tryd.results29, go_sem, q1]
  · (repeat' (first | exact s4.bel | exact s3.bel | exact s2.bel | exact s1.bel | exact hK.st.bel | refine Below.setCell ?_ (by dsimp only; omega) _ | refine Below.alloc ?_ (by first | (simp; done) | (simp; omega)) _ | refine Below.drew ?_ | exact Below.refl _ _))

theorem quotient_enters : Enters 55 := enters_of Tryd.func55 (by rfl) (by rfl)

theorem quo_lr {x y : Int} (h : (-9223372036854775807 ≤ x ∧ x ≤ 9223372036854775807)) (hy : 0 < y) : (-9223372036854775807 ≤ (quoE x y) ∧ (quoE x y) ≤ 9223372036854775807) := by
  unfold quoE; split
  · omega
  · exact tdiv_range (by omega) h.1 h.2 hy

theorem me_r (p q n : Int) (h1 : (-9223372036854775807 ≤ p ∧ p ≤ 9223372036854775807)) (h2 : (-9223372036854775807 ≤ q ∧ q ≤ 9223372036854775807)) (h3 : 0 ≤ n ∧ n ≤ 1) : (-9223372036854775807 ≤ (meL p q n 9223372036854775807) ∧ (meL p q n 9223372036854775807) ≤ 9223372036854775807) ∧ (-9223372036854775807 ≤ (meH p q n 9223372036854775807) ∧ (meH p q n 9223372036854775807) ≤ 9223372036854775807) ∧ (meL p q n 9223372036854775807 ≤ meH p q n 9223372036854775807 → n ≤ meL p q n 9223372036854775807) := by
  unfold meL meH; split <;> omega

set_option maxRecDepth 20000 in
set_option maxHeartbeats 2000000 in
theorem quotientsAbove_any (p q p' q' : Int) (w : World) (h1 : (-9223372036854775807 ≤ p ∧ p ≤ 9223372036854775807)) (h2 : (-9223372036854775807 ≤ q ∧ q ≤ 9223372036854775807)) (h3 : (-9223372036854775807 ≤ p' ∧ p' ≤ 9223372036854775807)) (h4 : (-9223372036854775807 ≤ q' ∧ q' ≤ 9223372036854775807)) :
    Calls Tryd.prog 46 #[(Value.agg #[Value.int .i64 (p), Value.int .i64 (q)]), (Value.agg #[Value.int .i64 (p'), Value.int .i64 (q')])] w fun e w' => e = .returned (Value.agg #[Value.int .i64 (qaL p q p' q'), Value.int .i64 (qaH p q p' q')]) ∧ Below w.heap.size w w' := by
  obtain ⟨m1, m2, m3⟩ := me_r p' q' 1 h3 h4 (by omega)
  have HF := hide (fun W => efrom_any p' q' 1 W)
  unfold qaL qaH
  generalize meL p' q' 1 9223372036854775807 = b0 at *
  generalize meH p' q' 1 9223372036854775807 = b1 at *
  by_cases hn : b1 < b0
  · rw [if_pos hn, if_pos hn]
    clear m1 m2 m3
    go_enter Tryd.func46, Tryd.ntmps46
    go_wp2_with fail
    refine (HF.out _).mono ?_
    rintro e w1 ⟨rfl, hb1⟩
    have s1 := ((((St.start0 w).box2 55 (.int .i64 p) (.int .i64 q)).box2 55 (.int .i64 p') (.int .i64 q')).box2 55 (.int .i64 0) (.int .i64 0)).call hb1
    simp only [allocSize] at s1
    have q1 := s1.hold
    simp only [Holds, and_true] at q1
    have s2 := St.set2 ((w.heap.size + 1 + 1, 0, Value.int .i64 (0)) :: (w.heap.size + 1 + 1, 1, Value.int .i64 (0)) :: []) _ s1 (by omega) ⟨(by dsimp only; omega), (by dsimp only; omega), trivial⟩ ⟨(by dsimp only; omega), (by dsimp only; omega), trivial⟩ (.int .i64 b0) (.int .i64 b1)
    clear hb1 s1
    go_wp2_with fail
    refine (isNone_any _ _ _).mono ?_
    rintro e w2 ⟨rfl, hb2⟩
    have s3 := s2.call hb2
    clear hb2 s2 q1
    have q3 := s3.hold
    simp only [List.cons_append, List.nil_append, Holds, and_true] at q3
    rw [decide_eq_true hn]
    go_wp2_with fail
    refine (nothing_any _).mono ?_
    rintro e w3 ⟨rfl, hb3⟩
    have s4 := s3.call hb3
    clear hb3 q3
    have q4 := s4.hold
    simp only [List.cons_append, List.nil_append, Holds, and_true] at q4
    go_wp2_with fail
    refine bodyPost_ret (v := (Value.agg #[Value.int .i64 (9223372036854775807), Value.int .i64 (-9223372036854775807)])) ?_ rfl ⟨rfl, ?_⟩
    · simp [results, Tryd.results46, go_sem, q4]
    · (repeat' (first | exact s4.bel | exact s3.bel | exact s2.bel | exact s1.bel | exact hK.st.bel | refine Below.setCell ?_ (by dsimp only; omega) _ | refine Below.alloc ?_ (by first | (simp; done) | (simp; omega)) _ | refine Below.drew ?_ | exact Below.refl _ _))
  · rw [if_neg hn, if_neg hn]
    have hC := fun W => corners_any 55 p q b0 b1 (quoE p b0) (quoE p b1) (quoE q b0) (quoE q b1) W quotient_enters (fun W => quotient_any _ _ W h1 (by omega)) (fun W => quotient_any _ _ W h1 (by omega)) (fun W => quotient_any _ _ W h2 (by omega)) (fun W => quotient_any _ _ W h2 (by omega))
    rw [mins4 (quo_lr h1 (by omega)).2, maxs4 (quo_lr h1 (by omega)).1] at hC
    have HC := hide hC
    clear hC m1 m2 m3
    generalize min4 (quoE p b0) (quoE p b1) (quoE q b0) (quoE q b1) = z0 at *
    generalize max4 (quoE p b0) (quoE p b1) (quoE q b0) (quoE q b1) = z1 at *
    go_enter Tryd.func46, Tryd.ntmps46
    go_wp2_with fail
    refine (HF.out _).mono ?_
    rintro e w1 ⟨rfl, hb1⟩
    have s1 := ((((St.start0 w).box2 55 (.int .i64 p) (.int .i64 q)).box2 55 (.int .i64 p') (.int .i64 q')).box2 55 (.int .i64 0) (.int .i64 0)).call hb1
    simp only [allocSize] at s1
    have q1 := s1.hold
    simp only [Holds, and_true] at q1
    have s2 := St.set2 ((w.heap.size + 1 + 1, 0, Value.int .i64 (0)) :: (w.heap.size + 1 + 1, 1, Value.int .i64 (0)) :: []) _ s1 (by omega) ⟨(by dsimp only; omega), (by dsimp only; omega), trivial⟩ ⟨(by dsimp only; omega), (by dsimp only; omega), trivial⟩ (.int .i64 b0) (.int .i64 b1)
    clear hb1 s1
    go_wp2_with fail
    refine (isNone_any _ _ _).mono ?_
    rintro e w2 ⟨rfl, hb2⟩
    have s3 := s2.call hb2
    clear hb2 s2 q1
    have q3 := s3.hold
    simp only [List.cons_append, List.nil_append, Holds, and_true] at q3
    rw [decide_eq_false (show ¬ b1 < b0 by omega)]
    go_wp2_with fail
    refine (HC.out _).mono ?_
    rintro e w3 ⟨rfl, hb3⟩
    have s4 := s3.call hb3
    clear hb3 q3
    have q4 := s4.hold
    simp only [List.cons_append, List.nil_append, Holds, and_true] at q4
    go_wp2_with fail
    refine bodyPost_ret (v := (Value.agg #[Value.int .i64 (z0), Value.int .i64 (z1)])) ?_ rfl ⟨rfl, ?_⟩
    · simp [results, Tryd.results46, go_sem, q4]
    · (repeat' (first | exact s4.bel | exact s3.bel | exact s2.bel | exact s1.bel | exact hK.st.bel | refine Below.setCell ?_ (by dsimp only; omega) _ | refine Below.alloc ?_ (by first | (simp; done) | (simp; omega)) _ | refine Below.drew ?_ | exact Below.refl _ _))

end Go.Proofs.YtegibkjopkakhaaDoor
