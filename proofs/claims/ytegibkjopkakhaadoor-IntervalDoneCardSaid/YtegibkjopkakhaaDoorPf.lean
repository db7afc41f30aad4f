/- Two boxes of ends that are read, and one into which is stored, in a region that draws its order. -/
import Derived.Test.YtegibkjopkakhaaDoorPb
import Derived.Deep.RegionWith
namespace Go.Proofs.YtegibkjopkakhaaDoor
open Go.RowKit

/-- The number in a cell. -/
def intC (w : World) (b o : Nat) : Int := match w.cell? ⟨b, o, none⟩ with
  | some (.int _ n) => n
  | _ => 0
theorem intC_of {w : World} {b o : Nat} {n : Int} (h : w.cell? ⟨b, o, none⟩ = some (.int .i64 n)) : w.cell? ⟨b, o, none⟩ = some (.int .i64 (intC w b o)) := by
  unfold intC; rw [h]

/-- What such a region keeps. -/
structure Kp (w W : World) (p q p' q' : Int) : Prop where
  st : St w W (fun _ => True) [(w.heap.size + 1, 0, .int .i64 p'), (w.heap.size + 1, 1, .int .i64 q'), (w.heap.size, 0, .int .i64 p), (w.heap.size, 1, .int .i64 q)]
  r0 : ∃ n, W.cell? ⟨w.heap.size + 1 + 1, 0, none⟩ = some (.int .i64 n)
  r1 : ∃ n, W.cell? ⟨w.heap.size + 1 + 1, 1, none⟩ = some (.int .i64 n)
  f0 : W.frozen? ⟨w.heap.size + 1 + 1, 0, none⟩ = false
  f1 : W.frozen? ⟨w.heap.size + 1 + 1, 1, none⟩ = false
  lt : w.heap.size + 1 + 1 < W.heap.size

theorem Kp.bel {w W : World} {p q p' q' : Int} (h : Kp w W p q p' q') : Below w.heap.size w W := h.st.bel

theorem Kp.all {w W : World} {p q p' q' : Int} (h : Kp w W p q p' q') : (W.cell? ⟨w.heap.size, 0, none⟩ = some (.int .i64 p) ∧ W.cell? ⟨w.heap.size, 1, none⟩ = some (.int .i64 q) ∧ W.cell? ⟨w.heap.size + 1, 0, none⟩ = some (.int .i64 p') ∧ W.cell? ⟨w.heap.size + 1, 1, none⟩ = some (.int .i64 q') ∧ W.cell? ⟨w.heap.size + 1 + 1, 0, none⟩ = some (.int .i64 (intC W (w.heap.size + 1 + 1) 0)) ∧ W.cell? ⟨w.heap.size + 1 + 1, 1, none⟩ = some (.int .i64 (intC W (w.heap.size + 1 + 1) 1)) ∧ W.frozen? ⟨w.heap.size + 1 + 1, 0, none⟩ = false ∧ W.frozen? ⟨w.heap.size + 1 + 1, 1, none⟩ = false ∧ Kp w W p q p' q') := by
  have q := h.st.hold
  simp only [Holds, and_true] at q
  obtain ⟨⟨a0, _⟩, ⟨a1, _⟩, ⟨a2, _⟩, a3, _⟩ := q
  obtain ⟨n0, r0⟩ := h.r0
  obtain ⟨n1, r1⟩ := h.r1
  exact ⟨a2, a3, a0, a1, intC_of r0, intC_of r1, h.f0, h.f1, h⟩

theorem Kp.start (w : World) (p q p' q' x y : Int) (t1 t2 t3 : TypeId) : Kp w (((w.alloc (.cells #[.int .i64 p, .int .i64 q] t1)).alloc (.cells #[.int .i64 p', .int .i64 q'] t2)).alloc (.cells #[.int .i64 x, .int .i64 y] t3)) p q p' q' := by
  have s := (((St.start0 w).box2 t1 (.int .i64 p) (.int .i64 q)).box2 t2 (.int .i64 p') (.int .i64 q')).box2 t3 (.int .i64 x) (.int .i64 y)
  simp only [allocSize] at s
  have h := s.hold
  simp only [Holds, and_true] at h
  exact ⟨s.drop 2, ⟨x, h.1.1⟩, ⟨y, h.2.1.1⟩, h.1.2.2, h.2.1.2.2, h.1.2.1⟩

theorem Kp.call {w W W' : World} {p q p' q' : Int} (h : Kp w W p q p' q') (hb : Below W.heap.size W W') : Kp w W' p q p' q' := by
  have lt := h.lt
  obtain ⟨n0, r0⟩ := h.r0
  obtain ⟨n1, r1⟩ := h.r1
  exact ⟨h.st.call hb, ⟨n0, (hb.cell (p := ⟨_, _, none⟩) lt).trans r0⟩, ⟨n1, (hb.cell (p := ⟨_, _, none⟩) lt).trans r1⟩, (hb.frozen (p := ⟨_, _, none⟩) lt).trans h.f0, (hb.frozen (p := ⟨_, _, none⟩) lt).trans h.f1, Nat.lt_of_lt_of_le lt hb.size⟩

theorem Kp.drew {w W : World} {p q p' q' : Int} (h : Kp w W p q p' q') : Kp w W.drew p q p' q' := h.call (Below.refl _ _).drew

theorem Kp.store {w W : World} {p q p' q' : Int} (h : Kp w W p q p' q') (x y : Int) : Kp w ((W.setCell ⟨w.heap.size + 1 + 1, 0, none⟩ (.int .i64 x)).setCell ⟨w.heap.size + 1 + 1, 1, none⟩ (.int .i64 y)) p q p' q' := by
  obtain ⟨n0, r0⟩ := h.r0
  obtain ⟨n1, r1⟩ := h.r1
  have s0 : St w W (fun _ => True) ((w.heap.size + 1 + 1, 0, .int .i64 n0) :: (w.heap.size + 1 + 1, 1, .int .i64 n1) :: [(w.heap.size + 1, 0, .int .i64 p'), (w.heap.size + 1, 1, .int .i64 q'), (w.heap.size, 0, .int .i64 p), (w.heap.size, 1, .int .i64 q)]) := h.st.add (L' := [(w.heap.size + 1 + 1, 0, .int .i64 n0), (w.heap.size + 1 + 1, 1, .int .i64 n1)]) ⟨⟨r0, h.lt, h.f0⟩, ⟨r1, h.lt, h.f1⟩, trivial⟩
  have ap : Apart (w.heap.size + 1 + 1) [(w.heap.size + 1, 0, Value.int .i64 p'), (w.heap.size + 1, 1, .int .i64 q'), (w.heap.size, 0, .int .i64 p), (w.heap.size, 1, .int .i64 q)] := ⟨by dsimp only; omega, by dsimp only; omega, by dsimp only; omega, by dsimp only; omega, trivial⟩
  have s1 := (s0.put20 (by omega) ap (.int .i64 x)).put21 (by omega) ap (.int .i64 y)
  have k := s1.hold
  simp only [Holds, and_true] at k
  exact ⟨s1.drop 2, ⟨x, k.1.1⟩, ⟨y, k.2.1.1⟩, k.1.2.2, k.2.1.2.2, k.1.2.1⟩

theorem keepK {w W W' : World} {p q p' q' : Int} (hb : Below W.heap.size W W') (h : (W.cell? ⟨w.heap.size, 0, none⟩ = some (.int .i64 p) ∧ W.cell? ⟨w.heap.size, 1, none⟩ = some (.int .i64 q) ∧ W.cell? ⟨w.heap.size + 1, 0, none⟩ = some (.int .i64 p') ∧ W.cell? ⟨w.heap.size + 1, 1, none⟩ = some (.int .i64 q') ∧ W.cell? ⟨w.heap.size + 1 + 1, 0, none⟩ = some (.int .i64 (intC W (w.heap.size + 1 + 1) 0)) ∧ W.cell? ⟨w.heap.size + 1 + 1, 1, none⟩ = some (.int .i64 (intC W (w.heap.size + 1 + 1) 1)) ∧ W.frozen? ⟨w.heap.size + 1 + 1, 0, none⟩ = false ∧ W.frozen? ⟨w.heap.size + 1 + 1, 1, none⟩ = false ∧ Kp w W p q p' q')) : (W'.cell? ⟨w.heap.size, 0, none⟩ = some (.int .i64 p) ∧ W'.cell? ⟨w.heap.size, 1, none⟩ = some (.int .i64 q) ∧ W'.cell? ⟨w.heap.size + 1, 0, none⟩ = some (.int .i64 p') ∧ W'.cell? ⟨w.heap.size + 1, 1, none⟩ = some (.int .i64 q') ∧ W'.cell? ⟨w.heap.size + 1 + 1, 0, none⟩ = some (.int .i64 (intC W' (w.heap.size + 1 + 1) 0)) ∧ W'.cell? ⟨w.heap.size + 1 + 1, 1, none⟩ = some (.int .i64 (intC W' (w.heap.size + 1 + 1) 1)) ∧ W'.frozen? ⟨w.heap.size + 1 + 1, 0, none⟩ = false ∧ W'.frozen? ⟨w.heap.size + 1 + 1, 1, none⟩ = false ∧ Kp w W' p q p' q') := (h.2.2.2.2.2.2.2.2.call hb).all
theorem keepKd {w W : World} {p q p' q' : Int} (h : (W.cell? ⟨w.heap.size, 0, none⟩ = some (.int .i64 p) ∧ W.cell? ⟨w.heap.size, 1, none⟩ = some (.int .i64 q) ∧ W.cell? ⟨w.heap.size + 1, 0, none⟩ = some (.int .i64 p') ∧ W.cell? ⟨w.heap.size + 1, 1, none⟩ = some (.int .i64 q') ∧ W.cell? ⟨w.heap.size + 1 + 1, 0, none⟩ = some (.int .i64 (intC W (w.heap.size + 1 + 1) 0)) ∧ W.cell? ⟨w.heap.size + 1 + 1, 1, none⟩ = some (.int .i64 (intC W (w.heap.size + 1 + 1) 1)) ∧ W.frozen? ⟨w.heap.size + 1 + 1, 0, none⟩ = false ∧ W.frozen? ⟨w.heap.size + 1 + 1, 1, none⟩ = false ∧ Kp w W p q p' q')) : (W.drew.cell? ⟨w.heap.size, 0, none⟩ = some (.int .i64 p) ∧ W.drew.cell? ⟨w.heap.size, 1, none⟩ = some (.int .i64 q) ∧ W.drew.cell? ⟨w.heap.size + 1, 0, none⟩ = some (.int .i64 p') ∧ W.drew.cell? ⟨w.heap.size + 1, 1, none⟩ = some (.int .i64 q') ∧ W.drew.cell? ⟨w.heap.size + 1 + 1, 0, none⟩ = some (.int .i64 (intC W.drew (w.heap.size + 1 + 1) 0)) ∧ W.drew.cell? ⟨w.heap.size + 1 + 1, 1, none⟩ = some (.int .i64 (intC W.drew (w.heap.size + 1 + 1) 1)) ∧ W.drew.frozen? ⟨w.heap.size + 1 + 1, 0, none⟩ = false ∧ W.drew.frozen? ⟨w.heap.size + 1 + 1, 1, none⟩ = false ∧ Kp w W.drew p q p' q') := h.2.2.2.2.2.2.2.2.drew.all
theorem keepKs {w W W1 : World} {p q p' q' x y : Int} (e : W1 = (W.setCell ⟨w.heap.size + 1 + 1, 0, none⟩ (.int .i64 x)).setCell ⟨w.heap.size + 1 + 1, 1, none⟩ (.int .i64 y)) (h : (W.cell? ⟨w.heap.size, 0, none⟩ = some (.int .i64 p) ∧ W.cell? ⟨w.heap.size, 1, none⟩ = some (.int .i64 q) ∧ W.cell? ⟨w.heap.size + 1, 0, none⟩ = some (.int .i64 p') ∧ W.cell? ⟨w.heap.size + 1, 1, none⟩ = some (.int .i64 q') ∧ W.cell? ⟨w.heap.size + 1 + 1, 0, none⟩ = some (.int .i64 (intC W (w.heap.size + 1 + 1) 0)) ∧ W.cell? ⟨w.heap.size + 1 + 1, 1, none⟩ = some (.int .i64 (intC W (w.heap.size + 1 + 1) 1)) ∧ W.frozen? ⟨w.heap.size + 1 + 1, 0, none⟩ = false ∧ W.frozen? ⟨w.heap.size + 1 + 1, 1, none⟩ = false ∧ Kp w W p q p' q')) : (W1.cell? ⟨w.heap.size, 0, none⟩ = some (.int .i64 p) ∧ W1.cell? ⟨w.heap.size, 1, none⟩ = some (.int .i64 q) ∧ W1.cell? ⟨w.heap.size + 1, 0, none⟩ = some (.int .i64 p') ∧ W1.cell? ⟨w.heap.size + 1, 1, none⟩ = some (.int .i64 q') ∧ W1.cell? ⟨w.heap.size + 1 + 1, 0, none⟩ = some (.int .i64 (intC W1 (w.heap.size + 1 + 1) 0)) ∧ W1.cell? ⟨w.heap.size + 1 + 1, 1, none⟩ = some (.int .i64 (intC W1 (w.heap.size + 1 + 1) 1)) ∧ W1.frozen? ⟨w.heap.size + 1 + 1, 0, none⟩ = false ∧ W1.frozen? ⟨w.heap.size + 1 + 1, 1, none⟩ = false ∧ Kp w W1 p q p' q') := by
  subst e; exact (h.2.2.2.2.2.2.2.2.store x y).all

set_option maxRecDepth 20000 in
set_option maxHeartbeats 2000000 in
theorem sums_any (p q p' q' : Int) (w : World) (h1 : Hid (∀ W, Calls Tryd.prog 40 #[.int .i64 p, .int .i64 p'] W fun e w' => e = .returned (.int .i64 (sumE p p')) ∧ w' = W)) (h2 : Hid (∀ W, Calls Tryd.prog 40 #[.int .i64 q, .int .i64 q'] W fun e w' => e = .returned (.int .i64 (sumE q q')) ∧ w' = W)) :
    Calls Tryd.prog 27 #[(Value.agg #[Value.int .i64 (p), Value.int .i64 (q)]), (Value.agg #[Value.int .i64 (p'), Value.int .i64 (q')])] w fun e w' => e = .returned (Value.agg #[Value.int .i64 (sumE p p'), Value.int .i64 (sumE q q')]) ∧ Below w.heap.size w w' := by
  have hK0 := Kp.start w p q p' q' 0 0 55 55 55
  go_enter Tryd.func27, Tryd.ntmps27
  go_wp2_with fail
  go_region_held3 (fun w' => (w'.cell? ⟨w.heap.size, 0, none⟩ = some (.int .i64 p) ∧ w'.cell? ⟨w.heap.size, 1, none⟩ = some (.int .i64 q) ∧ w'.cell? ⟨w.heap.size + 1, 0, none⟩ = some (.int .i64 p') ∧ w'.cell? ⟨w.heap.size + 1, 1, none⟩ = some (.int .i64 q') ∧ w'.cell? ⟨w.heap.size + 1 + 1, 0, none⟩ = some (.int .i64 (intC w' (w.heap.size + 1 + 1) 0)) ∧ w'.cell? ⟨w.heap.size + 1 + 1, 1, none⟩ = some (.int .i64 (intC w' (w.heap.size + 1 + 1) 1)) ∧ w'.frozen? ⟨w.heap.size + 1 + 1, 0, none⟩ = false ∧ w'.frozen? ⟨w.heap.size + 1 + 1, 1, none⟩ = false ∧ Kp w w' p q p' q')) (first | (exact keepKd (by assumption)) | (exact keepK (by assumption) (by assumption)) | (exact keepKs rfl (by assumption)) | (exact (Kp.drew (by assumption)).all) | (exact (Kp.start _ _ _ _ _ _ _ _ _ _).drew.all))
    (first
      | (go_at_call_of 40 (Value.int IntKind.i64 p); refine (h1.out _).mono ?_; rintro e w2 ⟨rfl, rfl⟩)
      | (go_at_call_of 40 (Value.int IntKind.i64 q); refine (h2.out _).mono ?_; rintro e w2 ⟨rfl, rfl⟩))
  go_wp2_with fail
  refine bodyPost_ret (v := (Value.agg #[Value.int .i64 (sumE p p'), Value.int .i64 (sumE q q')])) ?_ rfl ⟨rfl, ?_⟩
  · simp [results, Tryd.results27, go_sem]
  · (repeat' (first | exact s4.bel | exact s3.bel | exact s2.bel | exact s1.bel | exact hK.bel | exact hK3.bel | refine Below.setCell ?_ (by dsimp only; omega) _ | refine Below.alloc ?_ (by first | (simp; done) | (simp; omega)) _ | refine Below.drew ?_ | exact Below.refl _ _))
set_option maxRecDepth 20000 in
set_option maxHeartbeats 2000000 in
theorem sub1_any (p q p' q' z0 z1 : Int) (w : World) (h3 : (-9223372036854775807 ≤ p' ∧ p' ≤ 9223372036854775807)) (h4 : (-9223372036854775807 ≤ q' ∧ q' ≤ 9223372036854775807)) (h1 : Hid (∀ W, Calls Tryd.prog 27 #[(Value.agg #[Value.int .i64 (p), Value.int .i64 (q)]), (Value.agg #[Value.int .i64 (-q'), Value.int .i64 (-p')])] W fun e w' => e = .returned (Value.agg #[Value.int .i64 (z0), Value.int .i64 (z1)]) ∧ Below W.heap.size W w')) :
    Calls Tryd.prog 28 #[(Value.agg #[Value.int .i64 (p), Value.int .i64 (q)]), (Value.agg #[Value.int .i64 (p'), Value.int .i64 (q')])] w fun e w' => e = .returned (Value.agg #[Value.int .i64 (z0), Value.int .i64 (z1)]) ∧ Below w.heap.size w w' := by
  have hO := hide (fun W => opposite_any p' q' W h3 h4)
  have hK0 := Kp.start w p q p' q' 0 0 55 55 55
  go_enter Tryd.func28, Tryd.ntmps28
  go_wp2_with fail
  go_region_held3 (fun w' => (w'.cell? ⟨w.heap.size, 0, none⟩ = some (.int .i64 p) ∧ w'.cell? ⟨w.heap.size, 1, none⟩ = some (.int .i64 q) ∧ w'.cell? ⟨w.heap.size + 1, 0, none⟩ = some (.int .i64 p') ∧ w'.cell? ⟨w.heap.size + 1, 1, none⟩ = some (.int .i64 q') ∧ w'.cell? ⟨w.heap.size + 1 + 1, 0, none⟩ = some (.int .i64 (intC w' (w.heap.size + 1 + 1) 0)) ∧ w'.cell? ⟨w.heap.size + 1 + 1, 1, none⟩ = some (.int .i64 (intC w' (w.heap.size + 1 + 1) 1)) ∧ w'.frozen? ⟨w.heap.size + 1 + 1, 0, none⟩ = false ∧ w'.frozen? ⟨w.heap.size + 1 + 1, 1, none⟩ = false ∧ Kp w w' p q p' q')) (first | (exact keepKd (by assumption)) | (exact keepK (by assumption) (by assumption)) | (exact keepKs rfl (by assumption)) | (exact (Kp.drew (by assumption)).all) | (exact (Kp.start _ _ _ _ _ _ _ _ _ _).drew.all))
    (first
      | (go_at_call 41; refine (hO.out _).mono ?_; rintro e w2 ⟨rfl, hb2⟩)
      | (go_at_call 27; refine (h1.out _).mono ?_; rintro e w3 ⟨rfl, hb3⟩))
  have hK := (hK0.drew.call hb2).call hb3
  (obtain ⟨n0, r0⟩ := hK.r0; obtain ⟨n1, r1⟩ := hK.r1; go_wp2_with fail; refine bodyPost_ret (v := (Value.agg #[Value.int .i64 (z0), Value.int .i64 (z1)])) ?_ rfl ⟨rfl, ?_⟩; (simp [results, Tryd.results28, go_sem, r0, r1]); (repeat' (first | exact s4.bel | exact s3.bel | exact s2.bel | exact s1.bel | exact hK.bel | exact hK3.bel | refine Below.setCell ?_ (by dsimp only; omega) _ | refine Below.alloc ?_ (by first | (simp; done) | (simp; omega)) _ | refine Below.drew ?_ | exact Below.refl _ _)))

set_option maxRecDepth 20000 in
set_option maxHeartbeats 2000000 in
theorem quotients_any (p q p' q' z0 z1 y0 y1 : Int) (w : World) (h1 : (-9223372036854775807 ≤ p ∧ p ≤ 9223372036854775807)) (h2 : (-9223372036854775807 ≤ q ∧ q ≤ 9223372036854775807)) (h3 : (-9223372036854775807 ≤ p' ∧ p' ≤ 9223372036854775807)) (h4 : (-9223372036854775807 ≤ q' ∧ q' ≤ 9223372036854775807)) (hA : Hid (∀ W, Calls Tryd.prog 46 #[(Value.agg #[Value.int .i64 (p), Value.int .i64 (q)]), (Value.agg #[Value.int .i64 (p'), Value.int .i64 (q')])] W fun e w' => e = .returned (Value.agg #[Value.int .i64 (z0), Value.int .i64 (z1)]) ∧ Below W.heap.size W w')) (hB : Hid (∀ W, Calls Tryd.prog 46 #[(Value.agg #[Value.int .i64 (-q), Value.int .i64 (-p)]), (Value.agg #[Value.int .i64 (-q'), Value.int .i64 (-p')])] W fun e w' => e = .returned (Value.agg #[Value.int .i64 (y0), Value.int .i64 (y1)]) ∧ Below W.heap.size W w')) :
    Calls Tryd.prog 31 #[(Value.agg #[Value.int .i64 (p), Value.int .i64 (q)]), (Value.agg #[Value.int .i64 (p'), Value.int .i64 (q')])] w fun e w' => e = .returned (Value.agg #[Value.int .i64 (min z0 y0), Value.int .i64 (max z1 y1)]) ∧ Below w.heap.size w w' := by
  have hO := hide (fun W => opposite_any p q W h1 h2)
  have hO' := hide (fun W => opposite_any p' q' W h3 h4)
  have hJ := hide (fun W => ejoin_any z0 z1 y0 y1 W)
  have hK0 := Kp.start w p q p' q' 0 0 55 55 55
  go_enter Tryd.func31, Tryd.ntmps31
  go_wp2_with fail
  go_region_held3 (fun w' => (w'.cell? ⟨w.heap.size, 0, none⟩ = some (.int .i64 p) ∧ w'.cell? ⟨w.heap.size, 1, none⟩ = some (.int .i64 q) ∧ w'.cell? ⟨w.heap.size + 1, 0, none⟩ = some (.int .i64 p') ∧ w'.cell? ⟨w.heap.size + 1, 1, none⟩ = some (.int .i64 q') ∧ w'.cell? ⟨w.heap.size + 1 + 1, 0, none⟩ = some (.int .i64 (intC w' (w.heap.size + 1 + 1) 0)) ∧ w'.cell? ⟨w.heap.size + 1 + 1, 1, none⟩ = some (.int .i64 (intC w' (w.heap.size + 1 + 1) 1)) ∧ w'.frozen? ⟨w.heap.size + 1 + 1, 0, none⟩ = false ∧ w'.frozen? ⟨w.heap.size + 1 + 1, 1, none⟩ = false ∧ Kp w w' p q p' q')) (first | (exact keepKd (by assumption)) | (exact keepK (by assumption) (by assumption)) | (exact keepKs rfl (by assumption)) | (exact (Kp.drew (by assumption)).all) | (exact (Kp.start _ _ _ _ _ _ _ _ _ _).drew.all))
    (first
      | (go_at_call_of 41 (Value.agg #[Value.int IntKind.i64 p, Value.int IntKind.i64 q]); refine (hO.out _).mono ?_; rintro e w2 ⟨rfl, hb2⟩)
      | (go_at_call_of 41 (Value.agg #[Value.int IntKind.i64 p', Value.int IntKind.i64 q']); refine (hO'.out _).mono ?_; rintro e w3 ⟨rfl, hb3⟩)
      | (go_at_call_of 46 (Value.agg #[Value.int IntKind.i64 p, Value.int IntKind.i64 q]); refine (hA.out _).mono ?_; rintro e w4 ⟨rfl, hb4⟩)
      | (go_at_call_of 46 (Value.agg #[Value.int IntKind.i64 (-q), Value.int IntKind.i64 (-p)]); refine (hB.out _).mono ?_; rintro e w5 ⟨rfl, hb5⟩)
      | (go_at_call 37; refine (hJ.out _).mono ?_; rintro e w6 ⟨rfl, hb6⟩))
  have hK := ((((hK0.drew.call hb4).call hb2).call hb3).call hb5).call hb6
  (obtain ⟨n0, r0⟩ := hK.r0; obtain ⟨n1, r1⟩ := hK.r1; go_wp2_with fail; refine bodyPost_ret (v := (Value.agg #[Value.int .i64 (min z0 y0), Value.int .i64 (max z1 y1)])) ?_ rfl ⟨rfl, ?_⟩; (simp [results, Tryd.results31, go_sem, r0, r1]); (repeat' (first | exact s4.bel | exact s3.bel | exact s2.bel | exact s1.bel | exact hK.bel | exact hK3.bel | refine Below.setCell ?_ (by dsimp only; omega) _ | refine Below.alloc ?_ (by first | (simp; done) | (simp; omega)) _ | refine Below.drew ?_ | exact Below.refl _ _)))

end Go.Proofs.YtegibkjopkakhaaDoor
