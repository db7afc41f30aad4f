/- The program's Refine: what is left of both ends. -/
import Derived.Test.YtijbjahedfmfgabDoorPn
namespace Go.Proofs.YtijbjahedfmfgabDoor
open Go.RowKit
set_option linter.unusedVariables false


set_option maxRecDepth 20000 in
set_option maxHeartbeats 2000000 in
theorem refined_1 (p q p' q' x0 x1 y0 y1 : Int) (w : World) (hB : Hid (∀ W : World, Calls Tryd.prog 39 #[(Value.agg #[Value.int .i64 (p), Value.int .i64 (q)]), (Value.agg #[Value.int .i64 (p'), Value.int .i64 (q')]), .int .i64 1] W fun e w' => e = .returned (.tuple #[(Value.agg #[Value.int .i64 (x0), Value.int .i64 (x1)]), (Value.agg #[Value.int .i64 (y0), Value.int .i64 (y1)])]) ∧ Below W.heap.size W w')) :
    Calls Tryd.prog 25 #[(Value.agg #[Value.int .i64 (p), Value.int .i64 (q)]), (Value.agg #[Value.int .i64 (p'), Value.int .i64 (q')]), .string (howS 1)] w fun e w' => e = .returned (.tuple #[(Value.agg #[Value.int .i64 (x0), Value.int .i64 (x1)]), (Value.agg #[Value.int .i64 (y0), Value.int .i64 (y1)]), .nilIface]) ∧ Below w.heap.size w w' := by
  simp only [howS]
  go_enter Tryd.func25, Tryd.ntmps25
  go_wp2_with fail
  refine (hB.out _).mono ?_
  rintro e w1 ⟨rfl, hb1⟩
  have s1 := (((((St.start0 w).box2 48 (.int .i64 p) (.int .i64 q)).box2 48 (.int .i64 p') (.int .i64 q')).box2 48 (.int .i64 0) (.int .i64 0)).box2 48 (.int .i64 0) (.int .i64 0)).call hb1
  simp only [allocSize] at s1
  have q1 := s1.hold
  simp only [Holds, and_true] at q1
  clear hb1
  go_wp2_with fail
  have s2 : St w (((((w1.setCell ⟨w.heap.size + 1 + 1, 0, none⟩ (.int .i64 x0)).setCell ⟨w.heap.size + 1 + 1, 1, none⟩ (.int .i64 x1)).setCell ⟨w.heap.size + 1 + 1 + 1, 0, none⟩ (.int .i64 y0)).setCell ⟨w.heap.size + 1 + 1 + 1, 1, none⟩ (.int .i64 y1))) (fun _ => True) ((w.heap.size + 1 + 1 + 1, 0, Value.int .i64 (y0)) :: (w.heap.size + 1 + 1 + 1, 1, Value.int .i64 (y1)) :: (w.heap.size + 1 + 1, 0, Value.int .i64 (x0)) :: (w.heap.size + 1 + 1, 1, Value.int .i64 (x1)) :: []) := (St.set2 [] _ (St.set2 ((w.heap.size + 1 + 1 + 1, 0, Value.int .i64 (0)) :: (w.heap.size + 1 + 1 + 1, 1, Value.int .i64 (0)) :: []) _ s1 (by omega) ⟨(by dsimp only; omega), (by dsimp only; omega), trivial⟩ ⟨(by dsimp only; omega), (by dsimp only; omega), (by dsimp only; omega), (by dsimp only; omega), trivial⟩ (.int .i64 x0) (.int .i64 x1)) (by omega) trivial ⟨(by dsimp only; omega), (by dsimp only; omega), (by dsimp only; omega), (by dsimp only; omega), (by dsimp only; omega), (by dsimp only; omega), trivial⟩ (.int .i64 y0) (.int .i64 y1)).take 4
  clear s1 q1
  obtain ⟨W, hW⟩ : ∃ W, W = (((((w1.setCell ⟨w.heap.size + 1 + 1, 0, none⟩ (.int .i64 x0)).setCell ⟨w.heap.size + 1 + 1, 1, none⟩ (.int .i64 x1)).setCell ⟨w.heap.size + 1 + 1 + 1, 0, none⟩ (.int .i64 y0)).setCell ⟨w.heap.size + 1 + 1 + 1, 1, none⟩ (.int .i64 y1))) := ⟨_, rfl⟩
  rw [← hW] at s2 ⊢
  clear hW
  (have q2 := s2.hold; simp only [Holds, and_true] at q2; go_region; all_goals (go_wp2_with fail; refine bodyPost_ret (v := .tuple #[(Value.agg #[Value.int .i64 (x0), Value.int .i64 (x1)]), (Value.agg #[Value.int .i64 (y0), Value.int .i64 (y1)]), .nilIface]) ?_ rfl ⟨rfl, ?_⟩; (simp [results, Tryd.results25, go_sem, q2]); (repeat' (first | exact s4.bel | exact s3.bel | exact s2.bel | exact s1.bel | exact hK.one.st.bel | refine Below.setCell ?_ (by dsimp only; omega) _ | refine Below.alloc ?_ (by first | (simp; done) | (simp; omega)) _ | refine Below.drew ?_ | exact Below.refl _ _))))

set_option maxRecDepth 20000 in
set_option maxHeartbeats 2000000 in
theorem refined_2 (p q p' q' x0 x1 y0 y1 : Int) (w : World) (hB : Hid (∀ W : World, Calls Tryd.prog 39 #[(Value.agg #[Value.int .i64 (p), Value.int .i64 (q)]), (Value.agg #[Value.int .i64 (p'), Value.int .i64 (q')]), .int .i64 0] W fun e w' => e = .returned (.tuple #[(Value.agg #[Value.int .i64 (x0), Value.int .i64 (x1)]), (Value.agg #[Value.int .i64 (y0), Value.int .i64 (y1)])]) ∧ Below W.heap.size W w')) :
    Calls Tryd.prog 25 #[(Value.agg #[Value.int .i64 (p), Value.int .i64 (q)]), (Value.agg #[Value.int .i64 (p'), Value.int .i64 (q')]), .string (howS 2)] w fun e w' => e = .returned (.tuple #[(Value.agg #[Value.int .i64 (x0), Value.int .i64 (x1)]), (Value.agg #[Value.int .i64 (y0), Value.int .i64 (y1)]), .nilIface]) ∧ Below w.heap.size w w' := by
  simp only [howS]
  go_enter Tryd.func25, Tryd.ntmps25
  go_wp2_with fail
  refine (hB.out _).mono ?_
  rintro e w1 ⟨rfl, hb1⟩
  have s1 := (((((St.start0 w).box2 48 (.int .i64 p) (.int .i64 q)).box2 48 (.int .i64 p') (.int .i64 q')).box2 48 (.int .i64 0) (.int .i64 0)).box2 48 (.int .i64 0) (.int .i64 0)).call hb1
  simp only [allocSize] at s1
  have q1 := s1.hold
  simp only [Holds, and_true] at q1
  clear hb1
  go_wp2_with fail
  have s2 : St w (((((w1.setCell ⟨w.heap.size + 1 + 1, 0, none⟩ (.int .i64 x0)).setCell ⟨w.heap.size + 1 + 1, 1, none⟩ (.int .i64 x1)).setCell ⟨w.heap.size + 1 + 1 + 1, 0, none⟩ (.int .i64 y0)).setCell ⟨w.heap.size + 1 + 1 + 1, 1, none⟩ (.int .i64 y1))) (fun _ => True) ((w.heap.size + 1 + 1 + 1, 0, Value.int .i64 (y0)) :: (w.heap.size + 1 + 1 + 1, 1, Value.int .i64 (y1)) :: (w.heap.size + 1 + 1, 0, Value.int .i64 (x0)) :: (w.heap.size + 1 + 1, 1, Value.int .i64 (x1)) :: []) := (St.set2 [] _ (St.set2 ((w.heap.size + 1 + 1 + 1, 0, Value.int .i64 (0)) :: (w.heap.size + 1 + 1 + 1, 1, Value.int .i64 (0)) :: []) _ s1 (by omega) ⟨(by dsimp only; omega), (by dsimp only; omega), trivial⟩ ⟨(by dsimp only; omega), (by dsimp only; omega), (by dsimp only; omega), (by dsimp only; omega), trivial⟩ (.int .i64 x0) (.int .i64 x1)) (by omega) trivial ⟨(by dsimp only; omega), (by dsimp only; omega), (by dsimp only; omega), (by dsimp only; omega), (by dsimp only; omega), (by dsimp only; omega), trivial⟩ (.int .i64 y0) (.int .i64 y1)).take 4
  clear s1 q1
  obtain ⟨W, hW⟩ : ∃ W, W = (((((w1.setCell ⟨w.heap.size + 1 + 1, 0, none⟩ (.int .i64 x0)).setCell ⟨w.heap.size + 1 + 1, 1, none⟩ (.int .i64 x1)).setCell ⟨w.heap.size + 1 + 1 + 1, 0, none⟩ (.int .i64 y0)).setCell ⟨w.heap.size + 1 + 1 + 1, 1, none⟩ (.int .i64 y1))) := ⟨_, rfl⟩
  rw [← hW] at s2 ⊢
  clear hW
  (have q2 := s2.hold; simp only [Holds, and_true] at q2; go_region; all_goals (go_wp2_with fail; refine bodyPost_ret (v := .tuple #[(Value.agg #[Value.int .i64 (x0), Value.int .i64 (x1)]), (Value.agg #[Value.int .i64 (y0), Value.int .i64 (y1)]), .nilIface]) ?_ rfl ⟨rfl, ?_⟩; (simp [results, Tryd.results25, go_sem, q2]); (repeat' (first | exact s4.bel | exact s3.bel | exact s2.bel | exact s1.bel | exact hK.one.st.bel | refine Below.setCell ?_ (by dsimp only; omega) _ | refine Below.alloc ?_ (by first | (simp; done) | (simp; omega)) _ | refine Below.drew ?_ | exact Below.refl _ _))))

set_option maxRecDepth 20000 in
set_option maxHeartbeats 2000000 in
theorem refined_5 (p q p' q' x0 x1 y0 y1 : Int) (w : World) (hB : Hid (∀ W : World, Calls Tryd.prog 39 #[(Value.agg #[Value.int .i64 (p'), Value.int .i64 (q')]), (Value.agg #[Value.int .i64 (p), Value.int .i64 (q)]), .int .i64 1] W fun e w' => e = .returned (.tuple #[(Value.agg #[Value.int .i64 (y0), Value.int .i64 (y1)]), (Value.agg #[Value.int .i64 (x0), Value.int .i64 (x1)])]) ∧ Below W.heap.size W w')) :
    Calls Tryd.prog 25 #[(Value.agg #[Value.int .i64 (p), Value.int .i64 (q)]), (Value.agg #[Value.int .i64 (p'), Value.int .i64 (q')]), .string (howS 5)] w fun e w' => e = .returned (.tuple #[(Value.agg #[Value.int .i64 (x0), Value.int .i64 (x1)]), (Value.agg #[Value.int .i64 (y0), Value.int .i64 (y1)]), .nilIface]) ∧ Below w.heap.size w w' := by
  simp only [howS]
  go_enter Tryd.func25, Tryd.ntmps25
  go_wp2_with fail
  refine (hB.out _).mono ?_
  rintro e w1 ⟨rfl, hb1⟩
  have s1 := (((((St.start0 w).box2 48 (.int .i64 p) (.int .i64 q)).box2 48 (.int .i64 p') (.int .i64 q')).box2 48 (.int .i64 0) (.int .i64 0)).box2 48 (.int .i64 0) (.int .i64 0)).call hb1
  simp only [allocSize] at s1
  have q1 := s1.hold
  simp only [Holds, and_true] at q1
  clear hb1
  go_wp2_with fail
  have s2 : St w (((((w1.setCell ⟨w.heap.size + 1 + 1 + 1, 0, none⟩ (.int .i64 y0)).setCell ⟨w.heap.size + 1 + 1 + 1, 1, none⟩ (.int .i64 y1)).setCell ⟨w.heap.size + 1 + 1, 0, none⟩ (.int .i64 x0)).setCell ⟨w.heap.size + 1 + 1, 1, none⟩ (.int .i64 x1))) (fun _ => True) ((w.heap.size + 1 + 1 + 1, 0, Value.int .i64 (y0)) :: (w.heap.size + 1 + 1 + 1, 1, Value.int .i64 (y1)) :: (w.heap.size + 1 + 1, 0, Value.int .i64 (x0)) :: (w.heap.size + 1 + 1, 1, Value.int .i64 (x1)) :: []) := (St.set2 ((w.heap.size + 1 + 1 + 1, 0, Value.int .i64 (y0)) :: (w.heap.size + 1 + 1 + 1, 1, Value.int .i64 (y1)) :: []) _ (St.set2 [] _ s1 (by omega) trivial ⟨(by dsimp only; omega), (by dsimp only; omega), (by dsimp only; omega), (by dsimp only; omega), (by dsimp only; omega), (by dsimp only; omega), trivial⟩ (.int .i64 y0) (.int .i64 y1)) (by omega) ⟨(by dsimp only; omega), (by dsimp only; omega), trivial⟩ ⟨(by dsimp only; omega), (by dsimp only; omega), (by dsimp only; omega), (by dsimp only; omega), trivial⟩ (.int .i64 x0) (.int .i64 x1)).take 4
  clear s1 q1
  obtain ⟨W, hW⟩ : ∃ W, W = (((((w1.setCell ⟨w.heap.size + 1 + 1 + 1, 0, none⟩ (.int .i64 y0)).setCell ⟨w.heap.size + 1 + 1 + 1, 1, none⟩ (.int .i64 y1)).setCell ⟨w.heap.size + 1 + 1, 0, none⟩ (.int .i64 x0)).setCell ⟨w.heap.size + 1 + 1, 1, none⟩ (.int .i64 x1))) := ⟨_, rfl⟩
  rw [← hW] at s2 ⊢
  clear hW
  (have q2 := s2.hold; simp only [Holds, and_true] at q2; go_region; all_goals (go_wp2_with fail; refine bodyPost_ret (v := .tuple #[(Value.agg #[Value.int .i64 (x0), Value.int .i64 (x1)]), (Value.agg #[Value.int .i64 (y0), Value.int .i64 (y1)]), .nilIface]) ?_ rfl ⟨rfl, ?_⟩; (simp [results, Tryd.results25, go_sem, q2]); (repeat' (first | exact s4.bel | exact s3.bel | exact s2.bel | exact s1.bel | exact hK.one.st.bel | refine Below.setCell ?_ (by dsimp only; omega) _ | refine Below.alloc ?_ (by first | (simp; done) | (simp; omega)) _ | refine Below.drew ?_ | exact Below.refl _ _))))

set_option maxRecDepth 20000 in
set_option maxHeartbeats 2000000 in
theorem refined_6 (p q p' q' x0 x1 y0 y1 : Int) (w : World) (hB : Hid (∀ W : World, Calls Tryd.prog 39 #[(Value.agg #[Value.int .i64 (p'), Value.int .i64 (q')]), (Value.agg #[Value.int .i64 (p), Value.int .i64 (q)]), .int .i64 0] W fun e w' => e = .returned (.tuple #[(Value.agg #[Value.int .i64 (y0), Value.int .i64 (y1)]), (Value.agg #[Value.int .i64 (x0), Value.int .i64 (x1)])]) ∧ Below W.heap.size W w')) :
    Calls Tryd.prog 25 #[(Value.agg #[Value.int .i64 (p), Value.int .i64 (q)]), (Value.agg #[Value.int .i64 (p'), Value.int .i64 (q')]), .string (howS 6)] w fun e w' => e = .returned (.tuple #[(Value.agg #[Value.int .i64 (x0), Value.int .i64 (x1)]), (Value.agg #[Value.int .i64 (y0), Value.int .i64 (y1)]), .nilIface]) ∧ Below w.heap.size w w' := by
  simp only [howS]
  go_enter Tryd.func25, Tryd.ntmps25
  go_wp2_with fail
  refine (hB.out _).mono ?_
  rintro e w1 ⟨rfl, hb1⟩
  have s1 := (((((St.start0 w).box2 48 (.int .i64 p) (.int .i64 q)).box2 48 (.int .i64 p') (.int .i64 q')).box2 48 (.int .i64 0) (.int .i64 0)).box2 48 (.int .i64 0) (.int .i64 0)).call hb1
  simp only [allocSize] at s1
  have q1 := s1.hold
  simp only [Holds, and_true] at q1
  clear hb1
  go_wp2_with fail
  have s2 : St w (((((w1.setCell ⟨w.heap.size + 1 + 1 + 1, 0, none⟩ (.int .i64 y0)).setCell ⟨w.heap.size + 1 + 1 + 1, 1, none⟩ (.int .i64 y1)).setCell ⟨w.heap.size + 1 + 1, 0, none⟩ (.int .i64 x0)).setCell ⟨w.heap.size + 1 + 1, 1, none⟩ (.int .i64 x1))) (fun _ => True) ((w.heap.size + 1 + 1 + 1, 0, Value.int .i64 (y0)) :: (w.heap.size + 1 + 1 + 1, 1, Value.int .i64 (y1)) :: (w.heap.size + 1 + 1, 0, Value.int .i64 (x0)) :: (w.heap.size + 1 + 1, 1, Value.int .i64 (x1)) :: []) := (St.set2 ((w.heap.size + 1 + 1 + 1, 0, Value.int .i64 (y0)) :: (w.heap.size + 1 + 1 + 1, 1, Value.int .i64 (y1)) :: []) _ (St.set2 [] _ s1 (by omega) trivial ⟨(by dsimp only; omega), (by dsimp only; omega), (by dsimp only; omega), (by dsimp only; omega), (by dsimp only; omega), (by dsimp only; omega), trivial⟩ (.int .i64 y0) (.int .i64 y1)) (by omega) ⟨(by dsimp only; omega), (by dsimp only; omega), trivial⟩ ⟨(by dsimp only; omega), (by dsimp only; omega), (by dsimp only; omega), (by dsimp only; omega), trivial⟩ (.int .i64 x0) (.int .i64 x1)).take 4
  clear s1 q1
  obtain ⟨W, hW⟩ : ∃ W, W = (((((w1.setCell ⟨w.heap.size + 1 + 1 + 1, 0, none⟩ (.int .i64 y0)).setCell ⟨w.heap.size + 1 + 1 + 1, 1, none⟩ (.int .i64 y1)).setCell ⟨w.heap.size + 1 + 1, 0, none⟩ (.int .i64 x0)).setCell ⟨w.heap.size + 1 + 1, 1, none⟩ (.int .i64 x1))) := ⟨_, rfl⟩
  rw [← hW] at s2 ⊢
  clear hW
  (have q2 := s2.hold; simp only [Holds, and_true] at q2; go_region; all_goals (go_wp2_with fail; refine bodyPost_ret (v := .tuple #[(Value.agg #[Value.int .i64 (x0), Value.int .i64 (x1)]), (Value.agg #[Value.int .i64 (y0), Value.int .i64 (y1)]), .nilIface]) ?_ rfl ⟨rfl, ?_⟩; (simp [results, Tryd.results25, go_sem, q2]); (repeat' (first | exact s4.bel | exact s3.bel | exact s2.bel | exact s1.bel | exact hK.one.st.bel | refine Below.setCell ?_ (by dsimp only; omega) _ | refine Below.alloc ?_ (by first | (simp; done) | (simp; omega)) _ | refine Below.drew ?_ | exact Below.refl _ _))))

set_option maxRecDepth 20000 in
set_option maxHeartbeats 2000000 in
theorem refined_3 (p q p' q' : Int) (g0 g1 : Int → Int → Int → Int → Int) (w : World) (hM : Hid (∀ (a b c d : Int) (W : World), (a = p ∧ b = q ∧ c = p' ∧ d = q') ∨ (a = p' ∧ b = q' ∧ c = p ∧ d = q) → Calls Tryd.prog 37 #[(Value.agg #[Value.int .i64 (a), Value.int .i64 (b)]), (Value.agg #[Value.int .i64 (c), Value.int .i64 (d)])] W fun e w' => e = .returned (Value.agg #[Value.int .i64 (g0 a b c d), Value.int .i64 (g1 a b c d)]) ∧ Below W.heap.size W w')) :
    Calls Tryd.prog 25 #[(Value.agg #[Value.int .i64 (p), Value.int .i64 (q)]), (Value.agg #[Value.int .i64 (p'), Value.int .i64 (q')]), .string (howS 3)] w fun e w' => e = .returned (.tuple #[(Value.agg #[Value.int .i64 (g0 p q p' q'), Value.int .i64 (g1 p q p' q')]), (Value.agg #[Value.int .i64 (g0 p' q' p q), Value.int .i64 (g1 p' q' p q)]), .nilIface]) ∧ Below w.heap.size w w' := by
  simp only [howS]
  have hK0 := Kr.start w p q p' q' 48 48 48 48
  go_enter Tryd.func25, Tryd.ntmps25
  go_wp2_with fail
  go_region_held3 (fun w' => w'.cell? ⟨w.heap.size + 1, 0, none⟩ = some (.int .i64 (p')) ∧ w'.cell? ⟨w.heap.size + 1, 1, none⟩ = some (.int .i64 (q')) ∧ w'.cell? ⟨w.heap.size, 0, none⟩ = some (.int .i64 (p)) ∧ w'.cell? ⟨w.heap.size, 1, none⟩ = some (.int .i64 (q)) ∧ (w'.cell? ⟨w.heap.size + 1 + 1, 0, none⟩ = some (.int .i64 (intC w' (w.heap.size + 1 + 1) 0)) ∧ w'.cell? ⟨w.heap.size + 1 + 1, 1, none⟩ = some (.int .i64 (intC w' (w.heap.size + 1 + 1) 1)) ∧ w'.frozen? ⟨w.heap.size + 1 + 1, 0, none⟩ = false ∧ w'.frozen? ⟨w.heap.size + 1 + 1, 1, none⟩ = false ∧ w'.cell? ⟨w.heap.size + 1 + 1 + 1, 0, none⟩ = some (.int .i64 (intC w' (w.heap.size + 1 + 1 + 1) 0)) ∧ w'.cell? ⟨w.heap.size + 1 + 1 + 1, 1, none⟩ = some (.int .i64 (intC w' (w.heap.size + 1 + 1 + 1) 1)) ∧ w'.frozen? ⟨w.heap.size + 1 + 1 + 1, 0, none⟩ = false ∧ w'.frozen? ⟨w.heap.size + 1 + 1 + 1, 1, none⟩ = false ∧ Kr w w' ((w.heap.size + 1, 0, Value.int .i64 (p')) :: (w.heap.size + 1, 1, Value.int .i64 (q')) :: (w.heap.size, 0, Value.int .i64 (p)) :: (w.heap.size, 1, Value.int .i64 (q)) :: []) (w.heap.size + 1 + 1) (w.heap.size + 1 + 1 + 1))) (first | (exact keepR2u ((w.heap.size + 1, 0, Value.int .i64 (p')) :: (w.heap.size + 1, 1, Value.int .i64 (q')) :: (w.heap.size, 0, Value.int .i64 (p)) :: (w.heap.size, 1, Value.int .i64 (q)) :: []) (w.heap.size + 1 + 1) (w.heap.size + 1 + 1 + 1) rfl (by omega) (by assumption)) | (exact keepR2d ((w.heap.size + 1, 0, Value.int .i64 (p')) :: (w.heap.size + 1, 1, Value.int .i64 (q')) :: (w.heap.size, 0, Value.int .i64 (p)) :: (w.heap.size, 1, Value.int .i64 (q)) :: []) (w.heap.size + 1 + 1) (w.heap.size + 1 + 1 + 1) (by assumption)) | (exact keepR2 ((w.heap.size + 1, 0, Value.int .i64 (p')) :: (w.heap.size + 1, 1, Value.int .i64 (q')) :: (w.heap.size, 0, Value.int .i64 (p)) :: (w.heap.size, 1, Value.int .i64 (q)) :: []) (w.heap.size + 1 + 1) (w.heap.size + 1 + 1 + 1) (by assumption) (by assumption)) | (exact keepR2 ((w.heap.size + 1, 0, Value.int .i64 (p')) :: (w.heap.size + 1, 1, Value.int .i64 (q')) :: (w.heap.size, 0, Value.int .i64 (p)) :: (w.heap.size, 1, Value.int .i64 (q)) :: []) (w.heap.size + 1 + 1) (w.heap.size + 1 + 1 + 1) (Below.refl _ _) (by assumption)) | (exact (Kr.drew hK0).all))
    (first
      | (go_at_call 37; refine (hM.out _ _ _ _ _ ?hc).mono ?_; (case hc => first | exact Or.inl ⟨rfl, rfl, rfl, rfl⟩ | exact Or.inr ⟨rfl, rfl, rfl, rfl⟩); rintro e w3 ⟨rfl, hb3⟩; first | (have hK2 := hK1.call hb3) | (have hK1 := hK0.drew.call hb3)))
  have hK := hK2
  obtain ⟨n0, r0⟩ := hK.one.r0
  obtain ⟨n1, r1⟩ := hK.one.r1
  obtain ⟨k0, t0⟩ := hK.two.r0
  obtain ⟨k1, t1⟩ := hK.two.r1
  have s1 : St w w3 (fun _ => True) ((w.heap.size + 1 + 1 + 1, 0, Value.int .i64 (k0)) :: (w.heap.size + 1 + 1 + 1, 1, Value.int .i64 (k1)) :: (w.heap.size + 1 + 1, 0, Value.int .i64 (n0)) :: (w.heap.size + 1 + 1, 1, Value.int .i64 (n1)) :: []) := ⟨hK.one.st.bel, ⟨⟨t0, hK.two.lt, hK.two.f0⟩, ⟨t1, hK.two.lt, hK.two.f1⟩, ⟨r0, hK.one.lt, hK.one.f0⟩, ⟨r1, hK.one.lt, hK.one.f1⟩, trivial⟩, trivial, fun _ _ _ _ => trivial⟩
  have s2 : St w ((((w3.setCell ⟨w.heap.size + 1 + 1, 0, none⟩ (.int .i64 (g0 p q p' q'))).setCell ⟨w.heap.size + 1 + 1, 1, none⟩ (.int .i64 (g1 p q p' q'))).setCell ⟨w.heap.size + 1 + 1 + 1, 0, none⟩ (.int .i64 (g0 p' q' p q))).setCell ⟨w.heap.size + 1 + 1 + 1, 1, none⟩ (.int .i64 (g1 p' q' p q))) (fun _ => True) ((w.heap.size + 1 + 1 + 1, 0, Value.int .i64 ((g0 p' q' p q))) :: (w.heap.size + 1 + 1 + 1, 1, Value.int .i64 ((g1 p' q' p q))) :: (w.heap.size + 1 + 1, 0, Value.int .i64 ((g0 p q p' q'))) :: (w.heap.size + 1 + 1, 1, Value.int .i64 ((g1 p q p' q'))) :: []) := St.set2 [] _ (St.set2 ((w.heap.size + 1 + 1 + 1, 0, Value.int .i64 (k0)) :: (w.heap.size + 1 + 1 + 1, 1, Value.int .i64 (k1)) :: []) [] s1 (by omega) ⟨(by dsimp only; omega), (by dsimp only; omega), trivial⟩ trivial (.int .i64 (g0 p q p' q')) (.int .i64 (g1 p q p' q'))) (by omega) trivial ⟨(by dsimp only; omega), (by dsimp only; omega), trivial⟩ (.int .i64 (g0 p' q' p q)) (.int .i64 (g1 p' q' p q))
  clear hK0 hK1 hK2 hK s1
  go_wp2_with fail
  obtain ⟨W, hW⟩ : ∃ W, W = ((((w3.setCell ⟨w.heap.size + 1 + 1, 0, none⟩ (.int .i64 (g0 p q p' q'))).setCell ⟨w.heap.size + 1 + 1, 1, none⟩ (.int .i64 (g1 p q p' q'))).setCell ⟨w.heap.size + 1 + 1 + 1, 0, none⟩ (.int .i64 (g0 p' q' p q))).setCell ⟨w.heap.size + 1 + 1 + 1, 1, none⟩ (.int .i64 (g1 p' q' p q))) := ⟨_, rfl⟩
  rw [← hW] at s2 ⊢
  clear hW
  have q2 := s2.hold
  simp only [Holds, and_true] at q2
  go_region
  all_goals
    go_wp2_with fail
    refine bodyPost_ret (v := .tuple #[(Value.agg #[Value.int .i64 (g0 p q p' q'), Value.int .i64 (g1 p q p' q')]), (Value.agg #[Value.int .i64 (g0 p' q' p q), Value.int .i64 (g1 p' q' p q)]), .nilIface]) ?_ rfl ⟨rfl, ?_⟩
    · simp [results, Tryd.results25, go_sem, q2]
    · (repeat' (first | exact s4.bel | exact s3.bel | exact s2.bel | exact s1.bel | exact hK.one.st.bel | refine Below.setCell ?_ (by dsimp only; omega) _ | refine Below.alloc ?_ (by first | (simp; done) | (simp; omega)) _ | refine Below.drew ?_ | exact Below.refl _ _))

set_option maxRecDepth 20000 in
set_option maxHeartbeats 2000000 in
theorem refined_4 (p q p' q' : Int) (g0 g1 : Int → Int → Int → Int → Int) (w : World) (hM : Hid (∀ (a b c d : Int) (W : World), (a = p ∧ b = q ∧ c = p' ∧ d = q') ∨ (a = p' ∧ b = q' ∧ c = p ∧ d = q) → Calls Tryd.prog 40 #[(Value.agg #[Value.int .i64 (a), Value.int .i64 (b)]), (Value.agg #[Value.int .i64 (c), Value.int .i64 (d)])] W fun e w' => e = .returned (Value.agg #[Value.int .i64 (g0 a b c d), Value.int .i64 (g1 a b c d)]) ∧ Below W.heap.size W w')) :
    Calls Tryd.prog 25 #[(Value.agg #[Value.int .i64 (p), Value.int .i64 (q)]), (Value.agg #[Value.int .i64 (p'), Value.int .i64 (q')]), .string (howS 4)] w fun e w' => e = .returned (.tuple #[(Value.agg #[Value.int .i64 (g0 p q p' q'), Value.int .i64 (g1 p q p' q')]), (Value.agg #[Value.int .i64 (g0 p' q' p q), Value.int .i64 (g1 p' q' p q)]), .nilIface]) ∧ Below w.heap.size w w' := by
  simp only [howS]
  have hK0 := Kr.start w p q p' q' 48 48 48 48
  go_enter Tryd.func25, Tryd.ntmps25
  go_wp2_with fail
  go_region_held3 (fun w' => w'.cell? ⟨w.heap.size + 1, 0, none⟩ = some (.int .i64 (p')) ∧ w'.cell? ⟨w.heap.size + 1, 1, none⟩ = some (.int .i64 (q')) ∧ w'.cell? ⟨w.heap.size, 0, none⟩ = some (.int .i64 (p)) ∧ w'.cell? ⟨w.heap.size, 1, none⟩ = some (.int .i64 (q)) ∧ (w'.cell? ⟨w.heap.size + 1 + 1, 0, none⟩ = some (.int .i64 (intC w' (w.heap.size + 1 + 1) 0)) ∧ w'.cell? ⟨w.heap.size + 1 + 1, 1, none⟩ = some (.int .i64 (intC w' (w.heap.size + 1 + 1) 1)) ∧ w'.frozen? ⟨w.heap.size + 1 + 1, 0, none⟩ = false ∧ w'.frozen? ⟨w.heap.size + 1 + 1, 1, none⟩ = false ∧ w'.cell? ⟨w.heap.size + 1 + 1 + 1, 0, none⟩ = some (.int .i64 (intC w' (w.heap.size + 1 + 1 + 1) 0)) ∧ w'.cell? ⟨w.heap.size + 1 + 1 + 1, 1, none⟩ = some (.int .i64 (intC w' (w.heap.size + 1 + 1 + 1) 1)) ∧ w'.frozen? ⟨w.heap.size + 1 + 1 + 1, 0, none⟩ = false ∧ w'.frozen? ⟨w.heap.size + 1 + 1 + 1, 1, none⟩ = false ∧ Kr w w' ((w.heap.size + 1, 0, Value.int .i64 (p')) :: (w.heap.size + 1, 1, Value.int .i64 (q')) :: (w.heap.size, 0, Value.int .i64 (p)) :: (w.heap.size, 1, Value.int .i64 (q)) :: []) (w.heap.size + 1 + 1) (w.heap.size + 1 + 1 + 1))) (first | (exact keepR2u ((w.heap.size + 1, 0, Value.int .i64 (p')) :: (w.heap.size + 1, 1, Value.int .i64 (q')) :: (w.heap.size, 0, Value.int .i64 (p)) :: (w.heap.size, 1, Value.int .i64 (q)) :: []) (w.heap.size + 1 + 1) (w.heap.size + 1 + 1 + 1) rfl (by omega) (by assumption)) | (exact keepR2d ((w.heap.size + 1, 0, Value.int .i64 (p')) :: (w.heap.size + 1, 1, Value.int .i64 (q')) :: (w.heap.size, 0, Value.int .i64 (p)) :: (w.heap.size, 1, Value.int .i64 (q)) :: []) (w.heap.size + 1 + 1) (w.heap.size + 1 + 1 + 1) (by assumption)) | (exact keepR2 ((w.heap.size + 1, 0, Value.int .i64 (p')) :: (w.heap.size + 1, 1, Value.int .i64 (q')) :: (w.heap.size, 0, Value.int .i64 (p)) :: (w.heap.size, 1, Value.int .i64 (q)) :: []) (w.heap.size + 1 + 1) (w.heap.size + 1 + 1 + 1) (by assumption) (by assumption)) | (exact keepR2 ((w.heap.size + 1, 0, Value.int .i64 (p')) :: (w.heap.size + 1, 1, Value.int .i64 (q')) :: (w.heap.size, 0, Value.int .i64 (p)) :: (w.heap.size, 1, Value.int .i64 (q)) :: []) (w.heap.size + 1 + 1) (w.heap.size + 1 + 1 + 1) (Below.refl _ _) (by assumption)) | (exact (Kr.drew hK0).all))
    (first
      | (go_at_call 40; refine (hM.out _ _ _ _ _ ?hc).mono ?_; (case hc => first | exact Or.inl ⟨rfl, rfl, rfl, rfl⟩ | exact Or.inr ⟨rfl, rfl, rfl, rfl⟩); rintro e w3 ⟨rfl, hb3⟩; first | (have hK2 := hK1.call hb3) | (have hK1 := hK0.drew.call hb3)))
  have hK := hK2
  obtain ⟨n0, r0⟩ := hK.one.r0
  obtain ⟨n1, r1⟩ := hK.one.r1
  obtain ⟨k0, t0⟩ := hK.two.r0
  obtain ⟨k1, t1⟩ := hK.two.r1
  have s1 : St w w3 (fun _ => True) ((w.heap.size + 1 + 1 + 1, 0, Value.int .i64 (k0)) :: (w.heap.size + 1 + 1 + 1, 1, Value.int .i64 (k1)) :: (w.heap.size + 1 + 1, 0, Value.int .i64 (n0)) :: (w.heap.size + 1 + 1, 1, Value.int .i64 (n1)) :: []) := ⟨hK.one.st.bel, ⟨⟨t0, hK.two.lt, hK.two.f0⟩, ⟨t1, hK.two.lt, hK.two.f1⟩, ⟨r0, hK.one.lt, hK.one.f0⟩, ⟨r1, hK.one.lt, hK.one.f1⟩, trivial⟩, trivial, fun _ _ _ _ => trivial⟩
  have s2 : St w ((((w3.setCell ⟨w.heap.size + 1 + 1, 0, none⟩ (.int .i64 (g0 p q p' q'))).setCell ⟨w.heap.size + 1 + 1, 1, none⟩ (.int .i64 (g1 p q p' q'))).setCell ⟨w.heap.size + 1 + 1 + 1, 0, none⟩ (.int .i64 (g0 p' q' p q))).setCell ⟨w.heap.size + 1 + 1 + 1, 1, none⟩ (.int .i64 (g1 p' q' p q))) (fun _ => True) ((w.heap.size + 1 + 1 + 1, 0, Value.int .i64 ((g0 p' q' p q))) :: (w.heap.size + 1 + 1 + 1, 1, Value.int .i64 ((g1 p' q' p q))) :: (w.heap.size + 1 + 1, 0, Value.int .i64 ((g0 p q p' q'))) :: (w.heap.size + 1 + 1, 1, Value.int .i64 ((g1 p q p' q'))) :: []) := St.set2 [] _ (St.set2 ((w.heap.size + 1 + 1 + 1, 0, Value.int .i64 (k0)) :: (w.heap.size + 1 + 1 + 1, 1, Value.int .i64 (k1)) :: []) [] s1 (by omega) ⟨(by dsimp only; omega), (by dsimp only; omega), trivial⟩ trivial (.int .i64 (g0 p q p' q')) (.int .i64 (g1 p q p' q'))) (by omega) trivial ⟨(by dsimp only; omega), (by dsimp only; omega), trivial⟩ (.int .i64 (g0 p' q' p q)) (.int .i64 (g1 p' q' p q))
  clear hK0 hK1 hK2 hK s1
  go_wp2_with fail
  obtain ⟨W, hW⟩ : ∃ W, W = ((((w3.setCell ⟨w.heap.size + 1 + 1, 0, none⟩ (.int .i64 (g0 p q p' q'))).setCell ⟨w.heap.size + 1 + 1, 1, none⟩ (.int .i64 (g1 p q p' q'))).setCell ⟨w.heap.size + 1 + 1 + 1, 0, none⟩ (.int .i64 (g0 p' q' p q))).setCell ⟨w.heap.size + 1 + 1 + 1, 1, none⟩ (.int .i64 (g1 p' q' p q))) := ⟨_, rfl⟩
  rw [← hW] at s2 ⊢
  clear hW
  have q2 := s2.hold
  simp only [Holds, and_true] at q2
  go_region
  all_goals
    go_wp2_with fail
    refine bodyPost_ret (v := .tuple #[(Value.agg #[Value.int .i64 (g0 p q p' q'), Value.int .i64 (g1 p q p' q')]), (Value.agg #[Value.int .i64 (g0 p' q' p q), Value.int .i64 (g1 p' q' p q)]), .nilIface]) ?_ rfl ⟨rfl, ?_⟩
    · simp [results, Tryd.results25, go_sem, q2]
    · (repeat' (first | exact s4.bel | exact s3.bel | exact s2.bel | exact s1.bel | exact hK.one.st.bel | refine Below.setCell ?_ (by dsimp only; omega) _ | refine Below.alloc ?_ (by first | (simp; done) | (simp; omega)) _ | refine Below.drew ?_ | exact Below.refl _ _))

set_option maxRecDepth 20000 in
set_option maxHeartbeats 2000000 in
theorem refined_0 (p q p' q' : Int) (s : ByteArray) (a : Nat → Addr) (w : World) (hS : ErrAt w a 0) (hk : kindOf s = 0) :
    Calls Tryd.prog 25 #[(Value.agg #[Value.int .i64 (p), Value.int .i64 (q)]), (Value.agg #[Value.int .i64 (p'), Value.int .i64 (q')]), .string s] w fun e w' => e = .returned (.tuple #[(Value.agg #[Value.int .i64 (0), Value.int .i64 (0)]), (Value.agg #[Value.int .i64 (0), Value.int .i64 (0)]), .iface 105 (.pointer (some (a 0)))]) ∧ Below w.heap.size w w' := by
  have e0 : w.cell? ⟨0, 0, none⟩ = some (.iface 105 (.pointer (some (a 0)))) := hS
  have l0 : 0 < w.heap.size := World.block_lt_of_cell? w _ hS
  have l1 : 0 < w.heap.size + 1 := by omega
  have l2 : 0 < w.heap.size + 1 + 1 := by omega
  have l3 : 0 < w.heap.size + 1 + 1 + 1 := by omega
  have kn : (s.toList == [60]) = false ∧ (s.toList == [60, 61]) = false ∧ (s.toList == [61]) = false ∧ (s.toList == [33, 61]) = false ∧ (s.toList == [62]) = false ∧ (s.toList == [62, 61]) = false := by
    obtain ⟨k1, k2, k3, k4, k5, k6⟩ := kindOf_none hk
    simp [k1, k2, k3, k4, k5, k6]
  obtain ⟨k1, k2, k3, k4, k5, k6⟩ := kn
  go_enter Tryd.func25, Tryd.ntmps25
  go_wp2_with fail
  have s2 : St w ((((w.alloc (.cells #[.int .i64 p, .int .i64 q] 48)).alloc (.cells #[.int .i64 p', .int .i64 q'] 48)).alloc (.cells #[.int .i64 0, .int .i64 0] 48)).alloc (.cells #[.int .i64 0, .int .i64 0] 48)) (fun _ => True) ((w.heap.size + 1 + 1 + 1, 0, Value.int .i64 (0)) :: (w.heap.size + 1 + 1 + 1, 1, Value.int .i64 (0)) :: (w.heap.size + 1 + 1, 0, Value.int .i64 (0)) :: (w.heap.size + 1 + 1, 1, Value.int .i64 (0)) :: []) := by
    have := ((((((St.start0 w).box2 48 (.int .i64 p) (.int .i64 q)).box2 48 (.int .i64 p') (.int .i64 q')).box2 48 (.int .i64 0) (.int .i64 0)).box2 48 (.int .i64 0) (.int .i64 0))).take 4
    simp only [allocSize] at this
    exact this
  obtain ⟨W, hW⟩ : ∃ W, W = ((((w.alloc (.cells #[.int .i64 p, .int .i64 q] 48)).alloc (.cells #[.int .i64 p', .int .i64 q'] 48)).alloc (.cells #[.int .i64 0, .int .i64 0] 48)).alloc (.cells #[.int .i64 0, .int .i64 0] 48)) := ⟨_, rfl⟩
  rw [← hW] at s2 ⊢
  clear hW
  have q2 := s2.hold
  simp only [Holds, and_true] at q2
  go_region
  all_goals
    go_wp2_with fail
    refine bodyPost_ret (v := .tuple #[(Value.agg #[Value.int .i64 (0), Value.int .i64 (0)]), (Value.agg #[Value.int .i64 (0), Value.int .i64 (0)]), .iface 105 (.pointer (some (a 0)))]) ?_ rfl ⟨rfl, ?_⟩
    · simp [results, Tryd.results25, go_sem, q2]
    · (repeat' (first | exact s4.bel | exact s3.bel | exact s2.bel | exact s1.bel | exact hK.one.st.bel | refine Below.setCell ?_ (by dsimp only; omega) _ | refine Below.alloc ?_ (by first | (simp; done) | (simp; omega)) _ | refine Below.drew ?_ | exact Below.refl _ _))

end Go.Proofs.YtijbjahedfmfgabDoor
