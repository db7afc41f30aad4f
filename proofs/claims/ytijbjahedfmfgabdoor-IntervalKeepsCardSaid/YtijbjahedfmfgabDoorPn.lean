/- The program's Refine: its small functions. -/
import Derived.Test.YtijbjahedfmfgabDoorPh
import Derived.Test.YtijbjahedfmfgabDoorPi
import Derived.Test.YtijbjahedfmfgabDoorGe
import Derived.Test.YtijbjahedfmfgabDoorJd
namespace Go.Proofs.YtijbjahedfmfgabDoor
open Go.RowKit
set_option linter.unusedVariables false

/-- Two boxes into which is stored. -/
structure Kr (w W : World) (L : List (Nat × Nat × Value)) (r t : Nat) : Prop where
  one : Kq w W L r
  two : Kq w W L t
  ne : r ≠ t

theorem Kq.other {w W : World} {L : List (Nat × Nat × Value)} {t r : Nat} (h : Kq w W L t) (ne : r ≠ t) (ap : Apart r L) (ge : w.heap.size ≤ r) (x y : Value) : Kq w ((W.setCell ⟨r, 0, none⟩ x).setCell ⟨r, 1, none⟩ y) L t := by
  obtain ⟨n0, r0⟩ := h.r0
  obtain ⟨n1, r1⟩ := h.r1
  have s0 : St w W (fun _ => True) ((t, 0, .int .i64 n0) :: (t, 1, .int .i64 n1) :: L) := h.st.add (L' := [(t, 0, .int .i64 n0), (t, 1, .int .i64 n1)]) ⟨⟨r0, h.lt, h.f0⟩, ⟨r1, h.lt, h.f1⟩, trivial⟩
  have a2 : Apart r ((t, 0, Value.int .i64 n0) :: (t, 1, .int .i64 n1) :: L) := ⟨by dsimp only; exact Ne.symm ne, by dsimp only; exact Ne.symm ne, ap⟩
  have bel : Below w.heap.size W ((W.setCell ⟨r, 0, none⟩ x).setCell ⟨r, 1, none⟩ y) := ((Below.refl _ _).setCell ge _).setCell ge _
  exact Kq.of ⟨s0.bel.trans bel, (s0.hold.setCell (p := ⟨r, 0, none⟩) a2 x).setCell (p := ⟨r, 1, none⟩) a2 y, trivial, fun _ _ _ _ => trivial⟩ h.ap h.ge

theorem Kr.call {w W W' : World} {L : List (Nat × Nat × Value)} {r t : Nat} (h : Kr w W L r t) (hb : Below W.heap.size W W') : Kr w W' L r t := ⟨h.one.call hb, h.two.call hb, h.ne⟩
theorem Kr.drew {w W : World} {L : List (Nat × Nat × Value)} {r t : Nat} (h : Kr w W L r t) : Kr w W.drew L r t := ⟨h.one.drew, h.two.drew, h.ne⟩
theorem Kr.s1 {w W : World} {L : List (Nat × Nat × Value)} {r t : Nat} (h : Kr w W L r t) (x y : Int) : Kr w ((W.setCell ⟨r, 0, none⟩ (.int .i64 x)).setCell ⟨r, 1, none⟩ (.int .i64 y)) L r t := ⟨h.one.store x y, h.two.other h.ne h.one.ap h.one.ge _ _, h.ne⟩
theorem Kr.s2 {w W : World} {L : List (Nat × Nat × Value)} {r t : Nat} (h : Kr w W L r t) (x y : Int) : Kr w ((W.setCell ⟨t, 0, none⟩ (.int .i64 x)).setCell ⟨t, 1, none⟩ (.int .i64 y)) L r t := ⟨h.one.other (Ne.symm h.ne) h.two.ap h.two.ge _ _, h.two.store x y, h.ne⟩

theorem Kr.all {w W : World} {L : List (Nat × Nat × Value)} {r t : Nat} (h : Kr w W L r t) : CellsAnd W L (W.cell? ⟨r, 0, none⟩ = some (.int .i64 (intC W (r) 0)) ∧ W.cell? ⟨r, 1, none⟩ = some (.int .i64 (intC W (r) 1)) ∧ W.frozen? ⟨r, 0, none⟩ = false ∧ W.frozen? ⟨r, 1, none⟩ = false ∧ W.cell? ⟨t, 0, none⟩ = some (.int .i64 (intC W (t) 0)) ∧ W.cell? ⟨t, 1, none⟩ = some (.int .i64 (intC W (t) 1)) ∧ W.frozen? ⟨t, 0, none⟩ = false ∧ W.frozen? ⟨t, 1, none⟩ = false ∧ Kr w W L (r) (t)) := by
  obtain ⟨n0, r0⟩ := h.one.r0
  obtain ⟨n1, r1⟩ := h.one.r1
  obtain ⟨m0, t0⟩ := h.two.r0
  obtain ⟨m1, t1⟩ := h.two.r1
  exact CellsAnd.mk h.one.st.hold ⟨intC_of r0, intC_of r1, h.one.f0, h.one.f1, intC_of t0, intC_of t1, h.two.f0, h.two.f1, h⟩

theorem keepR2 {w W W' : World} (L : List (Nat × Nat × Value)) (r t : Nat) (hb : Below W.heap.size W W') (h : CellsAnd W L (W.cell? ⟨r, 0, none⟩ = some (.int .i64 (intC W (r) 0)) ∧ W.cell? ⟨r, 1, none⟩ = some (.int .i64 (intC W (r) 1)) ∧ W.frozen? ⟨r, 0, none⟩ = false ∧ W.frozen? ⟨r, 1, none⟩ = false ∧ W.cell? ⟨t, 0, none⟩ = some (.int .i64 (intC W (t) 0)) ∧ W.cell? ⟨t, 1, none⟩ = some (.int .i64 (intC W (t) 1)) ∧ W.frozen? ⟨t, 0, none⟩ = false ∧ W.frozen? ⟨t, 1, none⟩ = false ∧ Kr w W L (r) (t))) : CellsAnd W' L (W'.cell? ⟨r, 0, none⟩ = some (.int .i64 (intC W' (r) 0)) ∧ W'.cell? ⟨r, 1, none⟩ = some (.int .i64 (intC W' (r) 1)) ∧ W'.frozen? ⟨r, 0, none⟩ = false ∧ W'.frozen? ⟨r, 1, none⟩ = false ∧ W'.cell? ⟨t, 0, none⟩ = some (.int .i64 (intC W' (t) 0)) ∧ W'.cell? ⟨t, 1, none⟩ = some (.int .i64 (intC W' (t) 1)) ∧ W'.frozen? ⟨t, 0, none⟩ = false ∧ W'.frozen? ⟨t, 1, none⟩ = false ∧ Kr w W' L (r) (t)) := (h.last.2.2.2.2.2.2.2.2.call hb).all
theorem keepR2d {w W : World} (L : List (Nat × Nat × Value)) (r t : Nat) (h : CellsAnd W L (W.cell? ⟨r, 0, none⟩ = some (.int .i64 (intC W (r) 0)) ∧ W.cell? ⟨r, 1, none⟩ = some (.int .i64 (intC W (r) 1)) ∧ W.frozen? ⟨r, 0, none⟩ = false ∧ W.frozen? ⟨r, 1, none⟩ = false ∧ W.cell? ⟨t, 0, none⟩ = some (.int .i64 (intC W (t) 0)) ∧ W.cell? ⟨t, 1, none⟩ = some (.int .i64 (intC W (t) 1)) ∧ W.frozen? ⟨t, 0, none⟩ = false ∧ W.frozen? ⟨t, 1, none⟩ = false ∧ Kr w W L (r) (t))) : CellsAnd W.drew L (W.drew.cell? ⟨r, 0, none⟩ = some (.int .i64 (intC W.drew (r) 0)) ∧ W.drew.cell? ⟨r, 1, none⟩ = some (.int .i64 (intC W.drew (r) 1)) ∧ W.drew.frozen? ⟨r, 0, none⟩ = false ∧ W.drew.frozen? ⟨r, 1, none⟩ = false ∧ W.drew.cell? ⟨t, 0, none⟩ = some (.int .i64 (intC W.drew (t) 0)) ∧ W.drew.cell? ⟨t, 1, none⟩ = some (.int .i64 (intC W.drew (t) 1)) ∧ W.drew.frozen? ⟨t, 0, none⟩ = false ∧ W.drew.frozen? ⟨t, 1, none⟩ = false ∧ Kr w W.drew L (r) (t)) := h.last.2.2.2.2.2.2.2.2.drew.all
theorem keepR2u {w W W1 : World} (L : List (Nat × Nat × Value)) (r t : Nat) {b : Nat} {x y : Int} (e : W1 = (W.setCell ⟨b, 0, none⟩ (.int .i64 x)).setCell ⟨b, 1, none⟩ (.int .i64 y)) (hb : b = r ∨ b = t) (h : CellsAnd W L (W.cell? ⟨r, 0, none⟩ = some (.int .i64 (intC W (r) 0)) ∧ W.cell? ⟨r, 1, none⟩ = some (.int .i64 (intC W (r) 1)) ∧ W.frozen? ⟨r, 0, none⟩ = false ∧ W.frozen? ⟨r, 1, none⟩ = false ∧ W.cell? ⟨t, 0, none⟩ = some (.int .i64 (intC W (t) 0)) ∧ W.cell? ⟨t, 1, none⟩ = some (.int .i64 (intC W (t) 1)) ∧ W.frozen? ⟨t, 0, none⟩ = false ∧ W.frozen? ⟨t, 1, none⟩ = false ∧ Kr w W L (r) (t))) : CellsAnd W1 L (W1.cell? ⟨r, 0, none⟩ = some (.int .i64 (intC W1 (r) 0)) ∧ W1.cell? ⟨r, 1, none⟩ = some (.int .i64 (intC W1 (r) 1)) ∧ W1.frozen? ⟨r, 0, none⟩ = false ∧ W1.frozen? ⟨r, 1, none⟩ = false ∧ W1.cell? ⟨t, 0, none⟩ = some (.int .i64 (intC W1 (t) 0)) ∧ W1.cell? ⟨t, 1, none⟩ = some (.int .i64 (intC W1 (t) 1)) ∧ W1.frozen? ⟨t, 0, none⟩ = false ∧ W1.frozen? ⟨t, 1, none⟩ = false ∧ Kr w W1 L (r) (t)) := by
  subst e
  rcases hb with rfl | rfl
  · exact (h.last.2.2.2.2.2.2.2.2.s1 x y).all
  · exact (h.last.2.2.2.2.2.2.2.2.s2 x y).all


theorem Kr.start (w : World) (p q p' q' : Int) (t1 t2 t3 t4 : TypeId) : Kr w ((((w.alloc (.cells #[.int .i64 p, .int .i64 q] t1)).alloc (.cells #[.int .i64 p', .int .i64 q'] t2)).alloc (.cells #[.int .i64 0, .int .i64 0] t3)).alloc (.cells #[.int .i64 0, .int .i64 0] t4)) ((w.heap.size + 1, 0, Value.int .i64 (p')) :: (w.heap.size + 1, 1, Value.int .i64 (q')) :: (w.heap.size, 0, Value.int .i64 (p)) :: (w.heap.size, 1, Value.int .i64 (q)) :: []) (w.heap.size + 1 + 1) (w.heap.size + 1 + 1 + 1) := by
  have s := ((((St.start0 w).box2 t1 (.int .i64 p) (.int .i64 q)).box2 t2 (.int .i64 p') (.int .i64 q')).box2 t3 (.int .i64 0) (.int .i64 0)).box2 t4 (.int .i64 0) (.int .i64 0)
  simp only [allocSize] at s
  have k := s.hold
  refine ⟨⟨⟨s.bel, k.2.2.2.2, trivial, s.cl⟩, ⟨(by dsimp only; omega), (by dsimp only; omega), (by dsimp only; omega), (by dsimp only; omega), trivial⟩, by omega, ⟨0, k.2.2.1.1⟩, ⟨0, k.2.2.2.1.1⟩, k.2.2.1.2.2, k.2.2.2.1.2.2, k.2.2.1.2.1⟩, ⟨⟨s.bel, k.2.2.2.2, trivial, s.cl⟩, ⟨(by dsimp only; omega), (by dsimp only; omega), (by dsimp only; omega), (by dsimp only; omega), trivial⟩, by omega, ⟨0, k.1.1⟩, ⟨0, k.2.1.1⟩, k.1.2.2, k.2.1.2.2, k.1.2.1⟩, by omega⟩

set_option maxHeartbeats 400000 in
theorem isOne_any (p q : Int) (w : World) :
    Calls Tryd.prog 49 #[(Value.agg #[Value.int .i64 (p), Value.int .i64 (q)])] w fun e w' => e = .returned (.bool (decide (p = q))) ∧ Below w.heap.size w w' := by
  go_enter Tryd.func49, Tryd.ntmps49
  go_wp2
  all_goals
    go_ret
    exact ⟨ret_bool (by grind), by (repeat' (first | exact s4.bel | exact s3.bel | exact s2.bel | exact s1.bel | exact hK.one.st.bel | refine Below.setCell ?_ (by dsimp only; omega) _ | refine Below.alloc ?_ (by first | (simp; done) | (simp; omega)) _ | refine Below.drew ?_ | exact Below.refl _ _))⟩

set_option maxRecDepth 20000 in
set_option maxHeartbeats 2000000 in
theorem without_any (p q p' q' : Int) (w : World) (h1 : (-9223372036854775807 ≤ p ∧ p ≤ 9223372036854775807)) (h2 : (-9223372036854775807 ≤ q ∧ q ≤ 9223372036854775807)) (h3 : p' = q' → -9223372036854775807 < p' ∧ p' < 9223372036854775807) :
    Calls Tryd.prog 40 #[(Value.agg #[Value.int .i64 (p), Value.int .i64 (q)]), (Value.agg #[Value.int .i64 (p'), Value.int .i64 (q')])] w fun e w' => e = .returned (Value.agg #[Value.int .i64 (wiL p p' q'), Value.int .i64 (wiH q p' q')]) ∧ Below w.heap.size w w' := by
  by_cases ho : p' = q'
  · obtain ⟨h5, h6⟩ := h3 ho
    clear h3
    subst ho
    by_cases c1 : p = p' <;> by_cases c2 : q = p'
    all_goals
      go_enter Tryd.func40, Tryd.ntmps40
      go_wp2_with fail
      refine (isOne_any _ _ _).mono ?_
      rintro e w1 ⟨rfl, hb⟩
      have s1 := ((((St.start0 w).box2 _ _ _).box2 _ _ _).box2 _ _ _).call hb
      simp only [allocSize] at s1
      have q1 := s1.hold
      simp only [Holds, and_true] at q1
      clear hb
      rw [decide_eq_true (rfl : p' = p')]
      go_wp2_with fail
      refine bodyPost_ret (v := (Value.agg #[Value.int .i64 (wiL p p' p'), Value.int .i64 (wiH q p' p')])) ?_ rfl ⟨rfl, ?_⟩
      · simp [results, Tryd.results40, go_sem, q1, wiL, wiH, c1, c2]
        try omega
      · (repeat' (first | exact s4.bel | exact s3.bel | exact s2.bel | exact s1.bel | exact hK.one.st.bel | refine Below.setCell ?_ (by dsimp only; omega) _ | refine Below.alloc ?_ (by first | (simp; done) | (simp; omega)) _ | refine Below.drew ?_ | exact Below.refl _ _))
  · go_enter Tryd.func40, Tryd.ntmps40
    go_wp2_with fail
    refine (isOne_any _ _ _).mono ?_
    rintro e w1 ⟨rfl, hb⟩
    have s1 := ((((St.start0 w).box2 48 (.int .i64 p) (.int .i64 q)).box2 48 (.int .i64 p') (.int .i64 q')).box2 48 (.int .i64 0) (.int .i64 0)).call hb
    simp only [allocSize] at s1
    have q1 := s1.hold
    simp only [Holds, and_true] at q1
    clear hb
    rw [decide_eq_false ho]
    go_wp2_with fail
    refine bodyPost_ret (v := (Value.agg #[Value.int .i64 (wiL p p' q'), Value.int .i64 (wiH q p' q')])) ?_ rfl ⟨rfl, ?_⟩
    · simp [results, Tryd.results40, go_sem, q1, wiL, wiH, ho]
    · (repeat' (first | exact s4.bel | exact s3.bel | exact s2.bel | exact s1.bel | exact hK.one.st.bel | refine Below.setCell ?_ (by dsimp only; omega) _ | refine Below.alloc ?_ (by first | (simp; done) | (simp; omega)) _ | refine Below.drew ?_ | exact Below.refl _ _))

set_option maxRecDepth 20000 in
set_option maxHeartbeats 2000000 in
theorem below_any (p q p' q' m y x : Int) (w : World) (hm : 0 ≤ m ∧ m ≤ 1) (h1 : Hid (∀ (z : Int) (W : World), z = -m → Calls Tryd.prog 43 #[.int .i64 q', .int .i64 z] W fun e w' => e = .returned (.int .i64 y) ∧ w' = W)) (h2 : Hid (∀ W, Calls Tryd.prog 43 #[.int .i64 p, .int .i64 m] W fun e w' => e = .returned (.int .i64 x) ∧ w' = W)) :
    Calls Tryd.prog 39 #[(Value.agg #[Value.int .i64 (p), Value.int .i64 (q)]), (Value.agg #[Value.int .i64 (p'), Value.int .i64 (q')]), .int .i64 m] w fun e w' => e = .returned (.tuple #[(Value.agg #[Value.int .i64 (meL p q (-9223372036854775807) y), Value.int .i64 (meH p q (-9223372036854775807) y)]), (Value.agg #[Value.int .i64 (meL p' q' x 9223372036854775807), Value.int .i64 (meH p' q' x 9223372036854775807)])]) ∧ Below w.heap.size w w' := by
  obtain ⟨m1, m2⟩ := hm
  have hT := hide (fun W => eto_any p q y W)
  have hF := hide (fun W => efrom_any p' q' x W)
  have hK0 := Kr.start w p q p' q' 48 48 48 48
  generalize meL p q (-9223372036854775807) y = z0 at *
  generalize meH p q (-9223372036854775807) y = z1 at *
  generalize meL p' q' x 9223372036854775807 = v0 at *
  generalize meH p' q' x 9223372036854775807 = v1 at *
  go_enter Tryd.func39, Tryd.ntmps39
  go_wp2_with fail
  go_region_held3 (fun w' => w'.cell? ⟨w.heap.size + 1, 0, none⟩ = some (.int .i64 (p')) ∧ w'.cell? ⟨w.heap.size + 1, 1, none⟩ = some (.int .i64 (q')) ∧ w'.cell? ⟨w.heap.size, 0, none⟩ = some (.int .i64 (p)) ∧ w'.cell? ⟨w.heap.size, 1, none⟩ = some (.int .i64 (q)) ∧ (w'.cell? ⟨w.heap.size + 1 + 1, 0, none⟩ = some (.int .i64 (intC w' (w.heap.size + 1 + 1) 0)) ∧ w'.cell? ⟨w.heap.size + 1 + 1, 1, none⟩ = some (.int .i64 (intC w' (w.heap.size + 1 + 1) 1)) ∧ w'.frozen? ⟨w.heap.size + 1 + 1, 0, none⟩ = false ∧ w'.frozen? ⟨w.heap.size + 1 + 1, 1, none⟩ = false ∧ w'.cell? ⟨w.heap.size + 1 + 1 + 1, 0, none⟩ = some (.int .i64 (intC w' (w.heap.size + 1 + 1 + 1) 0)) ∧ w'.cell? ⟨w.heap.size + 1 + 1 + 1, 1, none⟩ = some (.int .i64 (intC w' (w.heap.size + 1 + 1 + 1) 1)) ∧ w'.frozen? ⟨w.heap.size + 1 + 1 + 1, 0, none⟩ = false ∧ w'.frozen? ⟨w.heap.size + 1 + 1 + 1, 1, none⟩ = false ∧ Kr w w' ((w.heap.size + 1, 0, Value.int .i64 (p')) :: (w.heap.size + 1, 1, Value.int .i64 (q')) :: (w.heap.size, 0, Value.int .i64 (p)) :: (w.heap.size, 1, Value.int .i64 (q)) :: []) (w.heap.size + 1 + 1) (w.heap.size + 1 + 1 + 1))) (first | (exact keepR2u ((w.heap.size + 1, 0, Value.int .i64 (p')) :: (w.heap.size + 1, 1, Value.int .i64 (q')) :: (w.heap.size, 0, Value.int .i64 (p)) :: (w.heap.size, 1, Value.int .i64 (q)) :: []) (w.heap.size + 1 + 1) (w.heap.size + 1 + 1 + 1) rfl (by omega) (by assumption)) | (exact keepR2d ((w.heap.size + 1, 0, Value.int .i64 (p')) :: (w.heap.size + 1, 1, Value.int .i64 (q')) :: (w.heap.size, 0, Value.int .i64 (p)) :: (w.heap.size, 1, Value.int .i64 (q)) :: []) (w.heap.size + 1 + 1) (w.heap.size + 1 + 1 + 1) (by assumption)) | (exact keepR2 ((w.heap.size + 1, 0, Value.int .i64 (p')) :: (w.heap.size + 1, 1, Value.int .i64 (q')) :: (w.heap.size, 0, Value.int .i64 (p)) :: (w.heap.size, 1, Value.int .i64 (q)) :: []) (w.heap.size + 1 + 1) (w.heap.size + 1 + 1 + 1) (by assumption) (by assumption)) | (exact keepR2 ((w.heap.size + 1, 0, Value.int .i64 (p')) :: (w.heap.size + 1, 1, Value.int .i64 (q')) :: (w.heap.size, 0, Value.int .i64 (p)) :: (w.heap.size, 1, Value.int .i64 (q)) :: []) (w.heap.size + 1 + 1) (w.heap.size + 1 + 1 + 1) (Below.refl _ _) (by assumption)) | (exact (Kr.drew hK0).all))
    (first
      | (go_at_call_of 43 (Value.int IntKind.i64 q'); refine (h1.out _ _ ?hz).mono ?_; (case hz => first | rfl | exact wrap_small _ (by omega) (by omega)); rintro e w2 ⟨rfl, rfl⟩)
      | (go_at_call_of 43 (Value.int IntKind.i64 p); refine (h2.out _).mono ?_; rintro e w2 ⟨rfl, rfl⟩)
      | (go_at_call 47; refine (hT.out _).mono ?_; rintro e w3 ⟨rfl, hb3⟩)
      | (go_at_call 48; refine (hF.out _).mono ?_; rintro e w4 ⟨rfl, hb4⟩))
  have hK := (hK0.drew.call hb3).call hb4
  obtain ⟨n0, r0⟩ := hK.one.r0
  obtain ⟨n1, r1⟩ := hK.one.r1
  obtain ⟨k0, t0⟩ := hK.two.r0
  obtain ⟨k1, t1⟩ := hK.two.r1
  go_wp2_with fail
  refine bodyPost_ret (v := .tuple #[(Value.agg #[Value.int .i64 (z0), Value.int .i64 (z1)]), (Value.agg #[Value.int .i64 (v0), Value.int .i64 (v1)])]) ?_ rfl ⟨rfl, ?_⟩
  · simp [results, Tryd.results39, go_sem, r0, r1, t0, t1]
  · (repeat' (first | exact s4.bel | exact s3.bel | exact s2.bel | exact s1.bel | exact hK.one.st.bel | refine Below.setCell ?_ (by dsimp only; omega) _ | refine Below.alloc ?_ (by first | (simp; done) | (simp; omega)) _ | refine Below.drew ?_ | exact Below.refl _ _))

end Go.Proofs.YtijbjahedfmfgabDoor
