/- Zones: bounds without a variable's; a variable that is moved. -/
import Derived.Test.YtkngedinomngbaaDoorYd
import Derived.Test.YtkngedinomngbaaDoorYg
import Derived.Laws.EntriesVeiled
import Derived.BigQuiet
namespace Go.Proofs.YtkngedinomngbaaDoor
open Go.RowKit
set_option linter.unusedVariables false

def woF (f : Nat → Nat → Int) (x i j : Nat) : Int := if i ≠ j ∧ (i = x ∨ j = x) then 9223372036854775807 else f i j
def woM (d : Mat) (x : Nat) : Mat := fun i j => if i ≠ j ∧ (i = x ∨ j = x) then none else d i j
theorem wo_enc (d : Mat) (x i j : Nat) : woF (encM d) x i j = encM (woM d x) i j := by
  show (if i ≠ j ∧ (i = x ∨ j = x) then 9223372036854775807 else encB (d i j)) = encB (if i ≠ j ∧ (i = x ∨ j = x) then none else d i j)
  split <;> rfl

theorem enters_wo : Enters 95 := enters_of Tryd.func95 (by kernel_rfl) rfl
set_option maxRecDepth 20000 in
set_option maxHeartbeats 4000000 in
theorem wo_asks (n g cp len x bx bg : Nat) (f : Nat → Nat → Int) (w : World) (s : St w w (GZ g n f) ((bx, 0, Value.int .i64 x) :: (bg, 0, Value.int .i64 n) :: (bg, 1, Value.slice (some ⟨g, 0, none⟩) len cp) :: [])) (hl : Hid (len = n * n)) (hn : n ≤ 5) :
    Asks 95 #[.pointer (some ⟨bx, 0, none⟩), .pointer (some ⟨bg, 0, none⟩)] w n (woF f x) := by
  intro W i j hb hi hj
  have sW := (s.call hb).re
  obtain ⟨z, hz⟩ : ∃ z, z = woF f x i j := ⟨_, rfl⟩
  rw [← hz]
  obtain ⟨v, hv⟩ : ∃ v, v = f i j := ⟨_, rfl⟩
  have HA : Hid (∀ (W : World), GrI W g n f → Calls Tryd.prog 78 #[(.agg #[.int .i64 n, (.slice (some ⟨g, 0, none⟩) len cp)]), .int .i64 i, .int .i64 j] W fun e w' => e = .returned (.int .i64 v) ∧ Below W.heap.size W w') := fun W h => by rw [hv]; exact at_any n g cp len i j f W h hl hi hj (by omega)
  have Hz : Hid (z = if i ≠ j ∧ (i = x ∨ j = x) then 9223372036854775807 else v) := by show _ = _; rw [hz, hv]; rfl
  have q0 := sW.hold
  simp only [Holds, and_true] at q0
  clear s hz hv hl hb
  show Calls _ _ #[.int .i64 i, .int .i64 j, .pointer (some ⟨bx, 0, none⟩), .pointer (some ⟨bg, 0, none⟩)] _ _
  by_cases e1 : i = j
  · subst e1
    have hr : Hid (z = v) := by show _ = _; rw [Hz.out, if_neg (by simp)]
    clear Hz
    go_enter Tryd.func95, Tryd.ntmps95
    go_wp2_with fail
    refine (HA.out _ sW.sent).mono ?_
    rintro e w1 ⟨rfl, hb1⟩
    go_wp2_with fail
    go_ret
    exact ⟨ret_int (by rw [hr.out]), hb1⟩
  have e1b : ((i : Int) != (j : Int)) = true := by simp; omega
  by_cases e2 : i = x
  · subst e2
    have hr : Hid (z = 9223372036854775807) := by show _ = _; rw [Hz.out, if_pos ⟨e1, .inl rfl⟩]
    clear Hz
    go_enter Tryd.func95, Tryd.ntmps95
    go_wp2_with fail
    go_ret
    exact ⟨ret_int (by rw [hr.out]), Below.refl _ _⟩
  have e2b : ((i : Int) == (x : Int)) = false := by simp; omega
  by_cases e3 : j = x
  · subst e3
    have hr : Hid (z = 9223372036854775807) := by show _ = _; rw [Hz.out, if_pos ⟨e1, .inr rfl⟩]
    clear Hz
    go_enter Tryd.func95, Tryd.ntmps95
    go_wp2_with fail
    go_ret
    exact ⟨ret_int (by rw [hr.out]), Below.refl _ _⟩
  · have e3b : ((j : Int) == (x : Int)) = false := by simp; omega
    have hr : Hid (z = v) := by show _ = _; rw [Hz.out, if_neg (fun h => by rcases h.2 with h | h; exact e2 h; exact e3 h)]
    clear Hz
    go_enter Tryd.func95, Tryd.ntmps95
    go_wp2_with fail
    refine (HA.out _ sW.sent).mono ?_
    rintro e w1 ⟨rfl, hb1⟩
    go_wp2_with fail
    go_ret
    exact ⟨ret_int (by rw [hr.out]), hb1⟩

set_option maxRecDepth 20000 in
set_option maxHeartbeats 2000000 in
theorem without_any (n g cp len x : Nat) (f : Nat → Nat → Int) (w : World) (hG : GrI w g n f) (hl : Hid (len = n * n)) (hn : 1 ≤ n ∧ n ≤ 5) :
    Calls Tryd.prog 70 #[(.agg #[.int .i64 n, (.slice (some ⟨g, 0, none⟩) len cp)]), .int .i64 x] w fun e w' => GrPost w n len (woF f x) e w' := by
  have s0 := (((St.startG hG).box2 82 (.int .i64 n) (.slice (some ⟨g, 0, none⟩) len cp)).box1 3 (.int .i64 x)).box2 82 (.int .i64 0) (.slice none 0 0)
  simp only [World.size_alloc] at s0
  obtain ⟨F, hF⟩ : ∃ F, F = woF f x := ⟨_, rfl⟩
  have HO : Hid (∀ W : World, St W W (GZ g n f) [(w.heap.size + 1, 0, Value.int .i64 x), (w.heap.size, 0, Value.int .i64 n), (w.heap.size, 1, (.slice (some ⟨g, 0, none⟩) len cp))] → Calls Tryd.prog 80 #[.int .i64 n, .func (.func 95) #[] #[.pointer (some ⟨w.heap.size + 1, 0, none⟩), .pointer (some ⟨w.heap.size, 0, none⟩)]] W fun e w' => GrPost W n len F e w') := by
    intro W h
    rw [hF]
    exact of_any _ _ n len _ W hl (by omega) enters_wo (wo_asks n g cp len x _ _ f W h hl hn.2)
  have HS : Hid (∀ W : World, Calls Tryd.prog 91 #[(.agg #[.int .i64 n, (.slice (some ⟨g, 0, none⟩) len cp)])] W fun e w' => e = .returned (.int .i64 n) ∧ Below W.heap.size W w') := fun W => size_any n .nilIface rfl g len cp W
  rw [← hF]
  clear hF hG hl
  go_enter Tryd.func70, Tryd.ntmps70
  go_wp2_with fail
  refine (HS.out _).mono ?_
  rintro e w0 ⟨rfl, hb0⟩
  have s0' := s0.call hb0
  have q0 := s0'.hold
  simp only [Holds, and_true] at q0
  clear s0 hb0
  go_wp2_with fail
  refine (HO.out _ (s0'.re.drop 2)).mono ?_
  rintro e w1 ⟨g1, cp1, rfl, hg1, hG1, hb1⟩
  have s1 := s0'.call hb1
  have q1 := s1.hold
  simp only [Holds, and_true] at q1
  have sz0 : w.heap.size + 1 + 1 < w0.heap.size := q0.1.2.1
  clear s0' hb1 q0
  go_wp2_with fail
  refine bodyPost_ret (v := (.agg #[.int .i64 n, (.slice (some ⟨g1, 0, none⟩) len cp1)])) (by simp [results, Tryd.results70, go_sem, q1]) rfl ⟨g1, cp1, rfl, by omega, ?_, ?_⟩
  · exact (hG1.other (by show w.heap.size + 1 + 1 ≠ g1; omega) _).other (by show w.heap.size + 1 + 1 ≠ g1; omega) _
  · iterate 2 refine Below.setCell ?_ (by first | (simp; done) | (simp; omega)) _
    exact s1.bel

theorem belowN' {B : Nat} {w w' : World} (h : Below B w w') (n : Nat) : Below B w (w'.drewN n) := by
  induction n with
  | zero => exact h
  | succ n ih => exact ih.drew
def stI (x y i : Nat) : Nat := if i = x then y else i
def shI (x : Nat) (c : Int) (i : Nat) : Int := if i = x then c else 0
def mvF (f : Nat → Nat → Int) (x y : Nat) (c : Int) (i j : Nat) : Int := plusI (f (stI x y i) (stI x y j)) (shI x c j - shI x c i)
def mvM (d : Mat) (x y : Nat) (c : Int) : Mat := fun i j => addB (d (stI x y i) (stI x y j)) (some (shI x c j - shI x c i))
theorem stI_lt {n x y i : Nat} (hy : y < n) (hi : i < n) : stI x y i < n := by unfold stI; split <;> assumption
theorem shI_small {x : Nat} {c : Int} (hc : c.natAbs ≤ 1099511627776) (i : Nat) : (shI x c i).natAbs ≤ 1099511627776 := by unfold shI; split; exact hc; simp
theorem mv_enc {n m : Nat} {d : Mat} (hS : Sz n m d) (hm : m ≤ 2305843009213693952) {x y : Nat} {c : Int} (hc : c.natAbs ≤ 1099511627776) (hy : y < n) {i j : Nat} (hi : i < n) (hj : j < n) : mvF (encM d) x y c i j = encM (mvM d x y c) i j := by
  show plusI (encB (d (stI x y i) (stI x y j))) (shI x c j - shI x c i) = encB (addB (d (stI x y i) (stI x y j)) (some (shI x c j - shI x c i)))
  have h1 := shI_small (x := x) hc i
  have h2 := shI_small (x := x) hc j
  rw [enc_add (hS.ok hm (stI_lt hy hi) (stI_lt hy hj)) (fun v hv => by simp at hv; omega)]
  rfl
theorem mv_ok {n m : Nat} {d : Mat} (hS : Sz n m d) (hm : m ≤ 2305843009213693952) {x y : Nat} {c : Int} (hc : c.natAbs ≤ 1099511627776) (hy : y < n) {i j : Nat} (hi : i < n) (hj : j < n) : plusOk (encM d (stI x y i) (stI x y j)) (shI x c j - shI x c i) := by
  have h1 := shI_small (x := x) hc i
  have h2 := shI_small (x := x) hc j
  have h3 := enc_sum (hS.ok hm (stI_lt (x := x) hy hi) (stI_lt (x := x) hy hj))
  unfold plusOk encM
  omega

set_option maxHeartbeats 1000000 in
theorem stood_any (x y i bx by_ bc : Nat) (c : Int) (W : World) (c1 : W.cell? ⟨bx, 0, none⟩ = some (.int .i64 x)) (c2 : W.cell? ⟨by_, 0, none⟩ = some (.int .i64 y)) (c3 : W.cell? ⟨bc, 0, none⟩ = some (.int .i64 c)) :
    Calls Tryd.prog 96 #[.int .i64 i, .pointer (some ⟨bx, 0, none⟩), .pointer (some ⟨by_, 0, none⟩), .pointer (some ⟨bc, 0, none⟩)] W fun e w' => e = .returned (.tuple #[.int .i64 (stI x y i), .int .i64 (shI x c i)]) ∧ Below W.heap.size W w' := by
  by_cases h : i = x
  · subst h
    have e1 : stI i y i = y := by simp [stI]
    have e2 : shI i c i = c := by simp [shI]
    rw [e1, e2]
    clear e1 e2
    go_enter Tryd.func96, Tryd.ntmps96
    go_wp2_with fail
    go_quiet (fail)
    go_wp2_with fail
    exact bodyPost_ret (v := .tuple #[.int .i64 y, .int .i64 c]) (by simp [results, Tryd.results96, go_sem]) rfl ⟨rfl, belowN' (Below.refl _ _) _⟩
  · have e1 : stI x y i = i := by simp [stI, h]
    have e2 : shI x c i = 0 := by simp [shI, h]
    rw [e1, e2]
    clear e1 e2
    have hb : ((i : Int) == (x : Int)) = false := by simp; omega
    have hb' : ¬ (i : Int) = (x : Int) := by omega
    go_enter Tryd.func96, Tryd.ntmps96
    go_wp2_with fail
    exact bodyPost_ret (v := .tuple #[.int .i64 i, .int .i64 0]) (by simp [results, Tryd.results96, go_sem]) rfl ⟨rfl, Below.refl _ _⟩

theorem enters_mv : Enters 97 := enters_of Tryd.func97 (by kernel_rfl) rfl
set_option maxRecDepth 20000 in
set_option maxHeartbeats 4000000 in
theorem mv_asks (n g cp len x y bf bg bx by_ bc : Nat) (c : Int) (f : Nat → Nat → Int) (w : World) (s : St w w (GZ g n f) ((bf, 0, (Value.func (.func 96) #[] #[.pointer (some ⟨bx, 0, none⟩), .pointer (some ⟨by_, 0, none⟩), .pointer (some ⟨bc, 0, none⟩)])) :: (bg, 0, Value.int .i64 n) :: (bg, 1, Value.slice (some ⟨g, 0, none⟩) len cp) :: (bx, 0, Value.int .i64 x) :: (by_, 0, Value.int .i64 y) :: (bc, 0, Value.int .i64 c) :: [])) (hl : Hid (len = n * n)) (hn : n ≤ 5) (hy : y < n) (hc : Hid (c.natAbs ≤ 1099511627776)) (hP : Hid (∀ i j, i < n → j < n → plusOk (f (stI x y i) (stI x y j)) (shI x c j - shI x c i))) :
    Asks 97 #[.pointer (some ⟨bf, 0, none⟩), .pointer (some ⟨bg, 0, none⟩)] w n (mvF f x y c) := by
  intro W i j hb hi hj
  have sW := (s.call hb).re
  obtain ⟨z, hz⟩ : ∃ z, z = mvF f x y c i j := ⟨_, rfl⟩
  rw [← hz]
  obtain ⟨a1, ha1⟩ : ∃ v, v = stI x y i := ⟨_, rfl⟩
  obtain ⟨a2, ha2⟩ : ∃ v, v = stI x y j := ⟨_, rfl⟩
  obtain ⟨d1, hd1⟩ : ∃ v, v = shI x c i := ⟨_, rfl⟩
  obtain ⟨d2, hd2⟩ : ∃ v, v = shI x c j := ⟨_, rfl⟩
  have H1 : Hid (∀ W : World, W.cell? ⟨bx, 0, none⟩ = some (.int .i64 x) → W.cell? ⟨by_, 0, none⟩ = some (.int .i64 y) → W.cell? ⟨bc, 0, none⟩ = some (.int .i64 c) → Calls Tryd.prog 96 #[.int .i64 i, .pointer (some ⟨bx, 0, none⟩), .pointer (some ⟨by_, 0, none⟩), .pointer (some ⟨bc, 0, none⟩)] W fun e w' => e = .returned (.tuple #[.int .i64 a1, .int .i64 d1]) ∧ Below W.heap.size W w') := fun W h1 h2 h3 => by rw [ha1, hd1]; exact stood_any x y i bx by_ bc c W h1 h2 h3
  have H2 : Hid (∀ W : World, W.cell? ⟨bx, 0, none⟩ = some (.int .i64 x) → W.cell? ⟨by_, 0, none⟩ = some (.int .i64 y) → W.cell? ⟨bc, 0, none⟩ = some (.int .i64 c) → Calls Tryd.prog 96 #[.int .i64 j, .pointer (some ⟨bx, 0, none⟩), .pointer (some ⟨by_, 0, none⟩), .pointer (some ⟨bc, 0, none⟩)] W fun e w' => e = .returned (.tuple #[.int .i64 a2, .int .i64 d2]) ∧ Below W.heap.size W w') := fun W h1 h2 h3 => by rw [ha2, hd2]; exact stood_any x y j bx by_ bc c W h1 h2 h3
  obtain ⟨v, hv⟩ : ∃ v, v = f a1 a2 := ⟨_, rfl⟩
  have HA : Hid (∀ (W : World), GrI W g n f → Calls Tryd.prog 78 #[(.agg #[.int .i64 n, (.slice (some ⟨g, 0, none⟩) len cp)]), .int .i64 a1, .int .i64 a2] W fun e w' => e = .returned (.int .i64 v) ∧ Below W.heap.size W w') := fun W h => by rw [hv]; exact at_any n g cp len a1 a2 f W h hl (by rw [ha1]; exact stI_lt hy hi) (by rw [ha2]; exact stI_lt hy hj) (by omega)
  have HP : Hid (∀ W : World, Calls Tryd.prog 98 #[.int .i64 v, .int .i64 (d2 - d1)] W fun e w' => e = .returned (.int .i64 z) ∧ w' = W) := fun W => by
    have hz' : z = plusI v (d2 - d1) := by rw [hz, hv, ha1, ha2, hd1, hd2]; rfl
    rw [hz']
    exact plus_any _ _ W (by rw [hv, ha1, ha2, hd1, hd2]; exact hP.out i j hi hj)
  have u1 := shI_small (x := x) hc.out i
  have u2 := shI_small (x := x) hc.out j
  rw [← hd1] at u1
  rw [← hd2] at u2
  have u3 : -2199023255552 ≤ d2 - d1 ∧ d2 - d1 ≤ 2199023255552 := by omega
  have q0 := sW.hold
  simp only [Holds, and_true] at q0
  clear s hz hv ha1 ha2 hd1 hd2 hl hb hP hc u1 u2
  show Calls _ _ #[.int .i64 i, .int .i64 j, .pointer (some ⟨bf, 0, none⟩), .pointer (some ⟨bg, 0, none⟩)] _ _
  go_enter Tryd.func97, Tryd.ntmps97
  go_wp2_with fail
  refine (H1.out _ q0.2.2.2.1.1 q0.2.2.2.2.1.1 q0.2.2.2.2.2.1).mono ?_
  rintro e w1 ⟨rfl, hb1⟩
  have s1 := sW.call hb1
  have q1 := s1.hold
  simp only [Holds, and_true] at q1
  clear q0 hb1
  go_wp2_with fail
  refine (H2.out _ q1.2.2.2.1.1 q1.2.2.2.2.1.1 q1.2.2.2.2.2.1).mono ?_
  rintro e w2 ⟨rfl, hb2⟩
  have s2 := s1.call hb2
  have q2 := s2.hold
  simp only [Holds, and_true] at q2
  clear q1 hb2
  go_wp2_with fail
  refine (HA.out _ s2.sent).mono ?_
  rintro e w3 ⟨rfl, hb3⟩
  have s3 := s2.call hb3
  clear q2
  go_wp2_with fail
  refine (HP.out _).mono ?_
  rintro e w4 ⟨rfl, hw4⟩
  rw [hw4]
  go_wp2_with fail
  go_ret
  exact ⟨rfl, s3.bel⟩

set_option maxRecDepth 20000 in
set_option maxHeartbeats 2000000 in
theorem moved_any (n g cp len x y : Nat) (c : Int) (f : Nat → Nat → Int) (w : World) (hG : GrI w g n f) (hl : Hid (len = n * n)) (hn : 1 ≤ n ∧ n ≤ 5) (hy : y < n) (hc : Hid (c.natAbs ≤ 1099511627776)) (hP : Hid (∀ i j, i < n → j < n → plusOk (f (stI x y i) (stI x y j)) (shI x c j - shI x c i))) :
    Calls Tryd.prog 73 #[(.agg #[.int .i64 n, (.slice (some ⟨g, 0, none⟩) len cp)]), .int .i64 x, .int .i64 y, .int .i64 c] w fun e w' => GrPost w n len (mvF f x y c) e w' := by
  have s0 := ((((((St.startG hG).box2 82 (.int .i64 n) (.slice (some ⟨g, 0, none⟩) len cp)).box1 3 (.int .i64 x)).box1 3 (.int .i64 y)).box1 3 (.int .i64 c)).box2 82 (.int .i64 0) (.slice none 0 0)).box1 127 (.func (.func 96) #[] #[.pointer (some ⟨w.heap.size + 1, 0, none⟩), .pointer (some ⟨w.heap.size + 1 + 1, 0, none⟩), .pointer (some ⟨w.heap.size + 1 + 1 + 1, 0, none⟩)])
  simp only [World.size_alloc] at s0
  obtain ⟨F, hF⟩ : ∃ F, F = mvF f x y c := ⟨_, rfl⟩
  have HO : Hid (∀ W : World, St W W (GZ g n f) [(w.heap.size + 1 + 1 + 1 + 1 + 1, 0, (.func (.func 96) #[] #[.pointer (some ⟨w.heap.size + 1, 0, none⟩), .pointer (some ⟨w.heap.size + 1 + 1, 0, none⟩), .pointer (some ⟨w.heap.size + 1 + 1 + 1, 0, none⟩)])), (w.heap.size + 1 + 1 + 1 + 1, 0, Value.int .i64 0), (w.heap.size + 1 + 1 + 1 + 1, 1, Value.slice none 0 0), (w.heap.size + 1 + 1 + 1, 0, Value.int .i64 c), (w.heap.size + 1 + 1, 0, Value.int .i64 y), (w.heap.size + 1, 0, Value.int .i64 x), (w.heap.size, 0, Value.int .i64 n), (w.heap.size, 1, (.slice (some ⟨g, 0, none⟩) len cp))] → Calls Tryd.prog 80 #[.int .i64 n, .func (.func 97) #[] #[.pointer (some ⟨w.heap.size + 1 + 1 + 1 + 1 + 1, 0, none⟩), .pointer (some ⟨w.heap.size, 0, none⟩)]] W fun e w' => GrPost W n len F e w') := by
    intro W h
    rw [hF]
    refine of_any _ _ n len _ W hl (by omega) enters_mv (mv_asks n g cp len x y (w.heap.size + 1 + 1 + 1 + 1 + 1) w.heap.size (w.heap.size + 1) (w.heap.size + 1 + 1) (w.heap.size + 1 + 1 + 1) c f W ⟨h.bel, ?_, h.sent, h.cl⟩ hl hn.2 hy hc hP)
    have := h.hold
    exact ⟨this.1, this.2.2.2.2.2.2.1, this.2.2.2.2.2.2.2.1, this.2.2.2.2.2.1, this.2.2.2.2.1, this.2.2.2.1, trivial⟩
  have HS : Hid (∀ W : World, Calls Tryd.prog 91 #[(.agg #[.int .i64 n, (.slice (some ⟨g, 0, none⟩) len cp)])] W fun e w' => e = .returned (.int .i64 n) ∧ Below W.heap.size W w') := fun W => size_any n .nilIface rfl g len cp W
  rw [← hF]
  clear hF hG hl hc hP
  go_enter Tryd.func73, Tryd.ntmps73
  go_wp2_with fail
  refine (HS.out _).mono ?_
  rintro e w0 ⟨rfl, hb0⟩
  have s0' := s0.call hb0
  have q0 := s0'.hold
  simp only [Holds, and_true] at q0
  clear s0 hb0
  go_wp2_with fail
  refine (HO.out _ s0'.re).mono ?_
  rintro e w1 ⟨g1, cp1, rfl, hg1, hG1, hb1⟩
  have s1 := s0'.call hb1
  have q1 := s1.hold
  simp only [Holds, and_true] at q1
  have sz0 : w.heap.size + 1 + 1 + 1 + 1 + 1 < w0.heap.size := q0.1.2.1
  clear s0' hb1 q0
  go_wp2_with fail
  refine bodyPost_ret (v := (.agg #[.int .i64 n, (.slice (some ⟨g1, 0, none⟩) len cp1)])) (by simp [results, Tryd.results73, go_sem, q1]) rfl ⟨g1, cp1, rfl, by omega, ?_, ?_⟩
  · exact (hG1.other (by show w.heap.size + 1 + 1 + 1 + 1 ≠ g1; omega) _).other (by show w.heap.size + 1 + 1 + 1 + 1 ≠ g1; omega) _
  · iterate 2 refine Below.setCell ?_ (by first | (simp; done) | (simp; omega)) _
    exact s1.bel
end Go.Proofs.YtkngedinomngbaaDoor
