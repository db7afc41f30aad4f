/- Octagons: bounds without a variable's; a variable that is moved. -/
import Derived.Test.YtofjjaabgfmnpaaDoorOb
import Derived.Test.YtofjjaabgfmnpaaDoorOe
import Derived.Test.YtofjjaabgfmnpaaDoorO1
import Derived.Laws.EntriesVeiled
import Derived.BigQuiet
namespace Go.Proofs.YtofjjaabgfmnpaaDoor
open Go.RowKit
set_option linter.unusedVariables false

def woFO (f : Nat → Nat → Int) (x i j : Nat) : Int := if i ≠ j ∧ (i / 2 = x ∨ j / 2 = x) then 9223372036854775807 else f i j
theorem woO_enc (d : Mat) (x i j : Nat) : woFO (encM d) x i j = encM (woO d x) i j := by
  show (if i ≠ j ∧ (i / 2 = x ∨ j / 2 = x) then 9223372036854775807 else encB (d i j)) = encB (if i ≠ j ∧ (i / 2 = x ∨ j / 2 = x) then none else d i j)
  split <;> rfl

theorem enters_woO : Enters 104 := enters_of Tryd.func104 (by kernel_rfl) rfl
set_option maxRecDepth 20000 in
set_option maxHeartbeats 4000000 in
theorem woO_asks (n g cp len x bx bg : Nat) (f : Nat → Nat → Int) (w : World) (s : St w w (GZ g n f) ((bx, 0, Value.int .i64 x) :: (bg, 0, Value.int .i64 n) :: (bg, 1, Value.slice (some ⟨g, 0, none⟩) len cp) :: [])) (hl : Hid (len = n * n)) (hn : n ≤ 8) :
    Asks 104 #[.pointer (some ⟨bx, 0, none⟩), .pointer (some ⟨bg, 0, none⟩)] w n (woFO f x) := by
  intro W i j hb hi hj
  have sW := (s.call hb).re
  obtain ⟨z, hz⟩ : ∃ z, z = woFO f x i j := ⟨_, rfl⟩
  rw [← hz]
  obtain ⟨v, hv⟩ : ∃ v, v = f i j := ⟨_, rfl⟩
  have HA : Hid (∀ (W : World), GrI W g n f → Calls Tryd.prog 97 #[(.agg #[.int .i64 n, (.slice (some ⟨g, 0, none⟩) len cp)]), .int .i64 i, .int .i64 j] W fun e w' => e = .returned (.int .i64 v) ∧ Below W.heap.size W w') := fun W h => by rw [hv]; exact at_any n g cp len i j f W h hl hi hj (by omega)
  have Hz : Hid (z = if i ≠ j ∧ (i / 2 = x ∨ j / 2 = x) then 9223372036854775807 else v) := by show _ = _; rw [hz, hv]; rfl
  have q0 := sW.hold
  simp only [Holds, and_true] at q0
  obtain ⟨i2, hi2⟩ : ∃ k, k = i / 2 := ⟨_, rfl⟩
  obtain ⟨j2, hj2⟩ : ∃ k, k = j / 2 := ⟨_, rfl⟩
  rw [← hi2, ← hj2] at Hz
  have d1 : (i : Int) / 2 = (i2 : Int) := by omega
  have d2 : (j : Int) / 2 = (j2 : Int) := by omega
  clear s hz hv hl hb hi2 hj2
  show Calls _ _ #[.int .i64 i, .int .i64 j, .pointer (some ⟨bx, 0, none⟩), .pointer (some ⟨bg, 0, none⟩)] _ _
  by_cases e1 : i = j
  · subst e1
    have hr : Hid (z = v) := by show _ = _; rw [Hz.out, if_neg (by simp)]
    clear Hz
    go_enter Tryd.func104, Tryd.ntmps104
    go_wp2_with fail
    refine (HA.out _ sW.sent).mono ?_
    rintro e w1 ⟨rfl, hb1⟩
    go_wp2_with fail
    go_ret
    exact ⟨ret_int (by rw [hr.out]), hb1⟩
  have e1b : ((i : Int) != (j : Int)) = true := by simp; omega
  by_cases e2 : i2 = x
  · have hr : Hid (z = 9223372036854775807) := by show _ = _; rw [Hz.out, if_pos ⟨e1, .inl e2⟩]
    have e2b : ((i2 : Int) == (x : Int)) = true := by simp; omega
    have e2c : (i2 : Int) = (x : Int) := by omega
    clear Hz
    go_enter Tryd.func104, Tryd.ntmps104
    go_wp2_with fail
    go_ret
    exact ⟨ret_int (by rw [hr.out]), Below.refl _ _⟩
  have e2b : ((i2 : Int) == (x : Int)) = false := by simp; omega
  by_cases e3 : j2 = x
  · have e3b : ((j2 : Int) == (x : Int)) = true := by simp; omega
    have e3c : (j2 : Int) = (x : Int) := by omega
    have hr : Hid (z = 9223372036854775807) := by show _ = _; rw [Hz.out, if_pos ⟨e1, .inr e3⟩]
    clear Hz
    go_enter Tryd.func104, Tryd.ntmps104
    go_wp2_with fail
    go_ret
    exact ⟨ret_int (by rw [hr.out]), Below.refl _ _⟩
  · have e3b : ((j2 : Int) == (x : Int)) = false := by simp; omega
    have hr : Hid (z = v) := by show _ = _; rw [Hz.out, if_neg (fun h => by rcases h.2 with h | h; exact e2 h; exact e3 h)]
    clear Hz
    go_enter Tryd.func104, Tryd.ntmps104
    go_wp2_with fail
    refine (HA.out _ sW.sent).mono ?_
    rintro e w1 ⟨rfl, hb1⟩
    go_wp2_with fail
    go_ret
    exact ⟨ret_int (by rw [hr.out]), hb1⟩

set_option maxRecDepth 20000 in
set_option maxHeartbeats 2000000 in
theorem withoutO_any (n g cp len x : Nat) (f : Nat → Nat → Int) (w : World) (hG : GrI w g n f) (hl : Hid (len = n * n)) (hn : n ≤ 8) :
    Calls Tryd.prog 74 #[(.agg #[.int .i64 n, (.slice (some ⟨g, 0, none⟩) len cp)]), .int .i64 x] w fun e w' => GrPost w n len (woFO f x) e w' := by
  have s0 := (((St.startG hG).box2 84 (.int .i64 n) (.slice (some ⟨g, 0, none⟩) len cp)).box1 3 (.int .i64 x)).box2 84 (.int .i64 0) (.slice none 0 0)
  simp only [World.size_alloc] at s0
  obtain ⟨F, hF⟩ : ∃ F, F = woFO f x := ⟨_, rfl⟩
  have HO : Hid (∀ W : World, St W W (GZ g n f) [(w.heap.size + 1, 0, Value.int .i64 x), (w.heap.size, 0, Value.int .i64 n), (w.heap.size, 1, (.slice (some ⟨g, 0, none⟩) len cp))] → Calls Tryd.prog 85 #[.int .i64 n, .func (.func 104) #[] #[.pointer (some ⟨w.heap.size + 1, 0, none⟩), .pointer (some ⟨w.heap.size, 0, none⟩)]] W fun e w' => GrPost W n len F e w') := by
    intro W h
    rw [hF]
    exact of_any _ _ n len _ W hl (by omega) enters_woO (woO_asks n g cp len x _ _ f W h hl hn)
  have HS : Hid (∀ W : World, Calls Tryd.prog 95 #[(.agg #[.int .i64 n, (.slice (some ⟨g, 0, none⟩) len cp)])] W fun e w' => e = .returned (.int .i64 n) ∧ Below W.heap.size W w') := fun W => size_any n .nilIface rfl g len cp W
  rw [← hF]
  clear hF hG hl
  go_enter Tryd.func74, Tryd.ntmps74
  go_wp2_with fail
  refine (HS.out _).mono ?_
  rintro e w0 ⟨rfl, hb0⟩
  have s0' := s0.call hb0
  have q0 := s0'.hold
  simp only [Holds, and_true] at q0
  clear s0 hb0
  go_wp2_with fail
  refine (HO.out _ (s0'.re.drop 2)).mono ?_
  rintro e w1 ⟨g1, cp1, rfl, hg1, hG1, hb1⟩
  have s1 := s0'.call hb1
  have q1 := s1.hold
  simp only [Holds, and_true] at q1
  have sz0 : w.heap.size + 1 + 1 < w0.heap.size := q0.1.2.1
  clear s0' hb1 q0
  go_wp2_with fail
  refine bodyPost_ret (v := (.agg #[.int .i64 n, (.slice (some ⟨g1, 0, none⟩) len cp1)])) (by simp [results, Tryd.results74, go_sem, q1]) rfl ⟨g1, cp1, rfl, by omega, ?_, ?_⟩
  · exact (hG1.other (by show w.heap.size + 1 + 1 ≠ g1; omega) _).other (by show w.heap.size + 1 + 1 ≠ g1; omega) _
  · iterate 2 refine Below.setCell ?_ (by first | (simp; done) | (simp; omega)) _
    exact s1.bel

/-- Where something stands, as the program writes it. -/
def oI : Option Nat → Int
  | none => -1
  | some i => i
def apF (f : Nat → Nat → Int) : Option Nat → Option Nat → Int
  | none, none => 0
  | none, some j => topI f j
  | some i, none => topI f (bar i)
  | some i, some j => f i j
def mvFO (f : Nat → Nat → Int) (x : Nat) (s : Int) (y : Nat) (c : Int) (i j : Nat) : Int := plusI (apF f (stO x s y i) (stO x s y j)) (shO x c j - shO x c i)
theorem apM_sz {n m : Nat} {d : Mat} (hS : Sz n m d) (he : n % 2 = 0) {a b : Option Nat} (ha : oLt n a) (hb : oLt n b) : ∀ v, apM d a b = some v → v.natAbs ≤ m := by
  intro v hv
  cases a with
  | none =>
    cases b with
    | none => simp [apM] at hv; subst hv; simp
    | some j => exact ok_top hS he hb v hv
  | some i =>
    cases b with
    | none => exact ok_top hS he (bar_lt he ha) v hv
    | some j => exact hS i j ha hb v hv
theorem ap_enc {n m : Nat} {d : Mat} (hS : Sz n m d) (hm : m ≤ 2305843009213693952) (he : n % 2 = 0) {a b : Option Nat} (ha : oLt n a) (hb : oLt n b) : apF (encM d) a b = encB (apM d a b) := by
  cases a with
  | none =>
    cases b with
    | none => rfl
    | some j => exact top_enc hS hm he hb
  | some i =>
    cases b with
    | none => exact top_enc hS hm he (bar_lt he ha)
    | some j => rfl
theorem shO_small {x : Nat} {c : Int} (hc : c.natAbs ≤ 1099511627776) (i : Nat) : (shO x c i).natAbs ≤ 1099511627776 := by
  unfold shO; split
  · exact hc
  · split
    · omega
    · simp
theorem mvO_enc {n m : Nat} {d : Mat} (hS : Sz n m d) (hm : m ≤ 2305843009213693952) (he : n % 2 = 0) {x y : Nat} {s c : Int} (hc : c.natAbs ≤ 1099511627776) (hy : 2 * y + 1 < n) {i j : Nat} (hi : i < n) (hj : j < n) : mvFO (encM d) x s y c i j = encM (mvO d x s y c) i j := by
  have a1 := stO_lt (x := x) hy hi s
  have a2 := stO_lt (x := x) hy hj s
  have h1 := shO_small (x := x) hc i
  have h2 := shO_small (x := x) hc j
  show plusI (apF (encM d) _ _) _ = encB (addB _ (some _))
  rw [ap_enc hS hm he a1 a2, enc_add (fun v hv => Nat.le_trans (apM_sz hS he a1 a2 v hv) hm) (fun v hv => by simp at hv; omega)]
  rfl
theorem mvO_ok {n m : Nat} {d : Mat} (hS : Sz n m d) (hm : m ≤ 2305843009213693952) (he : n % 2 = 0) {x y : Nat} {s c : Int} (hc : c.natAbs ≤ 1099511627776) (hy : 2 * y + 1 < n) {i j : Nat} (hi : i < n) (hj : j < n) : plusOk (apF (encM d) (stO x s y i) (stO x s y j)) (shO x c j - shO x c i) := by
  have a1 := stO_lt (x := x) hy hi s
  have a2 := stO_lt (x := x) hy hj s
  have h1 := shO_small (x := x) hc i
  have h2 := shO_small (x := x) hc j
  rw [ap_enc hS hm he a1 a2]
  have h3 := enc_sum (b := apM d (stO x s y i) (stO x s y j)) (fun v hv => Nat.le_trans (apM_sz hS he a1 a2 v hv) hm)
  unfold plusOk
  omega
theorem oI_oix {s : Int} (hs : s = 1 ∨ s = -1 ∨ s = 0) (y : Nat) : oI (oix s y) = idxI s y := by
  rcases hs with rfl | rfl | rfl <;> simp [oI, oix, idxI]

set_option maxRecDepth 20000 in
set_option maxHeartbeats 4000000 in
theorem apart_any (n g cp len : Nat) (a b : Option Nat) (f : Nat → Nat → Int) (w : World) (hG : GrI w g n f) (hl : Hid (len = n * n)) (hn : n ≤ 8) (he : n % 2 = 0) (ha : oLt n a) (hb : oLt n b) :
    Calls Tryd.prog 107 #[(.agg #[.int .i64 n, (.slice (some ⟨g, 0, none⟩) len cp)]), .int .i64 (oI a), .int .i64 (oI b)] w fun e w' => e = .returned (.int .i64 (apF f a b)) ∧ Below w.heap.size w w' := by
  have s0 := (St.startG hG).box2 84 (.int .i64 n) (.slice (some ⟨g, 0, none⟩) len cp)
  have q0 := s0.hold
  simp only [Holds, and_true] at q0
  have HT : Hid (∀ (W : World) (k : Nat), k < n → GrI W g n f → Calls Tryd.prog 83 #[(.agg #[.int .i64 n, (.slice (some ⟨g, 0, none⟩) len cp)]), .int .i64 k] W fun e w' => e = .returned (.int .i64 (topI f k)) ∧ Below W.heap.size W w') := fun W k hk h => top_any n g cp len k f W h hl hk hn he
  have HA : Hid (∀ (W : World) (i j : Nat), i < n → j < n → GrI W g n f → Calls Tryd.prog 97 #[(.agg #[.int .i64 n, (.slice (some ⟨g, 0, none⟩) len cp)]), .int .i64 i, .int .i64 j] W fun e w' => e = .returned (.int .i64 (f i j)) ∧ Below W.heap.size W w') := fun W i j hi hj h => at_any n g cp len i j f W h hl hi hj hn
  have HO : Hid (∀ (W : World) (k : Nat), k < n → Calls Tryd.prog 93 #[.int .i64 k] W fun e w' => e = .returned (.int .i64 (bar k : Nat)) ∧ w' = W) := fun W k hk => opposite_any k (by omega) W
  cases a with
  | none =>
    cases b with
    | none =>
      show Calls _ _ #[_, .int .i64 (-1), .int .i64 (-1)] _ fun e w' => e = .returned (.int .i64 0) ∧ _
      clear hl
      go_enter Tryd.func107, Tryd.ntmps107
      go_wp2_with fail
      go_ret
      exact ⟨rfl, s0.bel⟩
    | some j =>
      have hj : j < n := hb
      have nj : ((j : Int) == -1) = false := by first | (simp; done) | (simp; omega)
      have nj' : ¬ (j : Int) = -1 := by omega
      show Calls _ _ #[_, .int .i64 (-1), .int .i64 j] _ fun e w' => e = .returned (.int .i64 (topI f j)) ∧ _
      obtain ⟨v, hv⟩ : ∃ v, v = topI f j := ⟨_, rfl⟩
      have HT1 : Hid (∀ (W : World), GrI W g n f → Calls Tryd.prog 83 #[(.agg #[.int .i64 n, (.slice (some ⟨g, 0, none⟩) len cp)]), .int .i64 j] W fun e w' => e = .returned (.int .i64 v) ∧ Below W.heap.size W w') := fun W h => by rw [hv]; exact HT.out W j hj h
      rw [← hv]
      clear hl hv HT HA HO
      go_enter Tryd.func107, Tryd.ntmps107
      go_wp2_with fail
      refine (HT1.out _ s0.sent).mono ?_
      rintro e w1 ⟨rfl, hb1⟩
      have s1 := s0.call hb1
      go_wp2_with fail
      go_ret
      exact ⟨rfl, s1.bel⟩
  | some i =>
    have hi : i < n := ha
    have ni : ((i : Int) == -1) = false := by first | (simp; done) | (simp; omega)
    have ni' : ¬ (i : Int) = -1 := by omega
    cases b with
    | none =>
      show Calls _ _ #[_, .int .i64 i, .int .i64 (-1)] _ fun e w' => e = .returned (.int .i64 (topI f (bar i))) ∧ _
      obtain ⟨v, hv⟩ : ∃ v, v = topI f (bar i) := ⟨_, rfl⟩
      obtain ⟨bi, hbi⟩ : ∃ k, k = bar i := ⟨_, rfl⟩
      have HO1 : Hid (∀ (W : World), Calls Tryd.prog 93 #[.int .i64 i] W fun e w' => e = .returned (.int .i64 (bi : Nat)) ∧ w' = W) := fun W => by rw [hbi]; exact HO.out W i hi
      have HT1 : Hid (∀ (W : World), GrI W g n f → Calls Tryd.prog 83 #[(.agg #[.int .i64 n, (.slice (some ⟨g, 0, none⟩) len cp)]), .int .i64 (bi : Nat)] W fun e w' => e = .returned (.int .i64 v) ∧ Below W.heap.size W w') := fun W h => by rw [hv, hbi]; exact HT.out W (bar i) (bar_lt he hi) h
      rw [← hv]
      clear hl hv HT HA HO hbi
      go_enter Tryd.func107, Tryd.ntmps107
      go_wp2_with fail
      go_region_held3 (fun w' => w'.cell? ⟨w.heap.size, 0, none⟩ = some (.int .i64 n) ∧ w'.cell? ⟨w.heap.size, 1, none⟩ = some (.slice (some ⟨g, 0, none⟩) len cp) ∧ St w w' (GZ g n f) ((w.heap.size, 0, Value.int .i64 n) :: (w.heap.size, 1, (.slice (some ⟨g, 0, none⟩) len cp)) :: []))
        (first | (exact keepSt0 ((w.heap.size, 0, Value.int .i64 n) :: (w.heap.size, 1, (.slice (some ⟨g, 0, none⟩) len cp)) :: []) s0.drew) | (exact keepSt ((w.heap.size, 0, Value.int .i64 n) :: (w.heap.size, 1, (.slice (some ⟨g, 0, none⟩) len cp)) :: []) (by assumption) (by assumption)) | assumption)
        (first
          | (go_at_call 93; refine (HO1.out _).mono ?_; rintro e w1 ⟨rfl, rfl⟩)
          | (go_at_call 83; refine (HT1.out _ (keepSt_st (w := w) (Z := GZ g n f) ((w.heap.size, 0, Value.int .i64 n) :: (w.heap.size, 1, (.slice (some ⟨g, 0, none⟩) len cp)) :: []) (by assumption)).sent).mono ?_; rintro e w1 ⟨rfl, hb1⟩))
      all_goals
        go_wp2_with fail
        go_ret
        exact ⟨rfl, keepSt_bel (w := w) ((w.heap.size, 0, Value.int .i64 n) :: (w.heap.size, 1, (.slice (some ⟨g, 0, none⟩) len cp)) :: []) (by assumption)⟩
    | some j =>
      have hj : j < n := hb
      have nj : ((j : Int) == -1) = false := by first | (simp; done) | (simp; omega)
      have nj' : ¬ (j : Int) = -1 := by omega
      show Calls _ _ #[_, .int .i64 i, .int .i64 j] _ fun e w' => e = .returned (.int .i64 (f i j)) ∧ _
      obtain ⟨v, hv⟩ : ∃ v, v = f i j := ⟨_, rfl⟩
      have HA1 : Hid (∀ (W : World), GrI W g n f → Calls Tryd.prog 97 #[(.agg #[.int .i64 n, (.slice (some ⟨g, 0, none⟩) len cp)]), .int .i64 i, .int .i64 j] W fun e w' => e = .returned (.int .i64 v) ∧ Below W.heap.size W w') := fun W h => by rw [hv]; exact HA.out W i j hi hj h
      rw [← hv]
      clear hl hv HT HA HO
      go_enter Tryd.func107, Tryd.ntmps107
      go_wp2_with fail
      refine (HA1.out _ s0.sent).mono ?_
      rintro e w1 ⟨rfl, hb1⟩
      have s1 := s0.call hb1
      go_wp2_with fail
      go_ret
      exact ⟨rfl, s1.bel⟩

theorem belowNO {B : Nat} {w w' : World} (h : Below B w w') (n : Nat) : Below B w (w'.drewN n) := by
  induction n with
  | zero => exact h
  | succ n ih => exact ih.drew
set_option maxRecDepth 20000 in
set_option maxHeartbeats 4000000 in
theorem stoodO_any (x y i bx bs by_ bc : Nat) (s c : Int) (W : World) (c1 : W.cell? ⟨bx, 0, none⟩ = some (.int .i64 x)) (c2 : W.cell? ⟨bs, 0, none⟩ = some (.int .i64 s)) (c3 : W.cell? ⟨by_, 0, none⟩ = some (.int .i64 y)) (c4 : W.cell? ⟨bc, 0, none⟩ = some (.int .i64 c)) (hs : s = 1 ∨ s = -1 ∨ s = 0) (hx : x ≤ 4) (hy : y ≤ 4) (hc : c.natAbs ≤ 1099511627776) :
    Calls Tryd.prog 105 #[.int .i64 i, .pointer (some ⟨bx, 0, none⟩), .pointer (some ⟨bs, 0, none⟩), .pointer (some ⟨by_, 0, none⟩), .pointer (some ⟨bc, 0, none⟩)] W fun e w' => e = .returned (.tuple #[.int .i64 (oI (stO x s y i)), .int .i64 (shO x c i)]) ∧ Below W.heap.size W w' := by
  obtain ⟨X1, hX1⟩ : ∃ X, X = idxI 1 x := ⟨_, rfl⟩
  obtain ⟨X2, hX2⟩ : ∃ X, X = idxI (-1) x := ⟨_, rfl⟩
  obtain ⟨Y1, hY1⟩ : ∃ X, X = idxI s y := ⟨_, rfl⟩
  obtain ⟨Y2, hY2⟩ : ∃ X, X = idxI (-s) y := ⟨_, rfl⟩
  have H1 : Hid (∀ W : World, Calls Tryd.prog 84 #[.int .i64 1, .int .i64 x] W fun e w' => e = .returned (.int .i64 X1) ∧ w' = W) := fun W => by rw [hX1]; exact index_any 1 x (.inl rfl) (by omega) W
  have H2 : Hid (∀ W : World, Calls Tryd.prog 84 #[.int .i64 (-1), .int .i64 x] W fun e w' => e = .returned (.int .i64 X2) ∧ w' = W) := fun W => by rw [hX2]; exact index_any (-1) x (.inr (.inl rfl)) (by omega) W
  have H3 : Hid (∀ W : World, Calls Tryd.prog 84 #[.int .i64 s, .int .i64 y] W fun e w' => e = .returned (.int .i64 Y1) ∧ w' = W) := fun W => by rw [hY1]; exact index_any s y hs (by omega) W
  have H4 : Hid (∀ (W : World) (z : Int), z = -s → Calls Tryd.prog 84 #[.int .i64 z, .int .i64 y] W fun e w' => e = .returned (.int .i64 Y2) ∧ w' = W) := fun W z hz => by subst hz; rw [hY2]; exact index_any (-s) y (by omega) (by omega) W
  have ws : IntKind.i64.wrap (-s) = -s := by unfold IntKind.wrap; simp [IntKind.signed, IntKind.bits]; omega
  have wc : IntKind.i64.wrap (-c) = -c := by unfold IntKind.wrap; simp [IntKind.signed, IntKind.bits]; omega
  have x1 : X1 = 2 * (x : Int) := by rw [hX1]; simp [idxI]
  have x2 : X2 = 2 * (x : Int) + 1 := by rw [hX2]; simp [idxI]
  have o1 := oI_oix hs y
  have o2 := oI_oix (s := -s) (by omega) y
  by_cases h1 : i = 2 * x
  · have t1 : oI (stO x s y i) = Y1 := by unfold stO; rw [if_pos h1, o1, hY1]
    have t2 : shO x c i = c := by unfold shO; rw [if_pos h1]
    have k1 : (i : Int) = X1 := by omega
    rw [t1, t2]
    clear hX1 hX2 hY1 hY2 x1 x2 o1 o2 t1 t2 h1
    go_enter Tryd.func105, Tryd.ntmps105
    go_wp2_with fail
    refine (H1.out _).mono ?_
    rintro e w1 ⟨rfl, hw1⟩
    rw [hw1]
    go_wp2_with fail
    go_quiet (first | (go_at_call 84; exact Calls.quiet_of_same (H3.out _)))
    go_wp2_with fail
    exact bodyPost_ret (v := .tuple #[.int .i64 Y1, .int .i64 c]) (by simp [results, Tryd.results105, go_sem]) rfl ⟨rfl, belowNO (Below.refl _ _) _⟩
  have k1 : ((i : Int) == X1) = false := by simp; omega
  have k1' : ¬ (i : Int) = X1 := by omega
  by_cases h2 : i = 2 * x + 1
  · have t1 : oI (stO x s y i) = Y2 := by unfold stO; rw [if_neg h1, if_pos h2, o2, hY2]
    have t2 : shO x c i = -c := by unfold shO; rw [if_neg h1, if_pos h2]
    have k2 : (i : Int) = X2 := by omega
    rw [t1, t2]
    clear hX1 hX2 hY1 hY2 x1 x2 o1 o2 t1 t2 h1 h2
    go_enter Tryd.func105, Tryd.ntmps105
    go_wp2_with fail
    refine (H1.out _).mono ?_
    rintro e w1 ⟨rfl, hw1⟩
    rw [hw1]
    go_wp2_with fail
    refine (H2.out _).mono ?_
    rintro e w2 ⟨rfl, hw2⟩
    rw [hw2]
    go_wp2_with fail
    go_quiet (first | (go_at_call 84; exact Calls.quiet_of_same (H4.out _ _ (by first | exact ws | rfl))))
    go_wp2_with fail
    exact bodyPost_ret (v := .tuple #[.int .i64 Y2, .int .i64 (-c)]) (by simp [results, Tryd.results105, go_sem]) rfl ⟨rfl, belowNO (Below.refl _ _) _⟩
  · have t1 : oI (stO x s y i) = i := by unfold stO; rw [if_neg h1, if_neg h2]; rfl
    have t2 : shO x c i = 0 := by unfold shO; rw [if_neg h1, if_neg h2]
    have k2 : ((i : Int) == X2) = false := by simp; omega
    have k2' : ¬ (i : Int) = X2 := by omega
    rw [t1, t2]
    clear hX1 hX2 hY1 hY2 x1 x2 o1 o2 t1 t2 h1 h2
    go_enter Tryd.func105, Tryd.ntmps105
    go_wp2_with fail
    refine (H1.out _).mono ?_
    rintro e w1 ⟨rfl, hw1⟩
    rw [hw1]
    go_wp2_with fail
    refine (H2.out _).mono ?_
    rintro e w2 ⟨rfl, hw2⟩
    rw [hw2]
    go_wp2_with fail
    exact bodyPost_ret (v := .tuple #[.int .i64 i, .int .i64 0]) (by simp [results, Tryd.results105, go_sem]) rfl ⟨rfl, Below.refl _ _⟩

theorem enters_mvO : Enters 106 := enters_of Tryd.func106 (by kernel_rfl) rfl
set_option maxRecDepth 20000 in
set_option maxHeartbeats 4000000 in
theorem mvO_asks (n g cp len x y bf bg bx bs by_ bc : Nat) (s c : Int) (f : Nat → Nat → Int) (w : World) (st : St w w (GZ g n f) ((bf, 0, (Value.func (.func 105) #[] #[.pointer (some ⟨bx, 0, none⟩), .pointer (some ⟨bs, 0, none⟩), .pointer (some ⟨by_, 0, none⟩), .pointer (some ⟨bc, 0, none⟩)])) :: (bg, 0, Value.int .i64 n) :: (bg, 1, Value.slice (some ⟨g, 0, none⟩) len cp) :: (bx, 0, Value.int .i64 x) :: (bs, 0, Value.int .i64 s) :: (by_, 0, Value.int .i64 y) :: (bc, 0, Value.int .i64 c) :: [])) (hl : Hid (len = n * n)) (hn : n ≤ 8) (he : n % 2 = 0) (hx : 2 * x + 1 < n) (hy : 2 * y + 1 < n) (hs : s = 1 ∨ s = -1 ∨ s = 0) (hc : Hid (c.natAbs ≤ 1099511627776)) (hP : Hid (∀ i j, i < n → j < n → plusOk (apF f (stO x s y i) (stO x s y j)) (shO x c j - shO x c i))) :
    Asks 106 #[.pointer (some ⟨bf, 0, none⟩), .pointer (some ⟨bg, 0, none⟩)] w n (mvFO f x s y c) := by
  intro W i j hb hi hj
  have sW := (st.call hb).re
  obtain ⟨z, hz⟩ : ∃ z, z = mvFO f x s y c i j := ⟨_, rfl⟩
  rw [← hz]
  obtain ⟨a1, ha1⟩ : ∃ v, v = oI (stO x s y i) := ⟨_, rfl⟩
  obtain ⟨a2, ha2⟩ : ∃ v, v = oI (stO x s y j) := ⟨_, rfl⟩
  obtain ⟨d1, hd1⟩ : ∃ v, v = shO x c i := ⟨_, rfl⟩
  obtain ⟨d2, hd2⟩ : ∃ v, v = shO x c j := ⟨_, rfl⟩
  have H1 : Hid (∀ W : World, W.cell? ⟨bx, 0, none⟩ = some (.int .i64 x) → W.cell? ⟨bs, 0, none⟩ = some (.int .i64 s) → W.cell? ⟨by_, 0, none⟩ = some (.int .i64 y) → W.cell? ⟨bc, 0, none⟩ = some (.int .i64 c) → Calls Tryd.prog 105 #[.int .i64 i, .pointer (some ⟨bx, 0, none⟩), .pointer (some ⟨bs, 0, none⟩), .pointer (some ⟨by_, 0, none⟩), .pointer (some ⟨bc, 0, none⟩)] W fun e w' => e = .returned (.tuple #[.int .i64 a1, .int .i64 d1]) ∧ Below W.heap.size W w') := fun W h1 h2 h3 h4 => by rw [ha1, hd1]; exact stoodO_any x y i bx bs by_ bc s c W h1 h2 h3 h4 hs (by omega) (by omega) hc.out
  have H2 : Hid (∀ W : World, W.cell? ⟨bx, 0, none⟩ = some (.int .i64 x) → W.cell? ⟨bs, 0, none⟩ = some (.int .i64 s) → W.cell? ⟨by_, 0, none⟩ = some (.int .i64 y) → W.cell? ⟨bc, 0, none⟩ = some (.int .i64 c) → Calls Tryd.prog 105 #[.int .i64 j, .pointer (some ⟨bx, 0, none⟩), .pointer (some ⟨bs, 0, none⟩), .pointer (some ⟨by_, 0, none⟩), .pointer (some ⟨bc, 0, none⟩)] W fun e w' => e = .returned (.tuple #[.int .i64 a2, .int .i64 d2]) ∧ Below W.heap.size W w') := fun W h1 h2 h3 h4 => by rw [ha2, hd2]; exact stoodO_any x y j bx bs by_ bc s c W h1 h2 h3 h4 hs (by omega) (by omega) hc.out
  obtain ⟨v, hv⟩ : ∃ v, v = apF f (stO x s y i) (stO x s y j) := ⟨_, rfl⟩
  have HA : Hid (∀ (W : World), GrI W g n f → Calls Tryd.prog 107 #[(.agg #[.int .i64 n, (.slice (some ⟨g, 0, none⟩) len cp)]), .int .i64 a1, .int .i64 a2] W fun e w' => e = .returned (.int .i64 v) ∧ Below W.heap.size W w') := fun W h => by rw [hv, ha1, ha2]; exact apart_any n g cp len _ _ f W h hl hn he (stO_lt hy hi s) (stO_lt hy hj s)
  have HP : Hid (∀ W : World, Calls Tryd.prog 98 #[.int .i64 v, .int .i64 (d2 - d1)] W fun e w' => e = .returned (.int .i64 z) ∧ w' = W) := fun W => by
    have hz' : z = plusI v (d2 - d1) := by rw [hz, hv, hd1, hd2]; rfl
    rw [hz']
    exact plus_any _ _ W (by rw [hv, hd1, hd2]; exact hP.out i j hi hj)
  have u1 := shO_small (x := x) hc.out i
  have u2 := shO_small (x := x) hc.out j
  rw [← hd1] at u1
  rw [← hd2] at u2
  have u3 : -2199023255552 ≤ d2 - d1 ∧ d2 - d1 ≤ 2199023255552 := by omega
  have q0 := sW.hold
  simp only [Holds, and_true] at q0
  clear st hz hv ha1 ha2 hd1 hd2 hl hb hP hc u1 u2
  show Calls _ _ #[.int .i64 i, .int .i64 j, .pointer (some ⟨bf, 0, none⟩), .pointer (some ⟨bg, 0, none⟩)] _ _
  go_enter Tryd.func106, Tryd.ntmps106
  go_wp2_with fail
  refine (H1.out _ q0.2.2.2.1.1 q0.2.2.2.2.1.1 q0.2.2.2.2.2.1.1 q0.2.2.2.2.2.2.1).mono ?_
  rintro e w1 ⟨rfl, hb1⟩
  have s1 := sW.call hb1
  have q1 := s1.hold
  simp only [Holds, and_true] at q1
  clear q0 hb1
  go_wp2_with fail
  refine (H2.out _ q1.2.2.2.1.1 q1.2.2.2.2.1.1 q1.2.2.2.2.2.1.1 q1.2.2.2.2.2.2.1).mono ?_
  rintro e w2 ⟨rfl, hb2⟩
  have s2 := s1.call hb2
  have q2 := s2.hold
  simp only [Holds, and_true] at q2
  clear q1 hb2
  go_wp2_with fail
  refine (HA.out _ s2.sent).mono ?_
  rintro e w3 ⟨rfl, hb3⟩
  have s3 := s2.call hb3
  clear q2
  go_wp2_with fail
  refine (HP.out _).mono ?_
  rintro e w4 ⟨rfl, hw4⟩
  rw [hw4]
  go_wp2_with fail
  go_ret
  exact ⟨rfl, s3.bel⟩

set_option maxRecDepth 20000 in
set_option maxHeartbeats 2000000 in
theorem movedO_any (n g cp len x y : Nat) (s c : Int) (f : Nat → Nat → Int) (w : World) (hG : GrI w g n f) (hl : Hid (len = n * n)) (hn : n ≤ 8) (he : n % 2 = 0) (hx : 2 * x + 1 < n) (hy : 2 * y + 1 < n) (hs : s = 1 ∨ s = -1 ∨ s = 0) (hc : Hid (c.natAbs ≤ 1099511627776)) (hP : Hid (∀ i j, i < n → j < n → plusOk (apF f (stO x s y i) (stO x s y j)) (shO x c j - shO x c i))) :
    Calls Tryd.prog 78 #[(.agg #[.int .i64 n, (.slice (some ⟨g, 0, none⟩) len cp)]), .int .i64 x, .int .i64 s, .int .i64 y, .int .i64 c] w fun e w' => GrPost w n len (mvFO f x s y c) e w' := by
  have s0 := (((((((St.startG hG).box2 84 (.int .i64 n) (.slice (some ⟨g, 0, none⟩) len cp)).box1 3 (.int .i64 x)).box1 3 (.int .i64 s)).box1 3 (.int .i64 y)).box1 3 (.int .i64 c)).box2 84 (.int .i64 0) (.slice none 0 0)).box1 132 (.func (.func 105) #[] #[.pointer (some ⟨w.heap.size + 1, 0, none⟩), .pointer (some ⟨w.heap.size + 1 + 1, 0, none⟩), .pointer (some ⟨w.heap.size + 1 + 1 + 1, 0, none⟩), .pointer (some ⟨w.heap.size + 1 + 1 + 1 + 1, 0, none⟩)])
  simp only [World.size_alloc] at s0
  obtain ⟨F, hF⟩ : ∃ F, F = mvFO f x s y c := ⟨_, rfl⟩
  have HO : Hid (∀ W : World, St W W (GZ g n f) [(w.heap.size + 1 + 1 + 1 + 1 + 1 + 1, 0, (.func (.func 105) #[] #[.pointer (some ⟨w.heap.size + 1, 0, none⟩), .pointer (some ⟨w.heap.size + 1 + 1, 0, none⟩), .pointer (some ⟨w.heap.size + 1 + 1 + 1, 0, none⟩), .pointer (some ⟨w.heap.size + 1 + 1 + 1 + 1, 0, none⟩)])), (w.heap.size + 1 + 1 + 1 + 1 + 1, 0, Value.int .i64 0), (w.heap.size + 1 + 1 + 1 + 1 + 1, 1, Value.slice none 0 0), (w.heap.size + 1 + 1 + 1 + 1, 0, Value.int .i64 c), (w.heap.size + 1 + 1 + 1, 0, Value.int .i64 y), (w.heap.size + 1 + 1, 0, Value.int .i64 s), (w.heap.size + 1, 0, Value.int .i64 x), (w.heap.size, 0, Value.int .i64 n), (w.heap.size, 1, (.slice (some ⟨g, 0, none⟩) len cp))] → Calls Tryd.prog 85 #[.int .i64 n, .func (.func 106) #[] #[.pointer (some ⟨w.heap.size + 1 + 1 + 1 + 1 + 1 + 1, 0, none⟩), .pointer (some ⟨w.heap.size, 0, none⟩)]] W fun e w' => GrPost W n len F e w') := by
    intro W h
    rw [hF]
    refine of_any _ _ n len _ W hl (by omega) enters_mvO (mvO_asks n g cp len x y (w.heap.size + 1 + 1 + 1 + 1 + 1 + 1) w.heap.size (w.heap.size + 1) (w.heap.size + 1 + 1) (w.heap.size + 1 + 1 + 1) (w.heap.size + 1 + 1 + 1 + 1) s c f W ⟨h.bel, ?_, h.sent, h.cl⟩ hl hn he hx hy hs hc hP)
    have := h.hold
    exact ⟨this.1, this.2.2.2.2.2.2.2.1, this.2.2.2.2.2.2.2.2.1, this.2.2.2.2.2.2.1, this.2.2.2.2.2.1, this.2.2.2.2.1, this.2.2.2.1, trivial⟩
  have HS : Hid (∀ W : World, Calls Tryd.prog 95 #[(.agg #[.int .i64 n, (.slice (some ⟨g, 0, none⟩) len cp)])] W fun e w' => e = .returned (.int .i64 n) ∧ Below W.heap.size W w') := fun W => size_any n .nilIface rfl g len cp W
  rw [← hF]
  clear hF hG hl hc hP hs
  go_enter Tryd.func78, Tryd.ntmps78
  go_wp2_with fail
  refine (HS.out _).mono ?_
  rintro e w0 ⟨rfl, hb0⟩
  have s0' := s0.call hb0
  have q0 := s0'.hold
  simp only [Holds, and_true] at q0
  clear s0 hb0
  go_wp2_with fail
  refine (HO.out _ s0'.re).mono ?_
  rintro e w1 ⟨g1, cp1, rfl, hg1, hG1, hb1⟩
  have s1 := s0'.call hb1
  have q1 := s1.hold
  simp only [Holds, and_true] at q1
  have sz0 : w.heap.size + 1 + 1 + 1 + 1 + 1 + 1 < w0.heap.size := q0.1.2.1
  clear s0' hb1 q0
  go_wp2_with fail
  refine bodyPost_ret (v := (.agg #[.int .i64 n, (.slice (some ⟨g1, 0, none⟩) len cp1)])) (by simp [results, Tryd.results78, go_sem, q1]) rfl ⟨g1, cp1, rfl, by omega, ?_, ?_⟩
  · exact (hG1.other (by show w.heap.size + 1 + 1 + 1 + 1 + 1 ≠ g1; omega) _).other (by show w.heap.size + 1 + 1 + 1 + 1 + 1 ≠ g1; omega) _
  · iterate 2 refine Below.setCell ?_ (by first | (simp; done) | (simp; omega)) _
    exact s1.bel
end Go.Proofs.YtofjjaabgfmnpaaDoor
