/- Octagons: bounds without a variable's; a variable that is moved. -/
import Derived.Test.YtofjjaabgfmnpaaDoorOb
import Derived.Test.YtofjjaabgfmnpaaDoorOe
import Derived.Test.YtofjjaabgfmnpaaDoorO1
import Derived.Laws.EntriesVeiled
import Derived.BigQuiet
import Derived.Test.YtofjjaabgfmnpaaDoorOg
namespace Go.Proofs.YtofjjaabgfmnpaaDoor
open Go.RowKit
set_option linter.unusedVariables false

def woFO (f : Nat → Nat → Int) (x i j : Nat) : Int := if i ≠ j ∧ (i / 2 = x ∨ j / 2 = x) then 9223372036854775807 else f i j
theorem woO_enc (d : Mat) (x i j : Nat) : woFO (encM d) x i j = encM (woO d x) i j := by
  show (if i ≠ j ∧ (i / 2 = x ∨ j / 2 = x) then 9223372036854775807 else encB (d i j)) = encB (if i ≠ j ∧ (i / 2 = x ∨ j / 2 = x) then none else d i j)
  split <;> rfl

theorem enters_woO : Enters 104 := enters_of Tryd.func104 (by kernel_rfl) rfl
set_option maxRecDepth 20000 in
set_option maxHeartbeats 4000000 in
theorem woO_asks (n g cp len x bx bg : Nat) (f : Nat → Nat → Int) (w : World) (s : St w w (GZ g n f) ((bx, 0, Value.int .i64 x) :: (bg, 0, Value.int .i64 n) :: (bg, 1, Value.slice (some ⟨g, 0, none⟩) len cp) :: [])) (hl : Hid (len = n * n)) (hn : n ≤ 8) :
    Asks 104 #[.pointer (some ⟨bx, 0, none⟩), .pointer (some ⟨bg, 0, none⟩)] w n (woFO f x) := by
  intro W i j hb hi hj
  have sW := (s.call hb).re
  obtain ⟨z, hz⟩ : ∃ z, z = woFO f x i j := ⟨_, rfl⟩
  rw [← hz]
  obtain ⟨v, hv⟩ : ∃ v, v = f i j := ⟨_, rfl⟩
  have HA : Hid (∀ (W : World), GrI W g n f → Calls Tryd.prog 97 #[(.agg #[.int .i64 n, (.slice (some ⟨g, 0, none⟩) len cp)]), .int .i64 i, .int .i64 j] W fun e w' => e = .returned (.int .i64 v) ∧ Below W.heap.size W w') := fun W h => by rw [hv]; exact at_any n g cp len i j f W h hl hi hj (by omega)
  have Hz : Hid (z = if i ≠ j ∧ (i / 2 = x ∨ j / 2 = x) then 9223372036854775807 else v) := by show _ = _; rw [hz, hv]; rfl
  have q0 := sW.hold
  simp only [Holds, and_true] at q0
  obtain ⟨i2, hi2⟩ : ∃ k, k = i / 2 := ⟨_, rfl⟩
  obtain ⟨j2, hj2⟩ : ∃ k, k = j / 2 := ⟨_, rfl⟩
  rw [← hi2, ← hj2] at Hz
  have d1 : (i : Int) / 2 = (i2 : Int) := by omega
  have d2 : (j : Int) / 2 = (j2 : Int) := by omega
  clear s hz hv hl hb hi2 hj2
  show Calls _ _ #[.int .i64 i, .int .i64 j, .pointer (some ⟨bx, 0, none⟩), .pointer (some ⟨bg, 0, none⟩)] _ _
  by_cases e1 : i = j
  · subst e1
    have hr : Hid (z = v) := by show _ = _; rw [Hz.out, if_neg (by simp)]
    clear Hz
    go_enter Tryd.func104, Tryd.ntmps104
    go_wp2_with fail
    refine (HA.out _ sW.sent).mono ?_
    rintro e w1 ⟨rfl, hb1⟩
    go_wp2_with fail
    go_ret
    exact ⟨ret_int (by rw [hr.out]), hb1⟩
  have e1b : ((i : Int) != (j : Int)) = true := by simp; omega
  by_cases e2 : i2 = x
  · have hr : Hid (z = 9223372036854775807) := by show _ = _; rw [Hz.out, if_pos ⟨e1, .inl e2⟩]
    have e2b : ((i2 : Int) == (x : Int)) = true := by simp; omega
    have e2c : (i2 : Int) = (x : Int) := by omega
    clear Hz
    go_enter Tryd.func104, Tryd.ntmps104
    go_wp2_with fail
    go_ret
    exact ⟨ret_int (by rw [hr.out]), Below.refl _ _⟩
  have e2b : ((i2 : Int) == (x : Int)) = false := by simp; omega
  by_cases e3 : j2 = x
  · have e3b : ((j2 : Int) == (x : Int)) = true := by simp; omega
    have e3c : (j2 : Int) = (x : Int) := by omega
    have hr : Hid (z = 9223372036854775807) := by show _ = _; rw [Hz.out, if_pos ⟨e1, .inr e3⟩]
    clear Hz
    go_enter Tryd.func104, Tryd.ntmps104
    go_wp2_with fail
    go_ret
    exact ⟨ret_int (by rw [hr.out]), Below.refl _ _⟩
  · have e3b : ((j2 : Int) == (x : Int)) = false := by simp; omega
    have hr : Hid (z = v) := by show _ = _; rw [Hz.out, if_neg (fun h => by rcases h.2 with h | h; exact e2 h; exact e3 h)]
    clear Hz
    go_enter Tryd.func104, Tryd.ntmps104
    go_wp2_with fail
    refine (HA.out _ sW.sent).mono ?_
    rintro e w1 ⟨rfl, hb1⟩
    go_wp2_with fail
    go_ret
    exact ⟨ret_int (by rw [hr.out]), hb1⟩

set_option maxRecDepth 20000 in
set_option maxHeartbeats 2000000 in
theorem withoutO_any (n g cp len x : Nat) (f : Nat → Nat → Int) (w : World) (hG : GrI w g n f) (hl : Hid (len = n * n)) (hn : n ≤ 8) :
    Calls Tryd.prog 74 #[(.agg #[.int .i64 n, (.slice (some ⟨g, 0, none⟩) len cp)]), .int .i64 x] w fun e w' => GrPost w n len (woFO f x) e w' := by
  have s0 := (((St.startG hG).box2 84 (.int .i64 n) (.slice (some ⟨g, 0, none⟩) len cp)).box1 3 (.int .i64 x)).box2 84 (.int .i64 0) (.slice none 0 0)
  simp only [World.size_alloc] at s0
  obtain ⟨F, hF⟩ : ∃ F, F = woFO f x := ⟨_, rfl⟩
  have HO : Hid (∀ W : World, St W W (GZ g n f) [(w.heap.size + 1, 0, Value.int .i64 x), (w.heap.size, 0, Value.int .i64 n), (w.heap.size, 1, (.slice (some ⟨g, 0, none⟩) len cp))] → Calls Tryd.prog 85 #[.int .i64 n, .func (.func 104) #[] #[.pointer (some ⟨w.heap.size + 1, 0, none⟩), .pointer (some ⟨w.heap.size, 0, none⟩)]] W fun e w' => GrPost W n len F e w') := by
    intro W h
    rw [hF]
    exact of_any _ _ n len _ W hl (by omega) enters_woO (woO_asks n g cp len x _ _ f W h hl hn)
  have HS : Hid (∀ W : World, Calls Tryd.prog 95 #[(.agg #[.int .i64 n, (.slice (some ⟨g, 0, none⟩) len cp)])] W fun e w' => e = .returned (.int .i64 n) ∧ Below W.heap.size W w') := fun W => size_any n .nilIface rfl g len cp W
  rw [← hF]
  clear hF hG hl
  go_enter Tryd.func74, Tryd.ntmps74
  go_wp2_with fail
  refine (HS.out _).mono ?_
  rintro e w0 ⟨rfl, hb0⟩
  have s0' := s0.call hb0
  have q0 := s0'.hold
  simp only [Holds, and_true] at q0
  clear s0 hb0
  go_wp2_with fail
  refine (HO.out _ (s0'.re.drop 2)).mono ?_
  rintro e w1 ⟨g1, cp1, rfl, hg1, hG1, hb1⟩
  have s1 := s0'.call hb1
  have q1 := s1.hold
  simp only [Holds, and_true] at q1
  have sz0 : w.heap.size + 1 + 1 < w0.heap.size := q0.1.2.1
  clear s0' hb1 q0
  go_wp2_with fail
  refine bodyPost_ret (v := (.agg #[.int .i64 n, (.slice (some ⟨g1, 0, none⟩) len cp1)])) (by simp [results, Tryd.results74, go_sem, q1]) rfl ⟨g1, cp1, rfl, by omega, ?_, ?_⟩
  · exact (hG1.other (by show w.heap.size + 1 + 1 ≠ g1; omega) _).other (by show w.heap.size + 1 + 1 ≠ g1; omega) _
  · iterate 2 refine Below.setCell ?_ (by first | (simp; done) | (simp; omega)) _
    exact s1.bel

/-- Where something stands, as the program writes it. -/
def oI : Option Nat → Int
  | none => -1
  | some i => i
def apF (f : Nat → Nat → Int) : Option Nat → Option Nat → Int
  | none, none => 0
  | none, some j => topI f j
  | some i, none => topI f (bar i)
  | some i, some j => f i j
def mvFO (f : Nat → Nat → Int) (x : Nat) (s : Int) (y : Nat) (c : Int) (i j : Nat) : Int := plusI (apF f (stO x s y i) (stO x s y j)) (shO x c j - shO x c i)
theorem apM_sz {n m : Nat} {d : Mat} (hS : Sz n m d) (he : n % 2 = 0) {a b : Option Nat} (ha : oLt n a) (hb : oLt n b) : ∀ v, apM d a b = some v → v.natAbs ≤ m := by
  intro v hv
  cases a with
  | none =>
    cases b with
    | none => simp [apM] at hv; subst hv; simp
    | some j => exact ok_top hS he hb v hv
  | some i =>
    cases b with
    | none => exact ok_top hS he (bar_lt he ha) v hv
    | some j => exact hS i j ha hb v hv
theorem ap_enc {n m : Nat} {d : Mat} (hS : Sz n m d) (hm : m ≤ 2305843009213693952) (he : n % 2 = 0) {a b : Option Nat} (ha : oLt n a) (hb : oLt n b) : apF (encM d) a b = encB (apM d a b) := by
  cases a with
  | none =>
    cases b with
    | none => rfl
    | some j => exact top_enc hS hm he hb
  | some i =>
    cases b with
    | none => exact top_enc hS hm he (bar_lt he ha)
    | some j => rfl
theorem shO_small {x : Nat} {c : Int} (hc : c.natAbs ≤ 1099511627776) (i : Nat) : (shO x c i).natAbs ≤ 1099511627776 := by
  unfold shO; split
  · exact hc
  · split
    · omega
    · simp
theorem mvO_enc {n m : Nat} {d : Mat} (hS : Sz n m d) (hm : m ≤ 2305843009213693952) (he : n % 2 = 0) {x y : Nat} {s c : Int} (hc : c.natAbs ≤ 1099511627776) (hy : 2 * y + 1 < n) {i j : Nat} (hi : i < n) (hj : j < n) : mvFO (encM d) x s y c i j = encM (mvO d x s y c) i j := by
  have a1 := stO_lt (x := x) hy hi s
  have a2 := stO_lt (x := x) hy hj s
  have h1 := shO_small (x := x) hc i
  have h2 := shO_small (x := x) hc j
  show plusI (apF (encM d) _ _) _ = encB (addB _ (some _))
  rw [ap_enc hS hm he a1 a2, enc_add (fun v hv => Nat.le_trans (apM_sz hS he a1 a2 v hv) hm) (fun v hv => by simp at hv; omega)]
  rfl
theorem mvO_ok {n m : Nat} {d : Mat} (hS : Sz n m d) (hm : m ≤ 2305843009213693952) (he : n % 2 = 0) {x y : Nat} {s c : Int} (hc : c.natAbs ≤ 1099511627776) (hy : 2 * y + 1 < n) {i j : Nat} (hi : i < n) (hj : j < n) : plusOk (apF (encM d) (stO x s y i) (stO x s y j)) (shO x c j - shO x c i) := by
  have a1 := stO_lt (x := x) hy hi s
  have a2 := stO_lt (x := x) hy hj s
  have h1 := shO_small (x := x) hc i
  have h2 := shO_small (x := x) hc j
  rw [ap_enc hS hm he a1 a2]
  have h3 := enc_sum (b := apM d (stO x s y i) (stO x s y j)) (fun v hv => Nat.le_trans (apM_sz hS he a1 a2 v hv) hm)
  unfold plusOk
  omega
theorem oI_oix {s : Int} (hs : s = 1 ∨ s = -1 ∨ s = 0) (y : Nat) : oI (oix s y) = idxI s y := by
  rcases hs with rfl | rfl | rfl <;> simp [oI, oix, idxI]

set_option maxRecDepth 20000 in
set_option maxHeartbeats 4000000 in
theorem apart_any (n g cp len : Nat) (a b : Option Nat) (f : Nat → Nat → Int) (w : World) (hG : GrI w g n f) (hl : Hid (len = n * n)) (hn : n ≤ 8) (he : n % 2 = 0) (ha : oLt n a) (hb : oLt n b) :
    Calls Tryd.prog 107 #[(.agg #[.int .i64 n, (.slice (some ⟨g, 0, none⟩) len cp)]), .int .i64 (oI a), .int .i64 (oI b)] w fun e w' => e = .returned (.int .i64 (apF f a b)) ∧ Below w.heap.size w w' := by
  have s0 := (St.startG hG).box2 84 (.int .i64 n) (.slice (some ⟨g, 0, none⟩) len cp)
  have q0 := s0.hold
  simp only [Holds, and_true] at q0
  have HT : Hid (∀ (W : World) (k : Nat), k < n → GrI W g n f → Calls Tryd.prog 83 #[(.agg #[.int .i64 n, (.slice (some ⟨g, 0, none⟩) len cp)]), .int .i64 k] W fun e w' => e = .returned (.int .i64 (topI f k)) ∧ Below W.heap.size W w') := fun W k hk h => top_any n g cp len k f W h hl hk hn he
  have HA : Hid (∀ (W : World) (i j : Nat), i < n → j < n → GrI W g n f → Calls Tryd.prog 97 #[(.agg #[.int .i64 n, (.slice (some ⟨g, 0, none⟩) len cp)]), .int .i64 i, .int .i64 j] W fun e w' => e = .returned (.int .i64 (f i j)) ∧ Below W.heap.size W w') := fun W i j hi hj h => at_any n g cp len i j f W h hl hi hj hn
  have HO : Hid (∀ (W : World) (k : Nat), k < n → Calls Tryd.prog 93 #[.int .i64 k] W fun e w' => e = .returned (.int .i64 (bar k : Nat)) ∧ w' = W) := fun W k hk => opposite_any k (by omega) W
  cases a with
  | none =>
    cases b with
    | none =>
      show Calls _ _ #[_, .int .i64 (-1), .int .i64 (-1)] _ fun e w' => e = .returned (.int .i64 0) ∧ _
      clear hl
      go_enter Tryd.func107, Tryd.ntmps107
      go_wp2_with fail
      go_ret
      exact ⟨rfl, s0.bel⟩
    | some j =>
      have hj : j < n := hb
      have nj : ((j : Int) == -1) = false := by first | (simp; done) | (simp; omega)
      have nj' : ¬ (j : Int) = -1 := by omega
      show Calls _ _ #[_, .int .i64 (-1), .int .i64 j] _ fun e w' => e = .returned (.int .i64 (topI f j)) ∧ _
      obtain ⟨v, hv⟩ : ∃ v, v = topI f j := ⟨_, rfl⟩
      have HT1 : Hid (∀ (W : World), GrI W g n f → Calls Tryd.prog 83 #[(.agg #[.int .i64 n, (.slice (some ⟨g, 0, none⟩) len cp)]), .int .i64 j] W fun e w' => e = .returned (.int .i64 v) ∧ Below W.heap.size W w') := fun W h => by rw [hv]; exact HT.out W j hj h
      rw [← hv]
      clear hl hv HT HA HO
      go_enter Tryd.func107, Tryd.ntmps107
      go_wp2_with fail
      refine (HT1.out _ s0.sent).mono ?_
      rintro e w1 ⟨rfl, hb1⟩
      have s1 := s0.call hb1
      go_wp2_with fail
      go_ret
      exact ⟨rfl, s1.bel⟩
  | some i =>
    have hi : i < n := ha
    have ni : ((i : Int) == -1) = false := by first | (simp; done) | (simp; omega)
    have ni' : ¬ (i : Int) = -1 := by omega
    cases b with
    | none =>
      show Calls _ _ #[_, .int .i64 i, .int .i64 (-1)] _ fun e w' => e = .returned (.int .i64 (topI f (bar i))) ∧ _
      obtain ⟨v, hv⟩ : ∃ v, v = topI f (bar i) := ⟨_, rfl⟩
      obtain ⟨bi, hbi⟩ : ∃ k, k = bar i := ⟨_, rfl⟩
      have HO1 : Hid (∀ (W : World), Calls Tryd.prog 93 #[.int .i64 i] W fun e w' => e = .returned (.int .i64 (bi : Nat)) ∧ w' = W) := fun W => by rw [hbi]; exact HO.out W i hi
      have HT1 : Hid (∀ (W : World), GrI W g n f → Calls Tryd.prog 83 #[(.agg #[.int .i64 n, (.slice (some ⟨g, 0, none⟩) len cp)]), .int .i64 (bi : Nat)] W fun e w' => e = .returned (.int .i64 v) ∧ Below W.heap.size W w') := fun W h => by rw [hv, hbi]; exact HT.out W (bar i) (bar_lt he hi) h
      rw [← hv]
      clear hl hv HT HA HO hbi
      go_enter Tryd.func107, Tryd.ntmps107
      go_wp2_with fail
      go_region_held3 (fun w' => w'.cell? ⟨w.heap.size, 0, none⟩ = some (.int .i64 n) ∧ w'.cell? ⟨w.heap.size, 1, none⟩ = some (.slice (some ⟨g, 0, none⟩) len cp) ∧ St w w' (GZ g n f) ((w.heap.size, 0, Value.int .i64 n) :: (w.heap.size, 1, (.slice (some ⟨g, 0, none⟩) len cp)) :: []))
        (first | (exact keepSt0 ((w.heap.size, 0, Value.int .i64 n) :: (w.heap.size, 1, (.slice (some ⟨g, 0, none⟩) len cp)) :: []) s0.drew) | (exact keepSt ((w.heap.size, 0, Value.int .i64 n) :: (w.heap.size, 1, (.slice (some ⟨g, 0, none⟩) len cp)) :: []) (by assumption) (by assumption)) | assumption)
        (first
          | (go_at_call 93; refine (HO1.out _).mono ?_; rintro e w1 ⟨rfl, rfl⟩)
          | (go_at_call 83; refine (HT1.out _ (keepSt_st (w := w) (Z := GZ g n f) ((w.heap.size, 0, Value.int .i64 n) :: (w.heap.size, 1, (.slice (some ⟨g, 0, none⟩) len cp)) :: []) (by assumption)).sent).mono ?_; rintro e w1 ⟨rfl, hb1⟩))
      all_goals
        go_wp2_with fail
        go_ret
        exact ⟨rfl, keepSt_bel (w := w) ((w.heap.size, 0, Value.int .i64 n) :: (w.heap.size, 1, (.slice (some ⟨g, 0, none⟩) len cp)) :: []) (by assumption)⟩
    | some j =>
      have hj : j < n := hb
      have nj : ((j : Int) == -1) = false := by first | (simp; done) | (simp; omega)
      have nj' : ¬ (j : Int) = -1 := by omega
      show Calls _ _ #[_, .int .i64 i, .int .i64 j] _ fun e w' => e = .returned (.int .i64 (f i j)) ∧ _
      obtain ⟨v, hv⟩ : ∃ v, v = f i j := ⟨_, rfl⟩
      have HA1 : Hid (∀ (W : World), GrI W g n f → Calls Tryd.prog 97 #[(.agg #[.int .i64 n, (.slice (some ⟨g, 0, none⟩) len cp)]), .int .i64 i, .int .i64 j] W fun e w' => e = .returned (.int .i64 v) ∧ Below W.heap.size W w') := fun W h => by rw [hv]; exact HA.out W i j hi hj h
      rw [← hv]
      clear hl hv HT HA HO
      go_enter Tryd.func107, Tryd.ntmps107
      go_wp2_with fail
      refine (HA1.out _ s0.sent).mono ?_
      rintro e w1 ⟨rfl, hb1⟩
      have s1 := s0.call hb1
      go_wp2_with fail
      go_ret
      exact ⟨rfl, s1.bel⟩

theorem belowNO {B : Nat} {w w' : World} (h : Below B w w') (n : Nat) : Below B w (w'.drewN n) := by
  induction n with
  | zero => exact h
  | succ n ih => exact ih.drew
set_option maxRecDepth 20000 in
set_option maxHeartbeats 4000000 in
theorem stoodO_any (x y i bx bs by_ bc : Nat) (s c : Int) (W : World) (c1 : W.cell? ⟨bx, 0, none⟩ = some (.int .i64 x)) (c2 : W.cell? ⟨bs, 0, none⟩ = some (.int .i64 s)) (c3 : W.cell? ⟨by_, 0, none⟩ = some (.int .i64 y)) (c4 : W.cell? ⟨bc, 0, none⟩ = some (.int .i64 c)) (hs : s = 1 ∨ s = -1 ∨ s = 0) (hx : x ≤ 4) (hy : y ≤ 4) (hc : c.natAbs ≤ 1099511627776) :
    Calls Tryd.prog 105 #[.int .i64 i, .pointer (some ⟨bx, 0, none⟩), .pointer (some ⟨bs, 0, none⟩), .pointer (some ⟨by_, 0, none⟩), .pointer (some ⟨bc, 0, none⟩)] W fun e w' => e = .returned (.tuple #[.int .i64 (oI (stO x s y i)), .int .i64 (shO x c i)]) ∧ Below W.heap.size W w' := by
  obtain ⟨X1, hX1⟩ : ∃ X, X = idxI 1 x := ⟨_, rfl⟩
  obtain ⟨X2, hX2⟩ : ∃ X, X = idxI (-1) x := ⟨_, rfl⟩
  obtain ⟨Y1, hY1⟩ : ∃ X, X = idxI s y := ⟨_, rfl⟩
  obtain ⟨Y2, hY2⟩ : ∃ X, X = idxI (-s) y := ⟨_, rfl⟩
  have H1 : Hid (∀ W : World, Calls Tryd.prog 84 #[.int .i64 1, .int .i64 x] W fun e w' => e = .returned (.int .i64 X1) ∧ w' = W) := fun W => by rw [hX1]; exact index_any 1 x (.inl rfl) (by omega) W
  have H2 : Hid (∀ W : World, Calls Tryd.prog 84 #[.int .i64 (-1), .int .i64 x] W fun e w' => e = .returned (.int .i64 X2) ∧ w' = W) := fun W => by rw [hX2]; exact index_any (-1) x (.inr (.inl rfl)) (by omega) W
  have H3 : Hid (∀ W : World, Calls Tryd.prog 84 #[.int .i64 s, .int .i64 y] W fun e w' => e = .returned (.int .i64 Y1) ∧ w' = W) := fun W => by rw [hY1]; exact index_any s y hs (by omega) W
  have H4 : Hid (∀ (W : World) (z : Int), z = -s → Calls Tryd.prog 84 #[.int .i64 z, .int .i64 y] W fun e w' => e = .returned (.int .i64 Y2) ∧ w' = W) := fun W z hz => by subst hz; rw [hY2]; exact index_any (-s) y (by omega) (by omega) W
  have ws : IntKind.i64.wrap (-s) = -s := by unfold IntKind.wrap; simp [IntKind.signed, IntKind.bits]; omega
  have wc : IntKind.i64.wrap (-c) = -c := by unfold IntKind.wrap; simp [IntKind.signed, IntKind.bits]; omega
  have x1 : X1 = 2 * (x : Int) := by rw [hX1]; simp [idxI]
  have x2 : X2 = 2 * (x : Int) + 1 := by rw [hX2]; simp [idxI]
  have o1 := oI_oix hs y
  have o2 := oI_oix (s := -s) (by omega) y
  by_cases h1 : i = 2 * x
  · have t1 : oI (stO x s y i) = Y1 := by unfold stO; rw [if_pos h1, o1, hY1]
    have t2 : shO x c i = c := by unfold shO; rw [if_pos h1]
    have k1 : (i : Int) = X1 := by omega
    rw [t1, t2]
    clear hX1 hX2 hY1 hY2 x1 x2 o1 o2 t1 t2 h1
    go_enter Tryd.func105, Tryd.ntmps105
    go_wp2_with fail
    refine (H1.out _).mono ?_
    rintro e w1 ⟨rfl, hw1⟩
    rw [hw1]
    go_wp2_with fail
    go_quiet (first | (go_at_call 84; exact Calls.quiet_of_same (H3.out _)))
    go_wp2_with fail
    exact bodyPost_ret (v := .tuple #[.int .i64 Y1, .int .i64 c]) (by simp [results, Tryd.results105, go_sem]) rfl ⟨rfl, belowNO (Below.refl _ _) _⟩
  have k1 : ((i : Int) == X1) = false := by simp; omega
  have k1' : ¬ (i : Int) = X1 := by omega
  by_cases h2 : i = 2 * x + 1
  · have t1 : oI (stO x s y i) = Y2 := by unfold stO; rw [if_neg h1, if_pos h2, o2, hY2]
    have t2 : shO x c i = -c := by unfold shO; rw [if_neg h1, if_pos h2]
    have k2 : (i : Int) = X2 := by omega
    rw [t1, t2]
    clear hX1 hX2 hY1 hY2 x1 x2 o1 o2 t1 t2 h1 h2
    go_enter Tryd.func105, Tryd.ntmps105
    go_wp2_with fail
    refine (H1.out _).mono ?_
    rintro e w1 ⟨rfl, hw1⟩
    rw [hw1]
    go_wp2_with fail
    refine (H2.out _).mono ?_
    rintro e w2 ⟨rfl, hw2⟩
    rw [hw2]
    go_wp2_with fail
    go_quiet (first | (go_at_call 84; exact Calls.quiet_of_same (H4.out _ _ (by first | exact ws | rfl))))
    go_wp2_with fail
    exact bodyPost_ret (v := .tuple #[.int .i64 Y2, .int .i64 (-c)]) (by simp [results, Tryd.results105, go_sem]) rfl ⟨rfl, belowNO (Below.refl _ _) _⟩
  · have t1 : oI (stO x s y i) = i := by unfold stO; rw [if_neg h1, if_neg h2]; rfl
    have t2 : shO x c i = 0 := by unfold shO; rw [if_neg h1, if_neg h2]
    have k2 : ((i : Int) == X2) = false := by simp; omega
    have k2' : ¬ (i : Int) = X2 := by omega
    rw [t1, t2]
    clear hX1 hX2 hY1 hY2 x1 x2 o1 o2 t1 t2 h1 h2
    go_enter Tryd.func105, Tryd.ntmps105
    go_wp2_with fail
    refine (H1.out _).mono ?_
    rintro e w1 ⟨rfl, hw1⟩
    rw [hw1]
    go_wp2_with fail
    refine (H2.out _).mono ?_
    rintro e w2 ⟨rfl, hw2⟩
    rw [hw2]
    go_wp2_with fail
    exact bodyPost_ret (v := .tuple #[.int .i64 i, .int .i64 0]) (by simp [results, Tryd.results105, go_sem]) rfl ⟨rfl, Below.refl _ _⟩

theorem enters_mvO : Enters 106 := enters_of Tryd.func106 (by kernel_rfl) rfl
set_option maxRecDepth 20000 in
set_option maxHeartbeats 4000000 in
theorem mvO_asks (n g cp len x y bf bg bx bs by_ bc : Nat) (s c : Int) (f : Nat → Nat → Int) (w : World) (st : St w w (GZ g n f) ((bf, 0, (Value.func (.func 105) #[] #[.pointer (some ⟨bx, 0, none⟩), .pointer (some ⟨bs, 0, none⟩), .pointer (some ⟨by_, 0, none⟩), .pointer (some ⟨bc, 0, none⟩)])) :: (bg, 0, Value.int .i64 n) :: (bg, 1, Value.slice (some ⟨g, 0, none⟩) len cp) :: (bx, 0, Value.int .i64 x) :: (bs, 0, Value.int .i64 s) :: (by_, 0, Value.int .i64 y) :: (bc, 0, Value.int .i64 c) :: [])) (hl : Hid (len = n * n)) (hn : n ≤ 8) (he : n % 2 = 0) (hx : 2 * x + 1 < n) (hy : 2 * y + 1 < n) (hs : s = 1 ∨ s = -1 ∨ s = 0) (hc : Hid (c.natAbs ≤ 1099511627776)) (hP : Hid (∀ i j, i < n → j < n → plusOk (apF f (stO x s y i) (stO x s y j)) (shO x c j - shO x c i))) :
    Asks 106 #[.pointer (some ⟨bf, 0, none⟩), .pointer (some ⟨bg, 0, none⟩)] w n (mvFO f x s y c) := by
  intro W i j hb hi hj
  have sW := (st.call hb).re
  obtain ⟨z, hz⟩ : ∃ z, z = mvFO f x s y c i j := ⟨_, rfl⟩
  rw [← hz]
  obtain ⟨a1, ha1⟩ : ∃ v, v = oI (stO x s y i) := ⟨_, rfl⟩
  obtain ⟨a2, ha2⟩ : ∃ v, v = oI (stO x s y j) := ⟨_, rfl⟩
  obtain ⟨d1, hd1⟩ : ∃ v, v = shO x c i := ⟨_, rfl⟩
  obtain ⟨d2, hd2⟩ : ∃ v, v = shO x c j := ⟨_, rfl⟩
  have H1 : Hid (∀ W : World, W.cell? ⟨bx, 0, none⟩ = some (.int .i64 x) → W.cell? ⟨bs, 0, none⟩ = some (.int .i64 s) → W.cell? ⟨by_, 0, none⟩ = some (.int .i64 y) → W.cell? ⟨bc, 0, none⟩ = some (.int .i64 c) → Calls Tryd.prog 105 #[.int .i64 i, .pointer (some ⟨bx, 0, none⟩), .pointer (some ⟨bs, 0, none⟩), .pointer (some ⟨by_, 0, none⟩), .pointer (some ⟨bc, 0, none⟩)] W fun e w' => e = .returned (.tuple #[.int .i64 a1, .int .i64 d1]) ∧ Below W.heap.size W w') := fun W h1 h2 h3 h4 => by rw [ha1, hd1]; exact stoodO_any x y i bx bs by_ bc s c W h1 h2 h3 h4 hs (by omega) (by omega) hc.out
  have H2 : Hid (∀ W : World, W.cell? ⟨bx, 0, none⟩ = some (.int .i64 x) → W.cell? ⟨bs, 0, none⟩ = some (.int .i64 s) → W.cell? ⟨by_, 0, none⟩ = some (.int .i64 y) → W.cell? ⟨bc, 0, none⟩ = some (.int .i64 c) → Calls Tryd.prog 105 #[.int .i64 j, .pointer (some ⟨bx, 0, none⟩), .pointer (some ⟨bs, 0, none⟩), .pointer (some ⟨by_, 0, none⟩), .pointer (some ⟨bc, 0, none⟩)] W fun e w' => e = .returned (.tuple #[.int .i64 a2, .int .i64 d2]) ∧ Below W.heap.size W w') := fun W h1 h2 h3 h4 => by rw [ha2, hd2]; exact stoodO_any x y j bx bs by_ bc s c W h1 h2 h3 h4 hs (by omega) (by omega) hc.out
  obtain ⟨v, hv⟩ : ∃ v, v = apF f (stO x s y i) (stO x s y j) := ⟨_, rfl⟩
  have HA : Hid (∀ (W : World), GrI W g n f → Calls Tryd.prog 107 #[(.agg #[.int .i64 n, (.slice (some ⟨g, 0, none⟩) len cp)]), .int .i64 a1, .int .i64 a2] W fun e w' => e = .returned (.int .i64 v) ∧ Below W.heap.size W w') := fun W h => by rw [hv, ha1, ha2]; exact apart_any n g cp len _ _ f W h hl hn he (stO_lt hy hi s) (stO_lt hy hj s)
  have HP : Hid (∀ W : World, Calls Tryd.prog 98 #[.int .i64 v, .int .i64 (d2 - d1)] W fun e w' => e = .returned (.int .i64 z) ∧ w' = W) := fun W => by
    have hz' : z = plusI v (d2 - d1) := by rw [hz, hv, hd1, hd2]; rfl
    rw [hz']
    exact plus_any _ _ W (by rw [hv, hd1, hd2]; exact hP.out i j hi hj)
  have u1 := shO_small (x := x) hc.out i
  have u2 := shO_small (x := x) hc.out j
  rw [← hd1] at u1
  rw [← hd2] at u2
  have u3 : -2199023255552 ≤ d2 - d1 ∧ d2 - d1 ≤ 2199023255552 := by omega
  have q0 := sW.hold
  simp only [Holds, and_true] at q0
  clear st hz hv ha1 ha2 hd1 hd2 hl hb hP hc u1 u2
  show Calls _ _ #[.int .i64 i, .int .i64 j, .pointer (some ⟨bf, 0, none⟩), .pointer (some ⟨bg, 0, none⟩)] _ _
  go_enter Tryd.func106, Tryd.ntmps106
  go_wp2_with fail
  refine (H1.out _ q0.2.2.2.1.1 q0.2.2.2.2.1.1 q0.2.2.2.2.2.1.1 q0.2.2.2.2.2.2.1).mono ?_
  rintro e w1 ⟨rfl, hb1⟩
  have s1 := sW.call hb1
  have q1 := s1.hold
  simp only [Holds, and_true] at q1
  clear q0 hb1
  go_wp2_with fail
  refine (H2.out _ q1.2.2.2.1.1 q1.2.2.2.2.1.1 q1.2.2.2.2.2.1.1 q1.2.2.2.2.2.2.1).mono ?_
  rintro e w2 ⟨rfl, hb2⟩
  have s2 := s1.call hb2
  have q2 := s2.hold
  simp only [Holds, and_true] at q2
  clear q1 hb2
  go_wp2_with fail
  refine (HA.out _ s2.sent).mono ?_
  rintro e w3 ⟨rfl, hb3⟩
  have s3 := s2.call hb3
  clear q2
  go_wp2_with fail
  refine (HP.out _).mono ?_
  rintro e w4 ⟨rfl, hw4⟩
  rw [hw4]
  go_wp2_with fail
  go_ret
  exact ⟨rfl, s3.bel⟩

set_option maxRecDepth 20000 in
set_option maxHeartbeats 2000000 in
theorem movedO_any (n g cp len x y : Nat) (s c : Int) (f : Nat → Nat → Int) (w : World) (hG : GrI w g n f) (hl : Hid (len = n * n)) (hn : n ≤ 8) (he : n % 2 = 0) (hx : 2 * x + 1 < n) (hy : 2 * y + 1 < n) (hs : s = 1 ∨ s = -1 ∨ s = 0) (hc : Hid (c.natAbs ≤ 1099511627776)) (hP : Hid (∀ i j, i < n → j < n → plusOk (apF f (stO x s y i) (stO x s y j)) (shO x c j - shO x c i))) :
    Calls Tryd.prog 78 #[(.agg #[.int .i64 n, (.slice (some ⟨g, 0, none⟩) len cp)]), .int .i64 x, .int .i64 s, .int .i64 y, .int .i64 c] w fun e w' => GrPost w n len (mvFO f x s y c) e w' := by
  have s0 := (((((((St.startG hG).box2 84 (.int .i64 n) (.slice (some ⟨g, 0, none⟩) len cp)).box1 3 (.int .i64 x)).box1 3 (.int .i64 s)).box1 3 (.int .i64 y)).box1 3 (.int .i64 c)).box2 84 (.int .i64 0) (.slice none 0 0)).box1 132 (.func (.func 105) #[] #[.pointer (some ⟨w.heap.size + 1, 0, none⟩), .pointer (some ⟨w.heap.size + 1 + 1, 0, none⟩), .pointer (some ⟨w.heap.size + 1 + 1 + 1, 0, none⟩), .pointer (some ⟨w.heap.size + 1 + 1 + 1 + 1, 0, none⟩)])
  simp only [World.size_alloc] at s0
  obtain ⟨F, hF⟩ : ∃ F, F = mvFO f x s y c := ⟨_, rfl⟩
  have HO : Hid (∀ W : World, St W W (GZ g n f) [(w.heap.size + 1 + 1 + 1 + 1 + 1 + 1, 0, (.func (.func 105) #[] #[.pointer (some ⟨w.heap.size + 1, 0, none⟩), .pointer (some ⟨w.heap.size + 1 + 1, 0, none⟩), .pointer (some ⟨w.heap.size + 1 + 1 + 1, 0, none⟩), .pointer (some ⟨w.heap.size + 1 + 1 + 1 + 1, 0, none⟩)])), (w.heap.size + 1 + 1 + 1 + 1 + 1, 0, Value.int .i64 0), (w.heap.size + 1 + 1 + 1 + 1 + 1, 1, Value.slice none 0 0), (w.heap.size + 1 + 1 + 1 + 1, 0, Value.int .i64 c), (w.heap.size + 1 + 1 + 1, 0, Value.int .i64 y), (w.heap.size + 1 + 1, 0, Value.int .i64 s), (w.heap.size + 1, 0, Value.int .i64 x), (w.heap.size, 0, Value.int .i64 n), (w.heap.size, 1, (.slice (some ⟨g, 0, none⟩) len cp))] → Calls Tryd.prog 85 #[.int .i64 n, .func (.func 106) #[] #[.pointer (some ⟨w.heap.size + 1 + 1 + 1 + 1 + 1 + 1, 0, none⟩), .pointer (some ⟨w.heap.size, 0, none⟩)]] W fun e w' => GrPost W n len F e w') := by
    intro W h
    rw [hF]
    refine of_any _ _ n len _ W hl (by omega) enters_mvO (mvO_asks n g cp len x y (w.heap.size + 1 + 1 + 1 + 1 + 1 + 1) w.heap.size (w.heap.size + 1) (w.heap.size + 1 + 1) (w.heap.size + 1 + 1 + 1) (w.heap.size + 1 + 1 + 1 + 1) s c f W ⟨h.bel, ?_, h.sent, h.cl⟩ hl hn he hx hy hs hc hP)
    have := h.hold
    exact ⟨this.1, this.2.2.2.2.2.2.2.1, this.2.2.2.2.2.2.2.2.1, this.2.2.2.2.2.2.1, this.2.2.2.2.2.1, this.2.2.2.2.1, this.2.2.2.1, trivial⟩
  have HS : Hid (∀ W : World, Calls Tryd.prog 95 #[(.agg #[.int .i64 n, (.slice (some ⟨g, 0, none⟩) len cp)])] W fun e w' => e = .returned (.int .i64 n) ∧ Below W.heap.size W w') := fun W => size_any n .nilIface rfl g len cp W
  rw [← hF]
  clear hF hG hl hc hP hs
  go_enter Tryd.func78, Tryd.ntmps78
  go_wp2_with fail
  refine (HS.out _).mono ?_
  rintro e w0 ⟨rfl, hb0⟩
  have s0' := s0.call hb0
  have q0 := s0'.hold
  simp only [Holds, and_true] at q0
  clear s0 hb0
  go_wp2_with fail
  refine (HO.out _ s0'.re).mono ?_
  rintro e w1 ⟨g1, cp1, rfl, hg1, hG1, hb1⟩
  have s1 := s0'.call hb1
  have q1 := s1.hold
  simp only [Holds, and_true] at q1
  have sz0 : w.heap.size + 1 + 1 + 1 + 1 + 1 + 1 < w0.heap.size := q0.1.2.1
  clear s0' hb1 q0
  go_wp2_with fail
  refine bodyPost_ret (v := (.agg #[.int .i64 n, (.slice (some ⟨g1, 0, none⟩) len cp1)])) (by simp [results, Tryd.results78, go_sem, q1]) rfl ⟨g1, cp1, rfl, by omega, ?_, ?_⟩
  · exact (hG1.other (by show w.heap.size + 1 + 1 + 1 + 1 + 1 ≠ g1; omega) _).other (by show w.heap.size + 1 + 1 + 1 + 1 + 1 ≠ g1; omega) _
  · iterate 2 refine Below.setCell ?_ (by first | (simp; done) | (simp; omega)) _
    exact s1.bel
end Go.Proofs.YtofjjaabgfmnpaaDoor

/- Octagons: a variable is forgotten, or becomes another one, by a sign, and a number (octagon.Forget, octagon.Assign). -/
namespace Go.Proofs.YtofjjaabgfmnpaaDoor
open Go.RowKit
set_option linter.unusedVariables false

def CZ (x : Option Addr) (l : List Ce) (W : World) : Prop := CsAt W x l
theorem St.startCZ {w : World} {x : Option Addr} {l : List Ce} (h : CsAt w x l) : St w w (CZ x l) [] := ⟨Below.refl _ _, trivial, h, fun _ _ k hb => h.stays k hb⟩
/-- What a change makes of a square. -/
def Chg (fn : Nat) (caps : Array Value) (w : World) (n len : Nat) (d d' : Mat) : Prop :=
  ∀ (W : World) (g cp : Nat), Below w.heap.size w W → GrI W g n (encM d) → Calls Tryd.prog fn (#[(.agg #[.int .i64 n, (.slice (some ⟨g, 0, none⟩) len cp)])] ++ caps) W fun e w' => GrPost W n len (encM d') e w'

set_option maxRecDepth 20000 in
set_option maxHeartbeats 4000000 in
theorem tellChanged_any (fn : Nat) (caps : Array Value) (N : Int) (n c len : Nat) (x : Option Addr) (l : List Ce) (d' : Mat) (w : World) (hR : CsAt w x l) (hl : Hid (len = l.length)) (hll : Hid (len = n * n)) (hn : n % 2 = 0 ∧ n ≤ 8) (hN : 2 * N = n) (hS : Hid (Sz n 1099511627776 (matOf n l))) (hE : Hid (Enters fn)) (hC : Hid (Chg fn caps w n len (tg n (matOf n l)) d')) :
    Calls Tryd.prog 72 #[(.agg #[.int .i64 N, (.slice x len c)]), .func (.func fn) #[] caps] w fun e w' => ZaPost w N len (NoNeg n (tg n (matOf n l))) (tellL n d') e w' := by
  have hE' : ∀ (args : Array Value) (W : World), (callFunc fn args).run Tryd.prog W = .ok (.enter fn args) W := hE.out
  have s0 := ((St.startCZ hR).box2 30 (.int .i64 N) (.slice x len c)).box2 30 (.int .i64 0) (.slice none 0 0)
  simp only [World.size_alloc] at s0
  have HB : Hid (∀ W : World, CsAt W x l → Calls Tryd.prog 48 #[(.agg #[.int .i64 N, (.slice x len c)])] W fun e w' => GrPost W n len (encM (matOf n l)) e w') := fun W h => boundsOf_cs N n c len x l W h hl hll hn hN
  have HC : Hid (∀ (W : World) (g cp : Nat), GrI W g n (encM (matOf n l)) → Calls Tryd.prog 66 #[(.agg #[.int .i64 n, (.slice (some ⟨g, 0, none⟩) len cp)])] W fun e w' => TgPost W n len (matOf n l) e w') := fun W g cp h => tight_any n g cp len 1099511627776 _ W h hll hn hS (by omega)
  have HT : Hid (∀ (W : World) (g1 cp1 : Nat), GrI W g1 n (encM d') → Calls Tryd.prog 67 #[(.agg #[.int .i64 n, (.slice (some ⟨g1, 0, none⟩) len cp1)])] W fun e w' => TellPost W N len (tellL n d') e w') := fun W g1 cp1 h => by
    have := tellz_any N n g1 cp1 len _ W h hll hn hN
    rw [hll.out, gridL_enc] at this
    rw [hll.out]
    exact this
  obtain ⟨L, hL⟩ : ∃ L, L = tellL n d' := ⟨_, rfl⟩
  obtain ⟨A, hA⟩ : ∃ A, A = matOf n l := ⟨_, rfl⟩
  have HCh : Hid (∀ (W : World) (g cp : Nat), Below w.heap.size w W → GrI W g n (encM (tg n A)) → Calls Tryd.prog fn (#[(.agg #[.int .i64 n, (.slice (some ⟨g, 0, none⟩) len cp)])] ++ caps) W fun e w' => GrPost W n len (encM d') e w') := by rw [hA]; exact hC.out
  rw [← hL] at HT ⊢
  rw [← hA] at HB HC ⊢
  clear hL hA hR hl hll hS hE hC
  go_enter Tryd.func72, Tryd.ntmps72
  go_wp2_with fail
  refine (HB.out _ s0.sent).mono ?_
  rintro e w1 ⟨g1, cp1, rfl, hg1, hG1, hb1⟩
  (have s1 := s0.call hb1; have q1 := s1.hold; simp only [Holds, and_true] at q1)
  clear s0 hb1
  go_wp2_with fail
  refine (HC.out _ g1 cp1 hG1).mono ?_
  rintro e w2 ⟨hb2, h2⟩
  (have s2 := s1.call hb2; have q2 := s2.hold; simp only [Holds, and_true] at q2)
  clear s1 q1 hb2
  have sz2 : w.heap.size + 1 < w2.heap.size := q2.1.2.1
  rcases h2 with ⟨hno, rfl⟩ | ⟨hyes, g2, cp2, rfl, hg2, hG2⟩
  · go_wp2_with fail
    refine bodyPost_ret (v := .tuple #[(.agg #[.int .i64 0, .slice none 0 0]), .bool false, .nilIface]) (by simp [results, Tryd.results72, go_sem, q2]) rfl ⟨?_, .inl ⟨hno, rfl⟩⟩
    repeat' (first | exact s2.bel | refine Below.setCell ?_ (by first | (simp; done) | (simp; omega)) _ | refine Below.alloc ?_ (by first | (simp; done) | (simp; omega)) _)
  · have s3 := s2.box2 84 (.int .i64 n) (.slice (some ⟨g2, 0, none⟩) len cp2)
    have hG3 := hG2.below ((Below.refl _ _).alloc (Nat.le_refl _) (.cells #[.int .i64 n, .slice (some ⟨g2, 0, none⟩) len cp2] 84))
    go_wp2_with fail
    refine (HCh.out _ g2 cp2 s3.bel hG3).mono ?_
    rintro e w4 ⟨g4, cp4, rfl, hg4, hG4, hb4⟩
    (have s4 := s3.call hb4; have q4 := s4.hold; simp only [Holds, and_true] at q4)
    clear s3 hb4 s2 q2
    go_wp2_with fail
    refine (HT.out _ g4 cp4 hG4).mono ?_
    rintro e w5 ⟨g5, cp5, rfl, hg5, hR5, hb5⟩
    (have s5 := s4.call hb5; have q5 := s5.hold; simp only [Holds, and_true] at q5)
    have sz4 : w.heap.size + 1 < w4.heap.size := q4.2.2.1.2.1
    clear s4 hb5 q4
    go_wp2_with fail
    refine bodyPost_ret (v := .tuple #[(.agg #[.int .i64 N, (.slice (some ⟨g5, 0, none⟩) len cp5)]), .bool true, .nilIface]) (by simp [results, Tryd.results72, go_sem, q5]) rfl ⟨?_, .inr ⟨hyes, g5, cp5, rfl, by omega, ?_⟩⟩
    · repeat' (first | exact s5.bel | refine Below.setCell ?_ (by first | (simp; done) | (simp; omega)) _)
    · exact (hR5.other (by show w.heap.size + 1 ≠ g5; omega) _).other (by show w.heap.size + 1 ≠ g5; omega) _


theorem enters_foO : Enters 73 := enters_of Tryd.func73 (by kernel_rfl) rfl
set_option maxRecDepth 20000 in
set_option maxHeartbeats 4000000 in
theorem chg_foO (n len x bx : Nat) (d : Mat) (w : World) (hx : w.cell? ⟨bx, 0, none⟩ = some (.int .i64 x)) (hll : Hid (len = n * n)) (hn : n ≤ 8) : Chg 73 #[.pointer (some ⟨bx, 0, none⟩)] w n len d (woO d x) := by
  intro W g cp hb hG
  have hxW : W.cell? ⟨bx, 0, none⟩ = some (.int .i64 x) := (hb.cell (World.block_lt_of_cell? w _ hx)).trans hx
  have hxl := World.block_lt_of_cell? W _ hxW
  have s0 := ((St.startG hG).box2 84 (.int .i64 n) (.slice (some ⟨g, 0, none⟩) len cp)).box2 84 (.int .i64 0) (.slice none 0 0)
  simp only [World.size_alloc] at s0
  have HW : Hid (∀ W : World, GrI W g n (encM d) → Calls Tryd.prog 74 #[(.agg #[.int .i64 n, (.slice (some ⟨g, 0, none⟩) len cp)]), .int .i64 x] W fun e w' => GrPost W n len (encM (woO d x)) e w') := fun W h => (withoutO_any n g cp len x _ W h hll hn).mono fun _ _ k => k.congr fun i j _ _ => woO_enc d x i j
  obtain ⟨f, hf⟩ : ∃ f, f = encM (woO d x) := ⟨_, rfl⟩
  show Calls _ _ #[(.agg #[.int .i64 n, (.slice (some ⟨g, 0, none⟩) len cp)]), .pointer (some ⟨bx, 0, none⟩)] _ _
  rw [← hf] at HW ⊢
  clear hf hll hb hx hG
  go_enter Tryd.func73, Tryd.ntmps73
  go_wp2_with fail
  refine (HW.out _ s0.sent).mono ?_
  rintro e w1 ⟨g1, cp1, rfl, hg1, hG1, hb1⟩
  (have s1 := s0.call hb1; have q1 := s1.hold; simp only [Holds, and_true] at q1)
  simp only [World.size_alloc] at hg1
  clear s0 hb1
  go_wp2_with fail
  refine bodyPost_ret (v := (.agg #[.int .i64 n, (.slice (some ⟨g1, 0, none⟩) len cp1)])) (by simp [results, Tryd.results73, go_sem, q1]) rfl ⟨g1, cp1, rfl, by omega, ?_, ?_⟩
  · exact (hG1.other (by show W.heap.size + 1 ≠ g1; omega) _).other (by show W.heap.size + 1 ≠ g1; omega) _
  · iterate 2 refine Below.setCell ?_ (by first | (simp; done) | (simp; omega)) _
    exact s1.bel

theorem enters_asO : Enters 77 := enters_of Tryd.func77 (by kernel_rfl) rfl
set_option maxRecDepth 20000 in
set_option maxHeartbeats 4000000 in
theorem chg_asO (n len x y bx bs by_ bc : Nat) (s c : Int) (d : Mat) (w : World) (hx : w.cell? ⟨bx, 0, none⟩ = some (.int .i64 x)) (hsb : w.cell? ⟨bs, 0, none⟩ = some (.int .i64 s)) (hy : w.cell? ⟨by_, 0, none⟩ = some (.int .i64 y)) (hc : w.cell? ⟨bc, 0, none⟩ = some (.int .i64 c)) (hll : Hid (len = n * n)) (hn : n ≤ 8) (he : n % 2 = 0) (hxn : 2 * x + 1 < n) (hyn : 2 * y + 1 < n) (hs : s = 1 ∨ s = -1 ∨ s = 0) (hcc : Hid (c.natAbs ≤ 1099511627776)) (hS : Hid (Sz n 562949953421312 d)) :
    Chg 77 #[.pointer (some ⟨bx, 0, none⟩), .pointer (some ⟨bs, 0, none⟩), .pointer (some ⟨by_, 0, none⟩), .pointer (some ⟨bc, 0, none⟩)] w n len d (mvO d x s y c) := by
  intro W g cp hb hG
  have hxW : W.cell? ⟨bx, 0, none⟩ = some (.int .i64 x) := (hb.cell (World.block_lt_of_cell? w _ hx)).trans hx
  have hyW : W.cell? ⟨by_, 0, none⟩ = some (.int .i64 y) := (hb.cell (World.block_lt_of_cell? w _ hy)).trans hy
  have hcW : W.cell? ⟨bc, 0, none⟩ = some (.int .i64 c) := (hb.cell (World.block_lt_of_cell? w _ hc)).trans hc
  have hsW : W.cell? ⟨bs, 0, none⟩ = some (.int .i64 s) := (hb.cell (World.block_lt_of_cell? w _ hsb)).trans hsb
  have hsl := World.block_lt_of_cell? W _ hsW
  have hxl := World.block_lt_of_cell? W _ hxW
  have hyl := World.block_lt_of_cell? W _ hyW
  have hcl := World.block_lt_of_cell? W _ hcW
  have s0 := ((St.startG hG).box2 84 (.int .i64 n) (.slice (some ⟨g, 0, none⟩) len cp)).box2 84 (.int .i64 0) (.slice none 0 0)
  simp only [World.size_alloc] at s0
  have HW : Hid (∀ W : World, GrI W g n (encM d) → Calls Tryd.prog 78 #[(.agg #[.int .i64 n, (.slice (some ⟨g, 0, none⟩) len cp)]), .int .i64 x, .int .i64 s, .int .i64 y, .int .i64 c] W fun e w' => GrPost W n len (encM (mvO d x s y c)) e w') := fun W h => (movedO_any n g cp len x y s c _ W h hll hn he hxn hyn hs hcc (fun i j hi hj => mvO_ok hS.out (by omega) he hcc.out hyn hi hj)).mono fun _ _ k => k.congr fun i j hi hj => mvO_enc hS.out (by omega) he hcc.out hyn hi hj
  obtain ⟨f, hf⟩ : ∃ f, f = encM (mvO d x s y c) := ⟨_, rfl⟩
  show Calls _ _ #[(.agg #[.int .i64 n, (.slice (some ⟨g, 0, none⟩) len cp)]), .pointer (some ⟨bx, 0, none⟩), .pointer (some ⟨bs, 0, none⟩), .pointer (some ⟨by_, 0, none⟩), .pointer (some ⟨bc, 0, none⟩)] _ _
  rw [← hf] at HW ⊢
  clear hf hll hb hx hy hc hsb hG hS hcc hs
  go_enter Tryd.func77, Tryd.ntmps77
  go_wp2_with fail
  refine (HW.out _ s0.sent).mono ?_
  rintro e w1 ⟨g1, cp1, rfl, hg1, hG1, hb1⟩
  (have s1 := s0.call hb1; have q1 := s1.hold; simp only [Holds, and_true] at q1)
  simp only [World.size_alloc] at hg1
  clear s0 hb1
  go_wp2_with fail
  refine bodyPost_ret (v := (.agg #[.int .i64 n, (.slice (some ⟨g1, 0, none⟩) len cp1)])) (by simp [results, Tryd.results77, go_sem, q1]) rfl ⟨g1, cp1, rfl, by omega, ?_, ?_⟩
  · exact (hG1.other (by show W.heap.size + 1 ≠ g1; omega) _).other (by show W.heap.size + 1 ≠ g1; omega) _
  · iterate 2 refine Below.setCell ?_ (by first | (simp; done) | (simp; omega)) _
    exact s1.bel

/-- A number that lies in memory. -/
structure Sl1 (W : World) (b : Nat) (u : Value) : Prop where
  lt : b < W.heap.size
  one : W.cell? ⟨b, 0, none⟩ = some u
theorem Sl1.below {W w2 : World} {b : Nat} {u : Value} (h : Sl1 W b u) (hb : Below W.heap.size W w2) : Sl1 w2 b u :=
  ⟨Nat.lt_of_lt_of_le h.lt hb.size, (hb.cell (p := ⟨b, 0, none⟩) h.lt).trans h.one⟩
theorem Sl1.drew {W : World} {b : Nat} {u : Value} (h : Sl1 W b u) : Sl1 W.drew b u := h.below (Below.refl _ _).drew
theorem Sl1.alloc {W : World} {b : Nat} {u : Value} (h : Sl1 W b u) (B : Obj) : Sl1 (W.alloc B) b u := h.below ((Below.refl _ _).alloc (Nat.le_refl _) B)
theorem Sl1.here' {W : World} {b : Nat} {u : Value} {t : TypeId} (h : b = W.heap.size) : Sl1 (W.alloc (.cells #[u] t)) b u := by
  subst h
  exact ⟨by simp, by simp⟩
theorem Sl1.here {W : World} {u : Value} {t : TypeId} : Sl1 (W.alloc (.cells #[u] t)) W.heap.size u := Sl1.here' rfl
def foOErr (N : Int) (l : List Ce) (x : Int) : Int := firstE [zErr N l, voErr N [x]]
theorem voErr_one {N x : Int} (hN : 0 ≤ N ∧ N ≤ 4) (h : voErr N [x] = 0) : 0 ≤ x ∧ x < N := by
  unfold voErr varErr at h
  have hw : wrap64 (N - 1) = N - 1 := by unfold wrap64; omega
  rw [hw] at h
  simp only [List.map] at h
  rw [firstE_0] at h
  by_cases k : x < 0 ∨ N - 1 < x
  · rw [if_pos k] at h; omega
  · omega
set_option maxRecDepth 20000 in
set_option maxHeartbeats 4000000 in
theorem forgetO_any (N x : Int) (s : Option Addr) (c0 len : Nat) (l : List Ce) (a : Nat → Addr) (w : World) (hS : ErrS w a) (hA : CsAt w s l) (hl : Hid (len = l.length)) (hlen : len ≤ 1000) :
    Calls Tryd.prog 34 #[(.agg #[.int .i64 N, (.slice s len c0)]), .int .i64 x] w fun e w' =>
      ZrPost w a (foOErr N l x) N len (NoNeg (nOf N) (tg (nOf N) (matOf (nOf N) l))) (tellL (nOf N) (woO (tg (nOf N) (matOf (nOf N) l)) x.toNat)) e w' := by
  have s0 := (((St.startEC hS hA).box2 30 (.int .i64 N) (.slice s len c0)).box1 3 (.int .i64 x)).box2 30 (.int .i64 0) (.slice none 0 0)
  simp only [World.size_alloc] at s0
  have q0 := s0.hold
  simp only [Holds, and_true] at q0
  obtain ⟨e1, he1⟩ : ∃ e, e = zErr N l := ⟨_, rfl⟩
  obtain ⟨e2, he2⟩ : ∃ e, e = voErr N [x] := ⟨_, rfl⟩
  obtain ⟨er, her⟩ : ∃ e, e = foOErr N l x := ⟨_, rfl⟩
  have HV : Hid (∀ W : World, ErrS W a → CsAt W s l → Calls Tryd.prog 20 #[(.agg #[.int .i64 N, (.slice s len c0)])] W fun e w' => e = .returned (erV a e1) ∧ Below W.heap.size W w') := fun W h1 h2 => by rw [he1]; exact valid_any N s c0 len l a W h1 h2 hl hlen
  have HX : Hid (∀ (W : World) (b : Nat), ErrS W a → Sl1 W b (.int .i64 x) → Calls Tryd.prog 71 #[(.agg #[.int .i64 N, (.slice s len c0)]), .slice (some ⟨b, 0, none⟩) 1 1] W fun e w' => e = .returned (erV a e2) ∧ Below W.heap.size W w') := by
    intro W b h1 h2
    rw [he2]
    refine voErr_any N s len c0 b 1 1 [x] a W h1 rfl (by omega) h2.lt ?_
    intro i hi
    obtain rfl : i = 0 := by omega
    exact h2.one
  have HF : Hid (∀ (W : World) (t : TypeId), Calls Tryd.prog 49 #[.slice (some ⟨W.heap.size, 0, none⟩) 2 2] (W.alloc (.cells #[erV a e1, erV a e2] t)) fun e w' => e = .returned (erV a er) ∧ w' = (W.alloc (.cells #[erV a e1, erV a e2] t))) := fun W t => by
    rw [her]; unfold foOErr; rw [← he1, ← he2]; exact first2 a _ _ t W
  have hcl : ∀ x, (erV a x).cells = #[erV a x] := erV_cells a
  unfold Value.cells at hcl
  rw [← her]
  by_cases h0 : er = 0
  · have h1 : firstE [zErr N l, voErr N [x]] = 0 := by have := her; unfold foOErr at this; rw [← this]; exact h0
    rw [firstE_0, firstE_0] at h1
    obtain ⟨hz, hv1, -⟩ := h1
    obtain ⟨z1, z2, z3, z4, z5, z6⟩ := zErr_0 hz
    obtain ⟨v1, v2⟩ := voErr_one (by omega) hv1
    obtain ⟨n, hn⟩ : ∃ n, n = nOf N := ⟨_, rfl⟩
    rw [← hn] at z1 z2 z3 z4 ⊢
    have hll : Hid (len = n * n) := by show _ = _; rw [hl.out]; exact z4
    obtain ⟨x', hx'⟩ : ∃ k : Nat, (k : Int) = x := ⟨x.toNat, by omega⟩
    have ex : x.toNat = x' := by omega
    rw [ex]
    subst hx'
    have HT : Hid (∀ W : World, CsAt W s l → W.cell? ⟨w.heap.size + 1, 0, none⟩ = some (.int .i64 x') → Calls Tryd.prog 72 #[(.agg #[.int .i64 N, (.slice s len c0)]), .func (.func 73) #[] #[.pointer (some ⟨w.heap.size + 1, 0, none⟩)]] W fun e w' => ZaPost W N len (NoNeg n (tg n (matOf n l))) (tellL n (woO (tg n (matOf n l)) x')) e w') := by
      intro W h hx
      exact tellChanged_any _ _ N n c0 len s l _ W h hl hll ⟨z2, z3⟩ z1 (sz_mat z4 z6) enters_foO (chg_foO n len x' (w.heap.size + 1) _ W hx hll z3)
    obtain ⟨L, hL⟩ : ∃ L, L = tellL n (woO (tg n (matOf n l)) x') := ⟨_, rfl⟩
    obtain ⟨ok, hok⟩ : ∃ ok, ok = NoNeg n (tg n (matOf n l)) := ⟨_, rfl⟩
    rw [← hL, ← hok] at HT ⊢
    rw [h0] at HF ⊢
    rw [erV_0] at HF
    clear hL hok hS hA hl hll z1 z2 z3 z4 z5 z6 hz hn h0 hv1 v1 v2 ex her he1 he2
    go_enter Tryd.func34, Tryd.ntmps34
    go_wp2_with fail
    go_cut [7] (fun t7 wx => t7 = .nilIface ∧ St w wx (EC a s l) ((w.heap.size + 1 + 1, 0, Value.int .i64 0) :: (w.heap.size + 1 + 1, 1, Value.slice none 0 0) :: (w.heap.size + 1, 0, Value.int .i64 x') :: (w.heap.size, 0, Value.int .i64 N) :: (w.heap.size, 1, Value.slice s len c0) :: []))
    case first =>
      (go_region_held3 (fun w' => w'.cell? ⟨w.heap.size + 1 + 1, 0, none⟩ = some (.int .i64 0) ∧ w'.cell? ⟨w.heap.size + 1 + 1, 1, none⟩ = some (.slice none 0 0) ∧ w'.cell? ⟨w.heap.size + 1, 0, none⟩ = some (.int .i64 x') ∧ w'.cell? ⟨w.heap.size, 0, none⟩ = some (.int .i64 N) ∧ w'.cell? ⟨w.heap.size, 1, none⟩ = some (.slice s len c0) ∧ St w w' (EC a s l) ((w.heap.size + 1 + 1, 0, Value.int .i64 0) :: (w.heap.size + 1 + 1, 1, Value.slice none 0 0) :: (w.heap.size + 1, 0, Value.int .i64 x') :: (w.heap.size, 0, Value.int .i64 N) :: (w.heap.size, 1, Value.slice s len c0) :: [])) (first | (exact keepSt0 ((w.heap.size + 1 + 1, 0, Value.int .i64 0) :: (w.heap.size + 1 + 1, 1, Value.slice none 0 0) :: (w.heap.size + 1, 0, Value.int .i64 x') :: (w.heap.size, 0, Value.int .i64 N) :: (w.heap.size, 1, Value.slice s len c0) :: []) s0.drew) | (exact keepSt ((w.heap.size + 1 + 1, 0, Value.int .i64 0) :: (w.heap.size + 1 + 1, 1, Value.slice none 0 0) :: (w.heap.size + 1, 0, Value.int .i64 x') :: (w.heap.size, 0, Value.int .i64 N) :: (w.heap.size, 1, Value.slice s len c0) :: []) (by assumption) (by assumption)) | (exact keepSt ((w.heap.size + 1 + 1, 0, Value.int .i64 0) :: (w.heap.size + 1 + 1, 1, Value.slice none 0 0) :: (w.heap.size + 1, 0, Value.int .i64 x') :: (w.heap.size, 0, Value.int .i64 N) :: (w.heap.size, 1, Value.slice s len c0) :: []) ((Below.refl _ _).alloc (Nat.le_refl _) _) (by assumption)) | assumption) (first | (go_at_call 20; refine (HV.out _ (keepEC1 (w := w) (x := s) (l := l) ((w.heap.size + 1 + 1, 0, Value.int .i64 0) :: (w.heap.size + 1 + 1, 1, Value.slice none 0 0) :: (w.heap.size + 1, 0, Value.int .i64 x') :: (w.heap.size, 0, Value.int .i64 N) :: (w.heap.size, 1, Value.slice s len c0) :: []) (by assumption)) (keepEC2 (w := w) (a := a) ((w.heap.size + 1 + 1, 0, Value.int .i64 0) :: (w.heap.size + 1 + 1, 1, Value.slice none 0 0) :: (w.heap.size + 1, 0, Value.int .i64 x') :: (w.heap.size, 0, Value.int .i64 N) :: (w.heap.size, 1, Value.slice s len c0) :: []) (by assumption))).mono ?_; rintro e w2 ⟨rfl, hb2⟩; (first | (with_reducible have hpX := Sl1.below hpX hb2) | (with_reducible have hpX := Sl1.below (Sl1.alloc hpX _) hb2) | (with_reducible have hpX := Sl1.below Sl1.here hb2) | (with_reducible have hpX := Sl1.below (Sl1.drew Sl1.here) hb2) | skip); (first | (simp only [World.size_alloc] at hpX) | skip)) | (go_at_call 71; have hpX2 := hpX; refine (HX.out _ _ (keepEC1 (w := w) (x := s) (l := l) ((w.heap.size + 1 + 1, 0, Value.int .i64 0) :: (w.heap.size + 1 + 1, 1, Value.slice none 0 0) :: (w.heap.size + 1, 0, Value.int .i64 x') :: (w.heap.size, 0, Value.int .i64 N) :: (w.heap.size, 1, Value.slice s len c0) :: []) (by assumption)) (by first | with_reducible exact hpX | with_reducible exact hpX.alloc _ | with_reducible exact hpX.drew | with_reducible exact (hpX.alloc _).drew | with_reducible exact hpX.drew.alloc _)).mono ?_; rintro e w3 ⟨rfl, hb3⟩) | (go_at_call 71; refine (HX.out _ _ (keepEC1 (w := w) (x := s) (l := l) ((w.heap.size + 1 + 1, 0, Value.int .i64 0) :: (w.heap.size + 1 + 1, 1, Value.slice none 0 0) :: (w.heap.size + 1, 0, Value.int .i64 x') :: (w.heap.size, 0, Value.int .i64 N) :: (w.heap.size, 1, Value.slice s len c0) :: []) (by assumption)) (by first | with_reducible exact Sl1.here' (by simp) | with_reducible exact Sl1.drew (Sl1.here' (by simp)))).mono ?_; rintro e w3 ⟨rfl, hb3⟩) | (go_at_call 49; refine (HF.out _ _).mono ?_; rintro e w4 ⟨rfl, rfl⟩)))
      all_goals
        have s5 := keepSt_st (w := w) (Z := EC a s l) ((w.heap.size + 1 + 1, 0, Value.int .i64 0) :: (w.heap.size + 1 + 1, 1, Value.slice none 0 0) :: (w.heap.size + 1, 0, Value.int .i64 x') :: (w.heap.size, 0, Value.int .i64 N) :: (w.heap.size, 1, Value.slice s len c0) :: []) (by assumption)
        go_wp2_with fail
        go_meet
        case rel => exact ⟨rfl, s5⟩
    case rest =>
    obtain ⟨rfl, s5⟩ := hcut
    clear s0 q0 HV HX HF hcl
    have q5 := s5.hold
    simp only [Holds, and_true] at q5
    go_wp2_with fail
    refine (HT.out _ s5.sent.2 q5.2.2.1.1).mono ?_
    rintro e w8 ⟨hb8, h8⟩
    have s8 := s5.call hb8
    have q8 := s8.hold
    simp only [Holds, and_true] at q8
    have sz2 := q5.1.2.1
    clear s5 hb8 q5
    rcases h8 with ⟨hno, rfl⟩ | ⟨hyes, g4, cp4, rfl, hg4, hR4⟩
    · go_wp2_with fail
      refine bodyPost_ret (v := .tuple #[(.agg #[.int .i64 0, .slice none 0 0]), .bool false, .nilIface]) (by simp [results, Tryd.results34, go_sem, q8]) rfl ⟨?_, .inr (.inl ⟨rfl, hno, rfl⟩)⟩
      repeat' (first | exact s8.bel | refine Below.setCell ?_ (by first | (simp; done) | (simp; omega)) _)
    · go_wp2_with fail
      refine bodyPost_ret (v := .tuple #[(.agg #[.int .i64 N, (.slice (some ⟨g4, 0, none⟩) len cp4)]), .bool true, .nilIface]) (by simp [results, Tryd.results34, go_sem, q8]) rfl ⟨?_, .inr (.inr ⟨rfl, hyes, g4, cp4, rfl, by omega, ?_⟩)⟩
      · repeat' (first | exact s8.bel | refine Below.setCell ?_ (by first | (simp; done) | (simp; omega)) _)
      · exact (hR4.other (by show w.heap.size + 1 + 1 ≠ g4; omega) _).other (by show w.heap.size + 1 + 1 ≠ g4; omega) _
  · rw [erV_ne h0] at HF
    have H0 := hide h0
    clear h0 hS hA hl her he1 he2
    go_enter Tryd.func34, Tryd.ntmps34
    go_wp2_with fail
    go_cut [7] (fun t7 wx => t7 = .iface 169 (.pointer (some (a (er.toNat - 1)))) ∧ St w wx (EC a s l) ((w.heap.size + 1 + 1, 0, Value.int .i64 0) :: (w.heap.size + 1 + 1, 1, Value.slice none 0 0) :: (w.heap.size + 1, 0, Value.int .i64 x) :: (w.heap.size, 0, Value.int .i64 N) :: (w.heap.size, 1, Value.slice s len c0) :: []))
    case first =>
      (go_region_held3 (fun w' => w'.cell? ⟨w.heap.size + 1 + 1, 0, none⟩ = some (.int .i64 0) ∧ w'.cell? ⟨w.heap.size + 1 + 1, 1, none⟩ = some (.slice none 0 0) ∧ w'.cell? ⟨w.heap.size + 1, 0, none⟩ = some (.int .i64 x) ∧ w'.cell? ⟨w.heap.size, 0, none⟩ = some (.int .i64 N) ∧ w'.cell? ⟨w.heap.size, 1, none⟩ = some (.slice s len c0) ∧ St w w' (EC a s l) ((w.heap.size + 1 + 1, 0, Value.int .i64 0) :: (w.heap.size + 1 + 1, 1, Value.slice none 0 0) :: (w.heap.size + 1, 0, Value.int .i64 x) :: (w.heap.size, 0, Value.int .i64 N) :: (w.heap.size, 1, Value.slice s len c0) :: [])) (first | (exact keepSt0 ((w.heap.size + 1 + 1, 0, Value.int .i64 0) :: (w.heap.size + 1 + 1, 1, Value.slice none 0 0) :: (w.heap.size + 1, 0, Value.int .i64 x) :: (w.heap.size, 0, Value.int .i64 N) :: (w.heap.size, 1, Value.slice s len c0) :: []) s0.drew) | (exact keepSt ((w.heap.size + 1 + 1, 0, Value.int .i64 0) :: (w.heap.size + 1 + 1, 1, Value.slice none 0 0) :: (w.heap.size + 1, 0, Value.int .i64 x) :: (w.heap.size, 0, Value.int .i64 N) :: (w.heap.size, 1, Value.slice s len c0) :: []) (by assumption) (by assumption)) | (exact keepSt ((w.heap.size + 1 + 1, 0, Value.int .i64 0) :: (w.heap.size + 1 + 1, 1, Value.slice none 0 0) :: (w.heap.size + 1, 0, Value.int .i64 x) :: (w.heap.size, 0, Value.int .i64 N) :: (w.heap.size, 1, Value.slice s len c0) :: []) ((Below.refl _ _).alloc (Nat.le_refl _) _) (by assumption)) | assumption) (first | (go_at_call 20; refine (HV.out _ (keepEC1 (w := w) (x := s) (l := l) ((w.heap.size + 1 + 1, 0, Value.int .i64 0) :: (w.heap.size + 1 + 1, 1, Value.slice none 0 0) :: (w.heap.size + 1, 0, Value.int .i64 x) :: (w.heap.size, 0, Value.int .i64 N) :: (w.heap.size, 1, Value.slice s len c0) :: []) (by assumption)) (keepEC2 (w := w) (a := a) ((w.heap.size + 1 + 1, 0, Value.int .i64 0) :: (w.heap.size + 1 + 1, 1, Value.slice none 0 0) :: (w.heap.size + 1, 0, Value.int .i64 x) :: (w.heap.size, 0, Value.int .i64 N) :: (w.heap.size, 1, Value.slice s len c0) :: []) (by assumption))).mono ?_; rintro e w2 ⟨rfl, hb2⟩; (first | (with_reducible have hpX := Sl1.below hpX hb2) | (with_reducible have hpX := Sl1.below (Sl1.alloc hpX _) hb2) | (with_reducible have hpX := Sl1.below Sl1.here hb2) | (with_reducible have hpX := Sl1.below (Sl1.drew Sl1.here) hb2) | skip); (first | (simp only [World.size_alloc] at hpX) | skip)) | (go_at_call 71; have hpX2 := hpX; refine (HX.out _ _ (keepEC1 (w := w) (x := s) (l := l) ((w.heap.size + 1 + 1, 0, Value.int .i64 0) :: (w.heap.size + 1 + 1, 1, Value.slice none 0 0) :: (w.heap.size + 1, 0, Value.int .i64 x) :: (w.heap.size, 0, Value.int .i64 N) :: (w.heap.size, 1, Value.slice s len c0) :: []) (by assumption)) (by first | with_reducible exact hpX | with_reducible exact hpX.alloc _ | with_reducible exact hpX.drew | with_reducible exact (hpX.alloc _).drew | with_reducible exact hpX.drew.alloc _)).mono ?_; rintro e w3 ⟨rfl, hb3⟩) | (go_at_call 71; refine (HX.out _ _ (keepEC1 (w := w) (x := s) (l := l) ((w.heap.size + 1 + 1, 0, Value.int .i64 0) :: (w.heap.size + 1 + 1, 1, Value.slice none 0 0) :: (w.heap.size + 1, 0, Value.int .i64 x) :: (w.heap.size, 0, Value.int .i64 N) :: (w.heap.size, 1, Value.slice s len c0) :: []) (by assumption)) (by first | with_reducible exact Sl1.here' (by simp) | with_reducible exact Sl1.drew (Sl1.here' (by simp)))).mono ?_; rintro e w3 ⟨rfl, hb3⟩) | (go_at_call 49; refine (HF.out _ _).mono ?_; rintro e w4 ⟨rfl, rfl⟩)))
      all_goals
        have s5 := keepSt_st (w := w) (Z := EC a s l) ((w.heap.size + 1 + 1, 0, Value.int .i64 0) :: (w.heap.size + 1 + 1, 1, Value.slice none 0 0) :: (w.heap.size + 1, 0, Value.int .i64 x) :: (w.heap.size, 0, Value.int .i64 N) :: (w.heap.size, 1, Value.slice s len c0) :: []) (by assumption)
        go_wp2_with fail
        go_meet
        case rel => exact ⟨rfl, s5⟩
    case rest =>
    obtain ⟨rfl, s5⟩ := hcut
    have q5 := s5.hold
    simp only [Holds, and_true] at q5
    clear s0 q0 HV HX HF hcl
    go_wp2_with fail
    refine bodyPost_ret (v := .tuple #[(.agg #[.int .i64 0, .slice none 0 0]), .bool false, .iface 169 (.pointer (some (a (er.toNat - 1))))]) (by simp [results, Tryd.results34, go_sem, q5]) rfl ⟨?_, .inl ⟨H0.out, by rw [erV_ne H0.out]⟩⟩
    repeat' (first | exact s5.bel | refine Below.setCell ?_ (by first | (simp; done) | (simp; omega)) _)
end Go.Proofs.YtofjjaabgfmnpaaDoor

/- Octagons: octagon.Assign. -/
namespace Go.Proofs.YtofjjaabgfmnpaaDoor
open Go.RowKit
set_option linter.unusedVariables false

def asOErr (N : Int) (l : List Ce) (x sg y c : Int) : Int := firstE [zErr N l, voErr N [x, y], siErr [sg], numErr c]
theorem siErr_one {u : Int} (h : siErr [u] = 0) : u = 1 ∨ u = -1 ∨ u = 0 := by
  unfold siErr at h
  simp only [List.map] at h
  rw [firstE_0] at h
  have h1 := h.1
  by_cases k : u < -1 ∨ 1 < u
  · rw [if_pos k] at h1; omega
  · omega

set_option maxRecDepth 20000 in
set_option maxHeartbeats 8000000 in
theorem assignO_any (N x sg y c : Int) (s : Option Addr) (c0 len : Nat) (l : List Ce) (a : Nat → Addr) (w : World) (hS : ErrS w a) (hA : CsAt w s l) (hl : Hid (len = l.length)) (hlen : len ≤ 1000) :
    Calls Tryd.prog 35 #[(.agg #[.int .i64 N, (.slice s len c0)]), .int .i64 x, .int .i64 sg, .int .i64 y, .int .i64 c] w fun e w' =>
      ZrPost w a (asOErr N l x sg y c) N len (NoNeg (nOf N) (tg (nOf N) (matOf (nOf N) l))) (tellL (nOf N) (mvO (tg (nOf N) (matOf (nOf N) l)) x.toNat sg y.toNat c)) e w' := by
  have s0 := ((((((St.startEC hS hA).box2 30 (.int .i64 N) (.slice s len c0)).box1 3 (.int .i64 x)).box1 3 (.int .i64 sg)).box1 3 (.int .i64 y)).box1 3 (.int .i64 c)).box2 30 (.int .i64 0) (.slice none 0 0)
  simp only [World.size_alloc] at s0
  have q0 := s0.hold
  simp only [Holds, and_true] at q0
  obtain ⟨e1, he1⟩ : ∃ e, e = zErr N l := ⟨_, rfl⟩
  obtain ⟨e2, he2⟩ : ∃ e, e = voErr N [x, y] := ⟨_, rfl⟩
  obtain ⟨e3, he3⟩ : ∃ e, e = siErr [sg] := ⟨_, rfl⟩
  obtain ⟨e4, he4⟩ : ∃ e, e = numErr c := ⟨_, rfl⟩
  obtain ⟨er, her⟩ : ∃ e, e = asOErr N l x sg y c := ⟨_, rfl⟩
  have HV : Hid (∀ W : World, ErrS W a → CsAt W s l → Calls Tryd.prog 20 #[(.agg #[.int .i64 N, (.slice s len c0)])] W fun e w' => e = .returned (erV a e1) ∧ Below W.heap.size W w') := fun W h1 h2 => by rw [he1]; exact valid_any N s c0 len l a W h1 h2 hl hlen
  have HX : Hid (∀ (W : World) (b : Nat), ErrS W a → Sl2 W b (.int .i64 x) (.int .i64 y) → Calls Tryd.prog 71 #[(.agg #[.int .i64 N, (.slice s len c0)]), .slice (some ⟨b, 0, none⟩) 2 2] W fun e w' => e = .returned (erV a e2) ∧ Below W.heap.size W w') := by
    intro W b h1 h2
    rw [he2]
    refine voErr_any N s len c0 b 2 2 [x, y] a W h1 rfl (by omega) h2.lt ?_
    intro i hi
    rcases (by omega : i = 0 ∨ i = 1) with rfl | rfl
    · exact h2.one
    · exact h2.two
  have HSg : Hid (∀ (W : World) (b : Nat), ErrS W a → Sl1 W b (.int .i64 sg) → Calls Tryd.prog 75 #[.slice (some ⟨b, 0, none⟩) 1 1] W fun e w' => e = .returned (erV a e3) ∧ Below W.heap.size W w') := by
    intro W b h1 h2
    rw [he3]
    refine (siErr_any b 1 1 [sg] a W h1 rfl (by omega) h2.lt ?_).mono fun _ _ k => ⟨k.1, by rw [k.2]; exact Below.refl _ _⟩
    intro i hi
    obtain rfl : i = 0 := by omega
    exact h2.one
  have HN : Hid (∀ W : World, ErrS W a → Calls Tryd.prog 76 #[.int .i64 c] W fun e w' => e = .returned (erV a e4) ∧ w' = W) := fun W h => by rw [he4]; exact numErr_any c a W h
  have HF : Hid (∀ (W : World) (t : TypeId), Calls Tryd.prog 49 #[.slice (some ⟨W.heap.size, 0, none⟩) 4 4] (W.alloc (.cells #[erV a e1, erV a e2, erV a e3, erV a e4] t)) fun e w' => e = .returned (erV a er) ∧ w' = (W.alloc (.cells #[erV a e1, erV a e2, erV a e3, erV a e4] t))) := fun W t => by
    rw [her]; unfold asOErr; rw [← he1, ← he2, ← he3, ← he4]; exact first4 a _ _ _ _ t W
  have hcl : ∀ x, (erV a x).cells = #[erV a x] := erV_cells a
  unfold Value.cells at hcl
  rw [← her]
  by_cases h0 : er = 0
  · have h1 : firstE [zErr N l, voErr N [x, y], siErr [sg], numErr c] = 0 := by have := her; unfold asOErr at this; rw [← this]; exact h0
    rw [firstE_0, firstE_0, firstE_0, firstE_0] at h1
    obtain ⟨hz, hv1, hs1, hnm, -⟩ := h1
    obtain ⟨z1, z2, z3, z4, z5, z6⟩ := zErr_0 hz
    obtain ⟨⟨x1, x2⟩, y1, y2⟩ := voErr_two (by omega) hv1
    have hsg := siErr_one hs1
    have v5 := numErr_0 hnm
    obtain ⟨n, hn⟩ : ∃ n, n = nOf N := ⟨_, rfl⟩
    rw [← hn] at z1 z2 z3 z4 ⊢
    have hll : Hid (len = n * n) := by show _ = _; rw [hl.out]; exact z4
    obtain ⟨x', hx'⟩ : ∃ k : Nat, (k : Int) = x := ⟨x.toNat, by omega⟩
    obtain ⟨y', hy'⟩ : ∃ k : Nat, (k : Int) = y := ⟨y.toNat, by omega⟩
    have ex : x.toNat = x' := by omega
    have ey : y.toNat = y' := by omega
    have hxn : 2 * x' + 1 < n := by omega
    have hyn : 2 * y' + 1 < n := by omega
    rw [ex, ey]
    subst hx' hy'
    have HT : Hid (∀ W : World, CsAt W s l → W.cell? ⟨w.heap.size + 1, 0, none⟩ = some (.int .i64 x') → W.cell? ⟨w.heap.size + 1 + 1, 0, none⟩ = some (.int .i64 sg) → W.cell? ⟨w.heap.size + 1 + 1 + 1, 0, none⟩ = some (.int .i64 y') → W.cell? ⟨w.heap.size + 1 + 1 + 1 + 1, 0, none⟩ = some (.int .i64 c) → Calls Tryd.prog 72 #[(.agg #[.int .i64 N, (.slice s len c0)]), .func (.func 77) #[] #[.pointer (some ⟨w.heap.size + 1, 0, none⟩), .pointer (some ⟨w.heap.size + 1 + 1, 0, none⟩), .pointer (some ⟨w.heap.size + 1 + 1 + 1, 0, none⟩), .pointer (some ⟨w.heap.size + 1 + 1 + 1 + 1, 0, none⟩)]] W fun e w' => ZaPost W N len (NoNeg n (tg n (matOf n l))) (tellL n (mvO (tg n (matOf n l)) x' sg y' c)) e w') := by
      intro W h hx hs hy hc
      exact tellChanged_any _ _ N n c0 len s l _ W h hl hll ⟨z2, z3⟩ z1 (sz_mat z4 z6) enters_asO (chg_asO n len x' y' _ _ _ _ sg c _ W hx hs hy hc hll z3 z2 hxn hyn hsg v5 (sz_tg (sz_mat z4 z6) z3 z2))
    obtain ⟨L, hL⟩ : ∃ L, L = tellL n (mvO (tg n (matOf n l)) x' sg y' c) := ⟨_, rfl⟩
    obtain ⟨ok, hok⟩ : ∃ ok, ok = NoNeg n (tg n (matOf n l)) := ⟨_, rfl⟩
    rw [← hL, ← hok] at HT ⊢
    rw [h0] at HF ⊢
    rw [erV_0] at HF
    clear hL hok hS hA hl hll z1 z2 z3 z4 z5 z6 hz hn h0 hv1 hs1 hsg hnm x1 x2 y1 y2 v5 ex ey her he1 he2 he3 he4 hxn hyn
    go_enter Tryd.func35, Tryd.ntmps35
    go_wp2_with fail
    go_cut [13] (fun t7 wx => t7 = .nilIface ∧ St w wx (EC a s l) ((w.heap.size + 1 + 1 + 1 + 1 + 1, 0, Value.int .i64 0) :: (w.heap.size + 1 + 1 + 1 + 1 + 1, 1, Value.slice none 0 0) :: (w.heap.size + 1 + 1 + 1 + 1, 0, Value.int .i64 c) :: (w.heap.size + 1 + 1 + 1, 0, Value.int .i64 y') :: (w.heap.size + 1 + 1, 0, Value.int .i64 sg) :: (w.heap.size + 1, 0, Value.int .i64 x') :: (w.heap.size, 0, Value.int .i64 N) :: (w.heap.size, 1, Value.slice s len c0) :: []))
    case first =>
      (go_region_held3 (fun w' => w'.cell? ⟨w.heap.size + 1 + 1 + 1 + 1 + 1, 0, none⟩ = some (.int .i64 0) ∧ w'.cell? ⟨w.heap.size + 1 + 1 + 1 + 1 + 1, 1, none⟩ = some (.slice none 0 0) ∧ w'.cell? ⟨w.heap.size + 1 + 1 + 1 + 1, 0, none⟩ = some (.int .i64 c) ∧ w'.cell? ⟨w.heap.size + 1 + 1 + 1, 0, none⟩ = some (.int .i64 y') ∧ w'.cell? ⟨w.heap.size + 1 + 1, 0, none⟩ = some (.int .i64 sg) ∧ w'.cell? ⟨w.heap.size + 1, 0, none⟩ = some (.int .i64 x') ∧ w'.cell? ⟨w.heap.size, 0, none⟩ = some (.int .i64 N) ∧ w'.cell? ⟨w.heap.size, 1, none⟩ = some (.slice s len c0) ∧ St w w' (EC a s l) ((w.heap.size + 1 + 1 + 1 + 1 + 1, 0, Value.int .i64 0) :: (w.heap.size + 1 + 1 + 1 + 1 + 1, 1, Value.slice none 0 0) :: (w.heap.size + 1 + 1 + 1 + 1, 0, Value.int .i64 c) :: (w.heap.size + 1 + 1 + 1, 0, Value.int .i64 y') :: (w.heap.size + 1 + 1, 0, Value.int .i64 sg) :: (w.heap.size + 1, 0, Value.int .i64 x') :: (w.heap.size, 0, Value.int .i64 N) :: (w.heap.size, 1, Value.slice s len c0) :: [])) (first | (exact keepSt0 ((w.heap.size + 1 + 1 + 1 + 1 + 1, 0, Value.int .i64 0) :: (w.heap.size + 1 + 1 + 1 + 1 + 1, 1, Value.slice none 0 0) :: (w.heap.size + 1 + 1 + 1 + 1, 0, Value.int .i64 c) :: (w.heap.size + 1 + 1 + 1, 0, Value.int .i64 y') :: (w.heap.size + 1 + 1, 0, Value.int .i64 sg) :: (w.heap.size + 1, 0, Value.int .i64 x') :: (w.heap.size, 0, Value.int .i64 N) :: (w.heap.size, 1, Value.slice s len c0) :: []) s0.drew) | (exact keepSt ((w.heap.size + 1 + 1 + 1 + 1 + 1, 0, Value.int .i64 0) :: (w.heap.size + 1 + 1 + 1 + 1 + 1, 1, Value.slice none 0 0) :: (w.heap.size + 1 + 1 + 1 + 1, 0, Value.int .i64 c) :: (w.heap.size + 1 + 1 + 1, 0, Value.int .i64 y') :: (w.heap.size + 1 + 1, 0, Value.int .i64 sg) :: (w.heap.size + 1, 0, Value.int .i64 x') :: (w.heap.size, 0, Value.int .i64 N) :: (w.heap.size, 1, Value.slice s len c0) :: []) (by assumption) (by assumption)) | (exact keepSt ((w.heap.size + 1 + 1 + 1 + 1 + 1, 0, Value.int .i64 0) :: (w.heap.size + 1 + 1 + 1 + 1 + 1, 1, Value.slice none 0 0) :: (w.heap.size + 1 + 1 + 1 + 1, 0, Value.int .i64 c) :: (w.heap.size + 1 + 1 + 1, 0, Value.int .i64 y') :: (w.heap.size + 1 + 1, 0, Value.int .i64 sg) :: (w.heap.size + 1, 0, Value.int .i64 x') :: (w.heap.size, 0, Value.int .i64 N) :: (w.heap.size, 1, Value.slice s len c0) :: []) ((Below.refl _ _).alloc (Nat.le_refl _) _) (by assumption)) | assumption) (first | (go_at_call 20; refine (HV.out _ (keepEC1 (w := w) (x := s) (l := l) ((w.heap.size + 1 + 1 + 1 + 1 + 1, 0, Value.int .i64 0) :: (w.heap.size + 1 + 1 + 1 + 1 + 1, 1, Value.slice none 0 0) :: (w.heap.size + 1 + 1 + 1 + 1, 0, Value.int .i64 c) :: (w.heap.size + 1 + 1 + 1, 0, Value.int .i64 y') :: (w.heap.size + 1 + 1, 0, Value.int .i64 sg) :: (w.heap.size + 1, 0, Value.int .i64 x') :: (w.heap.size, 0, Value.int .i64 N) :: (w.heap.size, 1, Value.slice s len c0) :: []) (by assumption)) (keepEC2 (w := w) (a := a) ((w.heap.size + 1 + 1 + 1 + 1 + 1, 0, Value.int .i64 0) :: (w.heap.size + 1 + 1 + 1 + 1 + 1, 1, Value.slice none 0 0) :: (w.heap.size + 1 + 1 + 1 + 1, 0, Value.int .i64 c) :: (w.heap.size + 1 + 1 + 1, 0, Value.int .i64 y') :: (w.heap.size + 1 + 1, 0, Value.int .i64 sg) :: (w.heap.size + 1, 0, Value.int .i64 x') :: (w.heap.size, 0, Value.int .i64 N) :: (w.heap.size, 1, Value.slice s len c0) :: []) (by assumption))).mono ?_; rintro e w2 ⟨rfl, hb2⟩; (first | (with_reducible have hpX := Sl2.below hpX hb2) | (with_reducible have hpX := Sl2.below (hpX.alloc _) hb2) | (with_reducible have hpX : Sl2 _ _ (Value.int .i64 x') _ := Sl2.below Sl2.here hb2) | (with_reducible have hpX : Sl2 _ _ (Value.int .i64 x') _ := Sl2.below (Sl2.drew Sl2.here) hb2) | (with_reducible have hpX : Sl2 _ _ (Value.int .i64 x') _ := Sl2.below (Sl2.alloc Sl2.here _) hb2) | (with_reducible have hpX : Sl2 _ _ (Value.int .i64 x') _ := Sl2.below (Sl2.drew (Sl2.alloc Sl2.here _)) hb2) | (with_reducible have hpX : Sl2 _ _ (Value.int .i64 x') _ := Sl2.below (Sl2.alloc (Sl2.drew Sl2.here) _) hb2) | skip); (first | (simp only [World.size_alloc] at hpX) | skip); (first | (with_reducible have hpS := Sl1.below hpS hb2) | (with_reducible have hpS := Sl1.below (hpS.alloc _) hb2) | (with_reducible have hpS : Sl1 _ _ (Value.int .i64 sg) := Sl1.below Sl1.here hb2) | (with_reducible have hpS : Sl1 _ _ (Value.int .i64 sg) := Sl1.below (Sl1.drew Sl1.here) hb2) | (with_reducible have hpS : Sl1 _ _ (Value.int .i64 sg) := Sl1.below (Sl1.alloc Sl1.here _) hb2) | (with_reducible have hpS : Sl1 _ _ (Value.int .i64 sg) := Sl1.below (Sl1.drew (Sl1.alloc Sl1.here _)) hb2) | (with_reducible have hpS : Sl1 _ _ (Value.int .i64 sg) := Sl1.below (Sl1.alloc (Sl1.drew Sl1.here) _) hb2) | skip); (first | (simp only [World.size_alloc] at hpS) | skip)) | (go_at_call 71; have hpX2 := hpX; refine (HX.out _ _ (keepEC1 (w := w) (x := s) (l := l) ((w.heap.size + 1 + 1 + 1 + 1 + 1, 0, Value.int .i64 0) :: (w.heap.size + 1 + 1 + 1 + 1 + 1, 1, Value.slice none 0 0) :: (w.heap.size + 1 + 1 + 1 + 1, 0, Value.int .i64 c) :: (w.heap.size + 1 + 1 + 1, 0, Value.int .i64 y') :: (w.heap.size + 1 + 1, 0, Value.int .i64 sg) :: (w.heap.size + 1, 0, Value.int .i64 x') :: (w.heap.size, 0, Value.int .i64 N) :: (w.heap.size, 1, Value.slice s len c0) :: []) (by assumption)) (by first | with_reducible exact hpX | with_reducible exact hpX.alloc _ | with_reducible exact hpX.drew | with_reducible exact (hpX.alloc _).drew | with_reducible exact hpX.drew.alloc _)).mono ?_; rintro e w3 ⟨rfl, hb3⟩; (first | (with_reducible have hpS := Sl1.below hpS hb3) | (with_reducible have hpS := Sl1.below (hpS.alloc _) hb3) | (with_reducible have hpS : Sl1 _ _ (Value.int .i64 sg) := Sl1.below Sl1.here hb3) | (with_reducible have hpS : Sl1 _ _ (Value.int .i64 sg) := Sl1.below (Sl1.drew Sl1.here) hb3) | (with_reducible have hpS : Sl1 _ _ (Value.int .i64 sg) := Sl1.below (Sl1.alloc Sl1.here _) hb3) | (with_reducible have hpS : Sl1 _ _ (Value.int .i64 sg) := Sl1.below (Sl1.drew (Sl1.alloc Sl1.here _)) hb3) | (with_reducible have hpS : Sl1 _ _ (Value.int .i64 sg) := Sl1.below (Sl1.alloc (Sl1.drew Sl1.here) _) hb3) | skip); (first | (simp only [World.size_alloc] at hpS) | skip)) | (go_at_call 71; refine (HX.out _ _ (keepEC1 (w := w) (x := s) (l := l) ((w.heap.size + 1 + 1 + 1 + 1 + 1, 0, Value.int .i64 0) :: (w.heap.size + 1 + 1 + 1 + 1 + 1, 1, Value.slice none 0 0) :: (w.heap.size + 1 + 1 + 1 + 1, 0, Value.int .i64 c) :: (w.heap.size + 1 + 1 + 1, 0, Value.int .i64 y') :: (w.heap.size + 1 + 1, 0, Value.int .i64 sg) :: (w.heap.size + 1, 0, Value.int .i64 x') :: (w.heap.size, 0, Value.int .i64 N) :: (w.heap.size, 1, Value.slice s len c0) :: []) (by assumption)) (by first | with_reducible exact Sl2.here' (by simp) | with_reducible exact Sl2.drew (Sl2.here' (by simp)) | with_reducible exact Sl2.alloc (Sl2.here' (by simp)) _ | with_reducible exact Sl2.drew (Sl2.alloc (Sl2.here' (by simp)) _) | with_reducible exact Sl2.alloc (Sl2.drew (Sl2.here' (by simp))) _)).mono ?_; rintro e w3 ⟨rfl, hb3⟩; (first | (with_reducible have hpS := Sl1.below hpS hb3) | (with_reducible have hpS := Sl1.below (hpS.alloc _) hb3) | (with_reducible have hpS : Sl1 _ _ (Value.int .i64 sg) := Sl1.below Sl1.here hb3) | (with_reducible have hpS : Sl1 _ _ (Value.int .i64 sg) := Sl1.below (Sl1.drew Sl1.here) hb3) | (with_reducible have hpS : Sl1 _ _ (Value.int .i64 sg) := Sl1.below (Sl1.alloc Sl1.here _) hb3) | (with_reducible have hpS : Sl1 _ _ (Value.int .i64 sg) := Sl1.below (Sl1.drew (Sl1.alloc Sl1.here _)) hb3) | (with_reducible have hpS : Sl1 _ _ (Value.int .i64 sg) := Sl1.below (Sl1.alloc (Sl1.drew Sl1.here) _) hb3) | skip); (first | (simp only [World.size_alloc] at hpS) | skip)) | (go_at_call 75; have hpS2 := hpS; refine (HSg.out _ _ (keepEC1 (w := w) (x := s) (l := l) ((w.heap.size + 1 + 1 + 1 + 1 + 1, 0, Value.int .i64 0) :: (w.heap.size + 1 + 1 + 1 + 1 + 1, 1, Value.slice none 0 0) :: (w.heap.size + 1 + 1 + 1 + 1, 0, Value.int .i64 c) :: (w.heap.size + 1 + 1 + 1, 0, Value.int .i64 y') :: (w.heap.size + 1 + 1, 0, Value.int .i64 sg) :: (w.heap.size + 1, 0, Value.int .i64 x') :: (w.heap.size, 0, Value.int .i64 N) :: (w.heap.size, 1, Value.slice s len c0) :: []) (by assumption)) (by first | with_reducible exact hpS | with_reducible exact hpS.alloc _ | with_reducible exact hpS.drew | with_reducible exact (hpS.alloc _).drew | with_reducible exact hpS.drew.alloc _)).mono ?_; rintro e w4 ⟨rfl, hb4⟩) | (go_at_call 75; refine (HSg.out _ _ (keepEC1 (w := w) (x := s) (l := l) ((w.heap.size + 1 + 1 + 1 + 1 + 1, 0, Value.int .i64 0) :: (w.heap.size + 1 + 1 + 1 + 1 + 1, 1, Value.slice none 0 0) :: (w.heap.size + 1 + 1 + 1 + 1, 0, Value.int .i64 c) :: (w.heap.size + 1 + 1 + 1, 0, Value.int .i64 y') :: (w.heap.size + 1 + 1, 0, Value.int .i64 sg) :: (w.heap.size + 1, 0, Value.int .i64 x') :: (w.heap.size, 0, Value.int .i64 N) :: (w.heap.size, 1, Value.slice s len c0) :: []) (by assumption)) (by first | with_reducible exact Sl1.here' (by simp) | with_reducible exact Sl1.drew (Sl1.here' (by simp)) | with_reducible exact Sl1.alloc (Sl1.here' (by simp)) _ | with_reducible exact Sl1.drew (Sl1.alloc (Sl1.here' (by simp)) _) | with_reducible exact Sl1.alloc (Sl1.drew (Sl1.here' (by simp))) _)).mono ?_; rintro e w4 ⟨rfl, hb4⟩) | (go_at_call 76; refine (HN.out _ (keepEC1 (w := w) (x := s) (l := l) ((w.heap.size + 1 + 1 + 1 + 1 + 1, 0, Value.int .i64 0) :: (w.heap.size + 1 + 1 + 1 + 1 + 1, 1, Value.slice none 0 0) :: (w.heap.size + 1 + 1 + 1 + 1, 0, Value.int .i64 c) :: (w.heap.size + 1 + 1 + 1, 0, Value.int .i64 y') :: (w.heap.size + 1 + 1, 0, Value.int .i64 sg) :: (w.heap.size + 1, 0, Value.int .i64 x') :: (w.heap.size, 0, Value.int .i64 N) :: (w.heap.size, 1, Value.slice s len c0) :: []) (by assumption))).mono ?_; rintro e w4 ⟨rfl, rfl⟩) | (go_at_call 49; refine (HF.out _ _).mono ?_; rintro e w4 ⟨rfl, rfl⟩)))
      all_goals
        have s5 := keepSt_st (w := w) (Z := EC a s l) ((w.heap.size + 1 + 1 + 1 + 1 + 1, 0, Value.int .i64 0) :: (w.heap.size + 1 + 1 + 1 + 1 + 1, 1, Value.slice none 0 0) :: (w.heap.size + 1 + 1 + 1 + 1, 0, Value.int .i64 c) :: (w.heap.size + 1 + 1 + 1, 0, Value.int .i64 y') :: (w.heap.size + 1 + 1, 0, Value.int .i64 sg) :: (w.heap.size + 1, 0, Value.int .i64 x') :: (w.heap.size, 0, Value.int .i64 N) :: (w.heap.size, 1, Value.slice s len c0) :: []) (by assumption)
        go_wp2_with fail
        go_meet
        case rel => exact ⟨rfl, s5⟩
    case rest =>
    obtain ⟨rfl, s5⟩ := hcut
    clear s0 q0 HV HX HSg HN HF hcl
    have q5 := s5.hold
    simp only [Holds, and_true] at q5
    go_wp2_with fail
    refine (HT.out _ s5.sent.2 q5.2.2.2.2.2.1.1 q5.2.2.2.2.1.1 q5.2.2.2.1.1 q5.2.2.1.1).mono ?_
    rintro e w8 ⟨hb8, h8⟩
    have s8 := s5.call hb8
    have q8 := s8.hold
    simp only [Holds, and_true] at q8
    have sz2 := q5.1.2.1
    clear s5 hb8 q5
    rcases h8 with ⟨hno, rfl⟩ | ⟨hyes, g4, cp4, rfl, hg4, hR4⟩
    · go_wp2_with fail
      refine bodyPost_ret (v := .tuple #[(.agg #[.int .i64 0, .slice none 0 0]), .bool false, .nilIface]) (by simp [results, Tryd.results35, go_sem, q8]) rfl ⟨?_, .inr (.inl ⟨rfl, hno, rfl⟩)⟩
      repeat' (first | exact s8.bel | refine Below.setCell ?_ (by first | (simp; done) | (simp; omega)) _)
    · go_wp2_with fail
      refine bodyPost_ret (v := .tuple #[(.agg #[.int .i64 N, (.slice (some ⟨g4, 0, none⟩) len cp4)]), .bool true, .nilIface]) (by simp [results, Tryd.results35, go_sem, q8]) rfl ⟨?_, .inr (.inr ⟨rfl, hyes, g4, cp4, rfl, by omega, ?_⟩)⟩
      · repeat' (first | exact s8.bel | refine Below.setCell ?_ (by first | (simp; done) | (simp; omega)) _)
      · exact (hR4.other (by show w.heap.size + 1 + 1 + 1 + 1 + 1 ≠ g4; omega) _).other (by show w.heap.size + 1 + 1 + 1 + 1 + 1 ≠ g4; omega) _
  · rw [erV_ne h0] at HF
    have H0 := hide h0
    clear h0 hS hA hl her he1 he2 he3 he4
    go_enter Tryd.func35, Tryd.ntmps35
    go_wp2_with fail
    go_cut [13] (fun t7 wx => t7 = .iface 169 (.pointer (some (a (er.toNat - 1)))) ∧ St w wx (EC a s l) ((w.heap.size + 1 + 1 + 1 + 1 + 1, 0, Value.int .i64 0) :: (w.heap.size + 1 + 1 + 1 + 1 + 1, 1, Value.slice none 0 0) :: (w.heap.size + 1 + 1 + 1 + 1, 0, Value.int .i64 c) :: (w.heap.size + 1 + 1 + 1, 0, Value.int .i64 y) :: (w.heap.size + 1 + 1, 0, Value.int .i64 sg) :: (w.heap.size + 1, 0, Value.int .i64 x) :: (w.heap.size, 0, Value.int .i64 N) :: (w.heap.size, 1, Value.slice s len c0) :: []))
    case first =>
      (go_region_held3 (fun w' => w'.cell? ⟨w.heap.size + 1 + 1 + 1 + 1 + 1, 0, none⟩ = some (.int .i64 0) ∧ w'.cell? ⟨w.heap.size + 1 + 1 + 1 + 1 + 1, 1, none⟩ = some (.slice none 0 0) ∧ w'.cell? ⟨w.heap.size + 1 + 1 + 1 + 1, 0, none⟩ = some (.int .i64 c) ∧ w'.cell? ⟨w.heap.size + 1 + 1 + 1, 0, none⟩ = some (.int .i64 y) ∧ w'.cell? ⟨w.heap.size + 1 + 1, 0, none⟩ = some (.int .i64 sg) ∧ w'.cell? ⟨w.heap.size + 1, 0, none⟩ = some (.int .i64 x) ∧ w'.cell? ⟨w.heap.size, 0, none⟩ = some (.int .i64 N) ∧ w'.cell? ⟨w.heap.size, 1, none⟩ = some (.slice s len c0) ∧ St w w' (EC a s l) ((w.heap.size + 1 + 1 + 1 + 1 + 1, 0, Value.int .i64 0) :: (w.heap.size + 1 + 1 + 1 + 1 + 1, 1, Value.slice none 0 0) :: (w.heap.size + 1 + 1 + 1 + 1, 0, Value.int .i64 c) :: (w.heap.size + 1 + 1 + 1, 0, Value.int .i64 y) :: (w.heap.size + 1 + 1, 0, Value.int .i64 sg) :: (w.heap.size + 1, 0, Value.int .i64 x) :: (w.heap.size, 0, Value.int .i64 N) :: (w.heap.size, 1, Value.slice s len c0) :: [])) (first | (exact keepSt0 ((w.heap.size + 1 + 1 + 1 + 1 + 1, 0, Value.int .i64 0) :: (w.heap.size + 1 + 1 + 1 + 1 + 1, 1, Value.slice none 0 0) :: (w.heap.size + 1 + 1 + 1 + 1, 0, Value.int .i64 c) :: (w.heap.size + 1 + 1 + 1, 0, Value.int .i64 y) :: (w.heap.size + 1 + 1, 0, Value.int .i64 sg) :: (w.heap.size + 1, 0, Value.int .i64 x) :: (w.heap.size, 0, Value.int .i64 N) :: (w.heap.size, 1, Value.slice s len c0) :: []) s0.drew) | (exact keepSt ((w.heap.size + 1 + 1 + 1 + 1 + 1, 0, Value.int .i64 0) :: (w.heap.size + 1 + 1 + 1 + 1 + 1, 1, Value.slice none 0 0) :: (w.heap.size + 1 + 1 + 1 + 1, 0, Value.int .i64 c) :: (w.heap.size + 1 + 1 + 1, 0, Value.int .i64 y) :: (w.heap.size + 1 + 1, 0, Value.int .i64 sg) :: (w.heap.size + 1, 0, Value.int .i64 x) :: (w.heap.size, 0, Value.int .i64 N) :: (w.heap.size, 1, Value.slice s len c0) :: []) (by assumption) (by assumption)) | (exact keepSt ((w.heap.size + 1 + 1 + 1 + 1 + 1, 0, Value.int .i64 0) :: (w.heap.size + 1 + 1 + 1 + 1 + 1, 1, Value.slice none 0 0) :: (w.heap.size + 1 + 1 + 1 + 1, 0, Value.int .i64 c) :: (w.heap.size + 1 + 1 + 1, 0, Value.int .i64 y) :: (w.heap.size + 1 + 1, 0, Value.int .i64 sg) :: (w.heap.size + 1, 0, Value.int .i64 x) :: (w.heap.size, 0, Value.int .i64 N) :: (w.heap.size, 1, Value.slice s len c0) :: []) ((Below.refl _ _).alloc (Nat.le_refl _) _) (by assumption)) | assumption) (first | (go_at_call 20; refine (HV.out _ (keepEC1 (w := w) (x := s) (l := l) ((w.heap.size + 1 + 1 + 1 + 1 + 1, 0, Value.int .i64 0) :: (w.heap.size + 1 + 1 + 1 + 1 + 1, 1, Value.slice none 0 0) :: (w.heap.size + 1 + 1 + 1 + 1, 0, Value.int .i64 c) :: (w.heap.size + 1 + 1 + 1, 0, Value.int .i64 y) :: (w.heap.size + 1 + 1, 0, Value.int .i64 sg) :: (w.heap.size + 1, 0, Value.int .i64 x) :: (w.heap.size, 0, Value.int .i64 N) :: (w.heap.size, 1, Value.slice s len c0) :: []) (by assumption)) (keepEC2 (w := w) (a := a) ((w.heap.size + 1 + 1 + 1 + 1 + 1, 0, Value.int .i64 0) :: (w.heap.size + 1 + 1 + 1 + 1 + 1, 1, Value.slice none 0 0) :: (w.heap.size + 1 + 1 + 1 + 1, 0, Value.int .i64 c) :: (w.heap.size + 1 + 1 + 1, 0, Value.int .i64 y) :: (w.heap.size + 1 + 1, 0, Value.int .i64 sg) :: (w.heap.size + 1, 0, Value.int .i64 x) :: (w.heap.size, 0, Value.int .i64 N) :: (w.heap.size, 1, Value.slice s len c0) :: []) (by assumption))).mono ?_; rintro e w2 ⟨rfl, hb2⟩; (first | (with_reducible have hpX := Sl2.below hpX hb2) | (with_reducible have hpX := Sl2.below (hpX.alloc _) hb2) | (with_reducible have hpX : Sl2 _ _ (Value.int .i64 x) _ := Sl2.below Sl2.here hb2) | (with_reducible have hpX : Sl2 _ _ (Value.int .i64 x) _ := Sl2.below (Sl2.drew Sl2.here) hb2) | (with_reducible have hpX : Sl2 _ _ (Value.int .i64 x) _ := Sl2.below (Sl2.alloc Sl2.here _) hb2) | (with_reducible have hpX : Sl2 _ _ (Value.int .i64 x) _ := Sl2.below (Sl2.drew (Sl2.alloc Sl2.here _)) hb2) | (with_reducible have hpX : Sl2 _ _ (Value.int .i64 x) _ := Sl2.below (Sl2.alloc (Sl2.drew Sl2.here) _) hb2) | skip); (first | (simp only [World.size_alloc] at hpX) | skip); (first | (with_reducible have hpS := Sl1.below hpS hb2) | (with_reducible have hpS := Sl1.below (hpS.alloc _) hb2) | (with_reducible have hpS : Sl1 _ _ (Value.int .i64 sg) := Sl1.below Sl1.here hb2) | (with_reducible have hpS : Sl1 _ _ (Value.int .i64 sg) := Sl1.below (Sl1.drew Sl1.here) hb2) | (with_reducible have hpS : Sl1 _ _ (Value.int .i64 sg) := Sl1.below (Sl1.alloc Sl1.here _) hb2) | (with_reducible have hpS : Sl1 _ _ (Value.int .i64 sg) := Sl1.below (Sl1.drew (Sl1.alloc Sl1.here _)) hb2) | (with_reducible have hpS : Sl1 _ _ (Value.int .i64 sg) := Sl1.below (Sl1.alloc (Sl1.drew Sl1.here) _) hb2) | skip); (first | (simp only [World.size_alloc] at hpS) | skip)) | (go_at_call 71; have hpX2 := hpX; refine (HX.out _ _ (keepEC1 (w := w) (x := s) (l := l) ((w.heap.size + 1 + 1 + 1 + 1 + 1, 0, Value.int .i64 0) :: (w.heap.size + 1 + 1 + 1 + 1 + 1, 1, Value.slice none 0 0) :: (w.heap.size + 1 + 1 + 1 + 1, 0, Value.int .i64 c) :: (w.heap.size + 1 + 1 + 1, 0, Value.int .i64 y) :: (w.heap.size + 1 + 1, 0, Value.int .i64 sg) :: (w.heap.size + 1, 0, Value.int .i64 x) :: (w.heap.size, 0, Value.int .i64 N) :: (w.heap.size, 1, Value.slice s len c0) :: []) (by assumption)) (by first | with_reducible exact hpX | with_reducible exact hpX.alloc _ | with_reducible exact hpX.drew | with_reducible exact (hpX.alloc _).drew | with_reducible exact hpX.drew.alloc _)).mono ?_; rintro e w3 ⟨rfl, hb3⟩; (first | (with_reducible have hpS := Sl1.below hpS hb3) | (with_reducible have hpS := Sl1.below (hpS.alloc _) hb3) | (with_reducible have hpS : Sl1 _ _ (Value.int .i64 sg) := Sl1.below Sl1.here hb3) | (with_reducible have hpS : Sl1 _ _ (Value.int .i64 sg) := Sl1.below (Sl1.drew Sl1.here) hb3) | (with_reducible have hpS : Sl1 _ _ (Value.int .i64 sg) := Sl1.below (Sl1.alloc Sl1.here _) hb3) | (with_reducible have hpS : Sl1 _ _ (Value.int .i64 sg) := Sl1.below (Sl1.drew (Sl1.alloc Sl1.here _)) hb3) | (with_reducible have hpS : Sl1 _ _ (Value.int .i64 sg) := Sl1.below (Sl1.alloc (Sl1.drew Sl1.here) _) hb3) | skip); (first | (simp only [World.size_alloc] at hpS) | skip)) | (go_at_call 71; refine (HX.out _ _ (keepEC1 (w := w) (x := s) (l := l) ((w.heap.size + 1 + 1 + 1 + 1 + 1, 0, Value.int .i64 0) :: (w.heap.size + 1 + 1 + 1 + 1 + 1, 1, Value.slice none 0 0) :: (w.heap.size + 1 + 1 + 1 + 1, 0, Value.int .i64 c) :: (w.heap.size + 1 + 1 + 1, 0, Value.int .i64 y) :: (w.heap.size + 1 + 1, 0, Value.int .i64 sg) :: (w.heap.size + 1, 0, Value.int .i64 x) :: (w.heap.size, 0, Value.int .i64 N) :: (w.heap.size, 1, Value.slice s len c0) :: []) (by assumption)) (by first | with_reducible exact Sl2.here' (by simp) | with_reducible exact Sl2.drew (Sl2.here' (by simp)) | with_reducible exact Sl2.alloc (Sl2.here' (by simp)) _ | with_reducible exact Sl2.drew (Sl2.alloc (Sl2.here' (by simp)) _) | with_reducible exact Sl2.alloc (Sl2.drew (Sl2.here' (by simp))) _)).mono ?_; rintro e w3 ⟨rfl, hb3⟩; (first | (with_reducible have hpS := Sl1.below hpS hb3) | (with_reducible have hpS := Sl1.below (hpS.alloc _) hb3) | (with_reducible have hpS : Sl1 _ _ (Value.int .i64 sg) := Sl1.below Sl1.here hb3) | (with_reducible have hpS : Sl1 _ _ (Value.int .i64 sg) := Sl1.below (Sl1.drew Sl1.here) hb3) | (with_reducible have hpS : Sl1 _ _ (Value.int .i64 sg) := Sl1.below (Sl1.alloc Sl1.here _) hb3) | (with_reducible have hpS : Sl1 _ _ (Value.int .i64 sg) := Sl1.below (Sl1.drew (Sl1.alloc Sl1.here _)) hb3) | (with_reducible have hpS : Sl1 _ _ (Value.int .i64 sg) := Sl1.below (Sl1.alloc (Sl1.drew Sl1.here) _) hb3) | skip); (first | (simp only [World.size_alloc] at hpS) | skip)) | (go_at_call 75; have hpS2 := hpS; refine (HSg.out _ _ (keepEC1 (w := w) (x := s) (l := l) ((w.heap.size + 1 + 1 + 1 + 1 + 1, 0, Value.int .i64 0) :: (w.heap.size + 1 + 1 + 1 + 1 + 1, 1, Value.slice none 0 0) :: (w.heap.size + 1 + 1 + 1 + 1, 0, Value.int .i64 c) :: (w.heap.size + 1 + 1 + 1, 0, Value.int .i64 y) :: (w.heap.size + 1 + 1, 0, Value.int .i64 sg) :: (w.heap.size + 1, 0, Value.int .i64 x) :: (w.heap.size, 0, Value.int .i64 N) :: (w.heap.size, 1, Value.slice s len c0) :: []) (by assumption)) (by first | with_reducible exact hpS | with_reducible exact hpS.alloc _ | with_reducible exact hpS.drew | with_reducible exact (hpS.alloc _).drew | with_reducible exact hpS.drew.alloc _)).mono ?_; rintro e w4 ⟨rfl, hb4⟩) | (go_at_call 75; refine (HSg.out _ _ (keepEC1 (w := w) (x := s) (l := l) ((w.heap.size + 1 + 1 + 1 + 1 + 1, 0, Value.int .i64 0) :: (w.heap.size + 1 + 1 + 1 + 1 + 1, 1, Value.slice none 0 0) :: (w.heap.size + 1 + 1 + 1 + 1, 0, Value.int .i64 c) :: (w.heap.size + 1 + 1 + 1, 0, Value.int .i64 y) :: (w.heap.size + 1 + 1, 0, Value.int .i64 sg) :: (w.heap.size + 1, 0, Value.int .i64 x) :: (w.heap.size, 0, Value.int .i64 N) :: (w.heap.size, 1, Value.slice s len c0) :: []) (by assumption)) (by first | with_reducible exact Sl1.here' (by simp) | with_reducible exact Sl1.drew (Sl1.here' (by simp)) | with_reducible exact Sl1.alloc (Sl1.here' (by simp)) _ | with_reducible exact Sl1.drew (Sl1.alloc (Sl1.here' (by simp)) _) | with_reducible exact Sl1.alloc (Sl1.drew (Sl1.here' (by simp))) _)).mono ?_; rintro e w4 ⟨rfl, hb4⟩) | (go_at_call 76; refine (HN.out _ (keepEC1 (w := w) (x := s) (l := l) ((w.heap.size + 1 + 1 + 1 + 1 + 1, 0, Value.int .i64 0) :: (w.heap.size + 1 + 1 + 1 + 1 + 1, 1, Value.slice none 0 0) :: (w.heap.size + 1 + 1 + 1 + 1, 0, Value.int .i64 c) :: (w.heap.size + 1 + 1 + 1, 0, Value.int .i64 y) :: (w.heap.size + 1 + 1, 0, Value.int .i64 sg) :: (w.heap.size + 1, 0, Value.int .i64 x) :: (w.heap.size, 0, Value.int .i64 N) :: (w.heap.size, 1, Value.slice s len c0) :: []) (by assumption))).mono ?_; rintro e w4 ⟨rfl, rfl⟩) | (go_at_call 49; refine (HF.out _ _).mono ?_; rintro e w4 ⟨rfl, rfl⟩)))
      all_goals
        have s5 := keepSt_st (w := w) (Z := EC a s l) ((w.heap.size + 1 + 1 + 1 + 1 + 1, 0, Value.int .i64 0) :: (w.heap.size + 1 + 1 + 1 + 1 + 1, 1, Value.slice none 0 0) :: (w.heap.size + 1 + 1 + 1 + 1, 0, Value.int .i64 c) :: (w.heap.size + 1 + 1 + 1, 0, Value.int .i64 y) :: (w.heap.size + 1 + 1, 0, Value.int .i64 sg) :: (w.heap.size + 1, 0, Value.int .i64 x) :: (w.heap.size, 0, Value.int .i64 N) :: (w.heap.size, 1, Value.slice s len c0) :: []) (by assumption)
        go_wp2_with fail
        go_meet
        case rel => exact ⟨rfl, s5⟩
    case rest =>
    obtain ⟨rfl, s5⟩ := hcut
    have q5 := s5.hold
    simp only [Holds, and_true] at q5
    clear s0 q0 HV HX HSg HN HF hcl
    go_wp2_with fail
    refine bodyPost_ret (v := .tuple #[(.agg #[.int .i64 0, .slice none 0 0]), .bool false, .iface 169 (.pointer (some (a (er.toNat - 1))))]) (by simp [results, Tryd.results35, go_sem, q5]) rfl ⟨?_, .inl ⟨H0.out, by rw [erV_ne H0.out]⟩⟩
    repeat' (first | exact s5.bel | refine Below.setCell ?_ (by first | (simp; done) | (simp; omega)) _)
end Go.Proofs.YtofjjaabgfmnpaaDoor
