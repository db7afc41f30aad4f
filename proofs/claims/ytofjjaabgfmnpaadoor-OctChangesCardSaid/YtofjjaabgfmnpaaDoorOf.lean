/- Octagons: one bound more (octagon.guarded). -/
import Derived.Test.YtofjjaabgfmnpaaDoorOe
import Derived.Test.YtofjjaabgfmnpaaDoorYk
namespace Go.Proofs.YtofjjaabgfmnpaaDoor
open Go.RowKit
set_option linter.unusedVariables false

def idxN (s : Int) (x : Nat) : Nat := if s = 1 then 2 * x else 2 * x + 1
/-- From where, to where, and how much a bound says. -/
def gFr (a : Int) (x : Nat) (b : Int) (y : Nat) : Nat := if a = 0 ∧ b = 0 then 2 * x else if b = 0 then bar (idxN a x) else idxN (-b) y
def gTo (a : Int) (x : Nat) (b : Int) (y : Nat) : Nat := if a = 0 ∧ b = 0 then 2 * x else if b = 0 then idxN a x else if a = 0 then bar (idxN (-b) y) else idxN a x
def gC (a b c : Int) : Int := if (a = 0 ∧ b ≠ 0) ∨ (a ≠ 0 ∧ b = 0) then 2 * c else c
def gdF (f : Nat → Nat → Int) (p q : Nat) (c : Int) : Nat → Nat → Int := guF (guF f p q c) (bar q) (bar p) c
theorem idxN_lt {n x : Nat} {s : Int} (h : 2 * (x + 1) ≤ n) : idxN s x < n := by unfold idxN; split <;> omega
theorem gFr_lt {n x y : Nat} {a b : Int} (he : n % 2 = 0) (hx : 2 * (x + 1) ≤ n) (hy : 2 * (y + 1) ≤ n) : gFr a x b y < n := by
  unfold gFr; split
  · omega
  · split
    · exact bar_lt he (idxN_lt hx)
    · exact idxN_lt hy
theorem gTo_lt {n x y : Nat} {a b : Int} (he : n % 2 = 0) (hx : 2 * (x + 1) ≤ n) (hy : 2 * (y + 1) ≤ n) : gTo a x b y < n := by
  unfold gTo; split
  · omega
  · split
    · exact idxN_lt hx
    · split
      · exact bar_lt he (idxN_lt hy)
      · exact idxN_lt hx

/-- The end of each way: both cells. -/
theorem guarded2 (n g cp len p q : Nat) (c : Int) (f : Nat → Nat → Int) (he : n % 2 = 0) (hn : n ≤ 8) (hl : Hid (len = n * n)) (hp : p < n) (hq : q < n) :
    (∀ (W : World) (g cp : Nat), GrI W g n f → Calls Tryd.prog 108 #[(.agg #[.int .i64 n, (.slice (some ⟨g, 0, none⟩) len cp)]), .int .i64 p, .int .i64 q, .int .i64 c] W fun e w' => GrPost W n len (guF f p q c) e w') ∧
    (∀ (W : World) (g cp : Nat), GrI W g n (guF f p q c) → Calls Tryd.prog 108 #[(.agg #[.int .i64 n, (.slice (some ⟨g, 0, none⟩) len cp)]), .int .i64 (bar q : Nat), .int .i64 (bar p : Nat), .int .i64 c] W fun e w' => GrPost W n len (gdF f p q c) e w') :=
  ⟨fun W g cp h => guarded_any n g cp len p q c f W h hl hp hq hn, fun W g cp h => guarded_any n g cp len (bar q) (bar p) c _ W h hl (bar_lt he hq) (bar_lt he hp) hn⟩

set_option maxRecDepth 20000 in
set_option maxHeartbeats 2000000 in
theorem guarded_pp (n g cp len x y : Nat) (c : Int) (f : Nat → Nat → Int) (w : World) (hG : GrI w g n f) (hl : Hid (len = n * n)) (hnn : n % 2 = 0 ∧ n ≤ 8) (hx : 2 * (x + 1) ≤ n) (hy : 2 * (y + 1) ≤ n) (hc : c.natAbs ≤ 1099511627776) :
    Calls Tryd.prog 80 #[(.agg #[.int .i64 n, (.slice (some ⟨g, 0, none⟩) len cp)]), .int .i64 1, .int .i64 x, .int .i64 1, .int .i64 y, .int .i64 c] w fun e w' => GrPost w n len (gdF f (gFr 1 x 1 y) (gTo 1 x 1 y) (gC 1 1 c)) e w' := by
  obtain ⟨he, hn⟩ := hnn
  have s0 := ((St.startG hG).box2 84 (.int .i64 n) (.slice (some ⟨g, 0, none⟩) len cp)).box2 84 (.int .i64 0) (.slice none 0 0)
  simp only [World.size_alloc] at s0
  have q0 := s0.hold
  simp only [Holds, and_true] at q0
  obtain ⟨p, hp⟩ : ∃ p, p = gFr 1 x 1 y := ⟨_, rfl⟩
  obtain ⟨q, hq⟩ : ∃ q, q = gTo 1 x 1 y := ⟨_, rfl⟩
  obtain ⟨c', hc'⟩ : ∃ c', c' = gC 1 1 c := ⟨_, rfl⟩
  have hpn : p < n := by rw [hp]; exact gFr_lt he hx hy
  have hqn : q < n := by rw [hq]; exact gTo_lt he hx hy
  have HG := guarded2 n g cp len p q c' f he hn hl hpn hqn
  have HG1 := hide HG.1
  have HG2 := hide HG.2
  clear HG
  rw [← hp, ← hq, ← hc']
  have HO : Hid (∀ (W : World) (k : Nat), k < n → Calls Tryd.prog 93 #[.int .i64 k] W fun e w' => e = .returned (.int .i64 (bar k : Nat)) ∧ w' = W) := fun W k hk => opposite_any k (by omega) W
  obtain ⟨r, hr⟩ : ∃ r, r = idxN (-1) y := ⟨_, rfl⟩
  have hrn : r < n := by rw [hr]; exact idxN_lt hy
  have HIb : Hid (∀ W : World, Calls Tryd.prog 84 #[.int .i64 (-1), .int .i64 y] W fun e w' => e = .returned (.int .i64 (r : Nat)) ∧ w' = W) := fun W => (index_any (-1) y (.inr (.inl rfl)) (by omega) W).mono fun _ _ h => ⟨by rw [h.1, hr]; simp [idxI, idxN]; try omega, h.2⟩
  obtain ⟨s, hs⟩ : ∃ s, s = idxN (1) x := ⟨_, rfl⟩
  have hsn : s < n := by rw [hs]; exact idxN_lt hx
  have HIa : Hid (∀ W : World, Calls Tryd.prog 84 #[.int .i64 1, .int .i64 x] W fun e w' => e = .returned (.int .i64 (s : Nat)) ∧ w' = W) := fun W => (index_any 1 x (.inl rfl) (by omega) W).mono fun _ _ h => ⟨by rw [h.1, hs]; simp [idxI, idxN]; try omega, h.2⟩
  obtain rfl : p = r := by first | (rw [hp, hr]; done) | (rw [hp, hr]; simp [gFr])
  obtain rfl : q = s := by first | (rw [hq, hs]; done) | (rw [hq, hs]; simp [gTo])
  obtain rfl : c' = c := by first | (rw [hc']; done) | (rw [hc']; simp [gC])
  clear hG hl hp hq hc' hr hs
  have np : ¬ (p : Int) = -1 := by omega
  have nq : ¬ (q : Int) = -1 := by omega
  have npb : ((p : Int) == -1) = false := by first | (simp; done) | (simp; omega)
  have nqb : ((q : Int) == -1) = false := by first | (simp; done) | (simp; omega)
  go_enter Tryd.func80, Tryd.ntmps80
  go_wp2_with fail
  refine (HIb.out _).mono ?_
  rintro e w1 ⟨rfl, hw1⟩
  rw [hw1]
  clear hw1
  go_wp2_with fail
  refine (HIa.out _).mono ?_
  rintro e w1 ⟨rfl, hw1⟩
  rw [hw1]
  clear hw1
  go_wp2_with fail
  refine (HG1.out _ g cp s0.sent).mono ?_
  rintro e w2 ⟨g2, cp2, rfl, hg2, hG2, hb2⟩
  have s2 := s0.call hb2
  have q2 := s2.hold
  simp only [Holds, and_true] at q2
  have sz2 : w.heap.size + 1 < w2.heap.size := q2.1.2.1
  clear s0 q0 hb2
  go_wp2_with fail
  refine (HO.out _ q hqn).mono ?_
  rintro e w3 ⟨rfl, hw3⟩
  rw [hw3]
  clear hw3
  go_wp2_with fail
  refine (HO.out _ p hpn).mono ?_
  rintro e w3 ⟨rfl, hw3⟩
  rw [hw3]
  clear hw3
  go_wp2_with fail
  refine (HG2.out _ g2 cp2 hG2).mono ?_
  rintro e w4 ⟨g4, cp4, rfl, hg4, hG4, hb4⟩
  have s4 := s2.call hb4
  have q4 := s4.hold
  simp only [Holds, and_true] at q4
  clear s2 q2 hb4
  go_wp2_with fail
  refine bodyPost_ret (v := (.agg #[.int .i64 n, (.slice (some ⟨g4, 0, none⟩) len cp4)])) (by simp [results, Tryd.results80, go_sem, q4]) rfl ⟨g4, cp4, rfl, by omega, ?_, ?_⟩
  · exact (hG4.other (by show w.heap.size + 1 ≠ g4; omega) _).other (by show w.heap.size + 1 ≠ g4; omega) _
  · iterate 2 refine Below.setCell ?_ (by first | (simp; done) | (simp; omega)) _
    exact s4.bel

set_option maxRecDepth 20000 in
set_option maxHeartbeats 2000000 in
theorem guarded_pm (n g cp len x y : Nat) (c : Int) (f : Nat → Nat → Int) (w : World) (hG : GrI w g n f) (hl : Hid (len = n * n)) (hnn : n % 2 = 0 ∧ n ≤ 8) (hx : 2 * (x + 1) ≤ n) (hy : 2 * (y + 1) ≤ n) (hc : c.natAbs ≤ 1099511627776) :
    Calls Tryd.prog 80 #[(.agg #[.int .i64 n, (.slice (some ⟨g, 0, none⟩) len cp)]), .int .i64 1, .int .i64 x, .int .i64 (-1), .int .i64 y, .int .i64 c] w fun e w' => GrPost w n len (gdF f (gFr 1 x (-1) y) (gTo 1 x (-1) y) (gC 1 (-1) c)) e w' := by
  obtain ⟨he, hn⟩ := hnn
  have s0 := ((St.startG hG).box2 84 (.int .i64 n) (.slice (some ⟨g, 0, none⟩) len cp)).box2 84 (.int .i64 0) (.slice none 0 0)
  simp only [World.size_alloc] at s0
  have q0 := s0.hold
  simp only [Holds, and_true] at q0
  obtain ⟨p, hp⟩ : ∃ p, p = gFr 1 x (-1) y := ⟨_, rfl⟩
  obtain ⟨q, hq⟩ : ∃ q, q = gTo 1 x (-1) y := ⟨_, rfl⟩
  obtain ⟨c', hc'⟩ : ∃ c', c' = gC 1 (-1) c := ⟨_, rfl⟩
  have hpn : p < n := by rw [hp]; exact gFr_lt he hx hy
  have hqn : q < n := by rw [hq]; exact gTo_lt he hx hy
  have HG := guarded2 n g cp len p q c' f he hn hl hpn hqn
  have HG1 := hide HG.1
  have HG2 := hide HG.2
  clear HG
  rw [← hp, ← hq, ← hc']
  have HO : Hid (∀ (W : World) (k : Nat), k < n → Calls Tryd.prog 93 #[.int .i64 k] W fun e w' => e = .returned (.int .i64 (bar k : Nat)) ∧ w' = W) := fun W k hk => opposite_any k (by omega) W
  obtain ⟨r, hr⟩ : ∃ r, r = idxN (1) y := ⟨_, rfl⟩
  have hrn : r < n := by rw [hr]; exact idxN_lt hy
  have HIb : Hid (∀ W : World, Calls Tryd.prog 84 #[.int .i64 1, .int .i64 y] W fun e w' => e = .returned (.int .i64 (r : Nat)) ∧ w' = W) := fun W => (index_any 1 y (.inl rfl) (by omega) W).mono fun _ _ h => ⟨by rw [h.1, hr]; simp [idxI, idxN]; try omega, h.2⟩
  obtain ⟨s, hs⟩ : ∃ s, s = idxN (1) x := ⟨_, rfl⟩
  have hsn : s < n := by rw [hs]; exact idxN_lt hx
  have HIa : Hid (∀ W : World, Calls Tryd.prog 84 #[.int .i64 1, .int .i64 x] W fun e w' => e = .returned (.int .i64 (s : Nat)) ∧ w' = W) := fun W => (index_any 1 x (.inl rfl) (by omega) W).mono fun _ _ h => ⟨by rw [h.1, hs]; simp [idxI, idxN]; try omega, h.2⟩
  obtain rfl : p = r := by first | (rw [hp, hr]; done) | (rw [hp, hr]; simp [gFr])
  obtain rfl : q = s := by first | (rw [hq, hs]; done) | (rw [hq, hs]; simp [gTo])
  obtain rfl : c' = c := by first | (rw [hc']; done) | (rw [hc']; simp [gC])
  clear hG hl hp hq hc' hr hs
  have np : ¬ (p : Int) = -1 := by omega
  have nq : ¬ (q : Int) = -1 := by omega
  have npb : ((p : Int) == -1) = false := by first | (simp; done) | (simp; omega)
  have nqb : ((q : Int) == -1) = false := by first | (simp; done) | (simp; omega)
  go_enter Tryd.func80, Tryd.ntmps80
  go_wp2_with fail
  refine (HIb.out _).mono ?_
  rintro e w1 ⟨rfl, hw1⟩
  rw [hw1]
  clear hw1
  go_wp2_with fail
  refine (HIa.out _).mono ?_
  rintro e w1 ⟨rfl, hw1⟩
  rw [hw1]
  clear hw1
  go_wp2_with fail
  refine (HG1.out _ g cp s0.sent).mono ?_
  rintro e w2 ⟨g2, cp2, rfl, hg2, hG2, hb2⟩
  have s2 := s0.call hb2
  have q2 := s2.hold
  simp only [Holds, and_true] at q2
  have sz2 : w.heap.size + 1 < w2.heap.size := q2.1.2.1
  clear s0 q0 hb2
  go_wp2_with fail
  refine (HO.out _ q hqn).mono ?_
  rintro e w3 ⟨rfl, hw3⟩
  rw [hw3]
  clear hw3
  go_wp2_with fail
  refine (HO.out _ p hpn).mono ?_
  rintro e w3 ⟨rfl, hw3⟩
  rw [hw3]
  clear hw3
  go_wp2_with fail
  refine (HG2.out _ g2 cp2 hG2).mono ?_
  rintro e w4 ⟨g4, cp4, rfl, hg4, hG4, hb4⟩
  have s4 := s2.call hb4
  have q4 := s4.hold
  simp only [Holds, and_true] at q4
  clear s2 q2 hb4
  go_wp2_with fail
  refine bodyPost_ret (v := (.agg #[.int .i64 n, (.slice (some ⟨g4, 0, none⟩) len cp4)])) (by simp [results, Tryd.results80, go_sem, q4]) rfl ⟨g4, cp4, rfl, by omega, ?_, ?_⟩
  · exact (hG4.other (by show w.heap.size + 1 ≠ g4; omega) _).other (by show w.heap.size + 1 ≠ g4; omega) _
  · iterate 2 refine Below.setCell ?_ (by first | (simp; done) | (simp; omega)) _
    exact s4.bel

set_option maxRecDepth 20000 in
set_option maxHeartbeats 2000000 in
theorem guarded_pz (n g cp len x y : Nat) (c : Int) (f : Nat → Nat → Int) (w : World) (hG : GrI w g n f) (hl : Hid (len = n * n)) (hnn : n % 2 = 0 ∧ n ≤ 8) (hx : 2 * (x + 1) ≤ n) (hy : 2 * (y + 1) ≤ n) (hc : c.natAbs ≤ 1099511627776) :
    Calls Tryd.prog 80 #[(.agg #[.int .i64 n, (.slice (some ⟨g, 0, none⟩) len cp)]), .int .i64 1, .int .i64 x, .int .i64 0, .int .i64 y, .int .i64 c] w fun e w' => GrPost w n len (gdF f (gFr 1 x 0 y) (gTo 1 x 0 y) (gC 1 0 c)) e w' := by
  obtain ⟨he, hn⟩ := hnn
  have s0 := ((St.startG hG).box2 84 (.int .i64 n) (.slice (some ⟨g, 0, none⟩) len cp)).box2 84 (.int .i64 0) (.slice none 0 0)
  simp only [World.size_alloc] at s0
  have q0 := s0.hold
  simp only [Holds, and_true] at q0
  obtain ⟨p, hp⟩ : ∃ p, p = gFr 1 x 0 y := ⟨_, rfl⟩
  obtain ⟨q, hq⟩ : ∃ q, q = gTo 1 x 0 y := ⟨_, rfl⟩
  obtain ⟨c', hc'⟩ : ∃ c', c' = gC 1 0 c := ⟨_, rfl⟩
  have hpn : p < n := by rw [hp]; exact gFr_lt he hx hy
  have hqn : q < n := by rw [hq]; exact gTo_lt he hx hy
  have HG := guarded2 n g cp len p q c' f he hn hl hpn hqn
  have HG1 := hide HG.1
  have HG2 := hide HG.2
  clear HG
  rw [← hp, ← hq, ← hc']
  have HO : Hid (∀ (W : World) (k : Nat), k < n → Calls Tryd.prog 93 #[.int .i64 k] W fun e w' => e = .returned (.int .i64 (bar k : Nat)) ∧ w' = W) := fun W k hk => opposite_any k (by omega) W
  have HIb : Hid (∀ W : World, Calls Tryd.prog 84 #[.int .i64 0, .int .i64 y] W fun e w' => e = .returned (.int .i64 (-1)) ∧ w' = W) := fun W => (index_any 0 y (.inr (.inr rfl)) (by omega) W).mono fun _ _ h => ⟨by rw [h.1]; rfl, h.2⟩
  obtain ⟨s, hs⟩ : ∃ s, s = idxN (1) x := ⟨_, rfl⟩
  have hsn : s < n := by rw [hs]; exact idxN_lt hx
  have HIa : Hid (∀ W : World, Calls Tryd.prog 84 #[.int .i64 1, .int .i64 x] W fun e w' => e = .returned (.int .i64 (s : Nat)) ∧ w' = W) := fun W => (index_any 1 x (.inl rfl) (by omega) W).mono fun _ _ h => ⟨by rw [h.1, hs]; simp [idxI, idxN]; try omega, h.2⟩
  have hpb : p = bar s := by first | (rw [hp, hs]; done) | (rw [hp, hs]; simp [gFr])
  obtain rfl : q = s := by first | (rw [hq, hs]; done) | (rw [hq, hs]; simp [gTo])
  have hcc : Hid (c' = 2 * c) := by show _ = _; first | (rw [hc']; done) | (rw [hc']; simp [gC])
  have h2c : (2 : Int) * c = c' := hcc.out.symm
  have h2b : -2199023255552 ≤ c' ∧ c' ≤ 2199023255552 := by omega
  clear hG hl hp hq hc' hs
  have nq : ¬ (q : Int) = -1 := by omega
  have nqb : ((q : Int) == -1) = false := by first | (simp; done) | (simp; omega)
  have HO1 : Hid (∀ (W : World), Calls Tryd.prog 93 #[.int .i64 q] W fun e w' => e = .returned (.int .i64 p) ∧ w' = W) := fun W => by rw [hpb]; exact HO.out W q hqn
  have Hpb := hide hpb
  clear hpb
  go_enter Tryd.func80, Tryd.ntmps80
  go_wp2_with fail
  refine (HIb.out _).mono ?_
  rintro e w1 ⟨rfl, hw1⟩
  rw [hw1]
  clear hw1
  go_wp2_with fail
  refine (HIa.out _).mono ?_
  rintro e w1 ⟨rfl, hw1⟩
  rw [hw1]
  clear hw1
  go_wp2_with fail
  refine (HO1.out _).mono ?_
  rintro e w1 ⟨rfl, hw1⟩
  rw [hw1]
  clear hw1
  go_wp2_with fail
  refine (HG1.out _ g cp s0.sent).mono ?_
  rintro e w2 ⟨g2, cp2, rfl, hg2, hG2, hb2⟩
  have s2 := s0.call hb2
  have q2 := s2.hold
  simp only [Holds, and_true] at q2
  have sz2 : w.heap.size + 1 < w2.heap.size := q2.1.2.1
  clear s0 q0 hb2
  go_wp2_with fail
  refine (HO.out _ q hqn).mono ?_
  rintro e w3 ⟨rfl, hw3⟩
  rw [hw3]
  clear hw3
  go_wp2_with fail
  refine (HO.out _ p hpn).mono ?_
  rintro e w3 ⟨rfl, hw3⟩
  rw [hw3]
  clear hw3
  go_wp2_with fail
  refine (HG2.out _ g2 cp2 hG2).mono ?_
  rintro e w4 ⟨g4, cp4, rfl, hg4, hG4, hb4⟩
  have s4 := s2.call hb4
  have q4 := s4.hold
  simp only [Holds, and_true] at q4
  clear s2 q2 hb4
  go_wp2_with fail
  refine bodyPost_ret (v := (.agg #[.int .i64 n, (.slice (some ⟨g4, 0, none⟩) len cp4)])) (by simp [results, Tryd.results80, go_sem, q4]) rfl ⟨g4, cp4, rfl, by omega, ?_, ?_⟩
  · exact (hG4.other (by show w.heap.size + 1 ≠ g4; omega) _).other (by show w.heap.size + 1 ≠ g4; omega) _
  · iterate 2 refine Below.setCell ?_ (by first | (simp; done) | (simp; omega)) _
    exact s4.bel

set_option maxRecDepth 20000 in
set_option maxHeartbeats 2000000 in
theorem guarded_mp (n g cp len x y : Nat) (c : Int) (f : Nat → Nat → Int) (w : World) (hG : GrI w g n f) (hl : Hid (len = n * n)) (hnn : n % 2 = 0 ∧ n ≤ 8) (hx : 2 * (x + 1) ≤ n) (hy : 2 * (y + 1) ≤ n) (hc : c.natAbs ≤ 1099511627776) :
    Calls Tryd.prog 80 #[(.agg #[.int .i64 n, (.slice (some ⟨g, 0, none⟩) len cp)]), .int .i64 (-1), .int .i64 x, .int .i64 1, .int .i64 y, .int .i64 c] w fun e w' => GrPost w n len (gdF f (gFr (-1) x 1 y) (gTo (-1) x 1 y) (gC (-1) 1 c)) e w' := by
  obtain ⟨he, hn⟩ := hnn
  have s0 := ((St.startG hG).box2 84 (.int .i64 n) (.slice (some ⟨g, 0, none⟩) len cp)).box2 84 (.int .i64 0) (.slice none 0 0)
  simp only [World.size_alloc] at s0
  have q0 := s0.hold
  simp only [Holds, and_true] at q0
  obtain ⟨p, hp⟩ : ∃ p, p = gFr (-1) x 1 y := ⟨_, rfl⟩
  obtain ⟨q, hq⟩ : ∃ q, q = gTo (-1) x 1 y := ⟨_, rfl⟩
  obtain ⟨c', hc'⟩ : ∃ c', c' = gC (-1) 1 c := ⟨_, rfl⟩
  have hpn : p < n := by rw [hp]; exact gFr_lt he hx hy
  have hqn : q < n := by rw [hq]; exact gTo_lt he hx hy
  have HG := guarded2 n g cp len p q c' f he hn hl hpn hqn
  have HG1 := hide HG.1
  have HG2 := hide HG.2
  clear HG
  rw [← hp, ← hq, ← hc']
  have HO : Hid (∀ (W : World) (k : Nat), k < n → Calls Tryd.prog 93 #[.int .i64 k] W fun e w' => e = .returned (.int .i64 (bar k : Nat)) ∧ w' = W) := fun W k hk => opposite_any k (by omega) W
  obtain ⟨r, hr⟩ : ∃ r, r = idxN (-1) y := ⟨_, rfl⟩
  have hrn : r < n := by rw [hr]; exact idxN_lt hy
  have HIb : Hid (∀ W : World, Calls Tryd.prog 84 #[.int .i64 (-1), .int .i64 y] W fun e w' => e = .returned (.int .i64 (r : Nat)) ∧ w' = W) := fun W => (index_any (-1) y (.inr (.inl rfl)) (by omega) W).mono fun _ _ h => ⟨by rw [h.1, hr]; simp [idxI, idxN]; try omega, h.2⟩
  obtain ⟨s, hs⟩ : ∃ s, s = idxN (-1) x := ⟨_, rfl⟩
  have hsn : s < n := by rw [hs]; exact idxN_lt hx
  have HIa : Hid (∀ W : World, Calls Tryd.prog 84 #[.int .i64 (-1), .int .i64 x] W fun e w' => e = .returned (.int .i64 (s : Nat)) ∧ w' = W) := fun W => (index_any (-1) x (.inr (.inl rfl)) (by omega) W).mono fun _ _ h => ⟨by rw [h.1, hs]; simp [idxI, idxN]; try omega, h.2⟩
  obtain rfl : p = r := by first | (rw [hp, hr]; done) | (rw [hp, hr]; simp [gFr])
  obtain rfl : q = s := by first | (rw [hq, hs]; done) | (rw [hq, hs]; simp [gTo])
  obtain rfl : c' = c := by first | (rw [hc']; done) | (rw [hc']; simp [gC])
  clear hG hl hp hq hc' hr hs
  have np : ¬ (p : Int) = -1 := by omega
  have nq : ¬ (q : Int) = -1 := by omega
  have npb : ((p : Int) == -1) = false := by first | (simp; done) | (simp; omega)
  have nqb : ((q : Int) == -1) = false := by first | (simp; done) | (simp; omega)
  go_enter Tryd.func80, Tryd.ntmps80
  go_wp2_with fail
  refine (HIb.out _).mono ?_
  rintro e w1 ⟨rfl, hw1⟩
  rw [hw1]
  clear hw1
  go_wp2_with fail
  refine (HIa.out _).mono ?_
  rintro e w1 ⟨rfl, hw1⟩
  rw [hw1]
  clear hw1
  go_wp2_with fail
  refine (HG1.out _ g cp s0.sent).mono ?_
  rintro e w2 ⟨g2, cp2, rfl, hg2, hG2, hb2⟩
  have s2 := s0.call hb2
  have q2 := s2.hold
  simp only [Holds, and_true] at q2
  have sz2 : w.heap.size + 1 < w2.heap.size := q2.1.2.1
  clear s0 q0 hb2
  go_wp2_with fail
  refine (HO.out _ q hqn).mono ?_
  rintro e w3 ⟨rfl, hw3⟩
  rw [hw3]
  clear hw3
  go_wp2_with fail
  refine (HO.out _ p hpn).mono ?_
  rintro e w3 ⟨rfl, hw3⟩
  rw [hw3]
  clear hw3
  go_wp2_with fail
  refine (HG2.out _ g2 cp2 hG2).mono ?_
  rintro e w4 ⟨g4, cp4, rfl, hg4, hG4, hb4⟩
  have s4 := s2.call hb4
  have q4 := s4.hold
  simp only [Holds, and_true] at q4
  clear s2 q2 hb4
  go_wp2_with fail
  refine bodyPost_ret (v := (.agg #[.int .i64 n, (.slice (some ⟨g4, 0, none⟩) len cp4)])) (by simp [results, Tryd.results80, go_sem, q4]) rfl ⟨g4, cp4, rfl, by omega, ?_, ?_⟩
  · exact (hG4.other (by show w.heap.size + 1 ≠ g4; omega) _).other (by show w.heap.size + 1 ≠ g4; omega) _
  · iterate 2 refine Below.setCell ?_ (by first | (simp; done) | (simp; omega)) _
    exact s4.bel

set_option maxRecDepth 20000 in
set_option maxHeartbeats 2000000 in
theorem guarded_mm (n g cp len x y : Nat) (c : Int) (f : Nat → Nat → Int) (w : World) (hG : GrI w g n f) (hl : Hid (len = n * n)) (hnn : n % 2 = 0 ∧ n ≤ 8) (hx : 2 * (x + 1) ≤ n) (hy : 2 * (y + 1) ≤ n) (hc : c.natAbs ≤ 1099511627776) :
    Calls Tryd.prog 80 #[(.agg #[.int .i64 n, (.slice (some ⟨g, 0, none⟩) len cp)]), .int .i64 (-1), .int .i64 x, .int .i64 (-1), .int .i64 y, .int .i64 c] w fun e w' => GrPost w n len (gdF f (gFr (-1) x (-1) y) (gTo (-1) x (-1) y) (gC (-1) (-1) c)) e w' := by
  obtain ⟨he, hn⟩ := hnn
  have s0 := ((St.startG hG).box2 84 (.int .i64 n) (.slice (some ⟨g, 0, none⟩) len cp)).box2 84 (.int .i64 0) (.slice none 0 0)
  simp only [World.size_alloc] at s0
  have q0 := s0.hold
  simp only [Holds, and_true] at q0
  obtain ⟨p, hp⟩ : ∃ p, p = gFr (-1) x (-1) y := ⟨_, rfl⟩
  obtain ⟨q, hq⟩ : ∃ q, q = gTo (-1) x (-1) y := ⟨_, rfl⟩
  obtain ⟨c', hc'⟩ : ∃ c', c' = gC (-1) (-1) c := ⟨_, rfl⟩
  have hpn : p < n := by rw [hp]; exact gFr_lt he hx hy
  have hqn : q < n := by rw [hq]; exact gTo_lt he hx hy
  have HG := guarded2 n g cp len p q c' f he hn hl hpn hqn
  have HG1 := hide HG.1
  have HG2 := hide HG.2
  clear HG
  rw [← hp, ← hq, ← hc']
  have HO : Hid (∀ (W : World) (k : Nat), k < n → Calls Tryd.prog 93 #[.int .i64 k] W fun e w' => e = .returned (.int .i64 (bar k : Nat)) ∧ w' = W) := fun W k hk => opposite_any k (by omega) W
  obtain ⟨r, hr⟩ : ∃ r, r = idxN (1) y := ⟨_, rfl⟩
  have hrn : r < n := by rw [hr]; exact idxN_lt hy
  have HIb : Hid (∀ W : World, Calls Tryd.prog 84 #[.int .i64 1, .int .i64 y] W fun e w' => e = .returned (.int .i64 (r : Nat)) ∧ w' = W) := fun W => (index_any 1 y (.inl rfl) (by omega) W).mono fun _ _ h => ⟨by rw [h.1, hr]; simp [idxI, idxN]; try omega, h.2⟩
  obtain ⟨s, hs⟩ : ∃ s, s = idxN (-1) x := ⟨_, rfl⟩
  have hsn : s < n := by rw [hs]; exact idxN_lt hx
  have HIa : Hid (∀ W : World, Calls Tryd.prog 84 #[.int .i64 (-1), .int .i64 x] W fun e w' => e = .returned (.int .i64 (s : Nat)) ∧ w' = W) := fun W => (index_any (-1) x (.inr (.inl rfl)) (by omega) W).mono fun _ _ h => ⟨by rw [h.1, hs]; simp [idxI, idxN]; try omega, h.2⟩
  obtain rfl : p = r := by first | (rw [hp, hr]; done) | (rw [hp, hr]; simp [gFr])
  obtain rfl : q = s := by first | (rw [hq, hs]; done) | (rw [hq, hs]; simp [gTo])
  obtain rfl : c' = c := by first | (rw [hc']; done) | (rw [hc']; simp [gC])
  clear hG hl hp hq hc' hr hs
  have np : ¬ (p : Int) = -1 := by omega
  have nq : ¬ (q : Int) = -1 := by omega
  have npb : ((p : Int) == -1) = false := by first | (simp; done) | (simp; omega)
  have nqb : ((q : Int) == -1) = false := by first | (simp; done) | (simp; omega)
  go_enter Tryd.func80, Tryd.ntmps80
  go_wp2_with fail
  refine (HIb.out _).mono ?_
  rintro e w1 ⟨rfl, hw1⟩
  rw [hw1]
  clear hw1
  go_wp2_with fail
  refine (HIa.out _).mono ?_
  rintro e w1 ⟨rfl, hw1⟩
  rw [hw1]
  clear hw1
  go_wp2_with fail
  refine (HG1.out _ g cp s0.sent).mono ?_
  rintro e w2 ⟨g2, cp2, rfl, hg2, hG2, hb2⟩
  have s2 := s0.call hb2
  have q2 := s2.hold
  simp only [Holds, and_true] at q2
  have sz2 : w.heap.size + 1 < w2.heap.size := q2.1.2.1
  clear s0 q0 hb2
  go_wp2_with fail
  refine (HO.out _ q hqn).mono ?_
  rintro e w3 ⟨rfl, hw3⟩
  rw [hw3]
  clear hw3
  go_wp2_with fail
  refine (HO.out _ p hpn).mono ?_
  rintro e w3 ⟨rfl, hw3⟩
  rw [hw3]
  clear hw3
  go_wp2_with fail
  refine (HG2.out _ g2 cp2 hG2).mono ?_
  rintro e w4 ⟨g4, cp4, rfl, hg4, hG4, hb4⟩
  have s4 := s2.call hb4
  have q4 := s4.hold
  simp only [Holds, and_true] at q4
  clear s2 q2 hb4
  go_wp2_with fail
  refine bodyPost_ret (v := (.agg #[.int .i64 n, (.slice (some ⟨g4, 0, none⟩) len cp4)])) (by simp [results, Tryd.results80, go_sem, q4]) rfl ⟨g4, cp4, rfl, by omega, ?_, ?_⟩
  · exact (hG4.other (by show w.heap.size + 1 ≠ g4; omega) _).other (by show w.heap.size + 1 ≠ g4; omega) _
  · iterate 2 refine Below.setCell ?_ (by first | (simp; done) | (simp; omega)) _
    exact s4.bel

set_option maxRecDepth 20000 in
set_option maxHeartbeats 2000000 in
theorem guarded_mz (n g cp len x y : Nat) (c : Int) (f : Nat → Nat → Int) (w : World) (hG : GrI w g n f) (hl : Hid (len = n * n)) (hnn : n % 2 = 0 ∧ n ≤ 8) (hx : 2 * (x + 1) ≤ n) (hy : 2 * (y + 1) ≤ n) (hc : c.natAbs ≤ 1099511627776) :
    Calls Tryd.prog 80 #[(.agg #[.int .i64 n, (.slice (some ⟨g, 0, none⟩) len cp)]), .int .i64 (-1), .int .i64 x, .int .i64 0, .int .i64 y, .int .i64 c] w fun e w' => GrPost w n len (gdF f (gFr (-1) x 0 y) (gTo (-1) x 0 y) (gC (-1) 0 c)) e w' := by
  obtain ⟨he, hn⟩ := hnn
  have s0 := ((St.startG hG).box2 84 (.int .i64 n) (.slice (some ⟨g, 0, none⟩) len cp)).box2 84 (.int .i64 0) (.slice none 0 0)
  simp only [World.size_alloc] at s0
  have q0 := s0.hold
  simp only [Holds, and_true] at q0
  obtain ⟨p, hp⟩ : ∃ p, p = gFr (-1) x 0 y := ⟨_, rfl⟩
  obtain ⟨q, hq⟩ : ∃ q, q = gTo (-1) x 0 y := ⟨_, rfl⟩
  obtain ⟨c', hc'⟩ : ∃ c', c' = gC (-1) 0 c := ⟨_, rfl⟩
  have hpn : p < n := by rw [hp]; exact gFr_lt he hx hy
  have hqn : q < n := by rw [hq]; exact gTo_lt he hx hy
  have HG := guarded2 n g cp len p q c' f he hn hl hpn hqn
  have HG1 := hide HG.1
  have HG2 := hide HG.2
  clear HG
  rw [← hp, ← hq, ← hc']
  have HO : Hid (∀ (W : World) (k : Nat), k < n → Calls Tryd.prog 93 #[.int .i64 k] W fun e w' => e = .returned (.int .i64 (bar k : Nat)) ∧ w' = W) := fun W k hk => opposite_any k (by omega) W
  have HIb : Hid (∀ W : World, Calls Tryd.prog 84 #[.int .i64 0, .int .i64 y] W fun e w' => e = .returned (.int .i64 (-1)) ∧ w' = W) := fun W => (index_any 0 y (.inr (.inr rfl)) (by omega) W).mono fun _ _ h => ⟨by rw [h.1]; rfl, h.2⟩
  obtain ⟨s, hs⟩ : ∃ s, s = idxN (-1) x := ⟨_, rfl⟩
  have hsn : s < n := by rw [hs]; exact idxN_lt hx
  have HIa : Hid (∀ W : World, Calls Tryd.prog 84 #[.int .i64 (-1), .int .i64 x] W fun e w' => e = .returned (.int .i64 (s : Nat)) ∧ w' = W) := fun W => (index_any (-1) x (.inr (.inl rfl)) (by omega) W).mono fun _ _ h => ⟨by rw [h.1, hs]; simp [idxI, idxN]; try omega, h.2⟩
  have hpb : p = bar s := by first | (rw [hp, hs]; done) | (rw [hp, hs]; simp [gFr])
  obtain rfl : q = s := by first | (rw [hq, hs]; done) | (rw [hq, hs]; simp [gTo])
  have hcc : Hid (c' = 2 * c) := by show _ = _; first | (rw [hc']; done) | (rw [hc']; simp [gC])
  have h2c : (2 : Int) * c = c' := hcc.out.symm
  have h2b : -2199023255552 ≤ c' ∧ c' ≤ 2199023255552 := by omega
  clear hG hl hp hq hc' hs
  have nq : ¬ (q : Int) = -1 := by omega
  have nqb : ((q : Int) == -1) = false := by first | (simp; done) | (simp; omega)
  have HO1 : Hid (∀ (W : World), Calls Tryd.prog 93 #[.int .i64 q] W fun e w' => e = .returned (.int .i64 p) ∧ w' = W) := fun W => by rw [hpb]; exact HO.out W q hqn
  have Hpb := hide hpb
  clear hpb
  go_enter Tryd.func80, Tryd.ntmps80
  go_wp2_with fail
  refine (HIb.out _).mono ?_
  rintro e w1 ⟨rfl, hw1⟩
  rw [hw1]
  clear hw1
  go_wp2_with fail
  refine (HIa.out _).mono ?_
  rintro e w1 ⟨rfl, hw1⟩
  rw [hw1]
  clear hw1
  go_wp2_with fail
  refine (HO1.out _).mono ?_
  rintro e w1 ⟨rfl, hw1⟩
  rw [hw1]
  clear hw1
  go_wp2_with fail
  refine (HG1.out _ g cp s0.sent).mono ?_
  rintro e w2 ⟨g2, cp2, rfl, hg2, hG2, hb2⟩
  have s2 := s0.call hb2
  have q2 := s2.hold
  simp only [Holds, and_true] at q2
  have sz2 : w.heap.size + 1 < w2.heap.size := q2.1.2.1
  clear s0 q0 hb2
  go_wp2_with fail
  refine (HO.out _ q hqn).mono ?_
  rintro e w3 ⟨rfl, hw3⟩
  rw [hw3]
  clear hw3
  go_wp2_with fail
  refine (HO.out _ p hpn).mono ?_
  rintro e w3 ⟨rfl, hw3⟩
  rw [hw3]
  clear hw3
  go_wp2_with fail
  refine (HG2.out _ g2 cp2 hG2).mono ?_
  rintro e w4 ⟨g4, cp4, rfl, hg4, hG4, hb4⟩
  have s4 := s2.call hb4
  have q4 := s4.hold
  simp only [Holds, and_true] at q4
  clear s2 q2 hb4
  go_wp2_with fail
  refine bodyPost_ret (v := (.agg #[.int .i64 n, (.slice (some ⟨g4, 0, none⟩) len cp4)])) (by simp [results, Tryd.results80, go_sem, q4]) rfl ⟨g4, cp4, rfl, by omega, ?_, ?_⟩
  · exact (hG4.other (by show w.heap.size + 1 ≠ g4; omega) _).other (by show w.heap.size + 1 ≠ g4; omega) _
  · iterate 2 refine Below.setCell ?_ (by first | (simp; done) | (simp; omega)) _
    exact s4.bel

set_option maxRecDepth 20000 in
set_option maxHeartbeats 2000000 in
theorem guarded_zp (n g cp len x y : Nat) (c : Int) (f : Nat → Nat → Int) (w : World) (hG : GrI w g n f) (hl : Hid (len = n * n)) (hnn : n % 2 = 0 ∧ n ≤ 8) (hx : 2 * (x + 1) ≤ n) (hy : 2 * (y + 1) ≤ n) (hc : c.natAbs ≤ 1099511627776) :
    Calls Tryd.prog 80 #[(.agg #[.int .i64 n, (.slice (some ⟨g, 0, none⟩) len cp)]), .int .i64 0, .int .i64 x, .int .i64 1, .int .i64 y, .int .i64 c] w fun e w' => GrPost w n len (gdF f (gFr 0 x 1 y) (gTo 0 x 1 y) (gC 0 1 c)) e w' := by
  obtain ⟨he, hn⟩ := hnn
  have s0 := ((St.startG hG).box2 84 (.int .i64 n) (.slice (some ⟨g, 0, none⟩) len cp)).box2 84 (.int .i64 0) (.slice none 0 0)
  simp only [World.size_alloc] at s0
  have q0 := s0.hold
  simp only [Holds, and_true] at q0
  obtain ⟨p, hp⟩ : ∃ p, p = gFr 0 x 1 y := ⟨_, rfl⟩
  obtain ⟨q, hq⟩ : ∃ q, q = gTo 0 x 1 y := ⟨_, rfl⟩
  obtain ⟨c', hc'⟩ : ∃ c', c' = gC 0 1 c := ⟨_, rfl⟩
  have hpn : p < n := by rw [hp]; exact gFr_lt he hx hy
  have hqn : q < n := by rw [hq]; exact gTo_lt he hx hy
  have HG := guarded2 n g cp len p q c' f he hn hl hpn hqn
  have HG1 := hide HG.1
  have HG2 := hide HG.2
  clear HG
  rw [← hp, ← hq, ← hc']
  have HO : Hid (∀ (W : World) (k : Nat), k < n → Calls Tryd.prog 93 #[.int .i64 k] W fun e w' => e = .returned (.int .i64 (bar k : Nat)) ∧ w' = W) := fun W k hk => opposite_any k (by omega) W
  obtain ⟨r, hr⟩ : ∃ r, r = idxN (-1) y := ⟨_, rfl⟩
  have hrn : r < n := by rw [hr]; exact idxN_lt hy
  have HIb : Hid (∀ W : World, Calls Tryd.prog 84 #[.int .i64 (-1), .int .i64 y] W fun e w' => e = .returned (.int .i64 (r : Nat)) ∧ w' = W) := fun W => (index_any (-1) y (.inr (.inl rfl)) (by omega) W).mono fun _ _ h => ⟨by rw [h.1, hr]; simp [idxI, idxN]; try omega, h.2⟩
  have HIa : Hid (∀ W : World, Calls Tryd.prog 84 #[.int .i64 0, .int .i64 x] W fun e w' => e = .returned (.int .i64 (-1)) ∧ w' = W) := fun W => (index_any 0 x (.inr (.inr rfl)) (by omega) W).mono fun _ _ h => ⟨by rw [h.1]; rfl, h.2⟩
  obtain rfl : p = r := by first | (rw [hp, hr]; done) | (rw [hp, hr]; simp [gFr])
  have hqb : q = bar p := by first | (rw [hq, hr]; done) | (rw [hq, hr]; simp [gTo])
  have hcc : Hid (c' = 2 * c) := by show _ = _; first | (rw [hc']; done) | (rw [hc']; simp [gC])
  have h2c : (2 : Int) * c = c' := hcc.out.symm
  have h2b : -2199023255552 ≤ c' ∧ c' ≤ 2199023255552 := by omega
  clear hG hl hp hq hc' hr
  have np : ¬ (p : Int) = -1 := by omega
  have npb : ((p : Int) == -1) = false := by first | (simp; done) | (simp; omega)
  have HO1 : Hid (∀ (W : World), Calls Tryd.prog 93 #[.int .i64 p] W fun e w' => e = .returned (.int .i64 q) ∧ w' = W) := fun W => by rw [hqb]; exact HO.out W p hpn
  have Hqb := hide hqb
  clear hqb
  go_enter Tryd.func80, Tryd.ntmps80
  go_wp2_with fail
  refine (HIb.out _).mono ?_
  rintro e w1 ⟨rfl, hw1⟩
  rw [hw1]
  clear hw1
  go_wp2_with fail
  refine (HIa.out _).mono ?_
  rintro e w1 ⟨rfl, hw1⟩
  rw [hw1]
  clear hw1
  go_wp2_with fail
  refine (HO1.out _).mono ?_
  rintro e w1 ⟨rfl, hw1⟩
  rw [hw1]
  clear hw1
  go_wp2_with fail
  refine (HG1.out _ g cp s0.sent).mono ?_
  rintro e w2 ⟨g2, cp2, rfl, hg2, hG2, hb2⟩
  have s2 := s0.call hb2
  have q2 := s2.hold
  simp only [Holds, and_true] at q2
  have sz2 : w.heap.size + 1 < w2.heap.size := q2.1.2.1
  clear s0 q0 hb2
  go_wp2_with fail
  refine (HO.out _ q hqn).mono ?_
  rintro e w3 ⟨rfl, hw3⟩
  rw [hw3]
  clear hw3
  go_wp2_with fail
  refine (HO.out _ p hpn).mono ?_
  rintro e w3 ⟨rfl, hw3⟩
  rw [hw3]
  clear hw3
  go_wp2_with fail
  refine (HG2.out _ g2 cp2 hG2).mono ?_
  rintro e w4 ⟨g4, cp4, rfl, hg4, hG4, hb4⟩
  have s4 := s2.call hb4
  have q4 := s4.hold
  simp only [Holds, and_true] at q4
  clear s2 q2 hb4
  go_wp2_with fail
  refine bodyPost_ret (v := (.agg #[.int .i64 n, (.slice (some ⟨g4, 0, none⟩) len cp4)])) (by simp [results, Tryd.results80, go_sem, q4]) rfl ⟨g4, cp4, rfl, by omega, ?_, ?_⟩
  · exact (hG4.other (by show w.heap.size + 1 ≠ g4; omega) _).other (by show w.heap.size + 1 ≠ g4; omega) _
  · iterate 2 refine Below.setCell ?_ (by first | (simp; done) | (simp; omega)) _
    exact s4.bel

set_option maxRecDepth 20000 in
set_option maxHeartbeats 2000000 in
theorem guarded_zm (n g cp len x y : Nat) (c : Int) (f : Nat → Nat → Int) (w : World) (hG : GrI w g n f) (hl : Hid (len = n * n)) (hnn : n % 2 = 0 ∧ n ≤ 8) (hx : 2 * (x + 1) ≤ n) (hy : 2 * (y + 1) ≤ n) (hc : c.natAbs ≤ 1099511627776) :
    Calls Tryd.prog 80 #[(.agg #[.int .i64 n, (.slice (some ⟨g, 0, none⟩) len cp)]), .int .i64 0, .int .i64 x, .int .i64 (-1), .int .i64 y, .int .i64 c] w fun e w' => GrPost w n len (gdF f (gFr 0 x (-1) y) (gTo 0 x (-1) y) (gC 0 (-1) c)) e w' := by
  obtain ⟨he, hn⟩ := hnn
  have s0 := ((St.startG hG).box2 84 (.int .i64 n) (.slice (some ⟨g, 0, none⟩) len cp)).box2 84 (.int .i64 0) (.slice none 0 0)
  simp only [World.size_alloc] at s0
  have q0 := s0.hold
  simp only [Holds, and_true] at q0
  obtain ⟨p, hp⟩ : ∃ p, p = gFr 0 x (-1) y := ⟨_, rfl⟩
  obtain ⟨q, hq⟩ : ∃ q, q = gTo 0 x (-1) y := ⟨_, rfl⟩
  obtain ⟨c', hc'⟩ : ∃ c', c' = gC 0 (-1) c := ⟨_, rfl⟩
  have hpn : p < n := by rw [hp]; exact gFr_lt he hx hy
  have hqn : q < n := by rw [hq]; exact gTo_lt he hx hy
  have HG := guarded2 n g cp len p q c' f he hn hl hpn hqn
  have HG1 := hide HG.1
  have HG2 := hide HG.2
  clear HG
  rw [← hp, ← hq, ← hc']
  have HO : Hid (∀ (W : World) (k : Nat), k < n → Calls Tryd.prog 93 #[.int .i64 k] W fun e w' => e = .returned (.int .i64 (bar k : Nat)) ∧ w' = W) := fun W k hk => opposite_any k (by omega) W
  obtain ⟨r, hr⟩ : ∃ r, r = idxN (1) y := ⟨_, rfl⟩
  have hrn : r < n := by rw [hr]; exact idxN_lt hy
  have HIb : Hid (∀ W : World, Calls Tryd.prog 84 #[.int .i64 1, .int .i64 y] W fun e w' => e = .returned (.int .i64 (r : Nat)) ∧ w' = W) := fun W => (index_any 1 y (.inl rfl) (by omega) W).mono fun _ _ h => ⟨by rw [h.1, hr]; simp [idxI, idxN]; try omega, h.2⟩
  have HIa : Hid (∀ W : World, Calls Tryd.prog 84 #[.int .i64 0, .int .i64 x] W fun e w' => e = .returned (.int .i64 (-1)) ∧ w' = W) := fun W => (index_any 0 x (.inr (.inr rfl)) (by omega) W).mono fun _ _ h => ⟨by rw [h.1]; rfl, h.2⟩
  obtain rfl : p = r := by first | (rw [hp, hr]; done) | (rw [hp, hr]; simp [gFr])
  have hqb : q = bar p := by first | (rw [hq, hr]; done) | (rw [hq, hr]; simp [gTo])
  have hcc : Hid (c' = 2 * c) := by show _ = _; first | (rw [hc']; done) | (rw [hc']; simp [gC])
  have h2c : (2 : Int) * c = c' := hcc.out.symm
  have h2b : -2199023255552 ≤ c' ∧ c' ≤ 2199023255552 := by omega
  clear hG hl hp hq hc' hr
  have np : ¬ (p : Int) = -1 := by omega
  have npb : ((p : Int) == -1) = false := by first | (simp; done) | (simp; omega)
  have HO1 : Hid (∀ (W : World), Calls Tryd.prog 93 #[.int .i64 p] W fun e w' => e = .returned (.int .i64 q) ∧ w' = W) := fun W => by rw [hqb]; exact HO.out W p hpn
  have Hqb := hide hqb
  clear hqb
  go_enter Tryd.func80, Tryd.ntmps80
  go_wp2_with fail
  refine (HIb.out _).mono ?_
  rintro e w1 ⟨rfl, hw1⟩
  rw [hw1]
  clear hw1
  go_wp2_with fail
  refine (HIa.out _).mono ?_
  rintro e w1 ⟨rfl, hw1⟩
  rw [hw1]
  clear hw1
  go_wp2_with fail
  refine (HO1.out _).mono ?_
  rintro e w1 ⟨rfl, hw1⟩
  rw [hw1]
  clear hw1
  go_wp2_with fail
  refine (HG1.out _ g cp s0.sent).mono ?_
  rintro e w2 ⟨g2, cp2, rfl, hg2, hG2, hb2⟩
  have s2 := s0.call hb2
  have q2 := s2.hold
  simp only [Holds, and_true] at q2
  have sz2 : w.heap.size + 1 < w2.heap.size := q2.1.2.1
  clear s0 q0 hb2
  go_wp2_with fail
  refine (HO.out _ q hqn).mono ?_
  rintro e w3 ⟨rfl, hw3⟩
  rw [hw3]
  clear hw3
  go_wp2_with fail
  refine (HO.out _ p hpn).mono ?_
  rintro e w3 ⟨rfl, hw3⟩
  rw [hw3]
  clear hw3
  go_wp2_with fail
  refine (HG2.out _ g2 cp2 hG2).mono ?_
  rintro e w4 ⟨g4, cp4, rfl, hg4, hG4, hb4⟩
  have s4 := s2.call hb4
  have q4 := s4.hold
  simp only [Holds, and_true] at q4
  clear s2 q2 hb4
  go_wp2_with fail
  refine bodyPost_ret (v := (.agg #[.int .i64 n, (.slice (some ⟨g4, 0, none⟩) len cp4)])) (by simp [results, Tryd.results80, go_sem, q4]) rfl ⟨g4, cp4, rfl, by omega, ?_, ?_⟩
  · exact (hG4.other (by show w.heap.size + 1 ≠ g4; omega) _).other (by show w.heap.size + 1 ≠ g4; omega) _
  · iterate 2 refine Below.setCell ?_ (by first | (simp; done) | (simp; omega)) _
    exact s4.bel

set_option maxRecDepth 20000 in
set_option maxHeartbeats 2000000 in
theorem guarded_zz (n g cp len x y : Nat) (c : Int) (f : Nat → Nat → Int) (w : World) (hG : GrI w g n f) (hl : Hid (len = n * n)) (hnn : n % 2 = 0 ∧ n ≤ 8) (hx : 2 * (x + 1) ≤ n) (hy : 2 * (y + 1) ≤ n) (hc : c.natAbs ≤ 1099511627776) :
    Calls Tryd.prog 80 #[(.agg #[.int .i64 n, (.slice (some ⟨g, 0, none⟩) len cp)]), .int .i64 0, .int .i64 x, .int .i64 0, .int .i64 y, .int .i64 c] w fun e w' => GrPost w n len (gdF f (gFr 0 x 0 y) (gTo 0 x 0 y) (gC 0 0 c)) e w' := by
  obtain ⟨he, hn⟩ := hnn
  have s0 := ((St.startG hG).box2 84 (.int .i64 n) (.slice (some ⟨g, 0, none⟩) len cp)).box2 84 (.int .i64 0) (.slice none 0 0)
  simp only [World.size_alloc] at s0
  have q0 := s0.hold
  simp only [Holds, and_true] at q0
  obtain ⟨p, hp⟩ : ∃ p, p = gFr 0 x 0 y := ⟨_, rfl⟩
  obtain ⟨q, hq⟩ : ∃ q, q = gTo 0 x 0 y := ⟨_, rfl⟩
  obtain ⟨c', hc'⟩ : ∃ c', c' = gC 0 0 c := ⟨_, rfl⟩
  have hpn : p < n := by rw [hp]; exact gFr_lt he hx hy
  have hqn : q < n := by rw [hq]; exact gTo_lt he hx hy
  have HG := guarded2 n g cp len p q c' f he hn hl hpn hqn
  have HG1 := hide HG.1
  have HG2 := hide HG.2
  clear HG
  rw [← hp, ← hq, ← hc']
  have HO : Hid (∀ (W : World) (k : Nat), k < n → Calls Tryd.prog 93 #[.int .i64 k] W fun e w' => e = .returned (.int .i64 (bar k : Nat)) ∧ w' = W) := fun W k hk => opposite_any k (by omega) W
  have HIb : Hid (∀ W : World, Calls Tryd.prog 84 #[.int .i64 0, .int .i64 y] W fun e w' => e = .returned (.int .i64 (-1)) ∧ w' = W) := fun W => (index_any 0 y (.inr (.inr rfl)) (by omega) W).mono fun _ _ h => ⟨by rw [h.1]; rfl, h.2⟩
  have HIa : Hid (∀ W : World, Calls Tryd.prog 84 #[.int .i64 0, .int .i64 x] W fun e w' => e = .returned (.int .i64 (-1)) ∧ w' = W) := fun W => (index_any 0 x (.inr (.inr rfl)) (by omega) W).mono fun _ _ h => ⟨by rw [h.1]; rfl, h.2⟩
  have h2x : p = 2 * x ∧ q = 2 * x := by rw [hp, hq]; simp [gFr, gTo]
  obtain rfl : q = p := by omega
  obtain rfl : c' = c := by first | (rw [hc']; done) | (rw [hc']; simp [gC])
  have HIc : Hid (∀ W : World, Calls Tryd.prog 84 #[.int .i64 1, .int .i64 x] W fun e w' => e = .returned (.int .i64 (q : Nat)) ∧ w' = W) := fun W => (index_any 1 x (.inl rfl) (by omega) W).mono fun _ _ h => ⟨by rw [h.1, h2x.1]; simp [idxI], h.2⟩
  clear hG hl hp hq hc' h2x
  go_enter Tryd.func80, Tryd.ntmps80
  go_wp2_with fail
  refine (HIb.out _).mono ?_
  rintro e w1 ⟨rfl, hw1⟩
  rw [hw1]
  clear hw1
  go_wp2_with fail
  refine (HIa.out _).mono ?_
  rintro e w1 ⟨rfl, hw1⟩
  rw [hw1]
  clear hw1
  go_wp2_with fail
  refine (HIc.out _).mono ?_
  rintro e w1 ⟨rfl, hw1⟩
  rw [hw1]
  clear hw1
  go_wp2_with fail
  refine (HIc.out _).mono ?_
  rintro e w1 ⟨rfl, hw1⟩
  rw [hw1]
  clear hw1
  go_wp2_with fail
  refine (HG1.out _ g cp s0.sent).mono ?_
  rintro e w2 ⟨g2, cp2, rfl, hg2, hG2, hb2⟩
  have s2 := s0.call hb2
  have q2 := s2.hold
  simp only [Holds, and_true] at q2
  have sz2 : w.heap.size + 1 < w2.heap.size := q2.1.2.1
  clear s0 q0 hb2
  go_wp2_with fail
  refine (HO.out _ q hqn).mono ?_
  rintro e w3 ⟨rfl, hw3⟩
  rw [hw3]
  clear hw3
  go_wp2_with fail
  refine (HO.out _ q hpn).mono ?_
  rintro e w3 ⟨rfl, hw3⟩
  rw [hw3]
  clear hw3
  go_wp2_with fail
  refine (HG2.out _ g2 cp2 hG2).mono ?_
  rintro e w4 ⟨g4, cp4, rfl, hg4, hG4, hb4⟩
  have s4 := s2.call hb4
  have q4 := s4.hold
  simp only [Holds, and_true] at q4
  clear s2 q2 hb4
  go_wp2_with fail
  refine bodyPost_ret (v := (.agg #[.int .i64 n, (.slice (some ⟨g4, 0, none⟩) len cp4)])) (by simp [results, Tryd.results80, go_sem, q4]) rfl ⟨g4, cp4, rfl, by omega, ?_, ?_⟩
  · exact (hG4.other (by show w.heap.size + 1 ≠ g4; omega) _).other (by show w.heap.size + 1 ≠ g4; omega) _
  · iterate 2 refine Below.setCell ?_ (by first | (simp; done) | (simp; omega)) _
    exact s4.bel

theorem guardedO_any (n g cp len x y : Nat) (a b c : Int) (f : Nat → Nat → Int) (w : World) (hG : GrI w g n f) (hl : Hid (len = n * n)) (hnn : n % 2 = 0 ∧ n ≤ 8) (ha : a = 1 ∨ a = -1 ∨ a = 0) (hb : b = 1 ∨ b = -1 ∨ b = 0) (hx : 2 * (x + 1) ≤ n) (hy : 2 * (y + 1) ≤ n) (hc : c.natAbs ≤ 1099511627776) :
    Calls Tryd.prog 80 #[(.agg #[.int .i64 n, (.slice (some ⟨g, 0, none⟩) len cp)]), .int .i64 a, .int .i64 x, .int .i64 b, .int .i64 y, .int .i64 c] w fun e w' => GrPost w n len (gdF f (gFr a x b y) (gTo a x b y) (gC a b c)) e w' := by
  rcases ha with rfl | rfl | rfl <;> rcases hb with rfl | rfl | rfl
  · exact guarded_pp n g cp len x y c f w hG hl hnn hx hy hc
  · exact guarded_pm n g cp len x y c f w hG hl hnn hx hy hc
  · exact guarded_pz n g cp len x y c f w hG hl hnn hx hy hc
  · exact guarded_mp n g cp len x y c f w hG hl hnn hx hy hc
  · exact guarded_mm n g cp len x y c f w hG hl hnn hx hy hc
  · exact guarded_mz n g cp len x y c f w hG hl hnn hx hy hc
  · exact guarded_zp n g cp len x y c f w hG hl hnn hx hy hc
  · exact guarded_zm n g cp len x y c f w hG hl hnn hx hy hc
  · exact guarded_zz n g cp len x y c f w hG hl hnn hx hy hc

end Go.Proofs.YtofjjaabgfmnpaaDoor
