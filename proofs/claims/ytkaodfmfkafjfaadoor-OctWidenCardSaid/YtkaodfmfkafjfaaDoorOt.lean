/- Octagons: widened, and the numbers of a variable: the law's walk, over any contracts. -/
import Derived.Test.YtkaodfmfkafjfaaDoorXf
import Derived.Test.YtkaodfmfkafjfaaDoorXj
import Derived.Test.YtkaodfmfkafjfaaDoorIc
namespace Go.Proofs.YtkaodfmfkafjfaaDoor
open Go.RowKit
set_option linter.unusedVariables false

/-- Four cells that can be stored into. -/
def Sto4 (b : Nat) (W : World) : Prop := ∃ v0 v1 v2 v3, Holds W [(b, 0, v0), (b, 1, v1), (b, 2, v2), (b, 3, v3)]
theorem Sto4.below {b : Nat} {W W' : World} (h : Sto4 b W) (hb : Below W.heap.size W W') : Sto4 b W' := by
  obtain ⟨v0, v1, v2, v3, h⟩ := h
  exact ⟨v0, v1, v2, v3, h.below hb⟩
theorem St.over {w v W : World} {Z Z' : World → Prop} {L L' : List (Nat × Nat × Value)} (s : St w v Z L) (t : St v W Z' L') (hz : Z W) : St w W Z L' := ⟨s.bel.trans (t.bel.mono s.bel.size), t.hold, hz, s.cl⟩
theorem keepY0 {w W : World} {Z P : World → Prop} {b : Nat} (hP : ∀ W, Z W → P W) (L : List (Nat × Nat × Value)) (t : Sto4 b W) (h : St w W Z L) : P W ∧ Sto4 b W ∧ CellsAnd W L (St w W Z L) := ⟨hP _ h.sent, t, keepSt0 L h⟩
theorem keepY {w W W' : World} {Z P : World → Prop} {b : Nat} (hP : ∀ W, Z W → P W) (L : List (Nat × Nat × Value)) (hb : Below W.heap.size W W') (h : P W ∧ Sto4 b W ∧ CellsAnd W L (St w W Z L)) : P W' ∧ Sto4 b W' ∧ CellsAnd W' L (St w W' Z L) :=
  have s := h.2.2.last.call hb
  ⟨hP _ s.sent, h.2.1.below hb, keepSt0 L s⟩
theorem keepYs {w W W1 : World} {Z P : World → Prop} {b : Nat} (hP : ∀ W, Z W → P W) (L : List (Nat × Nat × Value)) (hw : w.heap.size ≤ b) (ap : Apart b L) {v0 v1 v2 v3 : Value} (e : W1 = (((W.setCell ⟨b, 0, none⟩ v0).setCell ⟨b, 1, none⟩ v1).setCell ⟨b, 2, none⟩ v2).setCell ⟨b, 3, none⟩ v3) (h : P W ∧ Sto4 b W ∧ CellsAnd W L (St w W Z L)) : P W1 ∧ Sto4 b W1 ∧ CellsAnd W1 L (St w W1 Z L) := by
  subst e
  have s := h.2.2.last
  obtain ⟨u0, u1, u2, u3, hh⟩ := h.2.1
  have f : St w W Z ([] ++ (b, 0, u0) :: (b, 1, u1) :: (b, 2, u2) :: (b, 3, u3) :: L) := ⟨s.bel, (Holds.append (L1 := [(b, 0, u0), (b, 1, u1), (b, 2, u2), (b, 3, u3)])).2 ⟨hh, s.hold⟩, s.sent, s.cl⟩
  have g := St.set4 [] L f hw trivial ap v0 v1 v2 v3
  have k : St w ((((W.setCell ⟨b, 0, none⟩ v0).setCell ⟨b, 1, none⟩ v1).setCell ⟨b, 2, none⟩ v2).setCell ⟨b, 3, none⟩ v3) Z L := g.drop 4
  exact ⟨hP _ k.sent, ⟨v0, v1, v2, v3, g.hold.take 4⟩, keepSt0 L k⟩
theorem Sto4.st {w W : World} {Z : World → Prop} {b : Nat} {L : List (Nat × Nat × Value)} (t : Sto4 b W) (s : St w W Z L) : ∃ u0 u1 u2 u3, St w W Z ((b, 0, u0) :: (b, 1, u1) :: (b, 2, u2) :: (b, 3, u3) :: L) := by
  obtain ⟨u0, u1, u2, u3, hh⟩ := t
  exact ⟨u0, u1, u2, u3, s.bel, (Holds.append (L1 := [(b, 0, u0), (b, 1, u1), (b, 2, u2), (b, 3, u3)])).2 ⟨hh, s.hold⟩, s.sent, s.cl⟩

/-- Two cells that can be stored into. -/
def Sto2 (b : Nat) (W : World) : Prop := ∃ v0 v1, Holds W [(b, 0, v0), (b, 1, v1)]
theorem Sto2.below {b : Nat} {W W' : World} (h : Sto2 b W) (hb : Below W.heap.size W W') : Sto2 b W' := by
  obtain ⟨v0, v1, h⟩ := h
  exact ⟨v0, v1, h.below hb⟩
theorem Holds.lt1 {b : Nat} {W : World} (h : Sto2 b W) : b < W.heap.size := by
  obtain ⟨v0, v1, h⟩ := h
  exact h.1.2.1
theorem Sto2.st {w W : World} {Z : World → Prop} {b : Nat} {L : List (Nat × Nat × Value)} (t : Sto2 b W) (s : St w W Z L) : ∃ u0 u1, St w W Z ((b, 0, u0) :: (b, 1, u1) :: L) := by
  obtain ⟨u0, u1, hh⟩ := t
  exact ⟨u0, u1, s.bel, (Holds.append (L1 := [(b, 0, u0), (b, 1, u1)])).2 ⟨hh, s.hold⟩, s.sent, s.cl⟩
theorem keepT0 {w W : World} {Z : World → Prop} {b : Nat} (L : List (Nat × Nat × Value)) (t : Sto2 b W) (h : St w W Z L) : Sto2 b W ∧ CellsAnd W L (St w W Z L) := ⟨t, keepSt0 L h⟩
theorem keepT {w W W' : World} {Z : World → Prop} {b : Nat} (L : List (Nat × Nat × Value)) (hb : Below W.heap.size W W') (h : Sto2 b W ∧ CellsAnd W L (St w W Z L)) : Sto2 b W' ∧ CellsAnd W' L (St w W' Z L) := ⟨h.1.below hb, keepSt0 L (h.2.last.call hb)⟩
theorem keepT_st {w W : World} {Z : World → Prop} {b : Nat} (L : List (Nat × Nat × Value)) (h : Sto2 b W ∧ CellsAnd W L (St w W Z L)) : St w W Z L := h.2.last
theorem keepTs {w W W1 : World} {Z : World → Prop} {b : Nat} (L : List (Nat × Nat × Value)) (hw : w.heap.size ≤ b) (ap : Apart b L) {v0 v1 : Value} (e : W1 = (W.setCell ⟨b, 0, none⟩ v0).setCell ⟨b, 1, none⟩ v1) (h : Sto2 b W ∧ CellsAnd W L (St w W Z L)) : Sto2 b W1 ∧ CellsAnd W1 L (St w W1 Z L) := by
  subst e
  obtain ⟨u0, u1, f⟩ := h.1.st h.2.last
  have g := (f.put20 hw ap v0).put21 hw ap v1
  exact ⟨⟨v0, v1, g.hold.take 2⟩, keepSt0 L (g.drop 2)⟩

/-- What Bounds answers. -/
def AnsB (a : Nat → Addr) (F : Int) (ok : Prop) (b1 b2 : Bool) (i1 i2 : Int) (W : World) (e : Ending) (w' : World) : Prop :=
  ∃ (r1 r2 : Bool) (j1 j2 : Int) (is : Bool), e = .returned (.tuple #[(Value.agg #[.bool r1, .bool r2, .int .i64 j1, .int .i64 j2]), .bool is, erV a F]) ∧ Hid ((F ≠ 0 ∧ r1 = false ∧ r2 = false ∧ j1 = 0 ∧ j2 = 0 ∧ is = false) ∨ (F = 0 ∧ ¬ ok ∧ r1 = false ∧ r2 = false ∧ j1 = 0 ∧ j2 = 0 ∧ is = false) ∨ (F = 0 ∧ ok ∧ r1 = b1 ∧ r2 = b2 ∧ j1 = i1 ∧ j2 = i2 ∧ is = true)) ∧ Below W.heap.size W w'

set_option maxRecDepth 20000 in
set_option maxHeartbeats 16000000 in
theorem widen_by (N M X : Int) (x y : Option Addr) (c c' len len' : Nat) (l m : List Ce) (a : Nat → Addr) (w : World) (hS : Sents w a) (hA : CsAt w x l) (hB : CsAt w y m) (hl : Hid (len = l.length)) (hm : Hid (len' = m.length)) (hlen : len ≤ 9223372036854775807) (hlen' : len' ≤ 9223372036854775807)
    (E E1 F : Int) (hE : 0 ≤ E ∧ E ≤ 8) (hF : 0 ≤ F ∧ F ≤ 8) (fb : Bool) (HFB : Hid (fb = (decide (E1 = 0) && (decide (X < 0) || decide (N ≤ X))))) (HF1 : Hid (F = if fb = true then 3 else E1)) (okA okB : Prop) (LA LB LW : List Ce) (b1 b2 : Bool) (i1 i2 : Int) (uh lh : Bool) (um lm : Int) (x' n : Nat)
    (HT : Hid (len ≤ 100 → len' ≤ 100 → ∀ W : World, CsAt W x l → CsAt W y m → Calls Tryd.prog 27 #[(.agg #[.int .i64 N, (.slice x len c)]), (.agg #[.int .i64 M, (.slice y len' c')])] W fun e w' => e = .returned (.int .i64 E) ∧ Below W.heap.size W w'))
    (HJ : Hid (len ≤ 100 → len' ≤ 100 → ∀ (W : World) (z1 z2 : Option Addr) (c1 c2 : Nat), Sents W a → CsAt W z1 l → CsAt W z2 m → Calls Tryd.prog 40 #[(.agg #[.int .i64 N, (.slice z1 len c1)]), (.agg #[.int .i64 M, (.slice z2 len' c2)])] W fun e w' => AnsJ a (fun er N5 L5 => (E ≠ 0 ∧ er = E ∧ N5 = 0 ∧ L5 = []) ∨ (E = 0 ∧ er = 0 ∧ N5 = N ∧ L5 = LW)) W e w'))
    (HE1 : Hid (len ≤ 100 → ∀ W : World, CsAt W x l → Calls Tryd.prog 14 #[(.agg #[.int .i64 N, (.slice x len c)])] W fun e w' => e = .returned (.int .i64 E1) ∧ Below W.heap.size W w'))
    (HBo : Hid (len ≤ 100 → ∀ (W : World) (z1 : Option Addr) (c1 : Nat), Sents W a → CsAt W z1 l → Calls Tryd.prog 41 #[(.agg #[.int .i64 N, (.slice z1 len c1)]), .int .i64 X] W fun e w' => AnsB a F okA b1 b2 i1 i2 W e w'))
    (HR1 : Hid (len ≤ 100 → (E = 0 ∨ F = 0) → nearL l 1048576 = true → ∀ W : World, CsAt W x l → Calls Tryd.prog 25 #[(.agg #[.int .i64 N, (.slice x len c)])] W fun e w' => AnsR (fun is N5 L5 => (¬ okA ∧ is = false) ∨ (okA ∧ is = true ∧ N5 = N ∧ L5 = LA)) W e w'))
    (HR2 : Hid (len' ≤ 100 → E = 0 → nearL m 1048576 = true → ∀ W : World, CsAt W y m → Calls Tryd.prog 25 #[(.agg #[.int .i64 M, (.slice y len' c')])] W fun e w' => AnsR (fun is N5 L5 => (¬ okB ∧ is = false) ∨ (okB ∧ is = true ∧ N5 = N ∧ L5 = LB)) W e w'))
    (HRg : Hid (F = 0 → nearL l 1048576 = true → okA → ∀ W : World, Calls Tryd.prog 42 #[(Value.agg #[.bool uh, .int .i64 (um.tdiv 2)]), (Value.agg #[.bool lh, .int .i64 (lm.tdiv 2)])] W fun e w' => e = .returned (Value.agg #[.bool b1, .bool b2, .int .i64 i1, .int .i64 i2]) ∧ Below W.heap.size W w'))
    (HCe : Hid (F = 0 → nearL l 1048576 = true → okA → X = x' ∧ 2 * N = n ∧ x' ≤ 4 ∧ 2 * x' + 1 < n ∧ LA.length = n * n ∧ n ≤ 8 ∧ LA.getD ((2 * x' + 1) * n + 2 * x') ceZ = ⟨uh, um⟩ ∧ LA.getD (2 * x' * n + (2 * x' + 1)) ceZ = ⟨lh, lm⟩ ∧ um.natAbs ≤ 1099511627776 ∧ lm.natAbs ≤ 1099511627776))
    (HWc : Hid (len ≤ 100 → E = 0 → nearL l 1048576 = true → nearL m 1048576 = true → okA → okB → ∀ (W : World) (z2 : Option Addr) (k2 c2 : Nat), k2 = LB.length → CsAt W x l → CsAt W z2 LB → Calls Tryd.prog 43 #[.slice x len c, .slice z2 k2 c2] W fun e w' => ∃ z3 c3, e = .returned (.slice z3 len c3) ∧ CsNew W w' z3 LW ∧ Below W.heap.size W w'))
    (HLW : Hid (len ≤ 100 → E = 0 → nearL l 1048576 = true → nearL m 1048576 = true → LW.length = len ∧ (¬ okB → LW = l) ∧ (¬ okA → okB → LW = LB))) :
    Calls Tryd.prog 7 #[(.agg #[.int .i64 N, (.slice x len c)]), (.agg #[.int .i64 M, (.slice y len' c')]), .int .i64 X] w fun e w' => e = .returned (.bool true) ∧ Below w.heap.size w w' := by
  have s0 := ((St.startZq (cs := [(x, l), (y, m)]) hS (by intro p hp; simp at hp; rcases hp with rfl | rfl; exact hA; exact hB)).box2 24 (.int .i64 N) (.slice x len c)).box2 24 (.int .i64 M) (.slice y len' c')
  simp only [World.size_alloc] at s0
  go_enter Tryd.func7, Tryd.ntmps7
  go_wp2_with fail
  refine (free_any a _ s0.sent.1.errs).mono ?_
  rintro e w1 ⟨rfl, hb1⟩
  (have s1 := s0.call hb1; have q1 := s1.hold; simp only [Holds, and_true] at q1; clear s0 hb1; try clear q0)
  clear hS hA hB
  by_cases h1 : len ≤ 100
  rotate_left
  · have h1' : (100 : Int) < (len : Int) := by omega
    go_wp2_with fail
    go_ret
    exact ⟨rfl, s1.bel⟩
  have h1' : ¬ (100 : Int) < (len : Int) := by omega
  by_cases h2 : len' ≤ 100
  rotate_left
  · have h2' : (100 : Int) < (len' : Int) := by omega
    go_wp2_with fail
    go_ret
    exact ⟨rfl, s1.bel⟩
  have h2' : ¬ (100 : Int) < (len' : Int) := by omega
  have HZ : Hid (∀ W : World, CsAt W x l → Calls Tryd.prog 16 #[(.agg #[.int .i64 N, (.slice x len c)])] W fun e w' => ∃ y cap, e = .returned (.agg #[.int .i64 N, (.slice y len cap)]) ∧ CsAt w' y l ∧ Below W.heap.size W w') := fun W h => zoneOf_any N x c len l W h hl (by omega)
  have HZb : Hid (∀ W : World, CsAt W y m → Calls Tryd.prog 16 #[(.agg #[.int .i64 M, (.slice y len' c')])] W fun e w' => ∃ y cap, e = .returned (.agg #[.int .i64 M, (.slice y len' cap)]) ∧ CsAt w' y m ∧ Below W.heap.size W w') := fun W h => zoneOf_any M y c' len' m W h hm (by omega)
  have HT' := hide (HT.out h1 h2)
  have HJ' := hide (HJ.out h1 h2)
  have HE1' := hide (HE1.out h1)
  have HBo' := hide (HBo.out h1)
  have HR1' := hide (HR1.out h1)
  have HR2' := hide (HR2.out h2)
  have HWc' := hide (HWc.out h1)
  have HLW' := hide (HLW.out h1)
  clear HT HJ HE1 HBo HR1 HR2 HWc HLW
  go_wp2_with fail
  refine (HT'.out _ (s1.sent.c (by simp)) (s1.sent.c (by simp))).mono ?_
  rintro e w2 ⟨rfl, hb2⟩
  (have s2 := s1.call hb2; have q2 := s2.hold; simp only [Holds, and_true] at q2; clear s1 hb2; try clear q1)
  clear HT'
  go_upto_region 5 with fail
  obtain ⟨W2, hW2, s2⟩ := s2.nam
  have hbW := s2.bel
  have s2 := s2.re
  rw [← hW2]
  clear hW2
  have q2 := s2.hold
  simp only [Holds, and_true] at q2
  go_cut [9, 10] (fun t7 t8 wx => ∃ (bj : Nat) (N5 : Int) (x5 : Option Addr) (k5 c5 : Nat) (er : Int) (L5 : List Ce), t8 = erV a er ∧ t7 = .pointer (some ⟨bj, 0, none⟩) ∧ CsAt wx x5 L5 ∧ Hid (k5 = L5.length ∧ k5 ≤ 1000 ∧ ((E ≠ 0 ∧ er = E ∧ N5 = 0 ∧ L5 = []) ∨ (E = 0 ∧ er = 0 ∧ N5 = N ∧ L5 = LW))) ∧ St W2 wx (Zq a [(x, l), (y, m)]) ((bj, 0, Value.int .i64 N5) :: (bj, 1, Value.slice x5 k5 c5) :: ((w.heap.size + 1, 0, Value.int .i64 M) :: (w.heap.size + 1, 1, Value.slice y len' c') :: (w.heap.size, 0, Value.int .i64 N) :: (w.heap.size, 1, Value.slice x len c) :: [])))
  case first =>
   as_aux_lemma =>
    have hwB := Nat.le_refl W2.heap.size
    have k2 := s2.hold
    go_region_held3 (fun w' => w'.cell? ⟨w.heap.size + 1, 0, none⟩ = some (.int .i64 M) ∧ w'.cell? ⟨w.heap.size + 1, 1, none⟩ = some (.slice y len' c') ∧ w'.cell? ⟨w.heap.size, 0, none⟩ = some (.int .i64 N) ∧ w'.cell? ⟨w.heap.size, 1, none⟩ = some (.slice x len c) ∧ St W2 w' (Zq a [(x, l), (y, m)]) ((w.heap.size + 1, 0, Value.int .i64 M) :: (w.heap.size + 1, 1, Value.slice y len' c') :: (w.heap.size, 0, Value.int .i64 N) :: (w.heap.size, 1, Value.slice x len c) :: [])) (first | (exact keepSt (((w.heap.size + 1, 0, Value.int .i64 M) :: (w.heap.size + 1, 1, Value.slice y len' c') :: (w.heap.size, 0, Value.int .i64 N) :: (w.heap.size, 1, Value.slice x len c) :: [])) (by assumption) (by assumption)) | (exact keepSt (((w.heap.size + 1, 0, Value.int .i64 M) :: (w.heap.size + 1, 1, Value.slice y len' c') :: (w.heap.size, 0, Value.int .i64 N) :: (w.heap.size, 1, Value.slice x len c) :: [])) (Below.refl _ _).drew (by assumption)) | (exact keepSt (((w.heap.size + 1, 0, Value.int .i64 M) :: (w.heap.size + 1, 1, Value.slice y len' c') :: (w.heap.size, 0, Value.int .i64 N) :: (w.heap.size, 1, Value.slice x len c) :: [])) ((Below.refl _ _).alloc (Nat.le_refl _) _) (by assumption)) | (exact keepSt0 (((w.heap.size + 1, 0, Value.int .i64 M) :: (w.heap.size + 1, 1, Value.slice y len' c') :: (w.heap.size, 0, Value.int .i64 N) :: (w.heap.size, 1, Value.slice x len c) :: [])) (St.drew (by assumption))) | (exact keepSt0 (((w.heap.size + 1, 0, Value.int .i64 M) :: (w.heap.size + 1, 1, Value.slice y len' c') :: (w.heap.size, 0, Value.int .i64 N) :: (w.heap.size, 1, Value.slice x len c) :: [])) (s9.alloc _)) | (exact keepSt0 (((w.heap.size + 1, 0, Value.int .i64 M) :: (w.heap.size + 1, 1, Value.slice y len' c') :: (w.heap.size, 0, Value.int .i64 N) :: (w.heap.size, 1, Value.slice x len c) :: [])) (St.twoP s9 k2 hwB (by first | exact Nat.le_refl _ | exact hb7.size | exact Nat.le_trans hb7.size hb8.size))) | (exact keepSt0 (((w.heap.size + 1, 0, Value.int .i64 M) :: (w.heap.size + 1, 1, Value.slice y len' c') :: (w.heap.size, 0, Value.int .i64 N) :: (w.heap.size, 1, Value.slice x len c) :: [])) (by assumption)))
      (first
        | (go_at_call_of 16 (Value.agg #[.int .i64 N, .slice x len c]); refine (HZ.out _ ((keepSt_st (w := W2) (Z := Zq a [(x, l), (y, m)]) ((w.heap.size + 1, 0, Value.int .i64 M) :: (w.heap.size + 1, 1, Value.slice y len' c') :: (w.heap.size, 0, Value.int .i64 N) :: (w.heap.size, 1, Value.slice x len c) :: []) (by assumption)).sent.c (by simp))).mono ?_; rintro e w7 ⟨y7, c7, rfl, hy7, hb7⟩; have s7 := (keepSt_st (w := W2) (Z := Zq a [(x, l), (y, m)]) ((w.heap.size + 1, 0, Value.int .i64 M) :: (w.heap.size + 1, 1, Value.slice y len' c') :: (w.heap.size, 0, Value.int .i64 N) :: (w.heap.size, 1, Value.slice x len c) :: []) (by assumption)).call hb7; first | (have hx7 := boxed2 hb7) | (have hx7 := boxed2' hb7) | skip)
        | (go_at_call_of 16 (Value.agg #[.int .i64 M, .slice y len' c']); refine (HZb.out _ ((keepSt_st (w := W2) (Z := Zq a [(x, l), (y, m)]) ((w.heap.size + 1, 0, Value.int .i64 M) :: (w.heap.size + 1, 1, Value.slice y len' c') :: (w.heap.size, 0, Value.int .i64 N) :: (w.heap.size, 1, Value.slice x len c) :: []) (by assumption)).sent.c (by simp))).mono ?_; rintro e w8 ⟨y8, c8, rfl, hy8, hb8⟩; have hy78 := (show CsAt _ y7 l from (by first | exact hy7 | exact hy7.below ((Below.refl _ _).alloc (Nat.le_refl _) _).drew | exact hy7.below ((Below.refl _ _).alloc (Nat.le_refl _) _))).below hb8; have s8 := (keepSt_st (w := W2) (Z := Zq a [(x, l), (y, m)]) ((w.heap.size + 1, 0, Value.int .i64 M) :: (w.heap.size + 1, 1, Value.slice y len' c') :: (w.heap.size, 0, Value.int .i64 N) :: (w.heap.size, 1, Value.slice x len c) :: []) (by assumption)).call hb8; first | (have hx8 := hx7.below hb8; clear hx7) | (have hx8 := boxed2 hb8) | (have hx8 := boxed2' hb8) | skip)
        | (go_at_call 40; refine (HJ'.out _ y7 y8 c7 c8 (keepSt_st (w := W2) (Z := Zq a [(x, l), (y, m)]) ((w.heap.size + 1, 0, Value.int .i64 M) :: (w.heap.size + 1, 1, Value.slice y len' c') :: (w.heap.size, 0, Value.int .i64 N) :: (w.heap.size, 1, Value.slice x len c) :: []) (by assumption)).sent.1 (by first | exact hy78 | exact hy78.below ((Below.refl _ _).alloc (Nat.le_refl _) _).drew | exact hy78.below ((Below.refl _ _).alloc (Nat.le_refl _) _)) (by first | exact hy8 | exact hy8.below ((Below.refl _ _).alloc (Nat.le_refl _) _).drew | exact hy8.below ((Below.refl _ _).alloc (Nat.le_refl _) _))).mono ?_; rintro e w9 ⟨N9, x9, k9, c9, er9, L9, rfl, hn9, hF9, hb9⟩; have s9 := (keepSt_st (w := W2) (Z := Zq a [(x, l), (y, m)]) ((w.heap.size + 1, 0, Value.int .i64 M) :: (w.heap.size + 1, 1, Value.slice y len' c') :: (w.heap.size, 0, Value.int .i64 N) :: (w.heap.size, 1, Value.slice x len c) :: []) (by assumption)).call hb9; (first | (have hx9 := hx8.below hb9; clear hx8; have ho9 := hx9; simp only [Holds, and_true] at ho9) | (have hx9 := boxed2 hb9; have ho9 := hx9; simp only [Holds, and_true] at ho9) | (have hx9 := boxed2' hb9; have ho9 := hx9; simp only [Holds, and_true] at ho9) | skip)))
    all_goals
      have za := hb7.size
      try simp only [World.drew, World.size_alloc] at za
      have zb := hb8.size
      try simp only [World.size_alloc] at zb
      go_wp2_with fail
      go_meet
      case rel => first
        | exact ⟨_, N9, x9, k9, c9, er9, L9, rfl, rfl, hn9.at.below ((Below.refl _ _).alloc (Nat.le_refl _) _), hF9, s9.box2 30 _ _⟩
        | exact ⟨_, N9, x9, k9, c9, er9, L9, rfl, rfl, hn9.two (by try simp only [World.size_alloc]
                                                                   omega) _ _, hF9, s9.late2 k2 hwB (by first | exact Nat.le_refl _ | exact hb7.size | exact Nat.le_trans hb7.size hb8.size) hx9 _ _⟩
  case rest =>
  obtain ⟨bj, Nj, xj, kj, cj, erj, Lj, rfl, rfl, hcj, hFj, s3⟩ := hcut
  obtain ⟨W3, hW3, s3⟩ := s3.nam
  rw [← hW3] at hcj ⊢
  clear hW3
  have hbW3 := hbW.trans (s3.bel.mono hbW.size)
  have s3 := s3.moreq hcj
  clear hcj s2 q2 hbW HJ' HZb
  have q3 := s3.hold
  simp only [Holds, and_true] at q3
  go_wp2_with fail
  refine (HE1'.out _ (s3.sent.c (by simp))).mono ?_
  rintro e w4 ⟨rfl, hb4⟩
  (have s4 := s3.call hb4; have q4 := s4.hold; simp only [Holds, and_true] at q4; clear s3 hb4; try clear q3)
  clear HE1'
  go_upto_region 7 with fail
  go_cut [66] (fun t63 wx => t63 = .bool fb ∧ w4 = wx)
  case first =>
    by_cases k1 : E1 = 0
    · subst k1
      by_cases k2 : X < 0
      · have HR : Hid (fb = true) := by show _ = _; rw [HFB.out]; simp [k2]
        clear HFB
        go_wp2_with fail
        go_meet
        case rel => exact ⟨by rw [HR.out], rfl⟩
      · by_cases k3 : N ≤ X
        · have HR : Hid (fb = true) := by show _ = _; rw [HFB.out]; simp [k2, k3]
          clear HFB
          go_wp2_with fail
          go_meet
          case rel => exact ⟨by rw [HR.out], rfl⟩
        · have HR : Hid (fb = false) := by show _ = _; rw [HFB.out]; simp [k2, k3]
          clear HFB
          go_wp2_with fail
          go_meet
          case rel => exact ⟨by rw [HR.out], rfl⟩
    · have HR : Hid (fb = false) := by show _ = _; rw [HFB.out]; simp [k1]
      have k1' : (E1 == 0) = false := by simp [k1]
      clear HFB
      go_wp2_with fail
      go_meet
      case rel => exact ⟨by rw [HR.out], rfl⟩
  case rest =>
  obtain ⟨rfl, rfl⟩ := hcut
  go_upto_if 66 with fail
  go_cut [11] (fun t11 wx => t11 = .int .i64 F ∧ w4 = wx)
  case first =>
    cases fb
    · have HR : Hid (F = E1) := by show _ = _; rw [HF1.out]; simp
      go_wp2_with fail
      go_meet
      case rel => exact ⟨by rw [HR.out], rfl⟩
    · have HR : Hid (F = 3) := by show _ = _; rw [HF1.out]; simp
      go_wp2_with fail
      go_meet
      case rel => exact ⟨by rw [HR.out], rfl⟩
  case rest =>
  obtain ⟨rfl, rfl⟩ := hcut
  clear HFB HF1
  go_wp2_with fail
  refine (HZ.out _ (s4.sent.c (by simp))).mono ?_
  rintro e w5 ⟨y5, c5, rfl, hy5, hb5⟩
  (have s5 := s4.call hb5; have q5 := s5.hold; simp only [Holds, and_true] at q5; clear s4 hb5; try clear q4)
  go_wp2_with fail
  refine (HBo'.out _ y5 c5 s5.sent.1 hy5).mono ?_
  rintro e w6 ⟨r1, r2, j1, j2, is, rfl, hFB, hb6⟩
  have s6 := (s5.call hb6).box4 65 (.bool r1) (.bool r2) (.int .i64 j1) (.int .i64 j2)
  clear hy5 hb6 s5 q5 HBo' HZ
  go_upto_if 76 with fail
  obtain ⟨W6, hW6, s6⟩ := s6.nam
  rw [← hW6]
  obtain ⟨b12, hb12⟩ : ∃ b, b = w6.heap.size := ⟨_, rfl⟩
  rw [← hb12] at s6 ⊢
  clear hb12 hW6
  have hbW6 := hbW3.trans (s6.bel.mono hbW3.size)
  have s6 := s6.re
  have q6 := s6.hold
  simp only [Holds, and_true] at q6
  have HN1 : Hid (∀ W : World, CsAt W x l → Calls Tryd.prog 24 #[.slice x len c] W fun e w' => e = .returned (.bool (nearL l 1048576)) ∧ w' = W) := fun W h => by
    have := near_law x c len l W h hl hlen
    rw [decide_eq_true h1, Bool.true_and] at this
    exact this
  have hNe := fun W => neIv false false false false 0 0 0 0 W
  go_cut [6] (fun t6 wx => t6 = .bool false ∧ St W6 wx (Zq a [(xj, Lj), (x, l), (y, m)]) ((bj, 0, Value.int .i64 Nj) :: (bj, 1, Value.slice xj kj cj) :: ((w.heap.size + 1, 0, Value.int .i64 M) :: (w.heap.size + 1, 1, Value.slice y len' c') :: (w.heap.size, 0, Value.int .i64 N) :: (w.heap.size, 1, Value.slice x len c) :: [])))
  case first =>
   as_aux_lemma =>
    by_cases hF0 : F = 0
    rotate_left
    · have hFp : 0 < F := by omega
      obtain ⟨rfl, rfl, rfl, rfl, rfl⟩ : r1 = false ∧ r2 = false ∧ j1 = 0 ∧ j2 = 0 ∧ is = false := by
        rcases hFB.out with h | h | h
        · exact h.2
        · exact absurd h.1 hF0
        · exact absurd h.1 hF0
      have HDF : Hid (∀ (W : World), Sents W a → Calls Tryd.prog 19 #[erV a F, .int .i64 F] W fun e w' => e = .returned (.bool true) ∧ Below W.heap.size W w') := fun W h => coded_er F hF.1 hF.2 a W h
      clear hF0 hFB HR1' HRg HCe HN1
      go_wp2_with fail
      refine (HDF.out _ s6.sent.1).mono ?_
      rintro e w7 ⟨rfl, hb7⟩
      (have s7 := s6.call hb7; have q7 := s7.hold; simp only [Holds, and_true] at q7; clear s6 hb7; try clear q6)
      go_wp2_with fail
      go_meet
      case rel => exact ⟨rfl, s7.drop 4⟩
    · subst hF0
      have hnF : ¬ (0 : Int) < 0 := by omega
      obtain ⟨na, hna⟩ : ∃ b, b = nearL l 1048576 := ⟨_, rfl⟩
      rw [← hna] at HN1 HR1' HRg HCe
      clear hna
      cases na
      · clear HR1' HRg HCe
        go_wp2_with fail
        refine (HN1.out _ (s6.sent.c (by simp))).mono ?_
        rintro e w7 ⟨rfl, hw7⟩
        rw [hw7]
        clear hw7 w7
        go_wp2_with fail
        go_meet
        case rel => exact ⟨rfl, s6.drop 4⟩
      have K1 := hide (HR1'.out (.inr rfl) rfl)
      have K2 := hide (HRg.out rfl rfl)
      have K3 := hide (HCe.out rfl rfl)
      clear HR1' HRg HCe
      rw [erV_0]
      go_wp2_with fail
      refine (HN1.out _ (s6.sent.c (by simp))).mono ?_
      rintro e w7 ⟨rfl, hw7⟩
      rw [hw7]
      clear hw7 w7
      go_wp2_with fail
      refine (K1.out _ (s6.sent.c (by simp))).mono ?_
      rintro e w7 ⟨N7, x7, k7, c7, so, L7, rfl, hc7, hF7, hb7⟩
      obtain ⟨hk7, hk71, hf7⟩ := hF7.out
      have Hk7 := hide (And.intro hk7 hk71)
      have u7 := s6.call hb7
      clear hb7 hF7 hk7 hk71 K1
      by_cases hok : okA
      rotate_left
      · have s7 := (u7.re.box2 24 (.int .i64 N7) (.slice x7 k7 c7)).box4 65 (.bool false) (.bool false) (.int .i64 0) (.int .i64 0)
        simp only [World.size_alloc] at s7
        have q7 := s7.hold
        simp only [Holds, and_true] at q7
        obtain ⟨rfl, rfl, rfl, rfl, rfl⟩ : r1 = false ∧ r2 = false ∧ j1 = 0 ∧ j2 = 0 ∧ is = false := by
          rcases hFB.out with h | h | h
          · exact absurd rfl h.1
          · exact h.2.2
          · exact absurd h.2.1 hok
        obtain rfl : so = false := by
          rcases hf7 with h | h
          · exact h.2
          · exact absurd h.1 hok
        clear hf7 K2 K3 hc7
        go_wp2_with fail
        go_meet
        case rel => exact ⟨rfl, u7.over (s7.drop 10) s7.sent⟩
      · obtain ⟨rfl, rfl, rfl, rfl, rfl⟩ : r1 = b1 ∧ r2 = b2 ∧ j1 = i1 ∧ j2 = i2 ∧ is = true := by
          rcases hFB.out with h | h | h
          · exact absurd rfl h.1
          · exact absurd hok h.2.1
          · exact h.2.2
        obtain ⟨rfl, rfl, rfl⟩ : so = true ∧ N = N7 ∧ LA = L7 := by
          rcases hf7 with h | h
          · exact absurd hok h.1
          · exact ⟨h.2.1, h.2.2.1.symm, h.2.2.2.symm⟩
        have K2' := hide (K2.out hok)
        obtain ⟨rfl, e2, e3, e4, e5, e6, e7, e8, e9, e10⟩ := K3.out hok
        have hLe : 1 ≤ LA.length := by rw [e5]; exact Nat.mul_le_mul (show 1 ≤ n by omega) (show 1 ≤ n by omega)
        obtain ⟨g7, o7, rfl, hR7⟩ := hc7.row hLe
        have hk7n : k7 = n * n := by rw [Hk7.out.1, e5]
        have i1' := idx_in e4 (show 2 * x' < n by omega)
        have i2' := idx_in (show 2 * x' < n by omega) e4
        have n64 := Nat.mul_le_mul e6 e6
        obtain ⟨y2, hy2⟩ : ∃ q : Nat, q = 2 * x' := ⟨_, rfl⟩
        obtain ⟨y1, hy1⟩ : ∃ q : Nat, q = y2 + 1 := ⟨_, rfl⟩
        obtain ⟨p1, hp1⟩ : ∃ q : Nat, q = y1 * n := ⟨_, rfl⟩
        obtain ⟨q1, hq1⟩ : ∃ q : Nat, q = p1 + y2 := ⟨_, rfl⟩
        obtain ⟨p2, hp2⟩ : ∃ q : Nat, q = y2 * n := ⟨_, rfl⟩
        obtain ⟨q2, hq2⟩ : ∃ q : Nat, q = p2 + y2 := ⟨_, rfl⟩
        obtain ⟨q3, hq3⟩ : ∃ q : Nat, q = q2 + 1 := ⟨_, rfl⟩
        have a0 : (2 : Int) * N = (n : Int) := e2
        have a1 : (2 : Int) * (x' : Int) = (y2 : Int) := by omega
        have a2 : (y2 : Int) + 1 = (y1 : Int) := by omega
        have a3 : (y1 : Int) * (n : Int) = (p1 : Int) := by rw [hp1, Int.natCast_mul]
        have a4 : (p1 : Int) + (y2 : Int) = (q1 : Int) := by omega
        have a5 : (y2 : Int) * (n : Int) = (p2 : Int) := by rw [hp2, Int.natCast_mul]
        have a6 : (p2 : Int) + (y2 : Int) = (q2 : Int) := by omega
        have a7 : (q2 : Int) + 1 = (q3 : Int) := by omega
        have q1e : q1 = (2 * x' + 1) * n + 2 * x' := by rw [hq1, hp1, hy1, hy2]
        have q3e : q3 = 2 * x' * n + (2 * x' + 1) := by rw [hq3, hq2, hp2, hy2]; omega
        have l1 : (q1 : Int) < (k7 : Int) := by rw [hk7n, q1e]; omega
        have l2 : (q3 : Int) < (k7 : Int) := by rw [hk7n, q3e]; omega
        have bnd : p1 ≤ 64 ∧ p2 ≤ 64 ∧ q2 ≤ 64 ∧ q1 ≤ 64 ∧ q3 ≤ 64 ∧ y1 ≤ 9 ∧ y2 ≤ 8 ∧ n ≤ 8 := by omega
        obtain ⟨bn1, bn2, bn3, bn4, bn5, bn6, bn7, bn8⟩ := bnd
        have x4' := e3
        have hl1 : q1 < LA.length := by rw [e5, q1e]; exact i1'
        have hl3 : q3 < LA.length := by rw [e5, q3e]; exact i2'
        have tA := (u7.re.both (Y := fun W => RowC W g7 o7 LA) hR7 (fun _ _ q hb => RowC.stays hR7.lt q hb)).box2 24 (.int .i64 N) (.slice (some ⟨g7, o7, none⟩) k7 c7)
        have apA := tA.hold.older
        have t8 := tA.box4 65 (.bool false) (.bool false) (.int .i64 0) (.int .i64 0)
        simp only [World.size_alloc] at t8 apA
        clear tA
        have q8 := t8.hold
        simp only [Holds, and_true] at q8
        have hR8 := t8.sent.2
        have c1 := hR8.has q1 hl1
        have c2 := hR8.most q1 hl1
        have c3 := hR8.has q3 hl3
        have c4 := hR8.most q3 hl3
        rw [q1e, e7, ← q1e] at c1 c2
        rw [q3e, e8, ← q3e] at c3 c4
        have hlt8 := hR8.lt
        have bu : -1099511627776 ≤ um ∧ um ≤ 1099511627776 := by omega
        have bl : -1099511627776 ≤ lm ∧ lm ≤ 1099511627776 := by omega
        clear e2 e3 e4 e5 e6 e7 e8 e9 e10 hk7n i1' i2' hLe K2 K3 hf7 hc7 hFB Hk7 n64 hy2 hy1 hp1 hq1 hp2 hq2 hq3 q1e q3e hl1 hl3 hR8
        have Hu7 := hide u7
        clear u7 s6 q6
        go_upto_region 17 with fail
        obtain ⟨W8, hW8, t8⟩ := t8.nam
        rw [← hW8] at c1 c2 c3 c4 hlt8 ⊢
        obtain ⟨b15, hb15⟩ : ∃ b, b = w7.heap.size := ⟨_, rfl⟩
        rw [← hb15] at t8 apA ⊢
        have hb7w : w7.heap.size ≤ b15 + 1 := by omega
        have HapA := hide apA
        clear hb15 hW8 q8 hR7 apA
        have q8 := t8.hold
        simp only [Holds, and_true] at q8
        go_wp2_with fail
        have t9 := (t8.box2 69 (.bool uh) (.int .i64 (um.tdiv 2))).box2 69 (.bool lh) (.int .i64 (lm.tdiv 2))
        refine (K2'.out _).mono ?_
        rintro e w9 ⟨rfl, hb9⟩
        have s9 := (t9.call hb9).drop 4
        simp only [List.drop_succ_cons, List.drop_zero] at s9
        have q9 := s9.hold
        simp only [Holds, and_true] at q9
        clear t9 t8 q8 c1 c2 c3 c4 hlt8 hb9
        go_upto_region 23 with fail
        have s10 := St.set4 [] _ s9 hb7w trivial HapA.out (.bool r1) (.bool r2) (.int .i64 j1) (.int .i64 j2)
        obtain ⟨W10, hW10, s10⟩ := s10.nam
        rw [← hW10]
        clear hW10 s9 q9
        have q10 := s10.hold
        simp only [Holds, and_true, List.nil_append] at q10
        have hNe2 := fun W => neIv r1 r2 r1 r2 j1 j2 j1 j2 W
        go_wp2_with fail
        go_meet
        case rel => exact ⟨rfl, Hu7.out.over (s10.drop 10) s10.sent.1⟩
  case rest =>
  obtain ⟨rfl, s7⟩ := hcut
  obtain ⟨W7, hW7, s7⟩ := s7.nam
  rw [← hW7]
  clear hW7
  have hbW7 := hbW6.trans (s7.bel.mono hbW6.size)
  have s7 := s7.re
  clear s6 q6 hbW6 hFB hNe HRg HCe
  have q7 := s7.hold
  simp only [Holds, and_true] at q7
  obtain ⟨hkj, hkj1, hj⟩ := hFj.out
  have Hkj := hide (And.intro hkj hkj1)
  clear hFj hkj hkj1
  by_cases hE0 : E = 0
  rotate_left
  · have hEp : 0 < E := by omega
    obtain ⟨rfl, rfl, rfl⟩ : E = erj ∧ Nj = 0 ∧ Lj = [] := by
      rcases hj with h | h
      · exact ⟨h.2.1.symm, h.2.2⟩
      · exact absurd h.1 hE0
    obtain rfl : kj = 0 := Hkj.out.1
    have HD : Hid (∀ (W : World), Sents W a → Calls Tryd.prog 19 #[erV a E, .int .i64 E] W fun e w' => e = .returned (.bool true) ∧ Below W.heap.size W w') := fun W h => coded_er E hE.1 hE.2 a W h
    have HN0 : Hid (∀ (W : World) (z : Option Addr) (cz : Nat), Calls Tryd.prog 23 #[(.agg #[.int .i64 0, (.slice z 0 cz)])] W fun e w' => e = .returned (.bool true) ∧ Below W.heap.size W w') := fun W z cz => (noZone_any 0 z 0 cz W).mono fun _ _ h => ⟨by rw [h.1]; rfl, h.2⟩
    clear hj hE0 HR1' HR2' HWc' HLW' HN1 Hkj
    go_wp2_with fail
    refine (HD.out _ s7.sent.1).mono ?_
    rintro e w8 ⟨rfl, hb8⟩
    (have s8 := s7.call hb8; have q8 := s8.hold; simp only [Holds, and_true] at q8; clear s7 hb8; try clear q7)
    go_wp2_with fail
    refine (HN0.out _ _ _).mono ?_
    rintro e w9 ⟨rfl, hb9⟩
    (have s9 := s8.call hb9; have q9 := s9.hold; simp only [Holds, and_true] at q9; clear s8 hb9; try clear q8)
    go_wp2_with fail
    go_ret
    exact ⟨rfl, hbW7.trans (s9.bel.mono hbW7.size)⟩
  subst hE0
  have hnE : ¬ (0 : Int) < 0 := by omega
  obtain ⟨rfl, hNj, hLj⟩ : erj = 0 ∧ Nj = N ∧ Lj = LW := by
    rcases hj with h | h
    · exact absurd rfl h.1
    · exact h.2
  have HNj := hide hNj
  have HLj := hide hLj
  clear hj hNj hLj
  rw [erV_0]
  obtain ⟨na, hna⟩ : ∃ b, b = nearL l 1048576 := ⟨_, rfl⟩
  obtain ⟨nb, hnb⟩ : ∃ b, b = nearL m 1048576 := ⟨_, rfl⟩
  have HN2 : Hid (∀ W : World, CsAt W y m → Calls Tryd.prog 24 #[.slice y len' c'] W fun e w' => e = .returned (.bool nb) ∧ w' = W) := fun W h => by
    have := near_law y c' len' m W h hm hlen'
    rw [decide_eq_true h2, Bool.true_and, ← hnb] at this
    exact this
  rw [← hna, ← hnb] at HWc' HLW'
  rw [← hna] at HR1' HN1
  rw [← hnb] at HR2'
  clear hna hnb
  cases na
  · go_wp2_with fail
    refine (HN1.out _ (s7.sent.c (by simp))).mono ?_
    rintro e w8 ⟨rfl, hw8⟩
    rw [hw8]
    clear hw8 w8
    go_wp2_with fail
    go_ret
    exact ⟨rfl, hbW7⟩
  cases nb
  · go_wp2_with fail
    refine (HN1.out _ (s7.sent.c (by simp))).mono ?_
    rintro e w8 ⟨rfl, hw8⟩
    rw [hw8]
    clear hw8 w8
    go_wp2_with fail
    refine (HN2.out _ (s7.sent.c (by simp))).mono ?_
    rintro e w8 ⟨rfl, hw8⟩
    rw [hw8]
    clear hw8 w8
    go_wp2_with fail
    go_ret
    exact ⟨rfl, hbW7⟩
  have K1 := hide (HR1'.out (.inl rfl) rfl)
  have K2 := hide (HR2'.out rfl rfl)
  have K3 := hide (HWc'.out rfl rfl rfl)
  obtain ⟨lw1, lw2, lw3⟩ := HLW'.out rfl rfl rfl
  have Hlw := hide (And.intro lw1 (And.intro lw2 lw3))
  clear HR1' HR2' HWc' HLW' lw1 lw2 lw3
  have HIz : Hid (∀ (W : World) (z1 z2 : Option Addr) (k1 k2 c1 c2 : Nat) (L L' : List Ce) (Nz Nz' : Int), Nz = Nz' → L = L' → k1 = L.length → k2 = L'.length → k1 ≤ 1000 → CsAt W z1 L → CsAt W z2 L' → Calls Tryd.prog 26 #[(.agg #[.int .i64 Nz, (.slice z1 k1 c1)]), (.agg #[.int .i64 Nz', (.slice z2 k2 c2)])] W fun e w' => e = .returned (.bool true) ∧ Below W.heap.size W w') := by
    intro W z1 z2 k1 k2 c1 c2 L L' Nz Nz' hN hL hk1 hk2 hk3 h1 h2
    subst hN hL
    refine (isZone_any Nz Nz z1 z2 k1 c1 k2 c2 L L W h1 h2 hk1 hk2 hk3).mono ?_
    rintro e w' ⟨rfl, hb⟩
    exact ⟨by simp, hb⟩
  go_wp2_with fail
  refine (HN1.out _ (s7.sent.c (by simp))).mono ?_
  rintro e w8 ⟨rfl, hw8⟩
  rw [hw8]
  clear hw8 w8
  go_wp2_with fail
  refine (HN2.out _ (s7.sent.c (by simp))).mono ?_
  rintro e w8 ⟨rfl, hw8⟩
  rw [hw8]
  clear hw8 w8
  go_wp2_with fail
  refine (K1.out _ (s7.sent.c (by simp))).mono ?_
  rintro e w8 ⟨N8, x8, k8, c8, so, L8, rfl, hc8, hF8, hb8⟩
  have s8 := (s7.call hb8).box2 24 (.int .i64 N8) (.slice x8 k8 c8)
  have q8 := s8.hold
  simp only [Holds, and_true] at q8
  clear hb8 s7 q7 hc8 K1 HN1 HN2
  go_wp2_with fail
  refine (K2.out _ (s8.sent.c (by simp))).mono ?_
  rintro e w9 ⟨N9, x9, k9, c9, ot, L9, rfl, hc9, hF9, hb9⟩
  have s9 := (s8.call hb9).box2 24 (.int .i64 N9) (.slice x9 k9 c9)
  have hc10 := hc9.below ((Below.refl _ _).alloc (Nat.le_refl _) (.cells #[.int .i64 N9, .slice x9 k9 c9] 24))
  have hbW9 := hbW7.trans (s9.bel.mono hbW7.size)
  have s9 := s9.moreq hc10
  have ap9 := s9.hold.older
  have q9 := s9.hold
  simp only [Holds, and_true] at q9
  have s10 := s9.box2 24 (.int .i64 N) (.slice x len c)
  have hb9w : (w9.alloc (.cells #[.int .i64 N9, .slice x9 k9 c9] 24)).heap.size ≤ w9.heap.size + 1 := by simp
  simp only [World.size_alloc] at s10 ap9
  have q10 := s10.hold
  simp only [Holds, and_true] at q10
  clear hb9 s8 q8 hc9 hc10 K2 hbW7 s9
  obtain ⟨hk8, hk81, hf8⟩ := hF8.out
  obtain ⟨hk9, hk91, hf9⟩ := hF9.out
  have Hk9 := hide hk9
  clear hF8 hF9 hk8 hk81 hk9 hk91
  by_cases hokB : okB
  rotate_left
  · obtain rfl : ot = false := by
      rcases hf9 with h | h
      · exact h.2
      · exact absurd h.1 hokB
    have HL : Hid (Lj = l) := by show _ = _; rw [HLj.out]; exact Hlw.out.2.1 hokB
    clear hf8 hf9 K3
    cases so
    all_goals
      go_wp2_with fail
      refine (HIz.out _ xj x kj len cj c Lj l Nj N HNj.out HL.out Hkj.out.1 hl.out Hkj.out.2 (s10.sent.c (by simp)) (s10.sent.c (by simp))).mono ?_
      rintro e w11 ⟨rfl, hb11⟩
      have s11 := s10.call hb11
      go_wp2_with fail
      go_ret
      exact ⟨rfl, hbW9.trans (s11.bel.mono hbW9.size)⟩
  obtain ⟨rfl, rfl, rfl⟩ : ot = true ∧ N = N9 ∧ LB = L9 := by
    rcases hf9 with h | h
    · exact absurd hokB h.1
    · exact ⟨h.2.1, h.2.2.1.symm, h.2.2.2.symm⟩
  by_cases hokA : okA
  rotate_left
  · obtain rfl : so = false := by
      rcases hf8 with h | h
      · exact h.2
      · exact absurd h.1 hokA
    have HL : Hid (Lj = LB) := by show _ = _; rw [HLj.out]; exact Hlw.out.2.2 hokA hokB
    clear hf8 hf9 K3
    go_upto_region 33 with fail
    obtain ⟨W10, hW10, s10⟩ := s10.nam
    rw [← hW10]
    obtain ⟨W9, hW9⟩ : ∃ W, W = w9.alloc (.cells #[.int .i64 N, .slice x9 k9 c9] 24) := ⟨_, rfl⟩
    rw [← hW9] at s10 hbW9 hb9w
    obtain ⟨b20, hb20⟩ : ∃ b, b = w9.heap.size := ⟨_, rfl⟩
    obtain ⟨b22, hb22⟩ : ∃ b, b = b20 + 1 := ⟨_, rfl⟩
    rw [← hb20, ← hb22] at s10 hb9w ap9 ⊢
    clear hb20 hb22 hW9 hW10 q10 q9
    have q10 := s10.hold
    simp only [Holds, and_true] at q10
    have Hap := hide ap9
    clear ap9
    have s11 := (s10.put20 hb9w Hap.out (.int .i64 N)).put21 hb9w Hap.out (.slice x9 k9 c9)
    go_upto_if 188 with fail
    obtain ⟨W11, hW11, s11⟩ := s11.nam
    rw [← hW11]
    clear hW11 s10 q10
    have q11 := s11.hold
    simp only [Holds, and_true] at q11
    go_wp2_with fail
    refine (HIz.out _ xj x9 kj k9 cj c9 Lj LB Nj N HNj.out HL.out Hkj.out.1 Hk9.out Hkj.out.2 (s11.sent.c (by simp)) (s11.sent.c (by simp))).mono ?_
    rintro e w11 ⟨rfl, hb11⟩
    have s12 := s11.call hb11
    go_wp2_with fail
    go_ret
    exact ⟨rfl, hbW9.trans (s12.bel.mono hbW9.size)⟩
  obtain rfl : so = true := by
    rcases hf8 with h | h
    · exact absurd hokA h.1
    · exact h.2.1
  have K3' := hide (K3.out hokA hokB)
  clear hf8 hf9 K3
  go_upto_region 35 with fail
  obtain ⟨W10, hW10, s10⟩ := s10.nam
  rw [← hW10]
  obtain ⟨W9, hW9⟩ : ∃ W, W = w9.alloc (.cells #[.int .i64 N, .slice x9 k9 c9] 24) := ⟨_, rfl⟩
  rw [← hW9] at s10 hbW9 hb9w
  obtain ⟨b20, hb20⟩ : ∃ b, b = w9.heap.size := ⟨_, rfl⟩
  obtain ⟨b22, hb22⟩ : ∃ b, b = b20 + 1 := ⟨_, rfl⟩
  rw [← hb20, ← hb22] at s10 hb9w ap9 ⊢
  clear hb20 hb22 hW9 hW10 q10 q9
  have q10 := s10.hold
  simp only [Holds, and_true] at q10
  have Hap := hide ap9
  clear ap9
  have s11 : St W9 W10 (Zq a [(x9, LB), (xj, Lj), (x, l), (y, m)]) ((b20, 0, Value.int .i64 N) :: (b20, 1, Value.slice x9 k9 c9) :: (w8.heap.size, 0, Value.int .i64 N8) :: (w8.heap.size, 1, Value.slice x8 k8 c8) :: ((bj, 0, Value.int .i64 Nj) :: (bj, 1, Value.slice xj kj cj) :: ((w.heap.size + 1, 0, Value.int .i64 M) :: (w.heap.size + 1, 1, Value.slice y len' c') :: (w.heap.size, 0, Value.int .i64 N) :: (w.heap.size, 1, Value.slice x len c) :: []))) := s10.drop 2
  have t11 : Sto2 b22 W10 := ⟨_, _, s10.hold.take 2⟩
  clear s10 q10
  go_region_held3 (fun w' => Sto2 b22 w' ∧ w'.cell? ⟨b20, 0, none⟩ = some (.int .i64 N) ∧ w'.cell? ⟨b20, 1, none⟩ = some (.slice x9 k9 c9) ∧ w'.cell? ⟨w8.heap.size, 0, none⟩ = some (.int .i64 N8) ∧ w'.cell? ⟨w8.heap.size, 1, none⟩ = some (.slice x8 k8 c8) ∧ w'.cell? ⟨bj, 0, none⟩ = some (.int .i64 Nj) ∧ w'.cell? ⟨bj, 1, none⟩ = some (.slice xj kj cj) ∧ w'.cell? ⟨w.heap.size + 1, 0, none⟩ = some (.int .i64 M) ∧ w'.cell? ⟨w.heap.size + 1, 1, none⟩ = some (.slice y len' c') ∧ w'.cell? ⟨w.heap.size, 0, none⟩ = some (.int .i64 N) ∧ w'.cell? ⟨w.heap.size, 1, none⟩ = some (.slice x len c) ∧ St W9 w' (Zq a [(x9, LB), (xj, Lj), (x, l), (y, m)]) ((b20, 0, Value.int .i64 N) :: (b20, 1, Value.slice x9 k9 c9) :: (w8.heap.size, 0, Value.int .i64 N8) :: (w8.heap.size, 1, Value.slice x8 k8 c8) :: ((bj, 0, Value.int .i64 Nj) :: (bj, 1, Value.slice xj kj cj) :: ((w.heap.size + 1, 0, Value.int .i64 M) :: (w.heap.size + 1, 1, Value.slice y len' c') :: (w.heap.size, 0, Value.int .i64 N) :: (w.heap.size, 1, Value.slice x len c) :: [])))) (first | (exact keepTs ((b20, 0, Value.int .i64 N) :: (b20, 1, Value.slice x9 k9 c9) :: (w8.heap.size, 0, Value.int .i64 N8) :: (w8.heap.size, 1, Value.slice x8 k8 c8) :: ((bj, 0, Value.int .i64 Nj) :: (bj, 1, Value.slice xj kj cj) :: ((w.heap.size + 1, 0, Value.int .i64 M) :: (w.heap.size + 1, 1, Value.slice y len' c') :: (w.heap.size, 0, Value.int .i64 N) :: (w.heap.size, 1, Value.slice x len c) :: []))) hb9w Hap.out rfl (by assumption)) | (exact keepT ((b20, 0, Value.int .i64 N) :: (b20, 1, Value.slice x9 k9 c9) :: (w8.heap.size, 0, Value.int .i64 N8) :: (w8.heap.size, 1, Value.slice x8 k8 c8) :: ((bj, 0, Value.int .i64 Nj) :: (bj, 1, Value.slice xj kj cj) :: ((w.heap.size + 1, 0, Value.int .i64 M) :: (w.heap.size + 1, 1, Value.slice y len' c') :: (w.heap.size, 0, Value.int .i64 N) :: (w.heap.size, 1, Value.slice x len c) :: []))) (by assumption) (by assumption)) | (exact keepT0 ((b20, 0, Value.int .i64 N) :: (b20, 1, Value.slice x9 k9 c9) :: (w8.heap.size, 0, Value.int .i64 N8) :: (w8.heap.size, 1, Value.slice x8 k8 c8) :: ((bj, 0, Value.int .i64 Nj) :: (bj, 1, Value.slice xj kj cj) :: ((w.heap.size + 1, 0, Value.int .i64 M) :: (w.heap.size + 1, 1, Value.slice y len' c') :: (w.heap.size, 0, Value.int .i64 N) :: (w.heap.size, 1, Value.slice x len c) :: []))) (t11.below (Below.refl _ _).drew) s11.drew) | assumption)
    (first
      | (go_at_call 43; refine (K3'.out _ _ _ _ Hk9.out ((keepT_st (w := W9) (Z := (Zq a [(x9, LB), (xj, Lj), (x, l), (y, m)])) (b := b22) ((b20, 0, Value.int .i64 N) :: (b20, 1, Value.slice x9 k9 c9) :: (w8.heap.size, 0, Value.int .i64 N8) :: (w8.heap.size, 1, Value.slice x8 k8 c8) :: ((bj, 0, Value.int .i64 Nj) :: (bj, 1, Value.slice xj kj cj) :: ((w.heap.size + 1, 0, Value.int .i64 M) :: (w.heap.size + 1, 1, Value.slice y len' c') :: (w.heap.size, 0, Value.int .i64 N) :: (w.heap.size, 1, Value.slice x len c) :: []))) (by assumption)).sent.c (by simp)) ((keepT_st (w := W9) (Z := (Zq a [(x9, LB), (xj, Lj), (x, l), (y, m)])) (b := b22) ((b20, 0, Value.int .i64 N) :: (b20, 1, Value.slice x9 k9 c9) :: (w8.heap.size, 0, Value.int .i64 N8) :: (w8.heap.size, 1, Value.slice x8 k8 c8) :: ((bj, 0, Value.int .i64 Nj) :: (bj, 1, Value.slice xj kj cj) :: ((w.heap.size + 1, 0, Value.int .i64 M) :: (w.heap.size + 1, 1, Value.slice y len' c') :: (w.heap.size, 0, Value.int .i64 N) :: (w.heap.size, 1, Value.slice x len c) :: []))) (by assumption)).sent.c (by simp))).mono ?_; rintro e w11 ⟨z3, c3, rfl, hc3, hb11⟩; have hY := keepT (w := W9) (Z := (Zq a [(x9, LB), (xj, Lj), (x, l), (y, m)])) (b := b22) ((b20, 0, Value.int .i64 N) :: (b20, 1, Value.slice x9 k9 c9) :: (w8.heap.size, 0, Value.int .i64 N8) :: (w8.heap.size, 1, Value.slice x8 k8 c8) :: ((bj, 0, Value.int .i64 Nj) :: (bj, 1, Value.slice xj kj cj) :: ((w.heap.size + 1, 0, Value.int .i64 M) :: (w.heap.size + 1, 1, Value.slice y len' c') :: (w.heap.size, 0, Value.int .i64 N) :: (w.heap.size, 1, Value.slice x len c) :: []))) hb11 (by assumption); obtain ⟨u0, u1, s12⟩ := hY.1.st hY.2.last; have q12 := s12.hold; simp only [Holds, and_true] at q12; have hbw := hb11.size; simp only [World.drew] at hbw; clear hY))
  have s13 := (s12.put20 hb9w Hap.out (.int .i64 N)).put21 hb9w Hap.out (.slice z3 len c3)
  have hc13 : CsAt ((w11.setCell ⟨b22, 0, none⟩ (.int .i64 N)).setCell ⟨b22, 1, none⟩ (.slice z3 len c3)) z3 LW := hc3.two (Holds.lt1 t11) _ _
  have HL : Hid (Lj = LW) := HLj.out
  go_wp2_with fail
  obtain ⟨W13, hW13, s13⟩ := s13.nam
  rw [← hW13] at hc13 ⊢
  clear hW13
  have q13 := s13.hold
  simp only [Holds, and_true] at q13
  go_wp2_with fail
  refine (HIz.out _ xj z3 kj len cj c3 Lj LW Nj N HNj.out HL.out Hkj.out.1 Hlw.out.1.symm Hkj.out.2 (s13.sent.c (by simp)) hc13).mono ?_
  rintro e w14 ⟨rfl, hb14⟩
  have s14 := s13.call hb14
  go_wp2_with fail
  go_ret
  exact ⟨rfl, hbW9.trans (s14.bel.mono hbW9.size)⟩
end Go.Proofs.YtkaodfmfkafjfaaDoor
