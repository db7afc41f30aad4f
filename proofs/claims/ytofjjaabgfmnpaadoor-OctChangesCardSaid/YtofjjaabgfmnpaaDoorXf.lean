/- Zones: joins, meets, what lies in what: the law's walk, over any contracts. -/
import Derived.Test.YtofjjaabgfmnpaaDoorYs
import Derived.Test.YtofjjaabgfmnpaaDoorZt
import Derived.Test.YtofjjaabgfmnpaaDoorXe
import Derived.Deep.Cut
import Derived.Deep.DeepCutAuto
namespace Go.Proofs.YtofjjaabgfmnpaaDoor
open Go.RowKit
set_option linter.unusedVariables false

/-- All errors, and slices of cells. -/
def Zq (a : Nat → Addr) (cs : List (Option Addr × List Ce)) (W : World) : Prop := Sents W a ∧ ∀ p ∈ cs, CsAt W p.1 p.2
theorem St.startZq {w : World} {a : Nat → Addr} {cs : List (Option Addr × List Ce)} (h : Sents w a) (k : ∀ p ∈ cs, CsAt w p.1 p.2) : St w w (Zq a cs) [] :=
  ⟨Below.refl _ _, trivial, ⟨h, k⟩, fun _ _ q hb => ⟨h.stays q.1 hb, fun p hp => (k p hp).stays (q.2 p hp) hb⟩⟩
theorem St.moreq {w W : World} {a : Nat → Addr} {cs : List (Option Addr × List Ce)} {L : List (Nat × Nat × Value)} (h : St w W (Zq a cs) L) {y : Option Addr} {m : List Ce} (k : CsAt W y m) : St W W (Zq a ((y, m) :: cs)) L := by
  have s := St.startZq (a := a) (cs := (y, m) :: cs) h.sent.1 (by
    intro p hp
    rcases List.mem_cons.1 hp with rfl | hp
    · exact k
    · exact h.sent.2 p hp)
  exact ⟨s.bel, h.hold, s.sent, s.cl⟩
theorem Zq.c {a : Nat → Addr} {cs : List (Option Addr × List Ce)} {W : World} (h : Zq a cs W) {y : Option Addr} {m : List Ce} (hp : (y, m) ∈ cs) : CsAt W y m := h.2 (y, m) hp
theorem St.nam {w W : World} {Z : World → Prop} {L : List (Nat × Nat × Value)} (h : St w W Z L) : ∃ V, V = W ∧ St w V Z L := ⟨W, rfl, h⟩

/-- A slice of cells that is new behind W, or empty. -/
def CsNew (W w' : World) (x : Option Addr) (L : List Ce) : Prop := L = [] ∨ ∃ g, x = some ⟨g, 0, none⟩ ∧ W.heap.size ≤ g ∧ RowC w' g 0 L
theorem CsNew.at {W w' : World} {x : Option Addr} {L : List Ce} (h : CsNew W w' x L) : CsAt w' x L := by
  rcases h with h | ⟨g, rfl, _, h⟩
  · exact .inl h
  · exact .inr ⟨g, 0, rfl, h⟩
theorem CsNew.two {W w' : World} {x : Option Addr} {L : List Ce} (h : CsNew W w' x L) {b : Nat} (hb : b < W.heap.size) (v0 v1 : Value) : CsAt ((w'.setCell ⟨b, 0, none⟩ v0).setCell ⟨b, 1, none⟩ v1) x L := by
  rcases h with h | ⟨g, rfl, hg, h⟩
  · exact .inl h
  · exact .inr ⟨g, 0, rfl, (h.other (by dsimp only; omega) _).other (by dsimp only; omega) _⟩

/-- What is told of a call that answers a zone and an error. -/
def AnsJ (a : Nat → Addr) (F : Int → Int → List Ce → Prop) (W : World) (e : Ending) (w' : World) : Prop :=
  ∃ (N5 : Int) (x5 : Option Addr) (k5 c5 : Nat) (er : Int) (L5 : List Ce), e = .returned (.tuple #[(.agg #[.int .i64 N5, (.slice x5 k5 c5)]), erV a er]) ∧ CsNew W w' x5 L5 ∧ Hid (k5 = L5.length ∧ k5 ≤ 1000 ∧ F er N5 L5) ∧ Below W.heap.size W w'
/-- Likewise with a Bool between them. -/
def AnsM (a : Nat → Addr) (F : Bool → Int → Int → List Ce → Prop) (W : World) (e : Ending) (w' : World) : Prop :=
  ∃ (N5 : Int) (x5 : Option Addr) (k5 c5 : Nat) (is : Bool) (er : Int) (L5 : List Ce), e = .returned (.tuple #[(.agg #[.int .i64 N5, (.slice x5 k5 c5)]), .bool is, erV a er]) ∧ CsNew W w' x5 L5 ∧ Hid (k5 = L5.length ∧ k5 ≤ 1000 ∧ F is er N5 L5) ∧ Below W.heap.size W w'
/-- A zone of the reference, and a Bool. -/
def AnsR (F : Bool → Int → List Ce → Prop) (W : World) (e : Ending) (w' : World) : Prop :=
  ∃ (N5 : Int) (x5 : Option Addr) (k5 c5 : Nat) (is : Bool) (L5 : List Ce), e = .returned (.tuple #[(.agg #[.int .i64 N5, (.slice x5 k5 c5)]), .bool is]) ∧ CsAt w' x5 L5 ∧ Hid (k5 = L5.length ∧ k5 ≤ 1000 ∧ F is N5 L5) ∧ Below W.heap.size W w'

set_option maxRecDepth 20000 in
set_option maxHeartbeats 8000000 in
theorem lattice_by (N M : Int) (x y : Option Addr) (c c' len len' : Nat) (l m : List Ce) (a : Nat → Addr) (w : World) (hS : Sents w a) (hA : CsAt w x l) (hB : CsAt w y m) (hl : Hid (len = l.length)) (hm : Hid (len' = m.length)) (hlen : len ≤ 9223372036854775807) (hlen' : len' ≤ 9223372036854775807)
    (E : Int) (hE : 0 ≤ E ∧ E ≤ 8) (okA okB okM : Prop) (LJ LM Lmet : List Ce) (bW : Bool)
    (HT : Hid (len ≤ 100 → len' ≤ 100 → ∀ W : World, CsAt W x l → CsAt W y m → Calls Tryd.prog 27 #[(.agg #[.int .i64 N, (.slice x len c)]), (.agg #[.int .i64 M, (.slice y len' c')])] W fun e w' => e = .returned (.int .i64 E) ∧ Below W.heap.size W w'))
    (HJ : Hid (len ≤ 100 → len' ≤ 100 → ∀ (W : World) (z1 z2 : Option Addr) (c1 c2 : Nat), Sents W a → CsAt W z1 l → CsAt W z2 m → Calls Tryd.prog 28 #[(.agg #[.int .i64 N, (.slice z1 len c1)]), (.agg #[.int .i64 M, (.slice z2 len' c2)])] W fun e w' => AnsJ a (fun er N5 L5 => (E ≠ 0 ∧ er = E ∧ N5 = 0 ∧ L5 = []) ∨ (E = 0 ∧ ((¬ okA ∧ ¬ okB ∧ er = 4 ∧ N5 = 0 ∧ L5 = []) ∨ ((okA ∨ okB) ∧ er = 0 ∧ N5 = N ∧ L5 = LJ)))) W e w'))
    (HM : Hid (len ≤ 100 → len' ≤ 100 → ∀ (W : World) (z1 z2 : Option Addr) (c1 c2 : Nat), Sents W a → CsAt W z1 l → CsAt W z2 m → Calls Tryd.prog 29 #[(.agg #[.int .i64 N, (.slice z1 len c1)]), (.agg #[.int .i64 M, (.slice z2 len' c2)])] W fun e w' => AnsM a (fun is er N5 L5 => (E ≠ 0 ∧ er = E ∧ is = false ∧ N5 = 0 ∧ L5 = []) ∨ (E = 0 ∧ er = 0 ∧ ((¬ okM ∧ is = false ∧ N5 = 0 ∧ L5 = []) ∨ (okM ∧ is = true ∧ N5 = N ∧ L5 = LM)))) W e w'))
    (HW : Hid (len ≤ 100 → len' ≤ 100 → ∀ (W : World) (z1 z2 : Option Addr) (c1 c2 : Nat), Sents W a → CsAt W z1 l → CsAt W z2 m → Calls Tryd.prog 30 #[(.agg #[.int .i64 N, (.slice z1 len c1)]), (.agg #[.int .i64 M, (.slice z2 len' c2)])] W fun e w' => ∃ (b : Bool) (er : Int), e = .returned (.tuple #[.bool b, erV a er]) ∧ er = E ∧ (E ≠ 0 → b = false) ∧ (E = 0 → b = bW) ∧ Below W.heap.size W w'))
    (HR1 : Hid (len ≤ 100 → len' ≤ 100 → E = 0 → nearL l 1048576 = true → nearL m 1048576 = true → ∀ W : World, CsAt W x l → CsAt W y m → Calls Tryd.prog 31 #[(.agg #[.int .i64 N, (.slice x len c)]), (.agg #[.int .i64 M, (.slice y len' c')])] W fun e w' => AnsR (fun is N5 L5 => (¬ okA ∧ ¬ okB ∧ is = false) ∨ ((okA ∨ okB) ∧ is = true ∧ N5 = N ∧ L5 = LJ)) W e w'))
    (HR2 : Hid (len ≤ 100 → len' ≤ 100 → E = 0 → nearL l 1048576 = true → nearL m 1048576 = true → ∀ W : World, CsAt W x l → CsAt W y m → Calls Tryd.prog 32 #[(.agg #[.int .i64 N, (.slice x len c)]), (.agg #[.int .i64 M, (.slice y len' c')])] W fun e w' => ∃ x7 c7, e = .returned (.agg #[.int .i64 N, (.slice x7 len c7)]) ∧ CsAt w' x7 Lmet ∧ Below W.heap.size W w'))
    (HR3 : Hid (len ≤ 100 → len' ≤ 100 → E = 0 → nearL l 1048576 = true → nearL m 1048576 = true → ∀ (W : World) (x7 : Option Addr) (c7 : Nat), CsAt W x7 Lmet → Calls Tryd.prog 25 #[(.agg #[.int .i64 N, (.slice x7 len c7)])] W fun e w' => AnsR (fun is N5 L5 => (¬ okM ∧ is = false ∧ N5 = 0 ∧ L5 = []) ∨ (okM ∧ is = true ∧ N5 = N ∧ L5 = LM)) W e w'))
    (HR4 : Hid (len ≤ 100 → len' ≤ 100 → E = 0 → nearL l 1048576 = true → nearL m 1048576 = true → ∀ W : World, CsAt W x l → CsAt W y m → Calls Tryd.prog 33 #[(.agg #[.int .i64 N, (.slice x len c)]), (.agg #[.int .i64 M, (.slice y len' c')])] W fun e w' => e = .returned (.bool bW) ∧ Below W.heap.size W w')) :
    Calls Tryd.prog 4 #[(.agg #[.int .i64 N, (.slice x len c)]), (.agg #[.int .i64 M, (.slice y len' c')])] w fun e w' => e = .returned (.bool true) ∧ Below w.heap.size w w' := by
  have s0 := ((St.startZq (cs := [(x, l), (y, m)]) hS (by intro p hp; simp at hp; rcases hp with rfl | rfl; exact hA; exact hB)).box2 24 (.int .i64 N) (.slice x len c)).box2 24 (.int .i64 M) (.slice y len' c')
  simp only [World.size_alloc] at s0
  go_enter Tryd.func4, Tryd.ntmps4
  go_wp2_with fail
  refine (free_any a _ s0.sent.1.errs).mono ?_
  rintro e w1 ⟨rfl, hb1⟩
  (have s1 := s0.call hb1; have q1 := s1.hold; simp only [Holds, and_true] at q1; clear s0 hb1; try clear q0)
  clear hS hA hB
  by_cases h1 : len ≤ 100
  rotate_left
  · have h1' : (100 : Int) < (len : Int) := by omega
    go_wp2_with fail
    go_ret
    exact ⟨rfl, s1.bel⟩
  have h1' : ¬ (100 : Int) < (len : Int) := by omega
  by_cases h2 : len' ≤ 100
  rotate_left
  · have h2' : (100 : Int) < (len' : Int) := by omega
    go_wp2_with fail
    go_ret
    exact ⟨rfl, s1.bel⟩
  have h2' : ¬ (100 : Int) < (len' : Int) := by omega
  have HZ : Hid (∀ W : World, CsAt W x l → Calls Tryd.prog 16 #[(.agg #[.int .i64 N, (.slice x len c)])] W fun e w' => ∃ y cap, e = .returned (.agg #[.int .i64 N, (.slice y len cap)]) ∧ CsAt w' y l ∧ Below W.heap.size W w') := fun W h => zoneOf_any N x c len l W h hl (by omega)
  have HZb : Hid (∀ W : World, CsAt W y m → Calls Tryd.prog 16 #[(.agg #[.int .i64 M, (.slice y len' c')])] W fun e w' => ∃ y cap, e = .returned (.agg #[.int .i64 M, (.slice y len' cap)]) ∧ CsAt w' y m ∧ Below W.heap.size W w') := fun W h => zoneOf_any M y c' len' m W h hm (by omega)
  have HT' := hide (HT.out h1 h2)
  have HJ' := hide (HJ.out h1 h2)
  have HM' := hide (HM.out h1 h2)
  have HW' := hide (HW.out h1 h2)
  have HR1' := hide (HR1.out h1 h2)
  have HR2' := hide (HR2.out h1 h2)
  have HR3' := hide (HR3.out h1 h2)
  have HR4' := hide (HR4.out h1 h2)
  clear HT HJ HM HW HR1 HR2 HR3 HR4
  go_wp2_with fail
  refine (HT'.out _ (s1.sent.c (by simp)) (s1.sent.c (by simp))).mono ?_
  rintro e w2 ⟨rfl, hb2⟩
  (have s2 := s1.call hb2; have q2 := s2.hold; simp only [Holds, and_true] at q2; clear s1 hb2; try clear q1)
  clear HT'
  go_upto_region 5 with fail
  obtain ⟨W2, hW2, s2⟩ := s2.nam
  have hbW := s2.bel
  have s2 := s2.re
  rw [← hW2]
  clear hW2
  have q2 := s2.hold
  simp only [Holds, and_true] at q2
  go_cut [7, 8] (fun t7 t8 wx => ∃ (bj : Nat) (N5 : Int) (x5 : Option Addr) (k5 c5 : Nat) (er : Int) (L5 : List Ce), t8 = erV a er ∧ t7 = .pointer (some ⟨bj, 0, none⟩) ∧ CsAt wx x5 L5 ∧ Hid (k5 = L5.length ∧ k5 ≤ 1000 ∧ ((E ≠ 0 ∧ er = E ∧ N5 = 0 ∧ L5 = []) ∨ (E = 0 ∧ ((¬ okA ∧ ¬ okB ∧ er = 4 ∧ N5 = 0 ∧ L5 = []) ∨ ((okA ∨ okB) ∧ er = 0 ∧ N5 = N ∧ L5 = LJ))))) ∧ St W2 wx (Zq a [(x, l), (y, m)]) ((bj, 0, Value.int .i64 N5) :: (bj, 1, Value.slice x5 k5 c5) :: ((w.heap.size + 1, 0, Value.int .i64 M) :: (w.heap.size + 1, 1, Value.slice y len' c') :: (w.heap.size, 0, Value.int .i64 N) :: (w.heap.size, 1, Value.slice x len c) :: [])))
  case first =>
    have hwB := Nat.le_refl W2.heap.size
    have k2 := s2.hold
    go_region_held3 (fun w' => w'.cell? ⟨w.heap.size + 1, 0, none⟩ = some (.int .i64 M) ∧ w'.cell? ⟨w.heap.size + 1, 1, none⟩ = some (.slice y len' c') ∧ w'.cell? ⟨w.heap.size, 0, none⟩ = some (.int .i64 N) ∧ w'.cell? ⟨w.heap.size, 1, none⟩ = some (.slice x len c) ∧ St W2 w' (Zq a [(x, l), (y, m)]) ((w.heap.size + 1, 0, Value.int .i64 M) :: (w.heap.size + 1, 1, Value.slice y len' c') :: (w.heap.size, 0, Value.int .i64 N) :: (w.heap.size, 1, Value.slice x len c) :: [])) (first | (exact keepSt (((w.heap.size + 1, 0, Value.int .i64 M) :: (w.heap.size + 1, 1, Value.slice y len' c') :: (w.heap.size, 0, Value.int .i64 N) :: (w.heap.size, 1, Value.slice x len c) :: [])) (by assumption) (by assumption)) | (exact keepSt (((w.heap.size + 1, 0, Value.int .i64 M) :: (w.heap.size + 1, 1, Value.slice y len' c') :: (w.heap.size, 0, Value.int .i64 N) :: (w.heap.size, 1, Value.slice x len c) :: [])) (Below.refl _ _).drew (by assumption)) | (exact keepSt (((w.heap.size + 1, 0, Value.int .i64 M) :: (w.heap.size + 1, 1, Value.slice y len' c') :: (w.heap.size, 0, Value.int .i64 N) :: (w.heap.size, 1, Value.slice x len c) :: [])) ((Below.refl _ _).alloc (Nat.le_refl _) _) (by assumption)) | (exact keepSt0 (((w.heap.size + 1, 0, Value.int .i64 M) :: (w.heap.size + 1, 1, Value.slice y len' c') :: (w.heap.size, 0, Value.int .i64 N) :: (w.heap.size, 1, Value.slice x len c) :: [])) (St.drew (by assumption))) | (exact keepSt0 (((w.heap.size + 1, 0, Value.int .i64 M) :: (w.heap.size + 1, 1, Value.slice y len' c') :: (w.heap.size, 0, Value.int .i64 N) :: (w.heap.size, 1, Value.slice x len c) :: [])) (s9.alloc _)) | (exact keepSt0 (((w.heap.size + 1, 0, Value.int .i64 M) :: (w.heap.size + 1, 1, Value.slice y len' c') :: (w.heap.size, 0, Value.int .i64 N) :: (w.heap.size, 1, Value.slice x len c) :: [])) (St.twoP s9 k2 hwB (by first | exact Nat.le_refl _ | exact hb7.size | exact Nat.le_trans hb7.size hb8.size))) | (exact keepSt0 (((w.heap.size + 1, 0, Value.int .i64 M) :: (w.heap.size + 1, 1, Value.slice y len' c') :: (w.heap.size, 0, Value.int .i64 N) :: (w.heap.size, 1, Value.slice x len c) :: [])) (by assumption)))
      (first
        | (go_at_call_of 16 (Value.agg #[.int .i64 N, .slice x len c]); refine (HZ.out _ ((keepSt_st (w := W2) (Z := Zq a [(x, l), (y, m)]) ((w.heap.size + 1, 0, Value.int .i64 M) :: (w.heap.size + 1, 1, Value.slice y len' c') :: (w.heap.size, 0, Value.int .i64 N) :: (w.heap.size, 1, Value.slice x len c) :: []) (by assumption)).sent.c (by simp))).mono ?_; rintro e w7 ⟨y7, c7, rfl, hy7, hb7⟩; have s7 := (keepSt_st (w := W2) (Z := Zq a [(x, l), (y, m)]) ((w.heap.size + 1, 0, Value.int .i64 M) :: (w.heap.size + 1, 1, Value.slice y len' c') :: (w.heap.size, 0, Value.int .i64 N) :: (w.heap.size, 1, Value.slice x len c) :: []) (by assumption)).call hb7; first | (have hx7 := boxed2 hb7) | (have hx7 := boxed2' hb7) | skip)
        | (go_at_call_of 16 (Value.agg #[.int .i64 M, .slice y len' c']); refine (HZb.out _ ((keepSt_st (w := W2) (Z := Zq a [(x, l), (y, m)]) ((w.heap.size + 1, 0, Value.int .i64 M) :: (w.heap.size + 1, 1, Value.slice y len' c') :: (w.heap.size, 0, Value.int .i64 N) :: (w.heap.size, 1, Value.slice x len c) :: []) (by assumption)).sent.c (by simp))).mono ?_; rintro e w8 ⟨y8, c8, rfl, hy8, hb8⟩; have hy78 := (show CsAt _ y7 l from (by first | exact hy7 | exact hy7.below ((Below.refl _ _).alloc (Nat.le_refl _) _).drew | exact hy7.below ((Below.refl _ _).alloc (Nat.le_refl _) _))).below hb8; have s8 := (keepSt_st (w := W2) (Z := Zq a [(x, l), (y, m)]) ((w.heap.size + 1, 0, Value.int .i64 M) :: (w.heap.size + 1, 1, Value.slice y len' c') :: (w.heap.size, 0, Value.int .i64 N) :: (w.heap.size, 1, Value.slice x len c) :: []) (by assumption)).call hb8; first | (have hx8 := hx7.below hb8; clear hx7) | (have hx8 := boxed2 hb8) | (have hx8 := boxed2' hb8) | skip)
        | (go_at_call 28; refine (HJ'.out _ y7 y8 c7 c8 (keepSt_st (w := W2) (Z := Zq a [(x, l), (y, m)]) ((w.heap.size + 1, 0, Value.int .i64 M) :: (w.heap.size + 1, 1, Value.slice y len' c') :: (w.heap.size, 0, Value.int .i64 N) :: (w.heap.size, 1, Value.slice x len c) :: []) (by assumption)).sent.1 (by first | exact hy78 | exact hy78.below ((Below.refl _ _).alloc (Nat.le_refl _) _).drew | exact hy78.below ((Below.refl _ _).alloc (Nat.le_refl _) _)) (by first | exact hy8 | exact hy8.below ((Below.refl _ _).alloc (Nat.le_refl _) _).drew | exact hy8.below ((Below.refl _ _).alloc (Nat.le_refl _) _))).mono ?_; rintro e w9 ⟨N9, x9, k9, c9, er9, L9, rfl, hn9, hF9, hb9⟩; have s9 := (keepSt_st (w := W2) (Z := Zq a [(x, l), (y, m)]) ((w.heap.size + 1, 0, Value.int .i64 M) :: (w.heap.size + 1, 1, Value.slice y len' c') :: (w.heap.size, 0, Value.int .i64 N) :: (w.heap.size, 1, Value.slice x len c) :: []) (by assumption)).call hb9; (first | (have hx9 := hx8.below hb9; clear hx8; have ho9 := hx9; simp only [Holds, and_true] at ho9) | (have hx9 := boxed2 hb9; have ho9 := hx9; simp only [Holds, and_true] at ho9) | (have hx9 := boxed2' hb9; have ho9 := hx9; simp only [Holds, and_true] at ho9) | skip)))
    all_goals
      have za := hb7.size
      try simp only [World.drew, World.size_alloc] at za
      have zb := hb8.size
      try simp only [World.size_alloc] at zb
      go_wp2_with fail
      go_meet
      case rel => first
        | exact ⟨_, N9, x9, k9, c9, er9, L9, rfl, rfl, hn9.at.below ((Below.refl _ _).alloc (Nat.le_refl _) _), hF9, s9.box2 30 _ _⟩
        | exact ⟨_, N9, x9, k9, c9, er9, L9, rfl, rfl, hn9.two (by try simp only [World.size_alloc]
                                                                   omega) _ _, hF9, s9.late2 k2 hwB (by first | exact Nat.le_refl _ | exact hb7.size | exact Nat.le_trans hb7.size hb8.size) hx9 _ _⟩
  case rest =>
  obtain ⟨bj, Nj, xj, kj, cj, erj, Lj, rfl, rfl, hcj, hFj, s3⟩ := hcut
  obtain ⟨W3, hW3, s3⟩ := s3.nam
  rw [← hW3] at hcj ⊢
  clear hW3
  have hbW3 := hbW.trans (s3.bel.mono hbW.size)
  have s3 := s3.moreq hcj
  clear hcj s2 q2 hbW HJ'
  go_upto_region 6 with fail
  have q3 := s3.hold
  simp only [Holds, and_true] at q3
  go_cut [9, 10, 11] (fun t9 t10 t11 wx => ∃ (bm : Nat) (N5 : Int) (x5 : Option Addr) (k5 c5 : Nat) (is : Bool) (er : Int) (L5 : List Ce), t10 = .bool is ∧ t11 = erV a er ∧ t9 = .pointer (some ⟨bm, 0, none⟩) ∧ CsAt wx x5 L5 ∧ Hid (k5 = L5.length ∧ k5 ≤ 1000 ∧ ((E ≠ 0 ∧ er = E ∧ is = false ∧ N5 = 0 ∧ L5 = []) ∨ (E = 0 ∧ er = 0 ∧ ((¬ okM ∧ is = false ∧ N5 = 0 ∧ L5 = []) ∨ (okM ∧ is = true ∧ N5 = N ∧ L5 = LM))))) ∧ St W3 wx (Zq a [(xj, Lj), (x, l), (y, m)]) ((bm, 0, Value.int .i64 N5) :: (bm, 1, Value.slice x5 k5 c5) :: ((bj, 0, Value.int .i64 Nj) :: (bj, 1, Value.slice xj kj cj) :: ((w.heap.size + 1, 0, Value.int .i64 M) :: (w.heap.size + 1, 1, Value.slice y len' c') :: (w.heap.size, 0, Value.int .i64 N) :: (w.heap.size, 1, Value.slice x len c) :: []))))
  case first =>
    have hwB := Nat.le_refl W3.heap.size
    have k2 := s3.hold
    go_region_held3 (fun w' => w'.cell? ⟨bj, 0, none⟩ = some (.int .i64 Nj) ∧ w'.cell? ⟨bj, 1, none⟩ = some (.slice xj kj cj) ∧ w'.cell? ⟨w.heap.size + 1, 0, none⟩ = some (.int .i64 M) ∧ w'.cell? ⟨w.heap.size + 1, 1, none⟩ = some (.slice y len' c') ∧ w'.cell? ⟨w.heap.size, 0, none⟩ = some (.int .i64 N) ∧ w'.cell? ⟨w.heap.size, 1, none⟩ = some (.slice x len c) ∧ St W3 w' (Zq a [(xj, Lj), (x, l), (y, m)]) ((bj, 0, Value.int .i64 Nj) :: (bj, 1, Value.slice xj kj cj) :: ((w.heap.size + 1, 0, Value.int .i64 M) :: (w.heap.size + 1, 1, Value.slice y len' c') :: (w.heap.size, 0, Value.int .i64 N) :: (w.heap.size, 1, Value.slice x len c) :: []))) (first | (exact keepSt (((bj, 0, Value.int .i64 Nj) :: (bj, 1, Value.slice xj kj cj) :: ((w.heap.size + 1, 0, Value.int .i64 M) :: (w.heap.size + 1, 1, Value.slice y len' c') :: (w.heap.size, 0, Value.int .i64 N) :: (w.heap.size, 1, Value.slice x len c) :: []))) (by assumption) (by assumption)) | (exact keepSt (((bj, 0, Value.int .i64 Nj) :: (bj, 1, Value.slice xj kj cj) :: ((w.heap.size + 1, 0, Value.int .i64 M) :: (w.heap.size + 1, 1, Value.slice y len' c') :: (w.heap.size, 0, Value.int .i64 N) :: (w.heap.size, 1, Value.slice x len c) :: []))) (Below.refl _ _).drew (by assumption)) | (exact keepSt (((bj, 0, Value.int .i64 Nj) :: (bj, 1, Value.slice xj kj cj) :: ((w.heap.size + 1, 0, Value.int .i64 M) :: (w.heap.size + 1, 1, Value.slice y len' c') :: (w.heap.size, 0, Value.int .i64 N) :: (w.heap.size, 1, Value.slice x len c) :: []))) ((Below.refl _ _).alloc (Nat.le_refl _) _) (by assumption)) | (exact keepSt0 (((bj, 0, Value.int .i64 Nj) :: (bj, 1, Value.slice xj kj cj) :: ((w.heap.size + 1, 0, Value.int .i64 M) :: (w.heap.size + 1, 1, Value.slice y len' c') :: (w.heap.size, 0, Value.int .i64 N) :: (w.heap.size, 1, Value.slice x len c) :: []))) (St.drew (by assumption))) | (exact keepSt0 (((bj, 0, Value.int .i64 Nj) :: (bj, 1, Value.slice xj kj cj) :: ((w.heap.size + 1, 0, Value.int .i64 M) :: (w.heap.size + 1, 1, Value.slice y len' c') :: (w.heap.size, 0, Value.int .i64 N) :: (w.heap.size, 1, Value.slice x len c) :: []))) (s9.alloc _)) | (exact keepSt0 (((bj, 0, Value.int .i64 Nj) :: (bj, 1, Value.slice xj kj cj) :: ((w.heap.size + 1, 0, Value.int .i64 M) :: (w.heap.size + 1, 1, Value.slice y len' c') :: (w.heap.size, 0, Value.int .i64 N) :: (w.heap.size, 1, Value.slice x len c) :: []))) (St.twoP s9 k2 hwB (by first | exact Nat.le_refl _ | exact hb7.size | exact Nat.le_trans hb7.size hb8.size))) | (exact keepSt0 (((bj, 0, Value.int .i64 Nj) :: (bj, 1, Value.slice xj kj cj) :: ((w.heap.size + 1, 0, Value.int .i64 M) :: (w.heap.size + 1, 1, Value.slice y len' c') :: (w.heap.size, 0, Value.int .i64 N) :: (w.heap.size, 1, Value.slice x len c) :: []))) (by assumption)))
      (first
        | (go_at_call_of 16 (Value.agg #[.int .i64 N, .slice x len c]); refine (HZ.out _ ((keepSt_st (w := W3) (Z := (Zq a [(xj, Lj), (x, l), (y, m)])) ((bj, 0, Value.int .i64 Nj) :: (bj, 1, Value.slice xj kj cj) :: ((w.heap.size + 1, 0, Value.int .i64 M) :: (w.heap.size + 1, 1, Value.slice y len' c') :: (w.heap.size, 0, Value.int .i64 N) :: (w.heap.size, 1, Value.slice x len c) :: [])) (by assumption)).sent.c (by simp))).mono ?_; rintro e w7 ⟨y7, c7, rfl, hy7, hb7⟩; have s7 := (keepSt_st (w := W3) (Z := (Zq a [(xj, Lj), (x, l), (y, m)])) ((bj, 0, Value.int .i64 Nj) :: (bj, 1, Value.slice xj kj cj) :: ((w.heap.size + 1, 0, Value.int .i64 M) :: (w.heap.size + 1, 1, Value.slice y len' c') :: (w.heap.size, 0, Value.int .i64 N) :: (w.heap.size, 1, Value.slice x len c) :: [])) (by assumption)).call hb7; first | (have hx7 := boxed2 hb7) | (have hx7 := boxed2' hb7) | skip)
        | (go_at_call_of 16 (Value.agg #[.int .i64 M, .slice y len' c']); refine (HZb.out _ ((keepSt_st (w := W3) (Z := (Zq a [(xj, Lj), (x, l), (y, m)])) ((bj, 0, Value.int .i64 Nj) :: (bj, 1, Value.slice xj kj cj) :: ((w.heap.size + 1, 0, Value.int .i64 M) :: (w.heap.size + 1, 1, Value.slice y len' c') :: (w.heap.size, 0, Value.int .i64 N) :: (w.heap.size, 1, Value.slice x len c) :: [])) (by assumption)).sent.c (by simp))).mono ?_; rintro e w8 ⟨y8, c8, rfl, hy8, hb8⟩; have hy78 := (show CsAt _ y7 l from (by first | exact hy7 | exact hy7.below ((Below.refl _ _).alloc (Nat.le_refl _) _).drew | exact hy7.below ((Below.refl _ _).alloc (Nat.le_refl _) _))).below hb8; have s8 := (keepSt_st (w := W3) (Z := (Zq a [(xj, Lj), (x, l), (y, m)])) ((bj, 0, Value.int .i64 Nj) :: (bj, 1, Value.slice xj kj cj) :: ((w.heap.size + 1, 0, Value.int .i64 M) :: (w.heap.size + 1, 1, Value.slice y len' c') :: (w.heap.size, 0, Value.int .i64 N) :: (w.heap.size, 1, Value.slice x len c) :: [])) (by assumption)).call hb8; first | (have hx8 := hx7.below hb8; clear hx7) | (have hx8 := boxed2 hb8) | (have hx8 := boxed2' hb8) | skip)
        | (go_at_call 29; refine (HM'.out _ y7 y8 c7 c8 (keepSt_st (w := W3) (Z := (Zq a [(xj, Lj), (x, l), (y, m)])) ((bj, 0, Value.int .i64 Nj) :: (bj, 1, Value.slice xj kj cj) :: ((w.heap.size + 1, 0, Value.int .i64 M) :: (w.heap.size + 1, 1, Value.slice y len' c') :: (w.heap.size, 0, Value.int .i64 N) :: (w.heap.size, 1, Value.slice x len c) :: [])) (by assumption)).sent.1 (by first | exact hy78 | exact hy78.below ((Below.refl _ _).alloc (Nat.le_refl _) _).drew | exact hy78.below ((Below.refl _ _).alloc (Nat.le_refl _) _)) (by first | exact hy8 | exact hy8.below ((Below.refl _ _).alloc (Nat.le_refl _) _).drew | exact hy8.below ((Below.refl _ _).alloc (Nat.le_refl _) _))).mono ?_; rintro e w9 ⟨N9, x9, k9, c9, is9, er9, L9, rfl, hn9, hF9, hb9⟩; have s9 := (keepSt_st (w := W3) (Z := (Zq a [(xj, Lj), (x, l), (y, m)])) ((bj, 0, Value.int .i64 Nj) :: (bj, 1, Value.slice xj kj cj) :: ((w.heap.size + 1, 0, Value.int .i64 M) :: (w.heap.size + 1, 1, Value.slice y len' c') :: (w.heap.size, 0, Value.int .i64 N) :: (w.heap.size, 1, Value.slice x len c) :: [])) (by assumption)).call hb9; (first | (have hx9 := hx8.below hb9; clear hx8; have ho9 := hx9; simp only [Holds, and_true] at ho9) | (have hx9 := boxed2 hb9; have ho9 := hx9; simp only [Holds, and_true] at ho9) | (have hx9 := boxed2' hb9; have ho9 := hx9; simp only [Holds, and_true] at ho9) | skip)))
    all_goals
      have za := hb7.size
      try simp only [World.drew, World.size_alloc] at za
      have zb := hb8.size
      try simp only [World.size_alloc] at zb
      go_wp2_with fail
      go_meet
      case rel => first
        | exact ⟨_, N9, x9, k9, c9, is9, er9, L9, rfl, rfl, rfl, hn9.at.below ((Below.refl _ _).alloc (Nat.le_refl _) _), hF9, s9.box2 30 _ _⟩
        | exact ⟨_, N9, x9, k9, c9, is9, er9, L9, rfl, rfl, rfl, hn9.two (by try simp only [World.size_alloc]
                                                                             omega) _ _, hF9, s9.late2 k2 hwB (by first | exact Nat.le_refl _ | exact hb7.size | exact Nat.le_trans hb7.size hb8.size) hx9 _ _⟩
  case rest =>
  obtain ⟨bm, Nm, xm, km, cm, ism, erm, Lm, rfl, rfl, rfl, hcm, hFm, s4⟩ := hcut
  obtain ⟨W4, hW4, s4⟩ := s4.nam
  rw [← hW4] at hcm ⊢
  clear hW4
  have hbW4 := hbW3.trans (s4.bel.mono hbW3.size)
  have s4 := s4.moreq hcm
  clear hcm s3 q3 hbW3 HM'
  go_upto_region 7 with fail
  have q4 := s4.hold
  simp only [Holds, and_true] at q4
  go_cut [12, 13] (fun t12 t13 wx => ∃ (bi : Bool), t12 = .bool bi ∧ t13 = erV a E ∧ Hid ((E ≠ 0 → bi = false) ∧ (E = 0 → bi = bW)) ∧ St W4 wx (Zq a [(xm, Lm), (xj, Lj), (x, l), (y, m)]) ((bm, 0, Value.int .i64 Nm) :: (bm, 1, Value.slice xm km cm) :: ((bj, 0, Value.int .i64 Nj) :: (bj, 1, Value.slice xj kj cj) :: ((w.heap.size + 1, 0, Value.int .i64 M) :: (w.heap.size + 1, 1, Value.slice y len' c') :: (w.heap.size, 0, Value.int .i64 N) :: (w.heap.size, 1, Value.slice x len c) :: []))))
  case first =>
    go_region_held3 (fun w' => w'.cell? ⟨bm, 0, none⟩ = some (.int .i64 Nm) ∧ w'.cell? ⟨bm, 1, none⟩ = some (.slice xm km cm) ∧ w'.cell? ⟨bj, 0, none⟩ = some (.int .i64 Nj) ∧ w'.cell? ⟨bj, 1, none⟩ = some (.slice xj kj cj) ∧ w'.cell? ⟨w.heap.size + 1, 0, none⟩ = some (.int .i64 M) ∧ w'.cell? ⟨w.heap.size + 1, 1, none⟩ = some (.slice y len' c') ∧ w'.cell? ⟨w.heap.size, 0, none⟩ = some (.int .i64 N) ∧ w'.cell? ⟨w.heap.size, 1, none⟩ = some (.slice x len c) ∧ St W4 w' (Zq a [(xm, Lm), (xj, Lj), (x, l), (y, m)]) ((bm, 0, Value.int .i64 Nm) :: (bm, 1, Value.slice xm km cm) :: ((bj, 0, Value.int .i64 Nj) :: (bj, 1, Value.slice xj kj cj) :: ((w.heap.size + 1, 0, Value.int .i64 M) :: (w.heap.size + 1, 1, Value.slice y len' c') :: (w.heap.size, 0, Value.int .i64 N) :: (w.heap.size, 1, Value.slice x len c) :: [])))) (first | (exact keepSt (((bm, 0, Value.int .i64 Nm) :: (bm, 1, Value.slice xm km cm) :: ((bj, 0, Value.int .i64 Nj) :: (bj, 1, Value.slice xj kj cj) :: ((w.heap.size + 1, 0, Value.int .i64 M) :: (w.heap.size + 1, 1, Value.slice y len' c') :: (w.heap.size, 0, Value.int .i64 N) :: (w.heap.size, 1, Value.slice x len c) :: [])))) (by assumption) (by assumption)) | (exact keepSt (((bm, 0, Value.int .i64 Nm) :: (bm, 1, Value.slice xm km cm) :: ((bj, 0, Value.int .i64 Nj) :: (bj, 1, Value.slice xj kj cj) :: ((w.heap.size + 1, 0, Value.int .i64 M) :: (w.heap.size + 1, 1, Value.slice y len' c') :: (w.heap.size, 0, Value.int .i64 N) :: (w.heap.size, 1, Value.slice x len c) :: [])))) (Below.refl _ _).drew (by assumption)) | (exact keepSt (((bm, 0, Value.int .i64 Nm) :: (bm, 1, Value.slice xm km cm) :: ((bj, 0, Value.int .i64 Nj) :: (bj, 1, Value.slice xj kj cj) :: ((w.heap.size + 1, 0, Value.int .i64 M) :: (w.heap.size + 1, 1, Value.slice y len' c') :: (w.heap.size, 0, Value.int .i64 N) :: (w.heap.size, 1, Value.slice x len c) :: [])))) ((Below.refl _ _).alloc (Nat.le_refl _) _) (by assumption)) | (exact keepSt0 (((bm, 0, Value.int .i64 Nm) :: (bm, 1, Value.slice xm km cm) :: ((bj, 0, Value.int .i64 Nj) :: (bj, 1, Value.slice xj kj cj) :: ((w.heap.size + 1, 0, Value.int .i64 M) :: (w.heap.size + 1, 1, Value.slice y len' c') :: (w.heap.size, 0, Value.int .i64 N) :: (w.heap.size, 1, Value.slice x len c) :: [])))) (St.drew (by assumption))) | (exact keepSt0 (((bm, 0, Value.int .i64 Nm) :: (bm, 1, Value.slice xm km cm) :: ((bj, 0, Value.int .i64 Nj) :: (bj, 1, Value.slice xj kj cj) :: ((w.heap.size + 1, 0, Value.int .i64 M) :: (w.heap.size + 1, 1, Value.slice y len' c') :: (w.heap.size, 0, Value.int .i64 N) :: (w.heap.size, 1, Value.slice x len c) :: [])))) (s9.alloc _)) | (exact keepSt0 (((bm, 0, Value.int .i64 Nm) :: (bm, 1, Value.slice xm km cm) :: ((bj, 0, Value.int .i64 Nj) :: (bj, 1, Value.slice xj kj cj) :: ((w.heap.size + 1, 0, Value.int .i64 M) :: (w.heap.size + 1, 1, Value.slice y len' c') :: (w.heap.size, 0, Value.int .i64 N) :: (w.heap.size, 1, Value.slice x len c) :: [])))) (St.twoP s9 k2 hwB (by first | exact Nat.le_refl _ | exact hb7.size | exact Nat.le_trans hb7.size hb8.size))) | (exact keepSt0 (((bm, 0, Value.int .i64 Nm) :: (bm, 1, Value.slice xm km cm) :: ((bj, 0, Value.int .i64 Nj) :: (bj, 1, Value.slice xj kj cj) :: ((w.heap.size + 1, 0, Value.int .i64 M) :: (w.heap.size + 1, 1, Value.slice y len' c') :: (w.heap.size, 0, Value.int .i64 N) :: (w.heap.size, 1, Value.slice x len c) :: [])))) (by assumption)))
      (first
        | (go_at_call_of 16 (Value.agg #[.int .i64 N, .slice x len c]); refine (HZ.out _ ((keepSt_st (w := W4) (Z := (Zq a [(xm, Lm), (xj, Lj), (x, l), (y, m)])) ((bm, 0, Value.int .i64 Nm) :: (bm, 1, Value.slice xm km cm) :: ((bj, 0, Value.int .i64 Nj) :: (bj, 1, Value.slice xj kj cj) :: ((w.heap.size + 1, 0, Value.int .i64 M) :: (w.heap.size + 1, 1, Value.slice y len' c') :: (w.heap.size, 0, Value.int .i64 N) :: (w.heap.size, 1, Value.slice x len c) :: []))) (by assumption)).sent.c (by simp))).mono ?_; rintro e w7 ⟨y7, c7, rfl, hy7, hb7⟩; have s7 := (keepSt_st (w := W4) (Z := (Zq a [(xm, Lm), (xj, Lj), (x, l), (y, m)])) ((bm, 0, Value.int .i64 Nm) :: (bm, 1, Value.slice xm km cm) :: ((bj, 0, Value.int .i64 Nj) :: (bj, 1, Value.slice xj kj cj) :: ((w.heap.size + 1, 0, Value.int .i64 M) :: (w.heap.size + 1, 1, Value.slice y len' c') :: (w.heap.size, 0, Value.int .i64 N) :: (w.heap.size, 1, Value.slice x len c) :: []))) (by assumption)).call hb7)
        | (go_at_call_of 16 (Value.agg #[.int .i64 M, .slice y len' c']); refine (HZb.out _ ((keepSt_st (w := W4) (Z := (Zq a [(xm, Lm), (xj, Lj), (x, l), (y, m)])) ((bm, 0, Value.int .i64 Nm) :: (bm, 1, Value.slice xm km cm) :: ((bj, 0, Value.int .i64 Nj) :: (bj, 1, Value.slice xj kj cj) :: ((w.heap.size + 1, 0, Value.int .i64 M) :: (w.heap.size + 1, 1, Value.slice y len' c') :: (w.heap.size, 0, Value.int .i64 N) :: (w.heap.size, 1, Value.slice x len c) :: []))) (by assumption)).sent.c (by simp))).mono ?_; rintro e w8 ⟨y8, c8, rfl, hy8, hb8⟩; have hy78 := (show CsAt _ y7 l from (by first | exact hy7 | exact hy7.below ((Below.refl _ _).alloc (Nat.le_refl _) _).drew | exact hy7.below ((Below.refl _ _).alloc (Nat.le_refl _) _))).below hb8; have s8 := (keepSt_st (w := W4) (Z := (Zq a [(xm, Lm), (xj, Lj), (x, l), (y, m)])) ((bm, 0, Value.int .i64 Nm) :: (bm, 1, Value.slice xm km cm) :: ((bj, 0, Value.int .i64 Nj) :: (bj, 1, Value.slice xj kj cj) :: ((w.heap.size + 1, 0, Value.int .i64 M) :: (w.heap.size + 1, 1, Value.slice y len' c') :: (w.heap.size, 0, Value.int .i64 N) :: (w.heap.size, 1, Value.slice x len c) :: []))) (by assumption)).call hb8)
        | (go_at_call 30; refine (HW'.out _ y7 y8 c7 c8 (keepSt_st (w := W4) (Z := (Zq a [(xm, Lm), (xj, Lj), (x, l), (y, m)])) ((bm, 0, Value.int .i64 Nm) :: (bm, 1, Value.slice xm km cm) :: ((bj, 0, Value.int .i64 Nj) :: (bj, 1, Value.slice xj kj cj) :: ((w.heap.size + 1, 0, Value.int .i64 M) :: (w.heap.size + 1, 1, Value.slice y len' c') :: (w.heap.size, 0, Value.int .i64 N) :: (w.heap.size, 1, Value.slice x len c) :: []))) (by assumption)).sent.1 hy78 hy8).mono ?_; rintro e w9 ⟨b9, er9, rfl, hE9, h91, h92, hb9⟩; have s9 := (keepSt_st (w := W4) (Z := (Zq a [(xm, Lm), (xj, Lj), (x, l), (y, m)])) ((bm, 0, Value.int .i64 Nm) :: (bm, 1, Value.slice xm km cm) :: ((bj, 0, Value.int .i64 Nj) :: (bj, 1, Value.slice xj kj cj) :: ((w.heap.size + 1, 0, Value.int .i64 M) :: (w.heap.size + 1, 1, Value.slice y len' c') :: (w.heap.size, 0, Value.int .i64 N) :: (w.heap.size, 1, Value.slice x len c) :: []))) (by assumption)).call hb9; have H9 := hide (And.intro h91 h92); have HE9 := hide hE9; clear h91 h92 hE9))
    all_goals
      go_wp2_with fail
      go_meet
      case rel => exact ⟨b9, rfl, by rw [HE9.out], H9, s9⟩
  case rest =>
  obtain ⟨bi, rfl, rfl, hFi, s5⟩ := hcut
  obtain ⟨W5, hW5, s5⟩ := s5.nam
  rw [← hW5]
  clear hW5
  have hbW5 := hbW4.trans (s5.bel.mono hbW4.size)
  have s5 := s5.re
  clear s4 q4 hbW4 HW' HZ HZb
  have q5 := s5.hold
  simp only [Holds, and_true] at q5
  have HD : Hid (∀ (W : World), Sents W a → Calls Tryd.prog 19 #[erV a E, .int .i64 E] W fun e w' => e = .returned (.bool true) ∧ Below W.heap.size W w') := fun W h => coded_er E hE.1 hE.2 a W h
  by_cases hE0 : E = 0
  rotate_left
  · obtain ⟨hkj, _, hj⟩ := hFj.out
    obtain ⟨hkm, _, hmm⟩ := hFm.out
    obtain ⟨hi, _⟩ := hFi.out
    obtain ⟨rfl, rfl, rfl⟩ : erj = E ∧ Nj = 0 ∧ Lj = [] := by
      rcases hj with h | h
      · exact h.2
      · exact absurd h.1 hE0
    obtain ⟨rfl, rfl, rfl, rfl⟩ : erm = erj ∧ ism = false ∧ Nm = 0 ∧ Lm = [] := by
      rcases hmm with h | h
      · exact h.2
      · exact absurd h.1 hE0
    obtain rfl := hi hE0
    obtain rfl : kj = 0 := hkj
    obtain rfl : km = 0 := hkm
    have hEp : 0 < erm := by omega
    have HN0 : Hid (∀ (W : World) (z : Option Addr) (cz : Nat), Calls Tryd.prog 23 #[(.agg #[.int .i64 0, (.slice z 0 cz)])] W fun e w' => e = .returned (.bool true) ∧ Below W.heap.size W w') := fun W z cz => (noZone_any 0 z 0 cz W).mono fun _ _ h => ⟨by rw [h.1]; rfl, h.2⟩
    clear hFj hFm hFi hj hmm hi hE0 HR1' HR2' HR3' HR4'
    go_wp2_with fail
    refine (HD.out _ s5.sent.1).mono ?_
    rintro e w6 ⟨rfl, hb6⟩
    (have s6 := s5.call hb6; have q6 := s6.hold; simp only [Holds, and_true] at q6; clear s5 hb6; try clear q5)
    go_wp2_with fail
    refine (HD.out _ s6.sent.1).mono ?_
    rintro e w7 ⟨rfl, hb7⟩
    (have s7 := s6.call hb7; have q7 := s7.hold; simp only [Holds, and_true] at q7; clear s6 hb7; try clear q6)
    go_wp2_with fail
    refine (HD.out _ s7.sent.1).mono ?_
    rintro e w8 ⟨rfl, hb8⟩
    (have s8 := s7.call hb8; have q8 := s8.hold; simp only [Holds, and_true] at q8; clear s7 hb8; try clear q7)
    go_wp2_with fail
    refine (HN0.out _ _ _).mono ?_
    rintro e w9 ⟨rfl, hb9⟩
    (have s9 := s8.call hb9; have q9 := s9.hold; simp only [Holds, and_true] at q9; clear s8 hb9; try clear q8)
    go_wp2_with fail
    refine (HN0.out _ _ _).mono ?_
    rintro e w10 ⟨rfl, hb10⟩
    (have s10 := s9.call hb10; have q10 := s10.hold; simp only [Holds, and_true] at q10; clear s9 hb10; try clear q9)
    go_wp2_with fail
    go_ret
    exact ⟨rfl, hbW5.trans (s10.bel.mono hbW5.size)⟩
  · obtain ⟨hkj, hkj1, hj⟩ := hFj.out
    obtain ⟨hkm, hkm1, hmm⟩ := hFm.out
    obtain ⟨_, hi⟩ := hFi.out
    subst hE0
    obtain rfl := hi rfl
    have Hj := hide (show (¬ okA ∧ ¬ okB ∧ erj = 4 ∧ Nj = 0 ∧ Lj = []) ∨ ((okA ∨ okB) ∧ erj = 0 ∧ Nj = N ∧ Lj = LJ) from by
      rcases hj with h | h
      · exact absurd rfl h.1
      · exact h.2)
    obtain ⟨rfl, hmm2⟩ : erm = 0 ∧ ((¬ okM ∧ ism = false ∧ Nm = 0 ∧ Lm = []) ∨ (okM ∧ ism = true ∧ Nm = N ∧ Lm = LM)) := by
      rcases hmm with h | h
      · exact absurd rfl h.1
      · exact h.2
    have Hm := hide hmm2
    have Hkj := hide (And.intro hkj hkj1)
    have Hkm := hide (And.intro hkm hkm1)
    clear hFj hFm hFi hj hmm hi hmm2 hkj hkj1 hkm hkm1 HD
    rw [erV_0]
    obtain ⟨na, hna⟩ : ∃ b, b = nearL l 1048576 := ⟨_, rfl⟩
    obtain ⟨nb, hnb⟩ : ∃ b, b = nearL m 1048576 := ⟨_, rfl⟩
    have HN1 : Hid (∀ W : World, CsAt W x l → Calls Tryd.prog 24 #[.slice x len c] W fun e w' => e = .returned (.bool na) ∧ w' = W) := fun W h => by
      have := near_law x c len l W h hl hlen
      rw [decide_eq_true h1, Bool.true_and, ← hna] at this
      exact this
    have HN2 : Hid (∀ W : World, CsAt W y m → Calls Tryd.prog 24 #[.slice y len' c'] W fun e w' => e = .returned (.bool nb) ∧ w' = W) := fun W h => by
      have := near_law y c' len' m W h hm hlen'
      rw [decide_eq_true h2, Bool.true_and, ← hnb] at this
      exact this
    rw [← hna, ← hnb] at HR1' HR2' HR3' HR4'
    clear hna hnb
    cases na
    · go_wp2_with fail
      refine (HN1.out _ (s5.sent.c (by simp))).mono ?_
      rintro e w6 ⟨rfl, hw6⟩
      rw [hw6]
      clear hw6 w6
      go_wp2_with fail
      go_ret
      exact ⟨rfl, hbW5⟩
    cases nb
    · go_wp2_with fail
      refine (HN1.out _ (s5.sent.c (by simp))).mono ?_
      rintro e w6 ⟨rfl, hw6⟩
      rw [hw6]
      clear hw6 w6
      go_wp2_with fail
      refine (HN2.out _ (s5.sent.c (by simp))).mono ?_
      rintro e w6 ⟨rfl, hw6⟩
      rw [hw6]
      clear hw6 w6
      go_wp2_with fail
      go_ret
      exact ⟨rfl, hbW5⟩
    have K1 := hide (HR1'.out rfl rfl rfl)
    have K2 := hide (HR2'.out rfl rfl rfl)
    have K3 := hide (HR3'.out rfl rfl rfl)
    have K4 := hide (HR4'.out rfl rfl rfl)
    clear HR1' HR2' HR3' HR4'
    go_wp2_with fail
    refine (HN1.out _ (s5.sent.c (by simp))).mono ?_
    rintro e w6 ⟨rfl, hw6⟩
    rw [hw6]
    clear hw6 w6
    go_wp2_with fail
    refine (HN2.out _ (s5.sent.c (by simp))).mono ?_
    rintro e w6 ⟨rfl, hw6⟩
    rw [hw6]
    clear hw6 w6
    go_wp2_with fail
    refine (K1.out _ (s5.sent.c (by simp)) (s5.sent.c (by simp))).mono ?_
    rintro e w6 ⟨N6, x6, k6, c6, so, L6, rfl, hc6, hF6, hb6⟩
    have s6 := (s5.call hb6).box2 24 (.int .i64 N6) (.slice x6 k6 c6)
    have hc7 := hc6.below ((Below.refl _ _).alloc (Nat.le_refl _) (.cells #[.int .i64 N6, .slice x6 k6 c6] 24))
    have hbW6 := hbW5.trans (s6.bel.mono hbW5.size)
    have s7 := s6.moreq hc7
    have q7 := s7.hold
    simp only [Holds, and_true] at q7
    clear s6 hc6 hc7 hb6 s5 q5 hbW5 K1
    obtain ⟨hk6, hk61, hf6⟩ := hF6.out
    have Hk6 := hide (And.intro hk6 hk61)
    clear hF6 hk6 hk61
    have HIz : Hid (∀ (W : World) (z1 z2 : Option Addr) (k1 k2 c1 c2 : Nat) (L : List Ce) (Nz : Int), k1 = L.length → k2 = L.length → k1 ≤ 1000 → CsAt W z1 L → CsAt W z2 L → Calls Tryd.prog 26 #[(.agg #[.int .i64 Nz, (.slice z1 k1 c1)]), (.agg #[.int .i64 Nz, (.slice z2 k2 c2)])] W fun e w' => e = .returned (.bool true) ∧ Below W.heap.size W w') := by
      intro W z1 z2 k1 k2 c1 c2 L Nz hk1 hk2 hk3 h1 h2
      refine (isZone_any Nz Nz z1 z2 k1 c1 k2 c2 L L W h1 h2 hk1 hk2 hk3).mono ?_
      rintro e w' ⟨rfl, hb⟩
      exact ⟨by simp, hb⟩
    rcases hf6 with ⟨n1, n2, rfl⟩ | ⟨ho, rfl, rfl, rfl⟩
    · obtain ⟨rfl, rfl, rfl⟩ : erj = 4 ∧ Nj = 0 ∧ Lj = [] := by
        rcases Hj.out with h | h
        · exact h.2.2
        · rcases h.1 with k | k
          · exact absurd k n1
          · exact absurd k n2
      obtain rfl : kj = 0 := Hkj.out.1
      have HD4 : Hid (∀ (W : World), Sents W a → Calls Tryd.prog 19 #[erV a 4, .int .i64 4] W fun e w' => e = .returned (.bool true) ∧ Below W.heap.size W w') := fun W h => coded_er 4 (by omega) (by omega) a W h
      have HN0 : Hid (∀ (W : World) (z : Option Addr) (cz : Nat), Calls Tryd.prog 23 #[(.agg #[.int .i64 0, (.slice z 0 cz)])] W fun e w' => e = .returned (.bool true) ∧ Below W.heap.size W w') := fun W z cz => (noZone_any 0 z 0 cz W).mono fun _ _ h => ⟨by rw [h.1]; rfl, h.2⟩
      clear Hj Hkj
      go_wp2_with fail
      refine (HD4.out _ s7.sent.1).mono ?_
      rintro e w8 ⟨rfl, hb8⟩
      (have s8 := s7.call hb8; have q8 := s8.hold; simp only [Holds, and_true] at q8; clear s7 hb8; try clear q7)
      go_wp2_with fail
      refine (HN0.out _ _ _).mono ?_
      rintro e w9 ⟨rfl, hb9⟩
      have sA := s8.call hb9
      have qA := sA.hold
      simp only [Holds, and_true] at qA
      clear s8 hb9 q8
      go_wp2_with fail
      refine (K2.out _ (sA.sent.c (by simp)) (sA.sent.c (by simp))).mono ?_
      rintro e w10 ⟨x10, c10, rfl, hc10, hb10⟩
      have s10 := sA.call hb10
      have q10 := s10.hold
      simp only [Holds, and_true] at q10
      clear sA qA
      go_wp2_with fail
      refine (K3.out _ x10 c10 hc10).mono ?_
      rintro e w11 ⟨N8, x8, k8, c8, fi, L8, rfl, hc8, hF8, hb11⟩
      have s11 := (s10.call hb11).box2 24 (.int .i64 N8) (.slice x8 k8 c8)
      have hc9 := hc8.below ((Below.refl _ _).alloc (Nat.le_refl _) (.cells #[.int .i64 N8, .slice x8 k8 c8] 24))
      have hbW8 := hbW6.trans (s11.bel.mono hbW6.size)
      have s12 := s11.moreq hc9
      have q12 := s12.hold
      simp only [Holds, and_true] at q12
      clear s11 hc8 hc9 hb11 s10 q10 hbW6 hc10
      obtain ⟨hk8, hk81, hf8⟩ := hF8.out
      obtain ⟨rfl, rfl, rfl⟩ : ism = fi ∧ Nm = N8 ∧ Lm = L8 := by
        rcases Hm.out with h | h <;> rcases hf8 with h' | h'
        · exact ⟨by rw [h.2.1, h'.2.1], by rw [h.2.2.1, h'.2.2.1], by rw [h.2.2.2, h'.2.2.2]⟩
        · exact absurd h'.1 h.1
        · exact absurd h.1 h'.1
        · exact ⟨by rw [h.2.1, h'.2.1], by rw [h.2.2.1, h'.2.2.1], by rw [h.2.2.2, h'.2.2.2]⟩
      have Hk8 := hide hk8
      clear hF8 hk8 hk81 hf8 Hm
      have hbb : ∀ b : Bool, (b == b) = true := fun b => by cases b <;> rfl
      cases ism
      all_goals
        go_wp2_with fail
        refine (HIz.out _ xm x8 km k8 cm c8 Lm Nm Hkm.out.1 Hk8.out Hkm.out.2 (s12.sent.c (by simp)) (s12.sent.c (by simp))).mono ?_
        rintro e w13 ⟨rfl, hb13⟩
        have s13 := s12.call hb13
        have q13 := s13.hold
        simp only [Holds, and_true] at q13
        go_wp2_with fail
        refine (K4.out _ (s13.sent.c (by simp)) (s13.sent.c (by simp))).mono ?_
        rintro e w14 ⟨rfl, hb14⟩
        have s14 := s13.call hb14
        cases bi
        all_goals
          go_wp2_with fail
          go_ret
          exact ⟨rfl, hbW8.trans (s14.bel.mono hbW8.size)⟩
    · obtain ⟨rfl, rfl, rfl⟩ : erj = 0 ∧ Nj = N6 ∧ Lj = L6 := by
        rcases Hj.out with h | h
        · rcases ho with k | k
          · exact absurd k h.1
          · exact absurd k h.2.1
        · exact h.2
      rw [erV_0]
      go_wp2_with fail
      refine (HIz.out _ xj x6 kj k6 cj c6 Lj Nj Hkj.out.1 Hk6.out.1 Hkj.out.2 (s7.sent.c (by simp)) (s7.sent.c (by simp))).mono ?_
      rintro e w9 ⟨rfl, hb9⟩
      have sA := s7.call hb9
      have qA := sA.hold
      simp only [Holds, and_true] at qA
      clear s7 hb9 q7 Hj
      go_wp2_with fail
      refine (K2.out _ (sA.sent.c (by simp)) (sA.sent.c (by simp))).mono ?_
      rintro e w10 ⟨x10, c10, rfl, hc10, hb10⟩
      have s10 := sA.call hb10
      have q10 := s10.hold
      simp only [Holds, and_true] at q10
      clear sA qA
      go_wp2_with fail
      refine (K3.out _ x10 c10 hc10).mono ?_
      rintro e w11 ⟨N8, x8, k8, c8, fi, L8, rfl, hc8, hF8, hb11⟩
      have s11 := (s10.call hb11).box2 24 (.int .i64 N8) (.slice x8 k8 c8)
      have hc9 := hc8.below ((Below.refl _ _).alloc (Nat.le_refl _) (.cells #[.int .i64 N8, .slice x8 k8 c8] 24))
      have hbW8 := hbW6.trans (s11.bel.mono hbW6.size)
      have s12 := s11.moreq hc9
      have q12 := s12.hold
      simp only [Holds, and_true] at q12
      clear s11 hc8 hc9 hb11 s10 q10 hbW6 hc10
      obtain ⟨hk8, hk81, hf8⟩ := hF8.out
      obtain ⟨rfl, rfl, rfl⟩ : ism = fi ∧ Nm = N8 ∧ Lm = L8 := by
        rcases Hm.out with h | h <;> rcases hf8 with h' | h'
        · exact ⟨by rw [h.2.1, h'.2.1], by rw [h.2.2.1, h'.2.2.1], by rw [h.2.2.2, h'.2.2.2]⟩
        · exact absurd h'.1 h.1
        · exact absurd h.1 h'.1
        · exact ⟨by rw [h.2.1, h'.2.1], by rw [h.2.2.1, h'.2.2.1], by rw [h.2.2.2, h'.2.2.2]⟩
      have Hk8 := hide hk8
      clear hF8 hk8 hk81 hf8 Hm
      have hbb : ∀ b : Bool, (b == b) = true := fun b => by cases b <;> rfl
      cases ism
      all_goals
        go_wp2_with fail
        refine (HIz.out _ xm x8 km k8 cm c8 Lm Nm Hkm.out.1 Hk8.out Hkm.out.2 (s12.sent.c (by simp)) (s12.sent.c (by simp))).mono ?_
        rintro e w13 ⟨rfl, hb13⟩
        have s13 := s12.call hb13
        have q13 := s13.hold
        simp only [Holds, and_true] at q13
        go_wp2_with fail
        refine (K4.out _ (s13.sent.c (by simp)) (s13.sent.c (by simp))).mono ?_
        rintro e w14 ⟨rfl, hb14⟩
        have s14 := s13.call hb14
        cases bi
        all_goals
          go_wp2_with fail
          go_ret
          exact ⟨rfl, hbW8.trans (s14.bel.mono hbW8.size)⟩
end Go.Proofs.YtofjjaabgfmnpaaDoor
