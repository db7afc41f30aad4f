/- Zones: two squares together (grid.With); the error of two zones. -/
import Derived.Test.YtofjjaabgfmnpaaDoorYd
import Derived.Test.YtofjjaabgfmnpaaDoorYh
namespace Go.Proofs.YtofjjaabgfmnpaaDoor
open Go.RowKit
set_option linter.unusedVariables false

/-- Two squares kept. -/
def GZ2 (g h n : Nat) (f f' : Nat → Nat → Int) (W : World) : Prop := GrI W g n f ∧ GrI W h n f'
theorem St.startG2 {w : World} {g h n : Nat} {f f' : Nat → Nat → Int} (k : GrI w g n f) (k' : GrI w h n f') : St w w (GZ2 g h n f f') [] := ⟨Below.refl _ _, trivial, ⟨k, k'⟩, fun _ _ q hb => ⟨GrI.stays k.lt q.1 hb, GrI.stays k'.lt q.2 hb⟩⟩
theorem keepG21 {w W : World} {g h n : Nat} {f f' : Nat → Nat → Int} (L : List (Nat × Nat × Value)) (k : CellsAnd W L (St w W (GZ2 g h n f f') L)) : GrI W g n f := k.last.sent.1
theorem keepG22 {w W : World} {g h n : Nat} {f f' : Nat → Nat → Int} (L : List (Nat × Nat × Value)) (k : CellsAnd W L (St w W (GZ2 g h n f f') L)) : GrI W h n f' := k.last.sent.2

/-- What a function makes of two numbers. -/
def Mk2 (fn : Nat) (F : Int → Int → Int) : Prop := ∀ (W : World) (x y : Int), Calls Tryd.prog fn #[.int .i64 x, .int .i64 y] W fun e w' => e = .returned (.int .i64 (F x y)) ∧ w' = W

theorem enters_with : Enters 102 := enters_of Tryd.func102 (by kernel_rfl) rfl
set_option maxRecDepth 20000 in
set_option maxHeartbeats 4000000 in
theorem with_asks (fn n g cp h ch len bf bg bh : Nat) (f f' : Nat → Nat → Int) (F : Int → Int → Int) (w : World) (s : St w w (GZ2 g h n f f') ((bf, 0, Value.func (.func fn) #[] #[]) :: (bg, 0, Value.int .i64 n) :: (bg, 1, Value.slice (some ⟨g, 0, none⟩) len cp) :: (bh, 0, Value.int .i64 n) :: (bh, 1, Value.slice (some ⟨h, 0, none⟩) len ch) :: [])) (hl : Hid (len = n * n)) (hn : n ≤ 8) (hE : Hid (Enters fn)) (hF : Hid (Mk2 fn F)) :
    Asks 102 #[.pointer (some ⟨bf, 0, none⟩), .pointer (some ⟨bg, 0, none⟩), .pointer (some ⟨bh, 0, none⟩)] w n (fun i j => F (f i j) (f' i j)) := by
  intro W i j hb hi hj
  have hE' : ∀ (args : Array Value) (W : World), (callFunc fn args).run Tryd.prog W = .ok (.enter fn args) W := hE.out
  have sW := (s.call hb).re
  obtain ⟨u, hu⟩ : ∃ u, u = f i j := ⟨_, rfl⟩
  obtain ⟨v, hv⟩ : ∃ v, v = f' i j := ⟨_, rfl⟩
  have HA : Hid (∀ (W : World), GrI W g n f → Calls Tryd.prog 97 #[(.agg #[.int .i64 n, (.slice (some ⟨g, 0, none⟩) len cp)]), .int .i64 i, .int .i64 j] W fun e w' => e = .returned (.int .i64 u) ∧ Below W.heap.size W w') := fun W k => by rw [hu]; exact at_any n g cp len i j f W k hl hi hj hn
  have HB : Hid (∀ (W : World), GrI W h n f' → Calls Tryd.prog 97 #[(.agg #[.int .i64 n, (.slice (some ⟨h, 0, none⟩) len ch)]), .int .i64 i, .int .i64 j] W fun e w' => e = .returned (.int .i64 v) ∧ Below W.heap.size W w') := fun W k => by rw [hv]; exact at_any n h ch len i j f' W k hl hi hj hn
  have HF : Hid (∀ W : World, Calls Tryd.prog fn #[.int .i64 u, .int .i64 v] W fun e w' => e = .returned (.int .i64 (F u v)) ∧ w' = W) := fun W => hF.out W u v
  show Calls _ _ #[.int .i64 i, .int .i64 j, .pointer (some ⟨bf, 0, none⟩), .pointer (some ⟨bg, 0, none⟩), .pointer (some ⟨bh, 0, none⟩)] _ fun e w' => e = .returned (.int .i64 (F (f i j) (f' i j))) ∧ _
  rw [← hu, ← hv]
  obtain ⟨z, hz⟩ : ∃ z, z = F u v := ⟨_, rfl⟩
  rw [← hz] at HF ⊢
  have q0 := sW.hold
  simp only [Holds, and_true] at q0
  clear s hz hu hv hl hb hE hF
  go_enter Tryd.func102, Tryd.ntmps102
  go_wp2_with fail
  go_region_held3 (fun w' => w'.cell? ⟨bf, 0, none⟩ = some (.func (.func fn) #[] #[]) ∧ w'.cell? ⟨bg, 0, none⟩ = some (.int .i64 n) ∧ w'.cell? ⟨bg, 1, none⟩ = some (.slice (some ⟨g, 0, none⟩) len cp) ∧ w'.cell? ⟨bh, 0, none⟩ = some (.int .i64 n) ∧ w'.cell? ⟨bh, 1, none⟩ = some (.slice (some ⟨h, 0, none⟩) len ch) ∧ St W w' (GZ2 g h n f f') ((bf, 0, Value.func (.func fn) #[] #[]) :: (bg, 0, Value.int .i64 n) :: (bg, 1, Value.slice (some ⟨g, 0, none⟩) len cp) :: (bh, 0, Value.int .i64 n) :: (bh, 1, Value.slice (some ⟨h, 0, none⟩) len ch) :: []))
    (first | (exact keepSt0 ((bf, 0, Value.func (.func fn) #[] #[]) :: (bg, 0, Value.int .i64 n) :: (bg, 1, Value.slice (some ⟨g, 0, none⟩) len cp) :: (bh, 0, Value.int .i64 n) :: (bh, 1, Value.slice (some ⟨h, 0, none⟩) len ch) :: []) sW.drew) | (exact keepSt ((bf, 0, Value.func (.func fn) #[] #[]) :: (bg, 0, Value.int .i64 n) :: (bg, 1, Value.slice (some ⟨g, 0, none⟩) len cp) :: (bh, 0, Value.int .i64 n) :: (bh, 1, Value.slice (some ⟨h, 0, none⟩) len ch) :: []) (by assumption) (by assumption)) | assumption)
    (first
      | (go_at_call_of 97 (Value.agg #[.int .i64 (n : Int), .slice (some ⟨g, 0, none⟩) len cp]); refine (HA.out _ (keepG21 (w := W) ((bf, 0, Value.func (.func fn) #[] #[]) :: (bg, 0, Value.int .i64 n) :: (bg, 1, Value.slice (some ⟨g, 0, none⟩) len cp) :: (bh, 0, Value.int .i64 n) :: (bh, 1, Value.slice (some ⟨h, 0, none⟩) len ch) :: []) (by assumption))).mono ?_; rintro e w2 ⟨rfl, hb2⟩)
      | (go_at_call_of 97 (Value.agg #[.int .i64 (n : Int), .slice (some ⟨h, 0, none⟩) len ch]); refine (HB.out _ (keepG22 (w := W) ((bf, 0, Value.func (.func fn) #[] #[]) :: (bg, 0, Value.int .i64 n) :: (bg, 1, Value.slice (some ⟨g, 0, none⟩) len cp) :: (bh, 0, Value.int .i64 n) :: (bh, 1, Value.slice (some ⟨h, 0, none⟩) len ch) :: []) (by assumption))).mono ?_; rintro e w2 ⟨rfl, hb2⟩)
      | (refine (HF.out _).mono ?_; rintro e w2 ⟨rfl, rfl⟩))
  go_wp2_with fail
  go_ret
  exact ⟨rfl, keepSt_bel (w := W) ((bf, 0, Value.func (.func fn) #[] #[]) :: (bg, 0, Value.int .i64 n) :: (bg, 1, Value.slice (some ⟨g, 0, none⟩) len cp) :: (bh, 0, Value.int .i64 n) :: (bh, 1, Value.slice (some ⟨h, 0, none⟩) len ch) :: []) (by assumption)⟩

set_option maxRecDepth 20000 in
set_option maxHeartbeats 2000000 in
theorem with_any (fn n g cp h ch len : Nat) (f f' : Nat → Nat → Int) (F : Int → Int → Int) (w : World) (hG : GrI w g n f) (hH : GrI w h n f') (hl : Hid (len = n * n)) (hn : n ≤ 8) (hE : Hid (Enters fn)) (hF : Hid (Mk2 fn F)) :
    Calls Tryd.prog 68 #[(.agg #[.int .i64 n, (.slice (some ⟨g, 0, none⟩) len cp)]), (.agg #[.int .i64 n, (.slice (some ⟨h, 0, none⟩) len ch)]), (.func (.func fn) #[] #[])] w fun e w' => GrPost w n len (fun i j => F (f i j) (f' i j)) e w' := by
  have s0 := ((((St.startG2 hG hH).box2 84 (.int .i64 n) (.slice (some ⟨g, 0, none⟩) len cp)).box2 84 (.int .i64 n) (.slice (some ⟨h, 0, none⟩) len ch)).box1 105 (.func (.func fn) #[] #[])).box2 84 (.int .i64 0) (.slice none 0 0)
  simp only [World.size_alloc] at s0
  obtain ⟨R, hR⟩ : ∃ R : Nat → Nat → Int, R = (fun i j => F (f i j) (f' i j)) := ⟨_, rfl⟩
  have HO : Hid (∀ W : World, St W W (GZ2 g h n f f') [(w.heap.size + 1 + 1, 0, (.func (.func fn) #[] #[])), (w.heap.size + 1, 0, Value.int .i64 n), (w.heap.size + 1, 1, (.slice (some ⟨h, 0, none⟩) len ch)), (w.heap.size, 0, Value.int .i64 n), (w.heap.size, 1, (.slice (some ⟨g, 0, none⟩) len cp))] → Calls Tryd.prog 85 #[.int .i64 n, .func (.func 102) #[] #[.pointer (some ⟨w.heap.size + 1 + 1, 0, none⟩), .pointer (some ⟨w.heap.size, 0, none⟩), .pointer (some ⟨w.heap.size + 1, 0, none⟩)]] W fun e w' => GrPost W n len R e w') := by
    intro W k
    rw [hR]
    refine of_any _ _ n len _ W hl hn enters_with (with_asks fn n g cp h ch len _ _ _ f f' F W ⟨k.bel, ?_, k.sent, k.cl⟩ hl hn hE hF)
    have := k.hold
    exact ⟨this.1, this.2.2.2.1, this.2.2.2.2.1, this.2.1, this.2.2.1, trivial⟩
  rw [← hR]
  clear hR hG hH hl hE hF
  go_enter Tryd.func68, Tryd.ntmps68
  go_wp2_with fail
  refine (HO.out _ (s0.re.drop 2)).mono ?_
  rintro e w1 ⟨g1, cp1, rfl, hg1, hG1, hb1⟩
  have s1 := s0.call hb1
  have q1 := s1.hold
  simp only [Holds, and_true] at q1
  simp only [World.size_alloc] at hg1
  clear s0 hb1
  go_wp2_with fail
  refine bodyPost_ret (v := (.agg #[.int .i64 n, (.slice (some ⟨g1, 0, none⟩) len cp1)])) (by simp [results, Tryd.results68, go_sem, q1]) rfl ⟨g1, cp1, rfl, by omega, ?_, ?_⟩
  · exact (hG1.other (by show w.heap.size + 1 + 1 + 1 ≠ g1; omega) _).other (by show w.heap.size + 1 + 1 + 1 ≠ g1; omega) _
  · iterate 2 refine Below.setCell ?_ (by first | (simp; done) | (simp; omega)) _
    exact s1.bel

/-- The errors, and two slices of cells. -/
def EC2 (a : Nat → Addr) (x : Option Addr) (l : List Ce) (y : Option Addr) (m : List Ce) (W : World) : Prop := ErrS W a ∧ CsAt W x l ∧ CsAt W y m
theorem St.startEC2 {w : World} {a : Nat → Addr} {x y : Option Addr} {l m : List Ce} (h : ErrS w a) (k : CsAt w x l) (k' : CsAt w y m) : St w w (EC2 a x l y m) [] :=
  ⟨Below.refl _ _, trivial, ⟨h, k, k'⟩, fun _ _ q hb => ⟨h.stays q.1 hb, k.stays q.2.1 hb, k'.stays q.2.2 hb⟩⟩
theorem keepE1 {w W : World} {a : Nat → Addr} {x y : Option Addr} {l m : List Ce} (L : List (Nat × Nat × Value)) (h : CellsAnd W L (St w W (EC2 a x l y m) L)) : ErrS W a := h.last.sent.1
theorem keepE2 {w W : World} {a : Nat → Addr} {x y : Option Addr} {l m : List Ce} (L : List (Nat × Nat × Value)) (h : CellsAnd W L (St w W (EC2 a x l y m) L)) : CsAt W x l := h.last.sent.2.1
theorem keepE3 {w W : World} {a : Nat → Addr} {x y : Option Addr} {l m : List Ce} (L : List (Nat × Nat × Value)) (h : CellsAnd W L (St w W (EC2 a x l y m) L)) : CsAt W y m := h.last.sent.2.2

def pairErr (N : Int) (l : List Ce) (M : Int) (m : List Ce) : Int := if firstE [zErr N l, zErr M m] = 0 ∧ N ≠ M then 3 else firstE [zErr N l, zErr M m]

set_option maxRecDepth 20000 in
set_option maxHeartbeats 4000000 in
theorem pairError_any (N M : Int) (x y : Option Addr) (n c n' c' : Nat) (l m : List Ce) (a : Nat → Addr) (w : World) (hS : ErrS w a) (hA : CsAt w x l) (hB : CsAt w y m) (hl : Hid (n = l.length)) (hm : Hid (n' = m.length)) (hn : n ≤ 1000) (hn' : n' ≤ 1000) :
    Calls Tryd.prog 65 #[(.agg #[.int .i64 N, (.slice x n c)]), (.agg #[.int .i64 M, (.slice y n' c')])] w fun e w' => e = .returned (erV a (pairErr N l M m)) ∧ Below w.heap.size w w' := by
  have s0 := ((St.startEC2 hS hA hB).box2 30 (.int .i64 N) (.slice x n c)).box2 30 (.int .i64 M) (.slice y n' c')
  simp only [World.size_alloc] at s0
  have q0 := s0.hold
  simp only [Holds, and_true] at q0
  obtain ⟨e1, he1⟩ : ∃ e, e = zErr N l := ⟨_, rfl⟩
  obtain ⟨e2, he2⟩ : ∃ e, e = zErr M m := ⟨_, rfl⟩
  obtain ⟨er, her⟩ : ∃ e, e = firstE [e1, e2] := ⟨_, rfl⟩
  have HV : Hid (∀ W : World, ErrS W a → CsAt W x l → Calls Tryd.prog 20 #[(.agg #[.int .i64 N, (.slice x n c)])] W fun e w' => e = .returned (erV a e1) ∧ Below W.heap.size W w') := fun W h1 h2 => by rw [he1]; exact valid_any N x c n l a W h1 h2 hl hn
  have HU : Hid (∀ W : World, ErrS W a → CsAt W y m → Calls Tryd.prog 20 #[(.agg #[.int .i64 M, (.slice y n' c')])] W fun e w' => e = .returned (erV a e2) ∧ Below W.heap.size W w') := fun W h1 h2 => by rw [he2]; exact valid_any M y c' n' m a W h1 h2 hm hn'
  have HF : Hid (∀ (W : World) (t : TypeId), Calls Tryd.prog 49 #[.slice (some ⟨W.heap.size, 0, none⟩) 2 2] (W.alloc (.cells #[erV a e1, erV a e2] t)) fun e w' => e = .returned (erV a er) ∧ w' = (W.alloc (.cells #[erV a e1, erV a e2] t))) := fun W t => by rw [her]; exact first2 a _ _ t W
  have hcl : ∀ x, (erV a x).cells = #[erV a x] := erV_cells a
  unfold Value.cells at hcl
  have hp : pairErr N l M m = if er = 0 ∧ N ≠ M then 3 else er := by unfold pairErr; rw [← he1, ← he2, ← her]
  rw [hp]
  clear hp her he1 he2 hS hA hB hl hm
  by_cases h0 : er = 0
  · subst h0
    rw [erV_0] at HF
    by_cases hNM : N = M
    · subst hNM
      rw [if_neg (by simp), erV_0]
      go_enter Tryd.func65, Tryd.ntmps65
      go_wp2_with fail
      go_region_held3 (fun w' => w'.cell? ⟨w.heap.size + 1, 0, none⟩ = some (.int .i64 N) ∧ w'.cell? ⟨w.heap.size + 1, 1, none⟩ = some (.slice y n' c') ∧ w'.cell? ⟨w.heap.size, 0, none⟩ = some (.int .i64 N) ∧ w'.cell? ⟨w.heap.size, 1, none⟩ = some (.slice x n c) ∧ St w w' (EC2 a x l y m) ((w.heap.size + 1, 0, Value.int .i64 N) :: (w.heap.size + 1, 1, Value.slice y n' c') :: (w.heap.size, 0, Value.int .i64 N) :: (w.heap.size, 1, Value.slice x n c) :: [])) (first | (exact keepSt0 ((w.heap.size + 1, 0, Value.int .i64 N) :: (w.heap.size + 1, 1, Value.slice y n' c') :: (w.heap.size, 0, Value.int .i64 N) :: (w.heap.size, 1, Value.slice x n c) :: []) s0.drew) | (exact keepSt ((w.heap.size + 1, 0, Value.int .i64 N) :: (w.heap.size + 1, 1, Value.slice y n' c') :: (w.heap.size, 0, Value.int .i64 N) :: (w.heap.size, 1, Value.slice x n c) :: []) (by assumption) (by assumption)) | (exact keepSt ((w.heap.size + 1, 0, Value.int .i64 N) :: (w.heap.size + 1, 1, Value.slice y n' c') :: (w.heap.size, 0, Value.int .i64 N) :: (w.heap.size, 1, Value.slice x n c) :: []) ((Below.refl _ _).alloc (Nat.le_refl _) _) (by assumption)) | assumption)
        (first
          | (go_at_call_of 20 (Value.agg #[.int .i64 N, .slice x n c]); refine (HV.out _ (keepE1 (w := w) (x := x) (y := y) (l := l) (m := m) ((w.heap.size + 1, 0, Value.int .i64 N) :: (w.heap.size + 1, 1, Value.slice y n' c') :: (w.heap.size, 0, Value.int .i64 N) :: (w.heap.size, 1, Value.slice x n c) :: []) (by assumption)) (keepE2 (w := w) (a := a) (y := y) (m := m) ((w.heap.size + 1, 0, Value.int .i64 N) :: (w.heap.size + 1, 1, Value.slice y n' c') :: (w.heap.size, 0, Value.int .i64 N) :: (w.heap.size, 1, Value.slice x n c) :: []) (by assumption))).mono ?_; rintro e w2 ⟨rfl, hb2⟩)
          | (go_at_call_of 20 (Value.agg #[.int .i64 N, .slice y n' c']); refine (HU.out _ (keepE1 (w := w) (x := x) (y := y) (l := l) (m := m) ((w.heap.size + 1, 0, Value.int .i64 N) :: (w.heap.size + 1, 1, Value.slice y n' c') :: (w.heap.size, 0, Value.int .i64 N) :: (w.heap.size, 1, Value.slice x n c) :: []) (by assumption)) (keepE3 (w := w) (a := a) (x := x) (l := l) ((w.heap.size + 1, 0, Value.int .i64 N) :: (w.heap.size + 1, 1, Value.slice y n' c') :: (w.heap.size, 0, Value.int .i64 N) :: (w.heap.size, 1, Value.slice x n c) :: []) (by assumption))).mono ?_; rintro e w2 ⟨rfl, hb2⟩)
          | (go_at_call 49; refine (HF.out _ _).mono ?_; rintro e w2 ⟨rfl, rfl⟩))
      have s5 := keepSt_st (w := w) (W := w2.alloc (.cells #[erV a e1, erV a e2] 32)) (Z := EC2 a x l y m) ((w.heap.size + 1, 0, Value.int .i64 N) :: (w.heap.size + 1, 1, Value.slice y n' c') :: (w.heap.size, 0, Value.int .i64 N) :: (w.heap.size, 1, Value.slice x n c) :: []) (by assumption)
      have q5 := s5.hold
      simp only [Holds, and_true] at q5
      go_wp2_with fail
      go_ret
      exact ⟨rfl, s5.bel⟩
    · rw [if_pos ⟨rfl, hNM⟩, erV_3]
      have hNMb : (N != M) = true := by simp [hNM]
      go_enter Tryd.func65, Tryd.ntmps65
      go_wp2_with fail
      (go_region_held3 (fun w' => w'.cell? ⟨w.heap.size + 1, 0, none⟩ = some (.int .i64 M) ∧ w'.cell? ⟨w.heap.size + 1, 1, none⟩ = some (.slice y n' c') ∧ w'.cell? ⟨w.heap.size, 0, none⟩ = some (.int .i64 N) ∧ w'.cell? ⟨w.heap.size, 1, none⟩ = some (.slice x n c) ∧ St w w' (EC2 a x l y m) ((w.heap.size + 1, 0, Value.int .i64 M) :: (w.heap.size + 1, 1, Value.slice y n' c') :: (w.heap.size, 0, Value.int .i64 N) :: (w.heap.size, 1, Value.slice x n c) :: [])) (first | (exact keepSt0 ((w.heap.size + 1, 0, Value.int .i64 M) :: (w.heap.size + 1, 1, Value.slice y n' c') :: (w.heap.size, 0, Value.int .i64 N) :: (w.heap.size, 1, Value.slice x n c) :: []) s0.drew) | (exact keepSt ((w.heap.size + 1, 0, Value.int .i64 M) :: (w.heap.size + 1, 1, Value.slice y n' c') :: (w.heap.size, 0, Value.int .i64 N) :: (w.heap.size, 1, Value.slice x n c) :: []) (by assumption) (by assumption)) | (exact keepSt ((w.heap.size + 1, 0, Value.int .i64 M) :: (w.heap.size + 1, 1, Value.slice y n' c') :: (w.heap.size, 0, Value.int .i64 N) :: (w.heap.size, 1, Value.slice x n c) :: []) ((Below.refl _ _).alloc (Nat.le_refl _) _) (by assumption)) | assumption) (first | (go_at_call_of 20 (Value.agg #[.int .i64 N, .slice x n c]); refine (HV.out _ (keepE1 (w := w) (x := x) (y := y) (l := l) (m := m) ((w.heap.size + 1, 0, Value.int .i64 M) :: (w.heap.size + 1, 1, Value.slice y n' c') :: (w.heap.size, 0, Value.int .i64 N) :: (w.heap.size, 1, Value.slice x n c) :: []) (by assumption)) (keepE2 (w := w) (a := a) (y := y) (m := m) ((w.heap.size + 1, 0, Value.int .i64 M) :: (w.heap.size + 1, 1, Value.slice y n' c') :: (w.heap.size, 0, Value.int .i64 N) :: (w.heap.size, 1, Value.slice x n c) :: []) (by assumption))).mono ?_; rintro e w2 ⟨rfl, hb2⟩) | (go_at_call_of 20 (Value.agg #[.int .i64 M, .slice y n' c']); refine (HU.out _ (keepE1 (w := w) (x := x) (y := y) (l := l) (m := m) ((w.heap.size + 1, 0, Value.int .i64 M) :: (w.heap.size + 1, 1, Value.slice y n' c') :: (w.heap.size, 0, Value.int .i64 N) :: (w.heap.size, 1, Value.slice x n c) :: []) (by assumption)) (keepE3 (w := w) (a := a) (x := x) (l := l) ((w.heap.size + 1, 0, Value.int .i64 M) :: (w.heap.size + 1, 1, Value.slice y n' c') :: (w.heap.size, 0, Value.int .i64 N) :: (w.heap.size, 1, Value.slice x n c) :: []) (by assumption))).mono ?_; rintro e w2 ⟨rfl, hb2⟩) | (go_at_call 49; refine (HF.out _ _).mono ?_; rintro e w2 ⟨rfl, rfl⟩)); have s5 := keepSt_st (w := w) (W := w2.alloc (.cells #[erV a e1, erV a e2] 32)) (Z := EC2 a x l y m) ((w.heap.size + 1, 0, Value.int .i64 M) :: (w.heap.size + 1, 1, Value.slice y n' c') :: (w.heap.size, 0, Value.int .i64 N) :: (w.heap.size, 1, Value.slice x n c) :: []) (by assumption); have q5 := s5.hold; simp only [Holds, and_true] at q5)
      have f2 : (w2.alloc (.cells #[erV a e1, erV a e2] 32)).cell? ⟨1, 0, none⟩ = some (.iface 169 (.pointer (some (a 2)))) := s5.sent.1.2
      go_wp2_with fail
      go_ret
      exact ⟨rfl, s5.bel⟩
  · rw [erV_ne h0] at HF
    rw [if_neg (fun k => h0 k.1), erV_ne h0]
    clear h0
    go_enter Tryd.func65, Tryd.ntmps65
    go_wp2_with fail
    (go_region_held3 (fun w' => w'.cell? ⟨w.heap.size + 1, 0, none⟩ = some (.int .i64 M) ∧ w'.cell? ⟨w.heap.size + 1, 1, none⟩ = some (.slice y n' c') ∧ w'.cell? ⟨w.heap.size, 0, none⟩ = some (.int .i64 N) ∧ w'.cell? ⟨w.heap.size, 1, none⟩ = some (.slice x n c) ∧ St w w' (EC2 a x l y m) ((w.heap.size + 1, 0, Value.int .i64 M) :: (w.heap.size + 1, 1, Value.slice y n' c') :: (w.heap.size, 0, Value.int .i64 N) :: (w.heap.size, 1, Value.slice x n c) :: [])) (first | (exact keepSt0 ((w.heap.size + 1, 0, Value.int .i64 M) :: (w.heap.size + 1, 1, Value.slice y n' c') :: (w.heap.size, 0, Value.int .i64 N) :: (w.heap.size, 1, Value.slice x n c) :: []) s0.drew) | (exact keepSt ((w.heap.size + 1, 0, Value.int .i64 M) :: (w.heap.size + 1, 1, Value.slice y n' c') :: (w.heap.size, 0, Value.int .i64 N) :: (w.heap.size, 1, Value.slice x n c) :: []) (by assumption) (by assumption)) | (exact keepSt ((w.heap.size + 1, 0, Value.int .i64 M) :: (w.heap.size + 1, 1, Value.slice y n' c') :: (w.heap.size, 0, Value.int .i64 N) :: (w.heap.size, 1, Value.slice x n c) :: []) ((Below.refl _ _).alloc (Nat.le_refl _) _) (by assumption)) | assumption) (first | (go_at_call_of 20 (Value.agg #[.int .i64 N, .slice x n c]); refine (HV.out _ (keepE1 (w := w) (x := x) (y := y) (l := l) (m := m) ((w.heap.size + 1, 0, Value.int .i64 M) :: (w.heap.size + 1, 1, Value.slice y n' c') :: (w.heap.size, 0, Value.int .i64 N) :: (w.heap.size, 1, Value.slice x n c) :: []) (by assumption)) (keepE2 (w := w) (a := a) (y := y) (m := m) ((w.heap.size + 1, 0, Value.int .i64 M) :: (w.heap.size + 1, 1, Value.slice y n' c') :: (w.heap.size, 0, Value.int .i64 N) :: (w.heap.size, 1, Value.slice x n c) :: []) (by assumption))).mono ?_; rintro e w2 ⟨rfl, hb2⟩) | (go_at_call_of 20 (Value.agg #[.int .i64 M, .slice y n' c']); refine (HU.out _ (keepE1 (w := w) (x := x) (y := y) (l := l) (m := m) ((w.heap.size + 1, 0, Value.int .i64 M) :: (w.heap.size + 1, 1, Value.slice y n' c') :: (w.heap.size, 0, Value.int .i64 N) :: (w.heap.size, 1, Value.slice x n c) :: []) (by assumption)) (keepE3 (w := w) (a := a) (x := x) (l := l) ((w.heap.size + 1, 0, Value.int .i64 M) :: (w.heap.size + 1, 1, Value.slice y n' c') :: (w.heap.size, 0, Value.int .i64 N) :: (w.heap.size, 1, Value.slice x n c) :: []) (by assumption))).mono ?_; rintro e w2 ⟨rfl, hb2⟩) | (go_at_call 49; refine (HF.out _ _).mono ?_; rintro e w2 ⟨rfl, rfl⟩)); have s5 := keepSt_st (w := w) (W := w2.alloc (.cells #[erV a e1, erV a e2] 32)) (Z := EC2 a x l y m) ((w.heap.size + 1, 0, Value.int .i64 M) :: (w.heap.size + 1, 1, Value.slice y n' c') :: (w.heap.size, 0, Value.int .i64 N) :: (w.heap.size, 1, Value.slice x n c) :: []) (by assumption); have q5 := s5.hold; simp only [Holds, and_true] at q5)
    go_wp2_with fail
    go_ret
    exact ⟨rfl, s5.bel⟩
end Go.Proofs.YtofjjaabgfmnpaaDoor
