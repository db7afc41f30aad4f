/- Octagons: one bound more, told (octagon.Guard). -/
import Derived.Test.YtofjjaabgfmnpaaDoorOf
import Derived.Test.YtofjjaabgfmnpaaDoorYs
import Derived.Deep.Cut
import Derived.Deep.DeepCutAuto
namespace Go.Proofs.YtofjjaabgfmnpaaDoor
open Go.RowKit
set_option linter.unusedVariables false

/-- Two numbers that lie in memory. -/
structure Sl2 (W : World) (b : Nat) (u v : Value) : Prop where
  lt : b < W.heap.size
  one : W.cell? ⟨b, 0, none⟩ = some u
  two : W.cell? ⟨b, 1, none⟩ = some v
theorem Sl2.below {W w2 : World} {b : Nat} {u v : Value} (h : Sl2 W b u v) (hb : Below W.heap.size W w2) : Sl2 w2 b u v :=
  ⟨Nat.lt_of_lt_of_le h.lt hb.size, (hb.cell (p := ⟨b, 0, none⟩) h.lt).trans h.one, (hb.cell (p := ⟨b, 1, none⟩) h.lt).trans h.two⟩
theorem Sl2.drew {W : World} {b : Nat} {u v : Value} (h : Sl2 W b u v) : Sl2 W.drew b u v := h.below (Below.refl _ _).drew
theorem Sl2.alloc {W : World} {b : Nat} {u v : Value} (h : Sl2 W b u v) (B : Obj) : Sl2 (W.alloc B) b u v := h.below ((Below.refl _ _).alloc (Nat.le_refl _) B)
theorem Sl2.here' {W : World} {b : Nat} {u v : Value} {t : TypeId} (h : b = W.heap.size) : Sl2 (W.alloc (.cells #[u, v] t)) b u v := by
  subst h
  exact ⟨by simp, by simp, by simp⟩
theorem Sl2.here {W : World} {u v : Value} {t : TypeId} : Sl2 (W.alloc (.cells #[u, v] t)) W.heap.size u v := Sl2.here' rfl

/-- One bound more, both ways. -/
def gdM (d : Mat) (p q : Nat) (c : Int) : Mat := grdM (grdM d p q c) (bar q) (bar p) c
theorem gd_enc {n m : Nat} {d : Mat} (hS : Sz n m d) (hm : m ≤ 2305843009213693952) (he : n % 2 = 0) {p q : Nat} (hp : p < n) (hq : q < n) {c : Int} (hc : c.natAbs ≤ m) (i j : Nat) : gdF (encM d) p q c i j = encM (gdM d p q c) i j := by
  have e : guF (encM d) p q c = encM (grdM d p q c) := by funext i j; exact gu_enc hS hm hp hq (by omega) i j
  unfold gdF
  rw [e]
  exact gu_enc (sz_grd hS hp hq hc) hm (bar_lt he hq) (bar_lt he hp) (by omega) i j
theorem sz_gd {n m : Nat} {d : Mat} (hS : Sz n m d) (he : n % 2 = 0) {p q : Nat} (hp : p < n) (hq : q < n) {c : Int} (hc : c.natAbs ≤ m) : Sz n m (gdM d p q c) := sz_grd (sz_grd hS hp hq hc) (bar_lt he hq) (bar_lt he hp) hc
theorem coh_gd {n : Nat} {d : Mat} (hd : Coh n d) {p q : Nat} {c : Int} : Coh n (gdM d p q c) := by
  intro i j hi hj
  unfold gdM grdM setM
  have h := hd i j hi hj
  have e1 : (bar j = p ∧ bar i = q) ↔ (i = bar q ∧ j = bar p) := ⟨fun k => ⟨by rw [← k.2, bar_bar], by rw [← k.1, bar_bar]⟩, fun k => ⟨by rw [k.2, bar_bar], by rw [k.1, bar_bar]⟩⟩
  have e2 : (bar j = bar q ∧ bar i = bar p) ↔ (i = p ∧ j = q) := ⟨fun k => ⟨bar_inj k.2, bar_inj k.1⟩, fun k => ⟨by rw [k.2], by rw [k.1]⟩⟩
  by_cases a1 : i = bar q ∧ j = bar p
  · obtain ⟨rfl, rfl⟩ := a1
    by_cases a2 : bar q = p
    · subst a2
      simp [bar_bar]
    · have n1 : ¬ (bar q = p ∧ bar p = q) := fun k => a2 k.1
      have n2 : ¬ (p = bar q ∧ q = bar p) := fun k => a2 k.1.symm
      rw [bar_bar, bar_bar] at h
      simp [bar_bar, n1, n2, h]
  · rw [if_neg a1]
    by_cases a3 : i = p ∧ j = q
    · obtain ⟨rfl, rfl⟩ := a3
      have n1 : ¬ (bar j = i ∧ bar i = j) := fun k => a1 ⟨by rw [← k.1], by rw [← k.2]⟩
      simp [n1, h]
    · rw [if_neg a3, if_neg (fun k => a3 (e2.1 k)), if_neg (fun k => a1 (e1.1 k))]
      exact h

/-- What may be wrong. -/
def guOErr (N : Int) (l : List Ce) (x y av bv c : Int) : Int := firstE [zErr N l, voErr N [x, y], siErr [av, bv], saErr x y, numErr c]
theorem voErr_two {N x y : Int} (hN : 0 ≤ N ∧ N ≤ 4) (h : voErr N [x, y] = 0) : (0 ≤ x ∧ x < N) ∧ 0 ≤ y ∧ y < N := by
  unfold voErr varErr at h
  have hw : wrap64 (N - 1) = N - 1 := by unfold wrap64; omega
  rw [hw] at h
  simp only [List.map] at h
  rw [firstE_0, firstE_0] at h
  obtain ⟨h1, h2, -⟩ := h
  constructor
  · by_cases k : x < 0 ∨ N - 1 < x
    · rw [if_pos k] at h1; omega
    · omega
  · by_cases k : y < 0 ∨ N - 1 < y
    · rw [if_pos k] at h2; omega
    · omega
theorem siErr_two {u v : Int} (h : siErr [u, v] = 0) : (u = 1 ∨ u = -1 ∨ u = 0) ∧ (v = 1 ∨ v = -1 ∨ v = 0) := by
  unfold siErr at h
  simp only [List.map] at h
  rw [firstE_0, firstE_0] at h
  obtain ⟨h1, h2, -⟩ := h
  constructor
  · by_cases k : u < -1 ∨ 1 < u
    · rw [if_pos k] at h1; omega
    · omega
  · by_cases k : v < -1 ∨ 1 < v
    · rw [if_pos k] at h2; omega
    · omega

set_option maxRecDepth 20000 in
set_option maxHeartbeats 8000000 in
theorem guardO_any (N x y av bv c : Int) (s : Option Addr) (c0 len : Nat) (l : List Ce) (a : Nat → Addr) (w : World) (hS : ErrS w a) (hA : CsAt w s l) (hl : Hid (len = l.length)) (hlen : len ≤ 1000) :
    Calls Tryd.prog 38 #[(.agg #[.int .i64 N, (.slice s len c0)]), .int .i64 av, .int .i64 x, .int .i64 bv, .int .i64 y, .int .i64 c] w fun e w' =>
      ZrPost w a (guOErr N l x y av bv c) N len (NoNeg (nOf N) (tg (nOf N) (gdM (matOf (nOf N) l) (gFr av x.toNat bv y.toNat) (gTo av x.toNat bv y.toNat) (gC av bv c)))) (tellL (nOf N) (tg (nOf N) (gdM (matOf (nOf N) l) (gFr av x.toNat bv y.toNat) (gTo av x.toNat bv y.toNat) (gC av bv c)))) e w' := by
  have s0 := ((St.startEC hS hA).box2 30 (.int .i64 N) (.slice s len c0)).box2 30 (.int .i64 0) (.slice none 0 0)
  simp only [World.size_alloc] at s0
  have q0 := s0.hold
  simp only [Holds, and_true] at q0
  obtain ⟨e1, he1⟩ : ∃ e, e = zErr N l := ⟨_, rfl⟩
  obtain ⟨e2, he2⟩ : ∃ e, e = voErr N [x, y] := ⟨_, rfl⟩
  obtain ⟨e3, he3⟩ : ∃ e, e = siErr [av, bv] := ⟨_, rfl⟩
  obtain ⟨e4, he4⟩ : ∃ e, e = saErr x y := ⟨_, rfl⟩
  obtain ⟨e5, he5⟩ : ∃ e, e = numErr c := ⟨_, rfl⟩
  obtain ⟨er, her⟩ : ∃ e, e = guOErr N l x y av bv c := ⟨_, rfl⟩
  have HV : Hid (∀ W : World, ErrS W a → CsAt W s l → Calls Tryd.prog 20 #[(.agg #[.int .i64 N, (.slice s len c0)])] W fun e w' => e = .returned (erV a e1) ∧ Below W.heap.size W w') := fun W h1 h2 => by rw [he1]; exact valid_any N s c0 len l a W h1 h2 hl hlen
  have HX : Hid (∀ (W : World) (b : Nat), ErrS W a → Sl2 W b (.int .i64 x) (.int .i64 y) → Calls Tryd.prog 71 #[(.agg #[.int .i64 N, (.slice s len c0)]), .slice (some ⟨b, 0, none⟩) 2 2] W fun e w' => e = .returned (erV a e2) ∧ Below W.heap.size W w') := by
    intro W b h1 h2
    rw [he2]
    refine voErr_any N s len c0 b 2 2 [x, y] a W h1 rfl (by omega) h2.lt ?_
    intro i hi
    rcases (by omega : i = 0 ∨ i = 1) with rfl | rfl
    · exact h2.one
    · exact h2.two
  have HSg : Hid (∀ (W : World) (b : Nat), ErrS W a → Sl2 W b (.int .i64 av) (.int .i64 bv) → Calls Tryd.prog 75 #[.slice (some ⟨b, 0, none⟩) 2 2] W fun e w' => e = .returned (erV a e3) ∧ Below W.heap.size W w') := by
    intro W b h1 h2
    rw [he3]
    refine (siErr_any b 2 2 [av, bv] a W h1 rfl (by omega) h2.lt ?_).mono fun _ _ k => ⟨k.1, by rw [k.2]; exact Below.refl _ _⟩
    intro i hi
    rcases (by omega : i = 0 ∨ i = 1) with rfl | rfl
    · exact h2.one
    · exact h2.two
  have HSa : Hid (∀ W : World, ErrS W a → Calls Tryd.prog 79 #[.int .i64 x, .int .i64 y] W fun e w' => e = .returned (erV a e4) ∧ w' = W) := fun W h => by rw [he4]; exact saErr_any x y a W h
  have HN : Hid (∀ W : World, ErrS W a → Calls Tryd.prog 76 #[.int .i64 c] W fun e w' => e = .returned (erV a e5) ∧ w' = W) := fun W h => by rw [he5]; exact numErr_any c a W h
  have HF : Hid (∀ (W : World) (t : TypeId), Calls Tryd.prog 49 #[.slice (some ⟨W.heap.size, 0, none⟩) 5 5] (W.alloc (.cells #[erV a e1, erV a e2, erV a e3, erV a e4, erV a e5] t)) fun e w' => e = .returned (erV a er) ∧ w' = (W.alloc (.cells #[erV a e1, erV a e2, erV a e3, erV a e4, erV a e5] t))) := fun W t => by
    rw [her]; unfold guOErr; rw [← he1, ← he2, ← he3, ← he4, ← he5]
    refine firstOf_any W.heap.size 5 5 [e1, e2, e3, e4, e5] a _ rfl (by omega) ?_
    intro i hi
    rcases (by omega : i = 0 ∨ i = 1 ∨ i = 2 ∨ i = 3 ∨ i = 4) with rfl | rfl | rfl | rfl | rfl <;> simp
  have hcl : ∀ x, (erV a x).cells = #[erV a x] := erV_cells a
  unfold Value.cells at hcl
  rw [← her]
  by_cases h0 : er = 0
  · have h1 : firstE [zErr N l, voErr N [x, y], siErr [av, bv], saErr x y, numErr c] = 0 := by have := her; unfold guOErr at this; rw [← this]; exact h0
    rw [firstE_0, firstE_0, firstE_0, firstE_0, firstE_0] at h1
    obtain ⟨hz, hv1, hs1, hsa, hnm, -⟩ := h1
    obtain ⟨z1, z2, z3, z4, z5, z6⟩ := zErr_0 hz
    obtain ⟨⟨x1, x2⟩, y1, y2⟩ := voErr_two (by omega) hv1
    obtain ⟨ha, hb⟩ := siErr_two hs1
    have v5 := numErr_0 hnm
    obtain ⟨n, hn⟩ : ∃ n, n = nOf N := ⟨_, rfl⟩
    rw [← hn] at z1 z2 z3 z4 ⊢
    have hll : Hid (len = n * n) := by show _ = _; rw [hl.out]; exact z4
    obtain ⟨x', hx'⟩ : ∃ k : Nat, (k : Int) = x := ⟨x.toNat, by omega⟩
    obtain ⟨y', hy'⟩ : ∃ k : Nat, (k : Int) = y := ⟨y.toNat, by omega⟩
    have ex : x.toNat = x' := by omega
    have ey : y.toNat = y' := by omega
    have hx2 : 2 * (x' + 1) ≤ n := by omega
    have hy2 : 2 * (y' + 1) ≤ n := by omega
    rw [ex, ey]
    subst hx' hy'
    have hSz := sz_mat z4 z6
    obtain ⟨d, hd⟩ : ∃ d, d = gdM (matOf n l) (gFr av x' bv y') (gTo av x' bv y') (gC av bv c) := ⟨_, rfl⟩
    have hp := gFr_lt (a := av) (b := bv) z2 hx2 hy2
    have hq := gTo_lt (a := av) (b := bv) z2 hx2 hy2
    have hcc : (gC av bv c).natAbs ≤ 2199023255552 := by unfold gC; split <;> omega
    have hSd : Sz n 2199023255552 d := by rw [hd]; exact sz_gd (hSz.mono (by omega)) z2 hp hq hcc
    have HB : Hid (∀ W : World, CsAt W s l → Calls Tryd.prog 48 #[(.agg #[.int .i64 N, (.slice s len c0)])] W fun e w' => GrPost W n len (encM (matOf n l)) e w') := fun W h => boundsOf_cs N n c0 len _ l W h hl hll ⟨z2, z3⟩ z1
    have HG : Hid (∀ (W : World) (g cp : Nat), GrI W g n (encM (matOf n l)) → Calls Tryd.prog 80 #[(.agg #[.int .i64 n, (.slice (some ⟨g, 0, none⟩) len cp)]), .int .i64 av, .int .i64 x', .int .i64 bv, .int .i64 y', .int .i64 c] W fun e w' => GrPost W n len (encM d) e w') := fun W g cp h => by
      rw [hd]
      exact (guardedO_any n g cp len x' y' av bv c _ W h hll ⟨z2, z3⟩ ha hb hx2 hy2 v5).mono fun _ _ k => k.congr fun i j _ _ => gd_enc (hSz.mono (show 1099511627776 ≤ 2199023255552 by omega)) (by omega) z2 hp hq hcc i j
    have HT : Hid (∀ (W : World) (g cp : Nat), GrI W g n (encM d) → Calls Tryd.prog 47 #[(.agg #[.int .i64 n, (.slice (some ⟨g, 0, none⟩) len cp)])] W fun e w' => ZaPost W N len (NoNeg n (tg n d)) (tellL n (tg n d)) e w') := fun W g cp h => tellClosed_any N n g cp len 2199023255552 d W h hll ⟨z2, z3⟩ z1 hSd (by omega)
    rw [← hd]
    obtain ⟨L, hL⟩ : ∃ L, L = tellL n (tg n d) := ⟨_, rfl⟩
    obtain ⟨ok, hok⟩ : ∃ ok, ok = NoNeg n (tg n d) := ⟨_, rfl⟩
    obtain ⟨f, hf⟩ : ∃ f, f = encM (matOf n l) := ⟨_, rfl⟩
    obtain ⟨f2, hf2⟩ : ∃ f, f = encM d := ⟨_, rfl⟩
    rw [← hL, ← hok] at HT ⊢
    rw [← hf] at HG HB
    rw [← hf2] at HG HT
    rw [h0] at HF ⊢
    rw [erV_0] at HF
    clear hL hok hf hf2 hS hA hl hll z1 z2 z3 z4 z5 z6 hz hn hx2 hy2 hp hq hcc hSd hd hSz ha hb h0 hv1 hs1 hsa hnm x1 x2 y1 y2 v5 ex ey her he1 he2 he3 he4 he5
    go_enter Tryd.func38, Tryd.ntmps38
    go_wp2_with fail
    go_cut [15] (fun t7 wx => t7 = .nilIface ∧ St w wx (EC a s l) ((w.heap.size + 1, 0, Value.int .i64 0) :: (w.heap.size + 1, 1, Value.slice none 0 0) :: (w.heap.size, 0, Value.int .i64 N) :: (w.heap.size, 1, Value.slice s len c0) :: []))
    case first =>
      (go_region_held3 (fun w' => w'.cell? ⟨w.heap.size + 1, 0, none⟩ = some (.int .i64 0) ∧ w'.cell? ⟨w.heap.size + 1, 1, none⟩ = some (.slice none 0 0) ∧ w'.cell? ⟨w.heap.size, 0, none⟩ = some (.int .i64 N) ∧ w'.cell? ⟨w.heap.size, 1, none⟩ = some (.slice s len c0) ∧ St w w' (EC a s l) ((w.heap.size + 1, 0, Value.int .i64 0) :: (w.heap.size + 1, 1, Value.slice none 0 0) :: (w.heap.size, 0, Value.int .i64 N) :: (w.heap.size, 1, Value.slice s len c0) :: [])) (first | (exact keepSt0 ((w.heap.size + 1, 0, Value.int .i64 0) :: (w.heap.size + 1, 1, Value.slice none 0 0) :: (w.heap.size, 0, Value.int .i64 N) :: (w.heap.size, 1, Value.slice s len c0) :: []) s0.drew) | (exact keepSt ((w.heap.size + 1, 0, Value.int .i64 0) :: (w.heap.size + 1, 1, Value.slice none 0 0) :: (w.heap.size, 0, Value.int .i64 N) :: (w.heap.size, 1, Value.slice s len c0) :: []) (by assumption) (by assumption)) | (exact keepSt ((w.heap.size + 1, 0, Value.int .i64 0) :: (w.heap.size + 1, 1, Value.slice none 0 0) :: (w.heap.size, 0, Value.int .i64 N) :: (w.heap.size, 1, Value.slice s len c0) :: []) ((Below.refl _ _).alloc (Nat.le_refl _) _) (by assumption)) | assumption) (first | (go_at_call 20; refine (HV.out _ (keepEC1 (w := w) (x := s) (l := l) ((w.heap.size + 1, 0, Value.int .i64 0) :: (w.heap.size + 1, 1, Value.slice none 0 0) :: (w.heap.size, 0, Value.int .i64 N) :: (w.heap.size, 1, Value.slice s len c0) :: []) (by assumption)) (keepEC2 (w := w) (a := a) ((w.heap.size + 1, 0, Value.int .i64 0) :: (w.heap.size + 1, 1, Value.slice none 0 0) :: (w.heap.size, 0, Value.int .i64 N) :: (w.heap.size, 1, Value.slice s len c0) :: []) (by assumption))).mono ?_; rintro e w2 ⟨rfl, hb2⟩; (first | (with_reducible have hpX := Sl2.below hpX hb2) | (with_reducible have hpX := Sl2.below (hpX.alloc _) hb2) | (with_reducible have hpX := Sl2.below (Sl2.drew hpX) hb2) | (with_reducible have hpX : Sl2 _ _ (Value.int .i64 x') _ := Sl2.below Sl2.here hb2) | (with_reducible have hpX : Sl2 _ _ (Value.int .i64 x') _ := Sl2.below (Sl2.drew Sl2.here) hb2) | (with_reducible have hpX : Sl2 _ _ (Value.int .i64 x') _ := Sl2.below (Sl2.alloc Sl2.here _) hb2) | (with_reducible have hpX : Sl2 _ _ (Value.int .i64 x') _ := Sl2.below (Sl2.drew (Sl2.alloc Sl2.here _)) hb2) | (with_reducible have hpX : Sl2 _ _ (Value.int .i64 x') _ := Sl2.below (Sl2.alloc (Sl2.drew Sl2.here) _) hb2) | skip); (first | (simp only [World.size_alloc] at hpX) | skip); (first | (with_reducible have hpS := Sl2.below hpS hb2) | (with_reducible have hpS := Sl2.below (hpS.alloc _) hb2) | (with_reducible have hpS := Sl2.below (Sl2.drew hpS) hb2) | (with_reducible have hpS : Sl2 _ _ (Value.int .i64 av) _ := Sl2.below Sl2.here hb2) | (with_reducible have hpS : Sl2 _ _ (Value.int .i64 av) _ := Sl2.below (Sl2.drew Sl2.here) hb2) | (with_reducible have hpS : Sl2 _ _ (Value.int .i64 av) _ := Sl2.below (Sl2.alloc Sl2.here _) hb2) | (with_reducible have hpS : Sl2 _ _ (Value.int .i64 av) _ := Sl2.below (Sl2.drew (Sl2.alloc Sl2.here _)) hb2) | (with_reducible have hpS : Sl2 _ _ (Value.int .i64 av) _ := Sl2.below (Sl2.alloc (Sl2.drew Sl2.here) _) hb2) | skip); (first | (simp only [World.size_alloc] at hpS) | skip)) | (go_at_call 71; have hpX2 := hpX; refine (HX.out _ _ (keepEC1 (w := w) (x := s) (l := l) ((w.heap.size + 1, 0, Value.int .i64 0) :: (w.heap.size + 1, 1, Value.slice none 0 0) :: (w.heap.size, 0, Value.int .i64 N) :: (w.heap.size, 1, Value.slice s len c0) :: []) (by assumption)) (by first | with_reducible exact hpX | with_reducible exact hpX.alloc _ | with_reducible exact hpX.drew | with_reducible exact (hpX.alloc _).drew | with_reducible exact hpX.drew.alloc _)).mono ?_; rintro e w3 ⟨rfl, hb3⟩; (first | (with_reducible have hpS := Sl2.below hpS hb3) | (with_reducible have hpS := Sl2.below (hpS.alloc _) hb3) | (with_reducible have hpS := Sl2.below (Sl2.drew hpS) hb3) | (with_reducible have hpS : Sl2 _ _ (Value.int .i64 av) _ := Sl2.below Sl2.here hb3) | (with_reducible have hpS : Sl2 _ _ (Value.int .i64 av) _ := Sl2.below (Sl2.drew Sl2.here) hb3) | (with_reducible have hpS : Sl2 _ _ (Value.int .i64 av) _ := Sl2.below (Sl2.alloc Sl2.here _) hb3) | (with_reducible have hpS : Sl2 _ _ (Value.int .i64 av) _ := Sl2.below (Sl2.drew (Sl2.alloc Sl2.here _)) hb3) | (with_reducible have hpS : Sl2 _ _ (Value.int .i64 av) _ := Sl2.below (Sl2.alloc (Sl2.drew Sl2.here) _) hb3) | skip); (first | (simp only [World.size_alloc] at hpS) | skip)) | (go_at_call 71; refine (HX.out _ _ (keepEC1 (w := w) (x := s) (l := l) ((w.heap.size + 1, 0, Value.int .i64 0) :: (w.heap.size + 1, 1, Value.slice none 0 0) :: (w.heap.size, 0, Value.int .i64 N) :: (w.heap.size, 1, Value.slice s len c0) :: []) (by assumption)) (by first | with_reducible exact Sl2.here' (by simp) | with_reducible exact Sl2.drew (Sl2.here' (by simp)) | with_reducible exact Sl2.alloc (Sl2.here' (by simp)) _ | with_reducible exact Sl2.drew (Sl2.alloc (Sl2.here' (by simp)) _) | with_reducible exact Sl2.alloc (Sl2.drew (Sl2.here' (by simp))) _)).mono ?_; rintro e w3 ⟨rfl, hb3⟩; (first | (with_reducible have hpS := Sl2.below hpS hb3) | (with_reducible have hpS := Sl2.below (hpS.alloc _) hb3) | (with_reducible have hpS := Sl2.below (Sl2.drew hpS) hb3) | (with_reducible have hpS : Sl2 _ _ (Value.int .i64 av) _ := Sl2.below Sl2.here hb3) | (with_reducible have hpS : Sl2 _ _ (Value.int .i64 av) _ := Sl2.below (Sl2.drew Sl2.here) hb3) | (with_reducible have hpS : Sl2 _ _ (Value.int .i64 av) _ := Sl2.below (Sl2.alloc Sl2.here _) hb3) | (with_reducible have hpS : Sl2 _ _ (Value.int .i64 av) _ := Sl2.below (Sl2.drew (Sl2.alloc Sl2.here _)) hb3) | (with_reducible have hpS : Sl2 _ _ (Value.int .i64 av) _ := Sl2.below (Sl2.alloc (Sl2.drew Sl2.here) _) hb3) | skip); (first | (simp only [World.size_alloc] at hpS) | skip)) | (go_at_call 75; have hpS2 := hpS; refine (HSg.out _ _ (keepEC1 (w := w) (x := s) (l := l) ((w.heap.size + 1, 0, Value.int .i64 0) :: (w.heap.size + 1, 1, Value.slice none 0 0) :: (w.heap.size, 0, Value.int .i64 N) :: (w.heap.size, 1, Value.slice s len c0) :: []) (by assumption)) (by first | with_reducible exact hpS | with_reducible exact hpS.alloc _ | with_reducible exact hpS.drew | with_reducible exact (hpS.alloc _).drew | with_reducible exact hpS.drew.alloc _)).mono ?_; rintro e w4 ⟨rfl, hb4⟩) | (go_at_call 75; refine (HSg.out _ _ (keepEC1 (w := w) (x := s) (l := l) ((w.heap.size + 1, 0, Value.int .i64 0) :: (w.heap.size + 1, 1, Value.slice none 0 0) :: (w.heap.size, 0, Value.int .i64 N) :: (w.heap.size, 1, Value.slice s len c0) :: []) (by assumption)) (by first | with_reducible exact Sl2.here' (by simp) | with_reducible exact Sl2.drew (Sl2.here' (by simp)) | with_reducible exact Sl2.alloc (Sl2.here' (by simp)) _ | with_reducible exact Sl2.drew (Sl2.alloc (Sl2.here' (by simp)) _) | with_reducible exact Sl2.alloc (Sl2.drew (Sl2.here' (by simp))) _)).mono ?_; rintro e w4 ⟨rfl, hb4⟩) | (go_at_call 79; refine (HSa.out _ (keepEC1 (w := w) (x := s) (l := l) ((w.heap.size + 1, 0, Value.int .i64 0) :: (w.heap.size + 1, 1, Value.slice none 0 0) :: (w.heap.size, 0, Value.int .i64 N) :: (w.heap.size, 1, Value.slice s len c0) :: []) (by assumption))).mono ?_; rintro e w4 ⟨rfl, rfl⟩) | (go_at_call 76; refine (HN.out _ (keepEC1 (w := w) (x := s) (l := l) ((w.heap.size + 1, 0, Value.int .i64 0) :: (w.heap.size + 1, 1, Value.slice none 0 0) :: (w.heap.size, 0, Value.int .i64 N) :: (w.heap.size, 1, Value.slice s len c0) :: []) (by assumption))).mono ?_; rintro e w4 ⟨rfl, rfl⟩) | (go_at_call 49; refine (HF.out _ _).mono ?_; rintro e w4 ⟨rfl, rfl⟩)))
      all_goals
        have s5 := keepSt_st (w := w) (Z := EC a s l) ((w.heap.size + 1, 0, Value.int .i64 0) :: (w.heap.size + 1, 1, Value.slice none 0 0) :: (w.heap.size, 0, Value.int .i64 N) :: (w.heap.size, 1, Value.slice s len c0) :: []) (by assumption)
        go_wp2_with fail
        go_meet
        case rel => exact ⟨rfl, s5⟩
    case rest =>
    obtain ⟨rfl, s5⟩ := hcut
    clear s0 q0 HV HX HSg HSa HN HF hcl
    have q5 := s5.hold
    simp only [Holds, and_true] at q5
    go_wp2_with fail
    refine (HB.out _ s5.sent.2).mono ?_
    rintro e w6 ⟨g2, cp2, rfl, hg2, hG2, hb6⟩
    have s6 := s5.call hb6
    have q6 := s6.hold
    simp only [Holds, and_true] at q6
    clear s5 hb6 q5
    go_wp2_with fail
    refine (HG.out _ g2 cp2 hG2).mono ?_
    rintro e w7 ⟨g3, cp3, rfl, hg3, hG3, hb7⟩
    have s7 := s6.call hb7
    have q7 := s7.hold
    simp only [Holds, and_true] at q7
    clear s6 hb7 q6
    go_wp2_with fail
    refine (HT.out _ g3 cp3 hG3).mono ?_
    rintro e w8 ⟨hb8, h8⟩
    have s8 := s7.call hb8
    have q8 := s8.hold
    simp only [Holds, and_true] at q8
    have sz2 : w.heap.size + 1 < w7.heap.size := q7.1.2.1
    clear s7 hb8 q7
    rcases h8 with ⟨hno, rfl⟩ | ⟨hyes, g4, cp4, rfl, hg4, hR4⟩
    · go_wp2_with fail
      refine bodyPost_ret (v := .tuple #[(.agg #[.int .i64 0, .slice none 0 0]), .bool false, .nilIface]) (by simp [results, Tryd.results38, go_sem, q8]) rfl ⟨?_, .inr (.inl ⟨rfl, hno, rfl⟩)⟩
      repeat' (first | exact s8.bel | refine Below.setCell ?_ (by first | (simp; done) | (simp; omega)) _)
    · go_wp2_with fail
      refine bodyPost_ret (v := .tuple #[(.agg #[.int .i64 N, (.slice (some ⟨g4, 0, none⟩) len cp4)]), .bool true, .nilIface]) (by simp [results, Tryd.results38, go_sem, q8]) rfl ⟨?_, .inr (.inr ⟨rfl, hyes, g4, cp4, rfl, by omega, ?_⟩)⟩
      · repeat' (first | exact s8.bel | refine Below.setCell ?_ (by first | (simp; done) | (simp; omega)) _)
      · exact (hR4.other (by show w.heap.size + 1 ≠ g4; omega) _).other (by show w.heap.size + 1 ≠ g4; omega) _
  · rw [erV_ne h0] at HF
    have H0 := hide h0
    clear h0 hS hA hl her he1 he2 he3 he4 he5
    go_enter Tryd.func38, Tryd.ntmps38
    go_wp2_with fail
    go_cut [15] (fun t7 wx => t7 = .iface 169 (.pointer (some (a (er.toNat - 1)))) ∧ St w wx (EC a s l) ((w.heap.size + 1, 0, Value.int .i64 0) :: (w.heap.size + 1, 1, Value.slice none 0 0) :: (w.heap.size, 0, Value.int .i64 N) :: (w.heap.size, 1, Value.slice s len c0) :: []))
    case first =>
      (go_region_held3 (fun w' => w'.cell? ⟨w.heap.size + 1, 0, none⟩ = some (.int .i64 0) ∧ w'.cell? ⟨w.heap.size + 1, 1, none⟩ = some (.slice none 0 0) ∧ w'.cell? ⟨w.heap.size, 0, none⟩ = some (.int .i64 N) ∧ w'.cell? ⟨w.heap.size, 1, none⟩ = some (.slice s len c0) ∧ St w w' (EC a s l) ((w.heap.size + 1, 0, Value.int .i64 0) :: (w.heap.size + 1, 1, Value.slice none 0 0) :: (w.heap.size, 0, Value.int .i64 N) :: (w.heap.size, 1, Value.slice s len c0) :: [])) (first | (exact keepSt0 ((w.heap.size + 1, 0, Value.int .i64 0) :: (w.heap.size + 1, 1, Value.slice none 0 0) :: (w.heap.size, 0, Value.int .i64 N) :: (w.heap.size, 1, Value.slice s len c0) :: []) s0.drew) | (exact keepSt ((w.heap.size + 1, 0, Value.int .i64 0) :: (w.heap.size + 1, 1, Value.slice none 0 0) :: (w.heap.size, 0, Value.int .i64 N) :: (w.heap.size, 1, Value.slice s len c0) :: []) (by assumption) (by assumption)) | (exact keepSt ((w.heap.size + 1, 0, Value.int .i64 0) :: (w.heap.size + 1, 1, Value.slice none 0 0) :: (w.heap.size, 0, Value.int .i64 N) :: (w.heap.size, 1, Value.slice s len c0) :: []) ((Below.refl _ _).alloc (Nat.le_refl _) _) (by assumption)) | assumption) (first | (go_at_call 20; refine (HV.out _ (keepEC1 (w := w) (x := s) (l := l) ((w.heap.size + 1, 0, Value.int .i64 0) :: (w.heap.size + 1, 1, Value.slice none 0 0) :: (w.heap.size, 0, Value.int .i64 N) :: (w.heap.size, 1, Value.slice s len c0) :: []) (by assumption)) (keepEC2 (w := w) (a := a) ((w.heap.size + 1, 0, Value.int .i64 0) :: (w.heap.size + 1, 1, Value.slice none 0 0) :: (w.heap.size, 0, Value.int .i64 N) :: (w.heap.size, 1, Value.slice s len c0) :: []) (by assumption))).mono ?_; rintro e w2 ⟨rfl, hb2⟩; (first | (with_reducible have hpX := Sl2.below hpX hb2) | (with_reducible have hpX := Sl2.below (hpX.alloc _) hb2) | (with_reducible have hpX := Sl2.below (Sl2.drew hpX) hb2) | (with_reducible have hpX : Sl2 _ _ (Value.int .i64 x) _ := Sl2.below Sl2.here hb2) | (with_reducible have hpX : Sl2 _ _ (Value.int .i64 x) _ := Sl2.below (Sl2.drew Sl2.here) hb2) | (with_reducible have hpX : Sl2 _ _ (Value.int .i64 x) _ := Sl2.below (Sl2.alloc Sl2.here _) hb2) | (with_reducible have hpX : Sl2 _ _ (Value.int .i64 x) _ := Sl2.below (Sl2.drew (Sl2.alloc Sl2.here _)) hb2) | (with_reducible have hpX : Sl2 _ _ (Value.int .i64 x) _ := Sl2.below (Sl2.alloc (Sl2.drew Sl2.here) _) hb2) | skip); (first | (simp only [World.size_alloc] at hpX) | skip); (first | (with_reducible have hpS := Sl2.below hpS hb2) | (with_reducible have hpS := Sl2.below (hpS.alloc _) hb2) | (with_reducible have hpS := Sl2.below (Sl2.drew hpS) hb2) | (with_reducible have hpS : Sl2 _ _ (Value.int .i64 av) _ := Sl2.below Sl2.here hb2) | (with_reducible have hpS : Sl2 _ _ (Value.int .i64 av) _ := Sl2.below (Sl2.drew Sl2.here) hb2) | (with_reducible have hpS : Sl2 _ _ (Value.int .i64 av) _ := Sl2.below (Sl2.alloc Sl2.here _) hb2) | (with_reducible have hpS : Sl2 _ _ (Value.int .i64 av) _ := Sl2.below (Sl2.drew (Sl2.alloc Sl2.here _)) hb2) | (with_reducible have hpS : Sl2 _ _ (Value.int .i64 av) _ := Sl2.below (Sl2.alloc (Sl2.drew Sl2.here) _) hb2) | skip); (first | (simp only [World.size_alloc] at hpS) | skip)) | (go_at_call 71; have hpX2 := hpX; refine (HX.out _ _ (keepEC1 (w := w) (x := s) (l := l) ((w.heap.size + 1, 0, Value.int .i64 0) :: (w.heap.size + 1, 1, Value.slice none 0 0) :: (w.heap.size, 0, Value.int .i64 N) :: (w.heap.size, 1, Value.slice s len c0) :: []) (by assumption)) (by first | with_reducible exact hpX | with_reducible exact hpX.alloc _ | with_reducible exact hpX.drew | with_reducible exact (hpX.alloc _).drew | with_reducible exact hpX.drew.alloc _)).mono ?_; rintro e w3 ⟨rfl, hb3⟩; (first | (with_reducible have hpS := Sl2.below hpS hb3) | (with_reducible have hpS := Sl2.below (hpS.alloc _) hb3) | (with_reducible have hpS := Sl2.below (Sl2.drew hpS) hb3) | (with_reducible have hpS : Sl2 _ _ (Value.int .i64 av) _ := Sl2.below Sl2.here hb3) | (with_reducible have hpS : Sl2 _ _ (Value.int .i64 av) _ := Sl2.below (Sl2.drew Sl2.here) hb3) | (with_reducible have hpS : Sl2 _ _ (Value.int .i64 av) _ := Sl2.below (Sl2.alloc Sl2.here _) hb3) | (with_reducible have hpS : Sl2 _ _ (Value.int .i64 av) _ := Sl2.below (Sl2.drew (Sl2.alloc Sl2.here _)) hb3) | (with_reducible have hpS : Sl2 _ _ (Value.int .i64 av) _ := Sl2.below (Sl2.alloc (Sl2.drew Sl2.here) _) hb3) | skip); (first | (simp only [World.size_alloc] at hpS) | skip)) | (go_at_call 71; refine (HX.out _ _ (keepEC1 (w := w) (x := s) (l := l) ((w.heap.size + 1, 0, Value.int .i64 0) :: (w.heap.size + 1, 1, Value.slice none 0 0) :: (w.heap.size, 0, Value.int .i64 N) :: (w.heap.size, 1, Value.slice s len c0) :: []) (by assumption)) (by first | with_reducible exact Sl2.here' (by simp) | with_reducible exact Sl2.drew (Sl2.here' (by simp)) | with_reducible exact Sl2.alloc (Sl2.here' (by simp)) _ | with_reducible exact Sl2.drew (Sl2.alloc (Sl2.here' (by simp)) _) | with_reducible exact Sl2.alloc (Sl2.drew (Sl2.here' (by simp))) _)).mono ?_; rintro e w3 ⟨rfl, hb3⟩; (first | (with_reducible have hpS := Sl2.below hpS hb3) | (with_reducible have hpS := Sl2.below (hpS.alloc _) hb3) | (with_reducible have hpS := Sl2.below (Sl2.drew hpS) hb3) | (with_reducible have hpS : Sl2 _ _ (Value.int .i64 av) _ := Sl2.below Sl2.here hb3) | (with_reducible have hpS : Sl2 _ _ (Value.int .i64 av) _ := Sl2.below (Sl2.drew Sl2.here) hb3) | (with_reducible have hpS : Sl2 _ _ (Value.int .i64 av) _ := Sl2.below (Sl2.alloc Sl2.here _) hb3) | (with_reducible have hpS : Sl2 _ _ (Value.int .i64 av) _ := Sl2.below (Sl2.drew (Sl2.alloc Sl2.here _)) hb3) | (with_reducible have hpS : Sl2 _ _ (Value.int .i64 av) _ := Sl2.below (Sl2.alloc (Sl2.drew Sl2.here) _) hb3) | skip); (first | (simp only [World.size_alloc] at hpS) | skip)) | (go_at_call 75; have hpS2 := hpS; refine (HSg.out _ _ (keepEC1 (w := w) (x := s) (l := l) ((w.heap.size + 1, 0, Value.int .i64 0) :: (w.heap.size + 1, 1, Value.slice none 0 0) :: (w.heap.size, 0, Value.int .i64 N) :: (w.heap.size, 1, Value.slice s len c0) :: []) (by assumption)) (by first | with_reducible exact hpS | with_reducible exact hpS.alloc _ | with_reducible exact hpS.drew | with_reducible exact (hpS.alloc _).drew | with_reducible exact hpS.drew.alloc _)).mono ?_; rintro e w4 ⟨rfl, hb4⟩) | (go_at_call 75; refine (HSg.out _ _ (keepEC1 (w := w) (x := s) (l := l) ((w.heap.size + 1, 0, Value.int .i64 0) :: (w.heap.size + 1, 1, Value.slice none 0 0) :: (w.heap.size, 0, Value.int .i64 N) :: (w.heap.size, 1, Value.slice s len c0) :: []) (by assumption)) (by first | with_reducible exact Sl2.here' (by simp) | with_reducible exact Sl2.drew (Sl2.here' (by simp)) | with_reducible exact Sl2.alloc (Sl2.here' (by simp)) _ | with_reducible exact Sl2.drew (Sl2.alloc (Sl2.here' (by simp)) _) | with_reducible exact Sl2.alloc (Sl2.drew (Sl2.here' (by simp))) _)).mono ?_; rintro e w4 ⟨rfl, hb4⟩) | (go_at_call 79; refine (HSa.out _ (keepEC1 (w := w) (x := s) (l := l) ((w.heap.size + 1, 0, Value.int .i64 0) :: (w.heap.size + 1, 1, Value.slice none 0 0) :: (w.heap.size, 0, Value.int .i64 N) :: (w.heap.size, 1, Value.slice s len c0) :: []) (by assumption))).mono ?_; rintro e w4 ⟨rfl, rfl⟩) | (go_at_call 76; refine (HN.out _ (keepEC1 (w := w) (x := s) (l := l) ((w.heap.size + 1, 0, Value.int .i64 0) :: (w.heap.size + 1, 1, Value.slice none 0 0) :: (w.heap.size, 0, Value.int .i64 N) :: (w.heap.size, 1, Value.slice s len c0) :: []) (by assumption))).mono ?_; rintro e w4 ⟨rfl, rfl⟩) | (go_at_call 49; refine (HF.out _ _).mono ?_; rintro e w4 ⟨rfl, rfl⟩)))
      all_goals
        have s5 := keepSt_st (w := w) (Z := EC a s l) ((w.heap.size + 1, 0, Value.int .i64 0) :: (w.heap.size + 1, 1, Value.slice none 0 0) :: (w.heap.size, 0, Value.int .i64 N) :: (w.heap.size, 1, Value.slice s len c0) :: []) (by assumption)
        go_wp2_with fail
        go_meet
        case rel => exact ⟨rfl, s5⟩
    case rest =>
    obtain ⟨rfl, s5⟩ := hcut
    have q5 := s5.hold
    simp only [Holds, and_true] at q5
    clear s0 q0 HV HX HSg HSa HN HF hcl
    go_wp2_with fail
    refine bodyPost_ret (v := .tuple #[(.agg #[.int .i64 0, .slice none 0 0]), .bool false, .iface 169 (.pointer (some (a (er.toNat - 1))))]) (by simp [results, Tryd.results38, go_sem, q5]) rfl ⟨?_, .inl ⟨H0.out, by rw [erV_ne H0.out]⟩⟩
    repeat' (first | exact s5.bel | refine Below.setCell ?_ (by first | (simp; done) | (simp; omega)) _)

end Go.Proofs.YtofjjaabgfmnpaaDoor
