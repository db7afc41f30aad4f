/- Zones: a variable is forgotten, or becomes another one and a number. -/
import Derived.Test.YtkngedinomngbaaDoorYw
import Derived.Test.YtkngedinomngbaaDoorYl
namespace Go.Proofs.YtkngedinomngbaaDoor
open Go.RowKit
set_option linter.unusedVariables false

/-- What a change makes of a square. -/
def Chg (fn : Nat) (caps : Array Value) (w : World) (n len : Nat) (d d' : Mat) : Prop :=
  ∀ (W : World) (g cp : Nat), Below w.heap.size w W → GrI W g n (encM d) → Calls Tryd.prog fn (#[(.agg #[.int .i64 n, (.slice (some ⟨g, 0, none⟩) len cp)])] ++ caps) W fun e w' => GrPost W n len (encM d') e w'

set_option maxRecDepth 20000 in
set_option maxHeartbeats 4000000 in
theorem tellChanged_any (fn : Nat) (caps : Array Value) (N : Int) (n b off c len : Nat) (l : List Ce) (d' : Mat) (w : World) (hR : RowC w b off l) (hl : Hid (len = l.length)) (hll : Hid (len = n * n)) (hn : 1 ≤ n ∧ n ≤ 5) (hN : N + 1 = n) (hS : Hid (Sz n 1099511627776 (matOf n l))) (hE : Hid (Enters fn)) (hC : Hid (Chg fn caps w n len (fw (matOf n l) n) d')) :
    Calls Tryd.prog 68 #[(.agg #[.int .i64 N, (.slice (some ⟨b, off, none⟩) len c)]), .func (.func fn) #[] caps] w fun e w' => ZaPost w N len (NoNeg n (fw (matOf n l) n)) (tellL n d') e w' := by
  have hE' : ∀ (args : Array Value) (W : World), (callFunc fn args).run Tryd.prog W = .ok (.enter fn args) W := hE.out
  have s0 := ((St.startR hR).box2 30 (.int .i64 N) (.slice (some ⟨b, off, none⟩) len c)).box2 30 (.int .i64 0) (.slice none 0 0)
  simp only [World.size_alloc] at s0
  have HB : Hid (∀ W : World, RowC W b off l → Calls Tryd.prog 47 #[(.agg #[.int .i64 N, (.slice (some ⟨b, off, none⟩) len c)])] W fun e w' => GrPost W n len (encM (matOf n l)) e w') := fun W h => boundsOf_any N n b off c len l W h hl hll hn hN
  have HC : Hid (∀ (W : World) (g cp : Nat), GrI W g n (encM (matOf n l)) → Calls Tryd.prog 62 #[(.agg #[.int .i64 n, (.slice (some ⟨g, 0, none⟩) len cp)])] W fun e w' => ClPost W n len (matOf n l) e w') := fun W g cp h => closed_any n g cp len 1099511627776 _ W h hll (by omega) hS (by omega)
  have HT : Hid (∀ (W : World) (g1 cp1 : Nat), GrI W g1 n (encM d') → Calls Tryd.prog 63 #[(.agg #[.int .i64 n, (.slice (some ⟨g1, 0, none⟩) len cp1)])] W fun e w' => TellPost W N len (tellL n d') e w') := fun W g1 cp1 h => by
    have := tellz_any N n g1 cp1 len _ W h hll hn hN
    rw [hll.out, gridL_enc] at this
    rw [hll.out]
    exact this
  obtain ⟨L, hL⟩ : ∃ L, L = tellL n d' := ⟨_, rfl⟩
  obtain ⟨A, hA⟩ : ∃ A, A = matOf n l := ⟨_, rfl⟩
  have HCh : Hid (∀ (W : World) (g cp : Nat), Below w.heap.size w W → GrI W g n (encM (fw A n)) → Calls Tryd.prog fn (#[(.agg #[.int .i64 n, (.slice (some ⟨g, 0, none⟩) len cp)])] ++ caps) W fun e w' => GrPost W n len (encM d') e w') := by rw [hA]; exact hC.out
  rw [← hL] at HT ⊢
  rw [← hA] at HB HC ⊢
  clear hL hA hR hl hll hS hE hC
  go_enter Tryd.func68, Tryd.ntmps68
  go_wp2_with fail
  refine (HB.out _ s0.sent).mono ?_
  rintro e w1 ⟨g1, cp1, rfl, hg1, hG1, hb1⟩
  (have s1 := s0.call hb1; have q1 := s1.hold; simp only [Holds, and_true] at q1)
  clear s0 hb1
  go_wp2_with fail
  refine (HC.out _ g1 cp1 hG1).mono ?_
  rintro e w2 ⟨hb2, h2⟩
  (have s2 := s1.call hb2; have q2 := s2.hold; simp only [Holds, and_true] at q2)
  clear s1 q1 hb2
  have sz2 : w.heap.size + 1 < w2.heap.size := q2.1.2.1
  rcases h2 with ⟨hno, rfl⟩ | ⟨hyes, g2, cp2, rfl, hg2, hG2⟩
  · go_wp2_with fail
    refine bodyPost_ret (v := .tuple #[(.agg #[.int .i64 0, .slice none 0 0]), .bool false, .nilIface]) (by simp [results, Tryd.results68, go_sem, q2]) rfl ⟨?_, .inl ⟨hno, rfl⟩⟩
    repeat' (first | exact s2.bel | refine Below.setCell ?_ (by first | (simp; done) | (simp; omega)) _ | refine Below.alloc ?_ (by first | (simp; done) | (simp; omega)) _)
  · have s3 := s2.box2 82 (.int .i64 n) (.slice (some ⟨g2, 0, none⟩) len cp2)
    have hG3 := hG2.below ((Below.refl _ _).alloc (Nat.le_refl _) (.cells #[.int .i64 n, .slice (some ⟨g2, 0, none⟩) len cp2] 82))
    go_wp2_with fail
    refine (HCh.out _ g2 cp2 s3.bel hG3).mono ?_
    rintro e w4 ⟨g4, cp4, rfl, hg4, hG4, hb4⟩
    (have s4 := s3.call hb4; have q4 := s4.hold; simp only [Holds, and_true] at q4)
    clear s3 hb4 s2 q2
    go_wp2_with fail
    refine (HT.out _ g4 cp4 hG4).mono ?_
    rintro e w5 ⟨g5, cp5, rfl, hg5, hR5, hb5⟩
    (have s5 := s4.call hb5; have q5 := s5.hold; simp only [Holds, and_true] at q5)
    have sz4 : w.heap.size + 1 < w4.heap.size := q4.2.2.1.2.1
    clear s4 hb5 q4
    go_wp2_with fail
    refine bodyPost_ret (v := .tuple #[(.agg #[.int .i64 N, (.slice (some ⟨g5, 0, none⟩) len cp5)]), .bool true, .nilIface]) (by simp [results, Tryd.results68, go_sem, q5]) rfl ⟨?_, .inr ⟨hyes, g5, cp5, rfl, by omega, ?_⟩⟩
    · repeat' (first | exact s5.bel | refine Below.setCell ?_ (by first | (simp; done) | (simp; omega)) _)
    · exact (hR5.other (by show w.heap.size + 1 ≠ g5; omega) _).other (by show w.heap.size + 1 ≠ g5; omega) _

theorem enters_fo : Enters 69 := enters_of Tryd.func69 (by kernel_rfl) rfl
set_option maxRecDepth 20000 in
set_option maxHeartbeats 4000000 in
theorem chg_fo (n len x bx : Nat) (d : Mat) (w : World) (hx : w.cell? ⟨bx, 0, none⟩ = some (.int .i64 x)) (hll : Hid (len = n * n)) (hn : 1 ≤ n ∧ n ≤ 5) : Chg 69 #[.pointer (some ⟨bx, 0, none⟩)] w n len d (woM d x) := by
  intro W g cp hb hG
  have hxW : W.cell? ⟨bx, 0, none⟩ = some (.int .i64 x) := (hb.cell (World.block_lt_of_cell? w _ hx)).trans hx
  have hxl := World.block_lt_of_cell? W _ hxW
  have s0 := ((St.startG hG).box2 82 (.int .i64 n) (.slice (some ⟨g, 0, none⟩) len cp)).box2 82 (.int .i64 0) (.slice none 0 0)
  simp only [World.size_alloc] at s0
  have HW : Hid (∀ W : World, GrI W g n (encM d) → Calls Tryd.prog 70 #[(.agg #[.int .i64 n, (.slice (some ⟨g, 0, none⟩) len cp)]), .int .i64 x] W fun e w' => GrPost W n len (encM (woM d x)) e w') := fun W h => (without_any n g cp len x _ W h hll hn).mono fun _ _ k => k.congr fun i j _ _ => wo_enc d x i j
  obtain ⟨f, hf⟩ : ∃ f, f = encM (woM d x) := ⟨_, rfl⟩
  show Calls _ _ #[(.agg #[.int .i64 n, (.slice (some ⟨g, 0, none⟩) len cp)]), .pointer (some ⟨bx, 0, none⟩)] _ _
  rw [← hf] at HW ⊢
  clear hf hll hb hx hG
  go_enter Tryd.func69, Tryd.ntmps69
  go_wp2_with fail
  refine (HW.out _ s0.sent).mono ?_
  rintro e w1 ⟨g1, cp1, rfl, hg1, hG1, hb1⟩
  (have s1 := s0.call hb1; have q1 := s1.hold; simp only [Holds, and_true] at q1)
  simp only [World.size_alloc] at hg1
  clear s0 hb1
  go_wp2_with fail
  refine bodyPost_ret (v := (.agg #[.int .i64 n, (.slice (some ⟨g1, 0, none⟩) len cp1)])) (by simp [results, Tryd.results69, go_sem, q1]) rfl ⟨g1, cp1, rfl, by omega, ?_, ?_⟩
  · exact (hG1.other (by show W.heap.size + 1 ≠ g1; omega) _).other (by show W.heap.size + 1 ≠ g1; omega) _
  · iterate 2 refine Below.setCell ?_ (by first | (simp; done) | (simp; omega)) _
    exact s1.bel
theorem enters_as : Enters 72 := enters_of Tryd.func72 (by kernel_rfl) rfl
set_option maxRecDepth 20000 in
set_option maxHeartbeats 4000000 in
theorem chg_as (n len x y bx by_ bc : Nat) (c : Int) (d : Mat) (w : World) (hx : w.cell? ⟨bx, 0, none⟩ = some (.int .i64 x)) (hy : w.cell? ⟨by_, 0, none⟩ = some (.int .i64 y)) (hc : w.cell? ⟨bc, 0, none⟩ = some (.int .i64 c)) (hll : Hid (len = n * n)) (hn : 1 ≤ n ∧ n ≤ 5) (hyn : y < n) (hcc : Hid (c.natAbs ≤ 1099511627776)) (hS : Hid (Sz n 35184372088832 d)) :
    Chg 72 #[.pointer (some ⟨bx, 0, none⟩), .pointer (some ⟨by_, 0, none⟩), .pointer (some ⟨bc, 0, none⟩)] w n len d (mvM d x y c) := by
  intro W g cp hb hG
  have hxW : W.cell? ⟨bx, 0, none⟩ = some (.int .i64 x) := (hb.cell (World.block_lt_of_cell? w _ hx)).trans hx
  have hyW : W.cell? ⟨by_, 0, none⟩ = some (.int .i64 y) := (hb.cell (World.block_lt_of_cell? w _ hy)).trans hy
  have hcW : W.cell? ⟨bc, 0, none⟩ = some (.int .i64 c) := (hb.cell (World.block_lt_of_cell? w _ hc)).trans hc
  have hxl := World.block_lt_of_cell? W _ hxW
  have hyl := World.block_lt_of_cell? W _ hyW
  have hcl := World.block_lt_of_cell? W _ hcW
  have s0 := ((St.startG hG).box2 82 (.int .i64 n) (.slice (some ⟨g, 0, none⟩) len cp)).box2 82 (.int .i64 0) (.slice none 0 0)
  simp only [World.size_alloc] at s0
  have HW : Hid (∀ W : World, GrI W g n (encM d) → Calls Tryd.prog 73 #[(.agg #[.int .i64 n, (.slice (some ⟨g, 0, none⟩) len cp)]), .int .i64 x, .int .i64 y, .int .i64 c] W fun e w' => GrPost W n len (encM (mvM d x y c)) e w') := fun W h => (moved_any n g cp len x y c _ W h hll hn hyn hcc (fun i j hi hj => mv_ok hS.out (by omega) hcc.out hyn hi hj)).mono fun _ _ k => k.congr fun i j hi hj => mv_enc hS.out (by omega) hcc.out hyn hi hj
  obtain ⟨f, hf⟩ : ∃ f, f = encM (mvM d x y c) := ⟨_, rfl⟩
  show Calls _ _ #[(.agg #[.int .i64 n, (.slice (some ⟨g, 0, none⟩) len cp)]), .pointer (some ⟨bx, 0, none⟩), .pointer (some ⟨by_, 0, none⟩), .pointer (some ⟨bc, 0, none⟩)] _ _
  rw [← hf] at HW ⊢
  clear hf hll hb hx hy hc hG hS hcc
  go_enter Tryd.func72, Tryd.ntmps72
  go_wp2_with fail
  refine (HW.out _ s0.sent).mono ?_
  rintro e w1 ⟨g1, cp1, rfl, hg1, hG1, hb1⟩
  (have s1 := s0.call hb1; have q1 := s1.hold; simp only [Holds, and_true] at q1)
  simp only [World.size_alloc] at hg1
  clear s0 hb1
  go_wp2_with fail
  refine bodyPost_ret (v := (.agg #[.int .i64 n, (.slice (some ⟨g1, 0, none⟩) len cp1)])) (by simp [results, Tryd.results72, go_sem, q1]) rfl ⟨g1, cp1, rfl, by omega, ?_, ?_⟩
  · exact (hG1.other (by show W.heap.size + 1 ≠ g1; omega) _).other (by show W.heap.size + 1 ≠ g1; omega) _
  · iterate 2 refine Below.setCell ?_ (by first | (simp; done) | (simp; omega)) _
    exact s1.bel
end Go.Proofs.YtkngedinomngbaaDoor

/- Zones: zone.Forget and zone.Assign. -/
namespace Go.Proofs.YtkngedinomngbaaDoor
open Go.RowKit
set_option linter.unusedVariables false

def foErr (N : Int) (l : List Ce) (x : Int) : Int := firstE [zErr N l, varErr N 1 x]
def asErr (N : Int) (l : List Ce) (x y c : Int) : Int := firstE [zErr N l, varErr N 1 x, varErr N 0 y, numErr c]

set_option maxRecDepth 20000 in
set_option maxHeartbeats 4000000 in
theorem forget_any (N x : Int) (s : Option Addr) (c0 len : Nat) (l : List Ce) (a : Nat → Addr) (w : World) (hS : ErrS w a) (hA : CsAt w s l) (hl : Hid (len = l.length)) (hlen : len ≤ 1000) :
    Calls Tryd.prog 33 #[(.agg #[.int .i64 N, (.slice s len c0)]), .int .i64 x] w fun e w' =>
      ZrPost w a (foErr N l x) N len (NoNeg (nOf N) (fw (matOf (nOf N) l) (nOf N))) (tellL (nOf N) (woM (fw (matOf (nOf N) l) (nOf N)) x.toNat)) e w' := by
  have s0 := (((St.startEC hS hA).box2 30 (.int .i64 N) (.slice s len c0)).box1 3 (.int .i64 x)).box2 30 (.int .i64 0) (.slice none 0 0)
  simp only [World.size_alloc] at s0
  have q0 := s0.hold
  simp only [Holds, and_true] at q0
  obtain ⟨e1, he1⟩ : ∃ e, e = zErr N l := ⟨_, rfl⟩
  obtain ⟨e2, he2⟩ : ∃ e, e = varErr N 1 x := ⟨_, rfl⟩
  obtain ⟨er, her⟩ : ∃ e, e = foErr N l x := ⟨_, rfl⟩
  have HV : Hid (∀ W : World, ErrS W a → CsAt W s l → Calls Tryd.prog 19 #[(.agg #[.int .i64 N, (.slice s len c0)])] W fun e w' => e = .returned (erV a e1) ∧ Below W.heap.size W w') := fun W h1 h2 => by rw [he1]; exact valid_any N s c0 len l a W h1 h2 hl hlen
  have HX : Hid (∀ (W : World), ErrS W a → Calls Tryd.prog 67 #[.int .i64 x, .int .i64 1, .int .i64 N] W fun e w' => e = .returned (erV a e2) ∧ Below W.heap.size W w') := fun W h => by rw [he2]; exact varErr_any N 1 x a W h
  have HF : Hid (∀ (W : World) (t : TypeId), Calls Tryd.prog 48 #[.slice (some ⟨W.heap.size, 0, none⟩) 2 2] (W.alloc (.cells #[erV a e1, erV a e2] t)) fun e w' => e = .returned (erV a er) ∧ w' = (W.alloc (.cells #[erV a e1, erV a e2] t))) := fun W t => by
    rw [her]; unfold foErr; rw [← he1, ← he2]; exact first2 a _ _ t W
  have hcl : ∀ x, (erV a x).cells = #[erV a x] := erV_cells a
  unfold Value.cells at hcl
  rw [← her]
  by_cases h0 : er = 0
  · have h1 : firstE [zErr N l, varErr N 1 x] = 0 := by have := her; unfold foErr at this; rw [← this]; exact h0
    rw [firstE_0, firstE_0] at h1
    obtain ⟨hz, hv1, -⟩ := h1
    obtain ⟨z1, z2, z3, z4, z5, z6⟩ := zErr_0 hz
    obtain ⟨v1, v2⟩ := varErr_0 hv1
    obtain ⟨n, hn⟩ : ∃ n, n = nOf N := ⟨_, rfl⟩
    rw [← hn] at z1 z2 z3 z4 ⊢
    have hpos : 1 ≤ n * n := Nat.mul_le_mul z2 z2
    have hll : Hid (len = n * n) := by show _ = _; rw [hl.out]; exact z4
    obtain ⟨x', hx'⟩ : ∃ k : Nat, (k : Int) = x := ⟨x.toNat, by omega⟩
    have ex : x.toNat = x' := by omega
    rw [ex]
    subst hx'
    have HT : Hid (∀ W : World, CsAt W s l → W.cell? ⟨w.heap.size + 1, 0, none⟩ = some (.int .i64 x') → Calls Tryd.prog 68 #[(.agg #[.int .i64 N, (.slice s len c0)]), .func (.func 69) #[] #[.pointer (some ⟨w.heap.size + 1, 0, none⟩)]] W fun e w' => ZaPost W N len (NoNeg n (fw (matOf n l) n)) (tellL n (woM (fw (matOf n l) n) x')) e w') := by
      intro W h hx
      obtain ⟨b, off, rfl, hR⟩ := h.row (by omega)
      exact tellChanged_any _ _ N n b off c0 len l _ W hR hl hll ⟨z2, z3⟩ z1 (sz_mat z4 z6) enters_fo (chg_fo n len x' (w.heap.size + 1) _ W hx hll ⟨z2, z3⟩)
    obtain ⟨L, hL⟩ : ∃ L, L = tellL n (woM (fw (matOf n l) n) x') := ⟨_, rfl⟩
    obtain ⟨ok, hok⟩ : ∃ ok, ok = NoNeg n (fw (matOf n l) n) := ⟨_, rfl⟩
    rw [← hL, ← hok] at HT ⊢
    rw [h0] at HF ⊢
    rw [erV_0] at HF
    clear hL hok hS hA hl hll z1 z2 z3 z4 z5 z6 hz hn hpos h0 hv1 v1 v2 ex her he1 he2
    go_enter Tryd.func33, Tryd.ntmps33
    go_wp2_with fail
    (go_region_held3 (fun w' => w'.cell? ⟨w.heap.size + 1 + 1, 0, none⟩ = some (.int .i64 0) ∧ w'.cell? ⟨w.heap.size + 1 + 1, 1, none⟩ = some (.slice none 0 0) ∧ w'.cell? ⟨w.heap.size + 1, 0, none⟩ = some (.int .i64 x') ∧ w'.cell? ⟨w.heap.size, 0, none⟩ = some (.int .i64 N) ∧ w'.cell? ⟨w.heap.size, 1, none⟩ = some (.slice s len c0) ∧ St w w' (EC a s l) ((w.heap.size + 1 + 1, 0, Value.int .i64 0) :: (w.heap.size + 1 + 1, 1, Value.slice none 0 0) :: (w.heap.size + 1, 0, Value.int .i64 x') :: (w.heap.size, 0, Value.int .i64 N) :: (w.heap.size, 1, Value.slice s len c0) :: [])) (first | (exact keepSt0 ((w.heap.size + 1 + 1, 0, Value.int .i64 0) :: (w.heap.size + 1 + 1, 1, Value.slice none 0 0) :: (w.heap.size + 1, 0, Value.int .i64 x') :: (w.heap.size, 0, Value.int .i64 N) :: (w.heap.size, 1, Value.slice s len c0) :: []) s0.drew) | (exact keepSt ((w.heap.size + 1 + 1, 0, Value.int .i64 0) :: (w.heap.size + 1 + 1, 1, Value.slice none 0 0) :: (w.heap.size + 1, 0, Value.int .i64 x') :: (w.heap.size, 0, Value.int .i64 N) :: (w.heap.size, 1, Value.slice s len c0) :: []) (by assumption) (by assumption)) | (exact keepSt ((w.heap.size + 1 + 1, 0, Value.int .i64 0) :: (w.heap.size + 1 + 1, 1, Value.slice none 0 0) :: (w.heap.size + 1, 0, Value.int .i64 x') :: (w.heap.size, 0, Value.int .i64 N) :: (w.heap.size, 1, Value.slice s len c0) :: []) ((Below.refl _ _).alloc (Nat.le_refl _) _) (by assumption)) | assumption) (first | (go_at_call 19; refine (HV.out _ (keepEC1 (w := w) (x := s) (l := l) ((w.heap.size + 1 + 1, 0, Value.int .i64 0) :: (w.heap.size + 1 + 1, 1, Value.slice none 0 0) :: (w.heap.size + 1, 0, Value.int .i64 x') :: (w.heap.size, 0, Value.int .i64 N) :: (w.heap.size, 1, Value.slice s len c0) :: []) (by assumption)) (keepEC2 (w := w) (a := a) ((w.heap.size + 1 + 1, 0, Value.int .i64 0) :: (w.heap.size + 1 + 1, 1, Value.slice none 0 0) :: (w.heap.size + 1, 0, Value.int .i64 x') :: (w.heap.size, 0, Value.int .i64 N) :: (w.heap.size, 1, Value.slice s len c0) :: []) (by assumption))).mono ?_; rintro e w2 ⟨rfl, hb2⟩) | (go_at_call 67; refine (HX.out _ (keepEC1 (w := w) (x := s) (l := l) ((w.heap.size + 1 + 1, 0, Value.int .i64 0) :: (w.heap.size + 1 + 1, 1, Value.slice none 0 0) :: (w.heap.size + 1, 0, Value.int .i64 x') :: (w.heap.size, 0, Value.int .i64 N) :: (w.heap.size, 1, Value.slice s len c0) :: []) (by assumption))).mono ?_; rintro e w2 ⟨rfl, hb2⟩) | (go_at_call 48; refine (HF.out _ _).mono ?_; rintro e w2 ⟨rfl, rfl⟩)); have s5 := keepSt_st (w := w) (W := w2.alloc (.cells #[erV a e1, erV a e2] 32)) (Z := EC a s l) ((w.heap.size + 1 + 1, 0, Value.int .i64 0) :: (w.heap.size + 1 + 1, 1, Value.slice none 0 0) :: (w.heap.size + 1, 0, Value.int .i64 x') :: (w.heap.size, 0, Value.int .i64 N) :: (w.heap.size, 1, Value.slice s len c0) :: []) (by assumption); obtain ⟨W5, hW5⟩ : ∃ W, W = w2.alloc (.cells #[erV a e1, erV a e2] 32) := ⟨_, rfl⟩; rw [← hW5] at s5 ⊢; clear hW5 s0 q0 HV HX HF hcl; have q5 := s5.hold; simp only [Holds, and_true] at q5)
    go_wp2_with fail
    refine (HT.out _ s5.sent.2 q5.2.2.1.1).mono ?_
    rintro e w8 ⟨hb8, h8⟩
    have s8 := s5.call hb8
    have q8 := s8.hold
    simp only [Holds, and_true] at q8
    have sz2 : w.heap.size + 1 + 1 < W5.heap.size := q5.1.2.1
    clear s5 hb8 q5
    rcases h8 with ⟨hno, rfl⟩ | ⟨hyes, g4, cp4, rfl, hg4, hR4⟩
    · go_wp2_with fail
      refine bodyPost_ret (v := .tuple #[(.agg #[.int .i64 0, .slice none 0 0]), .bool false, .nilIface]) (by simp [results, Tryd.results33, go_sem, q8]) rfl ⟨?_, .inr (.inl ⟨rfl, hno, rfl⟩)⟩
      repeat' (first | exact s8.bel | refine Below.setCell ?_ (by first | (simp; done) | (simp; omega)) _)
    · go_wp2_with fail
      refine bodyPost_ret (v := .tuple #[(.agg #[.int .i64 N, (.slice (some ⟨g4, 0, none⟩) len cp4)]), .bool true, .nilIface]) (by simp [results, Tryd.results33, go_sem, q8]) rfl ⟨?_, .inr (.inr ⟨rfl, hyes, g4, cp4, rfl, by omega, ?_⟩)⟩
      · repeat' (first | exact s8.bel | refine Below.setCell ?_ (by first | (simp; done) | (simp; omega)) _)
      · exact (hR4.other (by show w.heap.size + 1 + 1 ≠ g4; omega) _).other (by show w.heap.size + 1 + 1 ≠ g4; omega) _
  · rw [erV_ne h0] at HF
    have H0 := hide h0
    clear h0 hS hA hl her he1 he2
    go_enter Tryd.func33, Tryd.ntmps33
    go_wp2_with fail
    (go_region_held3 (fun w' => w'.cell? ⟨w.heap.size + 1 + 1, 0, none⟩ = some (.int .i64 0) ∧ w'.cell? ⟨w.heap.size + 1 + 1, 1, none⟩ = some (.slice none 0 0) ∧ w'.cell? ⟨w.heap.size + 1, 0, none⟩ = some (.int .i64 x) ∧ w'.cell? ⟨w.heap.size, 0, none⟩ = some (.int .i64 N) ∧ w'.cell? ⟨w.heap.size, 1, none⟩ = some (.slice s len c0) ∧ St w w' (EC a s l) ((w.heap.size + 1 + 1, 0, Value.int .i64 0) :: (w.heap.size + 1 + 1, 1, Value.slice none 0 0) :: (w.heap.size + 1, 0, Value.int .i64 x) :: (w.heap.size, 0, Value.int .i64 N) :: (w.heap.size, 1, Value.slice s len c0) :: [])) (first | (exact keepSt0 ((w.heap.size + 1 + 1, 0, Value.int .i64 0) :: (w.heap.size + 1 + 1, 1, Value.slice none 0 0) :: (w.heap.size + 1, 0, Value.int .i64 x) :: (w.heap.size, 0, Value.int .i64 N) :: (w.heap.size, 1, Value.slice s len c0) :: []) s0.drew) | (exact keepSt ((w.heap.size + 1 + 1, 0, Value.int .i64 0) :: (w.heap.size + 1 + 1, 1, Value.slice none 0 0) :: (w.heap.size + 1, 0, Value.int .i64 x) :: (w.heap.size, 0, Value.int .i64 N) :: (w.heap.size, 1, Value.slice s len c0) :: []) (by assumption) (by assumption)) | (exact keepSt ((w.heap.size + 1 + 1, 0, Value.int .i64 0) :: (w.heap.size + 1 + 1, 1, Value.slice none 0 0) :: (w.heap.size + 1, 0, Value.int .i64 x) :: (w.heap.size, 0, Value.int .i64 N) :: (w.heap.size, 1, Value.slice s len c0) :: []) ((Below.refl _ _).alloc (Nat.le_refl _) _) (by assumption)) | assumption) (first | (go_at_call 19; refine (HV.out _ (keepEC1 (w := w) (x := s) (l := l) ((w.heap.size + 1 + 1, 0, Value.int .i64 0) :: (w.heap.size + 1 + 1, 1, Value.slice none 0 0) :: (w.heap.size + 1, 0, Value.int .i64 x) :: (w.heap.size, 0, Value.int .i64 N) :: (w.heap.size, 1, Value.slice s len c0) :: []) (by assumption)) (keepEC2 (w := w) (a := a) ((w.heap.size + 1 + 1, 0, Value.int .i64 0) :: (w.heap.size + 1 + 1, 1, Value.slice none 0 0) :: (w.heap.size + 1, 0, Value.int .i64 x) :: (w.heap.size, 0, Value.int .i64 N) :: (w.heap.size, 1, Value.slice s len c0) :: []) (by assumption))).mono ?_; rintro e w2 ⟨rfl, hb2⟩) | (go_at_call 67; refine (HX.out _ (keepEC1 (w := w) (x := s) (l := l) ((w.heap.size + 1 + 1, 0, Value.int .i64 0) :: (w.heap.size + 1 + 1, 1, Value.slice none 0 0) :: (w.heap.size + 1, 0, Value.int .i64 x) :: (w.heap.size, 0, Value.int .i64 N) :: (w.heap.size, 1, Value.slice s len c0) :: []) (by assumption))).mono ?_; rintro e w2 ⟨rfl, hb2⟩) | (go_at_call 48; refine (HF.out _ _).mono ?_; rintro e w2 ⟨rfl, rfl⟩)); have s5 := keepSt_st (w := w) (W := w2.alloc (.cells #[erV a e1, erV a e2] 32)) (Z := EC a s l) ((w.heap.size + 1 + 1, 0, Value.int .i64 0) :: (w.heap.size + 1 + 1, 1, Value.slice none 0 0) :: (w.heap.size + 1, 0, Value.int .i64 x) :: (w.heap.size, 0, Value.int .i64 N) :: (w.heap.size, 1, Value.slice s len c0) :: []) (by assumption); obtain ⟨W5, hW5⟩ : ∃ W, W = w2.alloc (.cells #[erV a e1, erV a e2] 32) := ⟨_, rfl⟩; rw [← hW5] at s5 ⊢; clear hW5 s0 q0 HV HX HF hcl; have q5 := s5.hold; simp only [Holds, and_true] at q5)
    go_wp2_with fail
    refine bodyPost_ret (v := .tuple #[(.agg #[.int .i64 0, .slice none 0 0]), .bool false, .iface 160 (.pointer (some (a (er.toNat - 1))))]) (by simp [results, Tryd.results33, go_sem, q5]) rfl ⟨?_, .inl ⟨H0.out, by rw [erV_ne H0.out]⟩⟩
    repeat' (first | exact s5.bel | refine Below.setCell ?_ (by first | (simp; done) | (simp; omega)) _)
end Go.Proofs.YtkngedinomngbaaDoor

/- Zones: zone.Assign. -/
namespace Go.Proofs.YtkngedinomngbaaDoor
open Go.RowKit
set_option linter.unusedVariables false

set_option maxRecDepth 20000 in
set_option maxHeartbeats 4000000 in
theorem assign_any (N x y c : Int) (s : Option Addr) (c0 len : Nat) (l : List Ce) (a : Nat → Addr) (w : World) (hS : ErrS w a) (hA : CsAt w s l) (hl : Hid (len = l.length)) (hlen : len ≤ 1000) :
    Calls Tryd.prog 34 #[(.agg #[.int .i64 N, (.slice s len c0)]), .int .i64 x, .int .i64 y, .int .i64 c] w fun e w' =>
      ZrPost w a (asErr N l x y c) N len (NoNeg (nOf N) (fw (matOf (nOf N) l) (nOf N))) (tellL (nOf N) (mvM (fw (matOf (nOf N) l) (nOf N)) x.toNat y.toNat c)) e w' := by
  have s0 := (((((St.startEC hS hA).box2 30 (.int .i64 N) (.slice s len c0)).box1 3 (.int .i64 x)).box1 3 (.int .i64 y)).box1 3 (.int .i64 c)).box2 30 (.int .i64 0) (.slice none 0 0)
  simp only [World.size_alloc] at s0
  have q0 := s0.hold
  simp only [Holds, and_true] at q0
  obtain ⟨e1, he1⟩ : ∃ e, e = zErr N l := ⟨_, rfl⟩
  obtain ⟨e4, he4⟩ : ∃ e, e = numErr c := ⟨_, rfl⟩
  obtain ⟨er, her⟩ : ∃ e, e = asErr N l x y c := ⟨_, rfl⟩
  have HV : Hid (∀ W : World, ErrS W a → CsAt W s l → Calls Tryd.prog 19 #[(.agg #[.int .i64 N, (.slice s len c0)])] W fun e w' => e = .returned (erV a e1) ∧ Below W.heap.size W w') := fun W h1 h2 => by rw [he1]; exact valid_any N s c0 len l a W h1 h2 hl hlen
  have HX : Hid (∀ (W : World) (f v : Int), ErrS W a → Calls Tryd.prog 67 #[.int .i64 v, .int .i64 f, .int .i64 N] W fun e w' => e = .returned (erV a (varErr N f v)) ∧ Below W.heap.size W w') := fun W f v h => varErr_any N f v a W h
  have HN : Hid (∀ W : World, ErrS W a → Calls Tryd.prog 71 #[.int .i64 c] W fun e w' => e = .returned (erV a e4) ∧ w' = W) := fun W h => by rw [he4]; exact numErr_any c a W h
  have HF : Hid (∀ (W : World) (t : TypeId), Calls Tryd.prog 48 #[.slice (some ⟨W.heap.size, 0, none⟩) 4 4] (W.alloc (.cells #[erV a e1, erV a (varErr N 1 x), erV a (varErr N 0 y), erV a e4] t)) fun e w' => e = .returned (erV a er) ∧ w' = (W.alloc (.cells #[erV a e1, erV a (varErr N 1 x), erV a (varErr N 0 y), erV a e4] t))) := fun W t => by
    rw [her]; unfold asErr; rw [← he1, ← he4]; exact first4 a _ _ _ _ t W
  have hcl : ∀ x, (erV a x).cells = #[erV a x] := erV_cells a
  unfold Value.cells at hcl
  rw [← her]
  by_cases h0 : er = 0
  · have h1 : firstE [zErr N l, varErr N 1 x, varErr N 0 y, numErr c] = 0 := by have := her; unfold asErr at this; rw [← this]; exact h0
    rw [firstE_0, firstE_0, firstE_0, firstE_0] at h1
    obtain ⟨hz, hv1, hv2, hnm, -⟩ := h1
    obtain ⟨z1, z2, z3, z4, z5, z6⟩ := zErr_0 hz
    obtain ⟨v1, v2⟩ := varErr_0 hv1
    obtain ⟨v3, v4⟩ := varErr_0 hv2
    have v5 := numErr_0 hnm
    obtain ⟨n, hn⟩ : ∃ n, n = nOf N := ⟨_, rfl⟩
    rw [← hn] at z1 z2 z3 z4 ⊢
    have hpos : 1 ≤ n * n := Nat.mul_le_mul z2 z2
    have hll : Hid (len = n * n) := by show _ = _; rw [hl.out]; exact z4
    obtain ⟨x', hx'⟩ : ∃ k : Nat, (k : Int) = x := ⟨x.toNat, by omega⟩
    obtain ⟨y', hy'⟩ : ∃ k : Nat, (k : Int) = y := ⟨y.toNat, by omega⟩
    have ex : x.toNat = x' := by omega
    have ey : y.toNat = y' := by omega
    have hyn : y' < n := by omega
    rw [ex, ey]
    subst hx' hy'
    have HT : Hid (∀ W : World, CsAt W s l → W.cell? ⟨w.heap.size + 1, 0, none⟩ = some (.int .i64 x') → W.cell? ⟨w.heap.size + 1 + 1, 0, none⟩ = some (.int .i64 y') → W.cell? ⟨w.heap.size + 1 + 1 + 1, 0, none⟩ = some (.int .i64 c) → Calls Tryd.prog 68 #[(.agg #[.int .i64 N, (.slice s len c0)]), .func (.func 72) #[] #[.pointer (some ⟨w.heap.size + 1, 0, none⟩), .pointer (some ⟨w.heap.size + 1 + 1, 0, none⟩), .pointer (some ⟨w.heap.size + 1 + 1 + 1, 0, none⟩)]] W fun e w' => ZaPost W N len (NoNeg n (fw (matOf n l) n)) (tellL n (mvM (fw (matOf n l) n) x' y' c)) e w') := by
      intro W h hx hy hc
      obtain ⟨b, off, rfl, hR⟩ := h.row (by omega)
      exact tellChanged_any _ _ N n b off c0 len l _ W hR hl hll ⟨z2, z3⟩ z1 (sz_mat z4 z6) enters_as (chg_as n len x' y' _ _ _ c _ W hx hy hc hll ⟨z2, z3⟩ hyn v5 ((sz_mat z4 z6).fw5 z3 (Nat.le_refl n)))
    obtain ⟨L, hL⟩ : ∃ L, L = tellL n (mvM (fw (matOf n l) n) x' y' c) := ⟨_, rfl⟩
    obtain ⟨ok, hok⟩ : ∃ ok, ok = NoNeg n (fw (matOf n l) n) := ⟨_, rfl⟩
    rw [← hL, ← hok] at HT ⊢
    rw [h0] at HF ⊢
    rw [erV_0] at HF
    clear hL hok hS hA hl hll z1 z2 z3 z4 z5 z6 hz hn hpos h0 hv1 hv2 hnm v1 v2 v3 v4 v5 ex ey her he1 he4 hyn
    go_enter Tryd.func34, Tryd.ntmps34
    go_wp2_with fail
    (go_region_held3 (fun w' => w'.cell? ⟨w.heap.size + 1 + 1 + 1 + 1, 0, none⟩ = some (.int .i64 0) ∧ w'.cell? ⟨w.heap.size + 1 + 1 + 1 + 1, 1, none⟩ = some (.slice none 0 0) ∧ w'.cell? ⟨w.heap.size + 1 + 1 + 1, 0, none⟩ = some (.int .i64 c) ∧ w'.cell? ⟨w.heap.size + 1 + 1, 0, none⟩ = some (.int .i64 y') ∧ w'.cell? ⟨w.heap.size + 1, 0, none⟩ = some (.int .i64 x') ∧ w'.cell? ⟨w.heap.size, 0, none⟩ = some (.int .i64 N) ∧ w'.cell? ⟨w.heap.size, 1, none⟩ = some (.slice s len c0) ∧ St w w' (EC a s l) ((w.heap.size + 1 + 1 + 1 + 1, 0, Value.int .i64 0) :: (w.heap.size + 1 + 1 + 1 + 1, 1, Value.slice none 0 0) :: (w.heap.size + 1 + 1 + 1, 0, Value.int .i64 c) :: (w.heap.size + 1 + 1, 0, Value.int .i64 y') :: (w.heap.size + 1, 0, Value.int .i64 x') :: (w.heap.size, 0, Value.int .i64 N) :: (w.heap.size, 1, Value.slice s len c0) :: [])) (first | (exact keepSt0 ((w.heap.size + 1 + 1 + 1 + 1, 0, Value.int .i64 0) :: (w.heap.size + 1 + 1 + 1 + 1, 1, Value.slice none 0 0) :: (w.heap.size + 1 + 1 + 1, 0, Value.int .i64 c) :: (w.heap.size + 1 + 1, 0, Value.int .i64 y') :: (w.heap.size + 1, 0, Value.int .i64 x') :: (w.heap.size, 0, Value.int .i64 N) :: (w.heap.size, 1, Value.slice s len c0) :: []) s0.drew) | (exact keepSt ((w.heap.size + 1 + 1 + 1 + 1, 0, Value.int .i64 0) :: (w.heap.size + 1 + 1 + 1 + 1, 1, Value.slice none 0 0) :: (w.heap.size + 1 + 1 + 1, 0, Value.int .i64 c) :: (w.heap.size + 1 + 1, 0, Value.int .i64 y') :: (w.heap.size + 1, 0, Value.int .i64 x') :: (w.heap.size, 0, Value.int .i64 N) :: (w.heap.size, 1, Value.slice s len c0) :: []) (by assumption) (by assumption)) | (exact keepSt ((w.heap.size + 1 + 1 + 1 + 1, 0, Value.int .i64 0) :: (w.heap.size + 1 + 1 + 1 + 1, 1, Value.slice none 0 0) :: (w.heap.size + 1 + 1 + 1, 0, Value.int .i64 c) :: (w.heap.size + 1 + 1, 0, Value.int .i64 y') :: (w.heap.size + 1, 0, Value.int .i64 x') :: (w.heap.size, 0, Value.int .i64 N) :: (w.heap.size, 1, Value.slice s len c0) :: []) ((Below.refl _ _).alloc (Nat.le_refl _) _) (by assumption)) | assumption) (first | (go_at_call 19; refine (HV.out _ (keepEC1 (w := w) (x := s) (l := l) ((w.heap.size + 1 + 1 + 1 + 1, 0, Value.int .i64 0) :: (w.heap.size + 1 + 1 + 1 + 1, 1, Value.slice none 0 0) :: (w.heap.size + 1 + 1 + 1, 0, Value.int .i64 c) :: (w.heap.size + 1 + 1, 0, Value.int .i64 y') :: (w.heap.size + 1, 0, Value.int .i64 x') :: (w.heap.size, 0, Value.int .i64 N) :: (w.heap.size, 1, Value.slice s len c0) :: []) (by assumption)) (keepEC2 (w := w) (a := a) ((w.heap.size + 1 + 1 + 1 + 1, 0, Value.int .i64 0) :: (w.heap.size + 1 + 1 + 1 + 1, 1, Value.slice none 0 0) :: (w.heap.size + 1 + 1 + 1, 0, Value.int .i64 c) :: (w.heap.size + 1 + 1, 0, Value.int .i64 y') :: (w.heap.size + 1, 0, Value.int .i64 x') :: (w.heap.size, 0, Value.int .i64 N) :: (w.heap.size, 1, Value.slice s len c0) :: []) (by assumption))).mono ?_; rintro e w2 ⟨rfl, hb2⟩) | (go_at_call 67; refine (HX.out _ _ _ (keepEC1 (w := w) (x := s) (l := l) ((w.heap.size + 1 + 1 + 1 + 1, 0, Value.int .i64 0) :: (w.heap.size + 1 + 1 + 1 + 1, 1, Value.slice none 0 0) :: (w.heap.size + 1 + 1 + 1, 0, Value.int .i64 c) :: (w.heap.size + 1 + 1, 0, Value.int .i64 y') :: (w.heap.size + 1, 0, Value.int .i64 x') :: (w.heap.size, 0, Value.int .i64 N) :: (w.heap.size, 1, Value.slice s len c0) :: []) (by assumption))).mono ?_; rintro e w2 ⟨rfl, hb2⟩) | (go_at_call 71; refine (HN.out _ (keepEC1 (w := w) (x := s) (l := l) ((w.heap.size + 1 + 1 + 1 + 1, 0, Value.int .i64 0) :: (w.heap.size + 1 + 1 + 1 + 1, 1, Value.slice none 0 0) :: (w.heap.size + 1 + 1 + 1, 0, Value.int .i64 c) :: (w.heap.size + 1 + 1, 0, Value.int .i64 y') :: (w.heap.size + 1, 0, Value.int .i64 x') :: (w.heap.size, 0, Value.int .i64 N) :: (w.heap.size, 1, Value.slice s len c0) :: []) (by assumption))).mono ?_; rintro e w2 ⟨rfl, rfl⟩) | (go_at_call 48; refine (HF.out _ _).mono ?_; rintro e w2 ⟨rfl, rfl⟩)); have s5 := keepSt_st (w := w) (W := w2.alloc (.cells #[erV a e1, erV a (varErr N 1 x'), erV a (varErr N 0 y'), erV a e4] 32)) (Z := EC a s l) ((w.heap.size + 1 + 1 + 1 + 1, 0, Value.int .i64 0) :: (w.heap.size + 1 + 1 + 1 + 1, 1, Value.slice none 0 0) :: (w.heap.size + 1 + 1 + 1, 0, Value.int .i64 c) :: (w.heap.size + 1 + 1, 0, Value.int .i64 y') :: (w.heap.size + 1, 0, Value.int .i64 x') :: (w.heap.size, 0, Value.int .i64 N) :: (w.heap.size, 1, Value.slice s len c0) :: []) (by assumption); obtain ⟨W5, hW5⟩ : ∃ W, W = w2.alloc (.cells #[erV a e1, erV a (varErr N 1 x'), erV a (varErr N 0 y'), erV a e4] 32) := ⟨_, rfl⟩; rw [← hW5] at s5 ⊢; clear hW5 s0 q0 HV HX HF HN hcl; have q5 := s5.hold; simp only [Holds, and_true] at q5)
    go_wp2_with fail
    refine (HT.out _ s5.sent.2 q5.2.2.2.2.1.1 q5.2.2.2.1.1 q5.2.2.1.1).mono ?_
    rintro e w8 ⟨hb8, h8⟩
    have s8 := s5.call hb8
    have q8 := s8.hold
    simp only [Holds, and_true] at q8
    have sz2 : w.heap.size + 1 + 1 + 1 + 1 < W5.heap.size := q5.1.2.1
    clear s5 hb8 q5
    rcases h8 with ⟨hno, rfl⟩ | ⟨hyes, g4, cp4, rfl, hg4, hR4⟩
    · go_wp2_with fail
      refine bodyPost_ret (v := .tuple #[(.agg #[.int .i64 0, .slice none 0 0]), .bool false, .nilIface]) (by simp [results, Tryd.results34, go_sem, q8]) rfl ⟨?_, .inr (.inl ⟨rfl, hno, rfl⟩)⟩
      repeat' (first | exact s8.bel | refine Below.setCell ?_ (by first | (simp; done) | (simp; omega)) _)
    · go_wp2_with fail
      refine bodyPost_ret (v := .tuple #[(.agg #[.int .i64 N, (.slice (some ⟨g4, 0, none⟩) len cp4)]), .bool true, .nilIface]) (by simp [results, Tryd.results34, go_sem, q8]) rfl ⟨?_, .inr (.inr ⟨rfl, hyes, g4, cp4, rfl, by omega, ?_⟩)⟩
      · repeat' (first | exact s8.bel | refine Below.setCell ?_ (by first | (simp; done) | (simp; omega)) _)
      · exact (hR4.other (by show w.heap.size + 1 + 1 + 1 + 1 ≠ g4; omega) _).other (by show w.heap.size + 1 + 1 + 1 + 1 ≠ g4; omega) _
  · rw [erV_ne h0] at HF
    have H0 := hide h0
    clear h0 hS hA hl her he1 he4
    go_enter Tryd.func34, Tryd.ntmps34
    go_wp2_with fail
    (go_region_held3 (fun w' => w'.cell? ⟨w.heap.size + 1 + 1 + 1 + 1, 0, none⟩ = some (.int .i64 0) ∧ w'.cell? ⟨w.heap.size + 1 + 1 + 1 + 1, 1, none⟩ = some (.slice none 0 0) ∧ w'.cell? ⟨w.heap.size + 1 + 1 + 1, 0, none⟩ = some (.int .i64 c) ∧ w'.cell? ⟨w.heap.size + 1 + 1, 0, none⟩ = some (.int .i64 y) ∧ w'.cell? ⟨w.heap.size + 1, 0, none⟩ = some (.int .i64 x) ∧ w'.cell? ⟨w.heap.size, 0, none⟩ = some (.int .i64 N) ∧ w'.cell? ⟨w.heap.size, 1, none⟩ = some (.slice s len c0) ∧ St w w' (EC a s l) ((w.heap.size + 1 + 1 + 1 + 1, 0, Value.int .i64 0) :: (w.heap.size + 1 + 1 + 1 + 1, 1, Value.slice none 0 0) :: (w.heap.size + 1 + 1 + 1, 0, Value.int .i64 c) :: (w.heap.size + 1 + 1, 0, Value.int .i64 y) :: (w.heap.size + 1, 0, Value.int .i64 x) :: (w.heap.size, 0, Value.int .i64 N) :: (w.heap.size, 1, Value.slice s len c0) :: [])) (first | (exact keepSt0 ((w.heap.size + 1 + 1 + 1 + 1, 0, Value.int .i64 0) :: (w.heap.size + 1 + 1 + 1 + 1, 1, Value.slice none 0 0) :: (w.heap.size + 1 + 1 + 1, 0, Value.int .i64 c) :: (w.heap.size + 1 + 1, 0, Value.int .i64 y) :: (w.heap.size + 1, 0, Value.int .i64 x) :: (w.heap.size, 0, Value.int .i64 N) :: (w.heap.size, 1, Value.slice s len c0) :: []) s0.drew) | (exact keepSt ((w.heap.size + 1 + 1 + 1 + 1, 0, Value.int .i64 0) :: (w.heap.size + 1 + 1 + 1 + 1, 1, Value.slice none 0 0) :: (w.heap.size + 1 + 1 + 1, 0, Value.int .i64 c) :: (w.heap.size + 1 + 1, 0, Value.int .i64 y) :: (w.heap.size + 1, 0, Value.int .i64 x) :: (w.heap.size, 0, Value.int .i64 N) :: (w.heap.size, 1, Value.slice s len c0) :: []) (by assumption) (by assumption)) | (exact keepSt ((w.heap.size + 1 + 1 + 1 + 1, 0, Value.int .i64 0) :: (w.heap.size + 1 + 1 + 1 + 1, 1, Value.slice none 0 0) :: (w.heap.size + 1 + 1 + 1, 0, Value.int .i64 c) :: (w.heap.size + 1 + 1, 0, Value.int .i64 y) :: (w.heap.size + 1, 0, Value.int .i64 x) :: (w.heap.size, 0, Value.int .i64 N) :: (w.heap.size, 1, Value.slice s len c0) :: []) ((Below.refl _ _).alloc (Nat.le_refl _) _) (by assumption)) | assumption) (first | (go_at_call 19; refine (HV.out _ (keepEC1 (w := w) (x := s) (l := l) ((w.heap.size + 1 + 1 + 1 + 1, 0, Value.int .i64 0) :: (w.heap.size + 1 + 1 + 1 + 1, 1, Value.slice none 0 0) :: (w.heap.size + 1 + 1 + 1, 0, Value.int .i64 c) :: (w.heap.size + 1 + 1, 0, Value.int .i64 y) :: (w.heap.size + 1, 0, Value.int .i64 x) :: (w.heap.size, 0, Value.int .i64 N) :: (w.heap.size, 1, Value.slice s len c0) :: []) (by assumption)) (keepEC2 (w := w) (a := a) ((w.heap.size + 1 + 1 + 1 + 1, 0, Value.int .i64 0) :: (w.heap.size + 1 + 1 + 1 + 1, 1, Value.slice none 0 0) :: (w.heap.size + 1 + 1 + 1, 0, Value.int .i64 c) :: (w.heap.size + 1 + 1, 0, Value.int .i64 y) :: (w.heap.size + 1, 0, Value.int .i64 x) :: (w.heap.size, 0, Value.int .i64 N) :: (w.heap.size, 1, Value.slice s len c0) :: []) (by assumption))).mono ?_; rintro e w2 ⟨rfl, hb2⟩) | (go_at_call 67; refine (HX.out _ _ _ (keepEC1 (w := w) (x := s) (l := l) ((w.heap.size + 1 + 1 + 1 + 1, 0, Value.int .i64 0) :: (w.heap.size + 1 + 1 + 1 + 1, 1, Value.slice none 0 0) :: (w.heap.size + 1 + 1 + 1, 0, Value.int .i64 c) :: (w.heap.size + 1 + 1, 0, Value.int .i64 y) :: (w.heap.size + 1, 0, Value.int .i64 x) :: (w.heap.size, 0, Value.int .i64 N) :: (w.heap.size, 1, Value.slice s len c0) :: []) (by assumption))).mono ?_; rintro e w2 ⟨rfl, hb2⟩) | (go_at_call 71; refine (HN.out _ (keepEC1 (w := w) (x := s) (l := l) ((w.heap.size + 1 + 1 + 1 + 1, 0, Value.int .i64 0) :: (w.heap.size + 1 + 1 + 1 + 1, 1, Value.slice none 0 0) :: (w.heap.size + 1 + 1 + 1, 0, Value.int .i64 c) :: (w.heap.size + 1 + 1, 0, Value.int .i64 y) :: (w.heap.size + 1, 0, Value.int .i64 x) :: (w.heap.size, 0, Value.int .i64 N) :: (w.heap.size, 1, Value.slice s len c0) :: []) (by assumption))).mono ?_; rintro e w2 ⟨rfl, rfl⟩) | (go_at_call 48; refine (HF.out _ _).mono ?_; rintro e w2 ⟨rfl, rfl⟩)); have s5 := keepSt_st (w := w) (W := w2.alloc (.cells #[erV a e1, erV a (varErr N 1 x), erV a (varErr N 0 y), erV a e4] 32)) (Z := EC a s l) ((w.heap.size + 1 + 1 + 1 + 1, 0, Value.int .i64 0) :: (w.heap.size + 1 + 1 + 1 + 1, 1, Value.slice none 0 0) :: (w.heap.size + 1 + 1 + 1, 0, Value.int .i64 c) :: (w.heap.size + 1 + 1, 0, Value.int .i64 y) :: (w.heap.size + 1, 0, Value.int .i64 x) :: (w.heap.size, 0, Value.int .i64 N) :: (w.heap.size, 1, Value.slice s len c0) :: []) (by assumption); obtain ⟨W5, hW5⟩ : ∃ W, W = w2.alloc (.cells #[erV a e1, erV a (varErr N 1 x), erV a (varErr N 0 y), erV a e4] 32) := ⟨_, rfl⟩; rw [← hW5] at s5 ⊢; clear hW5 s0 q0 HV HX HF HN hcl; have q5 := s5.hold; simp only [Holds, and_true] at q5)
    go_wp2_with fail
    refine bodyPost_ret (v := .tuple #[(.agg #[.int .i64 0, .slice none 0 0]), .bool false, .iface 160 (.pointer (some (a (er.toNat - 1))))]) (by simp [results, Tryd.results34, go_sem, q5]) rfl ⟨?_, .inl ⟨H0.out, by rw [erV_ne H0.out]⟩⟩
    repeat' (first | exact s5.bel | refine Below.setCell ?_ (by first | (simp; done) | (simp; omega)) _)
end Go.Proofs.YtkngedinomngbaaDoor
