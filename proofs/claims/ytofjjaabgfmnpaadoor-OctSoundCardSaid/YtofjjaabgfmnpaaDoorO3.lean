/- Octagons: a variable is forgotten, or becomes another one, by a sign, and a number (octagon.Forget, octagon.Assign). -/
import Derived.Test.YtofjjaabgfmnpaaDoorO2
import Derived.Test.YtofjjaabgfmnpaaDoorOg
namespace Go.Proofs.YtofjjaabgfmnpaaDoor
open Go.RowKit
set_option linter.unusedVariables false

def CZ (x : Option Addr) (l : List Ce) (W : World) : Prop := CsAt W x l
theorem St.startCZ {w : World} {x : Option Addr} {l : List Ce} (h : CsAt w x l) : St w w (CZ x l) [] := ⟨Below.refl _ _, trivial, h, fun _ _ k hb => h.stays k hb⟩
/-- What a change makes of a square. -/
def Chg (fn : Nat) (caps : Array Value) (w : World) (n len : Nat) (d d' : Mat) : Prop :=
  ∀ (W : World) (g cp : Nat), Below w.heap.size w W → GrI W g n (encM d) → Calls Tryd.prog fn (#[(.agg #[.int .i64 n, (.slice (some ⟨g, 0, none⟩) len cp)])] ++ caps) W fun e w' => GrPost W n len (encM d') e w'

set_option maxRecDepth 20000 in
set_option maxHeartbeats 4000000 in
theorem tellChanged_any (fn : Nat) (caps : Array Value) (N : Int) (n c len : Nat) (x : Option Addr) (l : List Ce) (d' : Mat) (w : World) (hR : CsAt w x l) (hl : Hid (len = l.length)) (hll : Hid (len = n * n)) (hn : n % 2 = 0 ∧ n ≤ 8) (hN : 2 * N = n) (hS : Hid (Sz n 1099511627776 (matOf n l))) (hE : Hid (Enters fn)) (hC : Hid (Chg fn caps w n len (tg n (matOf n l)) d')) :
    Calls Tryd.prog 72 #[(.agg #[.int .i64 N, (.slice x len c)]), .func (.func fn) #[] caps] w fun e w' => ZaPost w N len (NoNeg n (tg n (matOf n l))) (tellL n d') e w' := by
  have hE' : ∀ (args : Array Value) (W : World), (callFunc fn args).run Tryd.prog W = .ok (.enter fn args) W := hE.out
  have s0 := ((St.startCZ hR).box2 30 (.int .i64 N) (.slice x len c)).box2 30 (.int .i64 0) (.slice none 0 0)
  simp only [World.size_alloc] at s0
  have HB : Hid (∀ W : World, CsAt W x l → Calls Tryd.prog 48 #[(.agg #[.int .i64 N, (.slice x len c)])] W fun e w' => GrPost W n len (encM (matOf n l)) e w') := fun W h => boundsOf_cs N n c len x l W h hl hll hn hN
  have HC : Hid (∀ (W : World) (g cp : Nat), GrI W g n (encM (matOf n l)) → Calls Tryd.prog 66 #[(.agg #[.int .i64 n, (.slice (some ⟨g, 0, none⟩) len cp)])] W fun e w' => TgPost W n len (matOf n l) e w') := fun W g cp h => tight_any n g cp len 1099511627776 _ W h hll hn hS (by omega)
  have HT : Hid (∀ (W : World) (g1 cp1 : Nat), GrI W g1 n (encM d') → Calls Tryd.prog 67 #[(.agg #[.int .i64 n, (.slice (some ⟨g1, 0, none⟩) len cp1)])] W fun e w' => TellPost W N len (tellL n d') e w') := fun W g1 cp1 h => by
    have := tellz_any N n g1 cp1 len _ W h hll hn hN
    rw [hll.out, gridL_enc] at this
    rw [hll.out]
    exact this
  obtain ⟨L, hL⟩ : ∃ L, L = tellL n d' := ⟨_, rfl⟩
  obtain ⟨A, hA⟩ : ∃ A, A = matOf n l := ⟨_, rfl⟩
  have HCh : Hid (∀ (W : World) (g cp : Nat), Below w.heap.size w W → GrI W g n (encM (tg n A)) → Calls Tryd.prog fn (#[(.agg #[.int .i64 n, (.slice (some ⟨g, 0, none⟩) len cp)])] ++ caps) W fun e w' => GrPost W n len (encM d') e w') := by rw [hA]; exact hC.out
  rw [← hL] at HT ⊢
  rw [← hA] at HB HC ⊢
  clear hL hA hR hl hll hS hE hC
  go_enter Tryd.func72, Tryd.ntmps72
  go_wp2_with fail
  refine (HB.out _ s0.sent).mono ?_
  rintro e w1 ⟨g1, cp1, rfl, hg1, hG1, hb1⟩
  (have s1 := s0.call hb1; have q1 := s1.hold; simp only [Holds, and_true] at q1)
  clear s0 hb1
  go_wp2_with fail
  refine (HC.out _ g1 cp1 hG1).mono ?_
  rintro e w2 ⟨hb2, h2⟩
  (have s2 := s1.call hb2; have q2 := s2.hold; simp only [Holds, and_true] at q2)
  clear s1 q1 hb2
  have sz2 : w.heap.size + 1 < w2.heap.size := q2.1.2.1
  rcases h2 with ⟨hno, rfl⟩ | ⟨hyes, g2, cp2, rfl, hg2, hG2⟩
  · go_wp2_with fail
    refine bodyPost_ret (v := .tuple #[(.agg #[.int .i64 0, .slice none 0 0]), .bool false, .nilIface]) (by simp [results, Tryd.results72, go_sem, q2]) rfl ⟨?_, .inl ⟨hno, rfl⟩⟩
    repeat' (first | exact s2.bel | refine Below.setCell ?_ (by first | (simp; done) | (simp; omega)) _ | refine Below.alloc ?_ (by first | (simp; done) | (simp; omega)) _)
  · have s3 := s2.box2 84 (.int .i64 n) (.slice (some ⟨g2, 0, none⟩) len cp2)
    have hG3 := hG2.below ((Below.refl _ _).alloc (Nat.le_refl _) (.cells #[.int .i64 n, .slice (some ⟨g2, 0, none⟩) len cp2] 84))
    go_wp2_with fail
    refine (HCh.out _ g2 cp2 s3.bel hG3).mono ?_
    rintro e w4 ⟨g4, cp4, rfl, hg4, hG4, hb4⟩
    (have s4 := s3.call hb4; have q4 := s4.hold; simp only [Holds, and_true] at q4)
    clear s3 hb4 s2 q2
    go_wp2_with fail
    refine (HT.out _ g4 cp4 hG4).mono ?_
    rintro e w5 ⟨g5, cp5, rfl, hg5, hR5, hb5⟩
    (have s5 := s4.call hb5; have q5 := s5.hold; simp only [Holds, and_true] at q5)
    have sz4 : w.heap.size + 1 < w4.heap.size := q4.2.2.1.2.1
    clear s4 hb5 q4
    go_wp2_with fail
    refine bodyPost_ret (v := .tuple #[(.agg #[.int .i64 N, (.slice (some ⟨g5, 0, none⟩) len cp5)]), .bool true, .nilIface]) (by simp [results, Tryd.results72, go_sem, q5]) rfl ⟨?_, .inr ⟨hyes, g5, cp5, rfl, by omega, ?_⟩⟩
    · repeat' (first | exact s5.bel | refine Below.setCell ?_ (by first | (simp; done) | (simp; omega)) _)
    · exact (hR5.other (by show w.heap.size + 1 ≠ g5; omega) _).other (by show w.heap.size + 1 ≠ g5; omega) _


theorem enters_foO : Enters 73 := enters_of Tryd.func73 (by kernel_rfl) rfl
set_option maxRecDepth 20000 in
set_option maxHeartbeats 4000000 in
theorem chg_foO (n len x bx : Nat) (d : Mat) (w : World) (hx : w.cell? ⟨bx, 0, none⟩ = some (.int .i64 x)) (hll : Hid (len = n * n)) (hn : n ≤ 8) : Chg 73 #[.pointer (some ⟨bx, 0, none⟩)] w n len d (woO d x) := by
  intro W g cp hb hG
  have hxW : W.cell? ⟨bx, 0, none⟩ = some (.int .i64 x) := (hb.cell (World.block_lt_of_cell? w _ hx)).trans hx
  have hxl := World.block_lt_of_cell? W _ hxW
  have s0 := ((St.startG hG).box2 84 (.int .i64 n) (.slice (some ⟨g, 0, none⟩) len cp)).box2 84 (.int .i64 0) (.slice none 0 0)
  simp only [World.size_alloc] at s0
  have HW : Hid (∀ W : World, GrI W g n (encM d) → Calls Tryd.prog 74 #[(.agg #[.int .i64 n, (.slice (some ⟨g, 0, none⟩) len cp)]), .int .i64 x] W fun e w' => GrPost W n len (encM (woO d x)) e w') := fun W h => (withoutO_any n g cp len x _ W h hll hn).mono fun _ _ k => k.congr fun i j _ _ => woO_enc d x i j
  obtain ⟨f, hf⟩ : ∃ f, f = encM (woO d x) := ⟨_, rfl⟩
  show Calls _ _ #[(.agg #[.int .i64 n, (.slice (some ⟨g, 0, none⟩) len cp)]), .pointer (some ⟨bx, 0, none⟩)] _ _
  rw [← hf] at HW ⊢
  clear hf hll hb hx hG
  go_enter Tryd.func73, Tryd.ntmps73
  go_wp2_with fail
  refine (HW.out _ s0.sent).mono ?_
  rintro e w1 ⟨g1, cp1, rfl, hg1, hG1, hb1⟩
  (have s1 := s0.call hb1; have q1 := s1.hold; simp only [Holds, and_true] at q1)
  simp only [World.size_alloc] at hg1
  clear s0 hb1
  go_wp2_with fail
  refine bodyPost_ret (v := (.agg #[.int .i64 n, (.slice (some ⟨g1, 0, none⟩) len cp1)])) (by simp [results, Tryd.results73, go_sem, q1]) rfl ⟨g1, cp1, rfl, by omega, ?_, ?_⟩
  · exact (hG1.other (by show W.heap.size + 1 ≠ g1; omega) _).other (by show W.heap.size + 1 ≠ g1; omega) _
  · iterate 2 refine Below.setCell ?_ (by first | (simp; done) | (simp; omega)) _
    exact s1.bel

theorem enters_asO : Enters 77 := enters_of Tryd.func77 (by kernel_rfl) rfl
set_option maxRecDepth 20000 in
set_option maxHeartbeats 4000000 in
theorem chg_asO (n len x y bx bs by_ bc : Nat) (s c : Int) (d : Mat) (w : World) (hx : w.cell? ⟨bx, 0, none⟩ = some (.int .i64 x)) (hsb : w.cell? ⟨bs, 0, none⟩ = some (.int .i64 s)) (hy : w.cell? ⟨by_, 0, none⟩ = some (.int .i64 y)) (hc : w.cell? ⟨bc, 0, none⟩ = some (.int .i64 c)) (hll : Hid (len = n * n)) (hn : n ≤ 8) (he : n % 2 = 0) (hxn : 2 * x + 1 < n) (hyn : 2 * y + 1 < n) (hs : s = 1 ∨ s = -1 ∨ s = 0) (hcc : Hid (c.natAbs ≤ 1099511627776)) (hS : Hid (Sz n 562949953421312 d)) :
    Chg 77 #[.pointer (some ⟨bx, 0, none⟩), .pointer (some ⟨bs, 0, none⟩), .pointer (some ⟨by_, 0, none⟩), .pointer (some ⟨bc, 0, none⟩)] w n len d (mvO d x s y c) := by
  intro W g cp hb hG
  have hxW : W.cell? ⟨bx, 0, none⟩ = some (.int .i64 x) := (hb.cell (World.block_lt_of_cell? w _ hx)).trans hx
  have hyW : W.cell? ⟨by_, 0, none⟩ = some (.int .i64 y) := (hb.cell (World.block_lt_of_cell? w _ hy)).trans hy
  have hcW : W.cell? ⟨bc, 0, none⟩ = some (.int .i64 c) := (hb.cell (World.block_lt_of_cell? w _ hc)).trans hc
  have hsW : W.cell? ⟨bs, 0, none⟩ = some (.int .i64 s) := (hb.cell (World.block_lt_of_cell? w _ hsb)).trans hsb
  have hsl := World.block_lt_of_cell? W _ hsW
  have hxl := World.block_lt_of_cell? W _ hxW
  have hyl := World.block_lt_of_cell? W _ hyW
  have hcl := World.block_lt_of_cell? W _ hcW
  have s0 := ((St.startG hG).box2 84 (.int .i64 n) (.slice (some ⟨g, 0, none⟩) len cp)).box2 84 (.int .i64 0) (.slice none 0 0)
  simp only [World.size_alloc] at s0
  have HW : Hid (∀ W : World, GrI W g n (encM d) → Calls Tryd.prog 78 #[(.agg #[.int .i64 n, (.slice (some ⟨g, 0, none⟩) len cp)]), .int .i64 x, .int .i64 s, .int .i64 y, .int .i64 c] W fun e w' => GrPost W n len (encM (mvO d x s y c)) e w') := fun W h => (movedO_any n g cp len x y s c _ W h hll hn he hxn hyn hs hcc (fun i j hi hj => mvO_ok hS.out (by omega) he hcc.out hyn hi hj)).mono fun _ _ k => k.congr fun i j hi hj => mvO_enc hS.out (by omega) he hcc.out hyn hi hj
  obtain ⟨f, hf⟩ : ∃ f, f = encM (mvO d x s y c) := ⟨_, rfl⟩
  show Calls _ _ #[(.agg #[.int .i64 n, (.slice (some ⟨g, 0, none⟩) len cp)]), .pointer (some ⟨bx, 0, none⟩), .pointer (some ⟨bs, 0, none⟩), .pointer (some ⟨by_, 0, none⟩), .pointer (some ⟨bc, 0, none⟩)] _ _
  rw [← hf] at HW ⊢
  clear hf hll hb hx hy hc hsb hG hS hcc hs
  go_enter Tryd.func77, Tryd.ntmps77
  go_wp2_with fail
  refine (HW.out _ s0.sent).mono ?_
  rintro e w1 ⟨g1, cp1, rfl, hg1, hG1, hb1⟩
  (have s1 := s0.call hb1; have q1 := s1.hold; simp only [Holds, and_true] at q1)
  simp only [World.size_alloc] at hg1
  clear s0 hb1
  go_wp2_with fail
  refine bodyPost_ret (v := (.agg #[.int .i64 n, (.slice (some ⟨g1, 0, none⟩) len cp1)])) (by simp [results, Tryd.results77, go_sem, q1]) rfl ⟨g1, cp1, rfl, by omega, ?_, ?_⟩
  · exact (hG1.other (by show W.heap.size + 1 ≠ g1; omega) _).other (by show W.heap.size + 1 ≠ g1; omega) _
  · iterate 2 refine Below.setCell ?_ (by first | (simp; done) | (simp; omega)) _
    exact s1.bel

/-- A number that lies in memory. -/
structure Sl1 (W : World) (b : Nat) (u : Value) : Prop where
  lt : b < W.heap.size
  one : W.cell? ⟨b, 0, none⟩ = some u
theorem Sl1.below {W w2 : World} {b : Nat} {u : Value} (h : Sl1 W b u) (hb : Below W.heap.size W w2) : Sl1 w2 b u :=
  ⟨Nat.lt_of_lt_of_le h.lt hb.size, (hb.cell (p := ⟨b, 0, none⟩) h.lt).trans h.one⟩
theorem Sl1.drew {W : World} {b : Nat} {u : Value} (h : Sl1 W b u) : Sl1 W.drew b u := h.below (Below.refl _ _).drew
theorem Sl1.alloc {W : World} {b : Nat} {u : Value} (h : Sl1 W b u) (B : Obj) : Sl1 (W.alloc B) b u := h.below ((Below.refl _ _).alloc (Nat.le_refl _) B)
theorem Sl1.here' {W : World} {b : Nat} {u : Value} {t : TypeId} (h : b = W.heap.size) : Sl1 (W.alloc (.cells #[u] t)) b u := by
  subst h
  exact ⟨by simp, by simp⟩
theorem Sl1.here {W : World} {u : Value} {t : TypeId} : Sl1 (W.alloc (.cells #[u] t)) W.heap.size u := Sl1.here' rfl
def foOErr (N : Int) (l : List Ce) (x : Int) : Int := firstE [zErr N l, voErr N [x]]
theorem voErr_one {N x : Int} (hN : 0 ≤ N ∧ N ≤ 4) (h : voErr N [x] = 0) : 0 ≤ x ∧ x < N := by
  unfold voErr varErr at h
  have hw : wrap64 (N - 1) = N - 1 := by unfold wrap64; omega
  rw [hw] at h
  simp only [List.map] at h
  rw [firstE_0] at h
  by_cases k : x < 0 ∨ N - 1 < x
  · rw [if_pos k] at h; omega
  · omega
set_option maxRecDepth 20000 in
set_option maxHeartbeats 4000000 in
theorem forgetO_any (N x : Int) (s : Option Addr) (c0 len : Nat) (l : List Ce) (a : Nat → Addr) (w : World) (hS : ErrS w a) (hA : CsAt w s l) (hl : Hid (len = l.length)) (hlen : len ≤ 1000) :
    Calls Tryd.prog 34 #[(.agg #[.int .i64 N, (.slice s len c0)]), .int .i64 x] w fun e w' =>
      ZrPost w a (foOErr N l x) N len (NoNeg (nOf N) (tg (nOf N) (matOf (nOf N) l))) (tellL (nOf N) (woO (tg (nOf N) (matOf (nOf N) l)) x.toNat)) e w' := by
  have s0 := (((St.startEC hS hA).box2 30 (.int .i64 N) (.slice s len c0)).box1 3 (.int .i64 x)).box2 30 (.int .i64 0) (.slice none 0 0)
  simp only [World.size_alloc] at s0
  have q0 := s0.hold
  simp only [Holds, and_true] at q0
  obtain ⟨e1, he1⟩ : ∃ e, e = zErr N l := ⟨_, rfl⟩
  obtain ⟨e2, he2⟩ : ∃ e, e = voErr N [x] := ⟨_, rfl⟩
  obtain ⟨er, her⟩ : ∃ e, e = foOErr N l x := ⟨_, rfl⟩
  have HV : Hid (∀ W : World, ErrS W a → CsAt W s l → Calls Tryd.prog 20 #[(.agg #[.int .i64 N, (.slice s len c0)])] W fun e w' => e = .returned (erV a e1) ∧ Below W.heap.size W w') := fun W h1 h2 => by rw [he1]; exact valid_any N s c0 len l a W h1 h2 hl hlen
  have HX : Hid (∀ (W : World) (b : Nat), ErrS W a → Sl1 W b (.int .i64 x) → Calls Tryd.prog 71 #[(.agg #[.int .i64 N, (.slice s len c0)]), .slice (some ⟨b, 0, none⟩) 1 1] W fun e w' => e = .returned (erV a e2) ∧ Below W.heap.size W w') := by
    intro W b h1 h2
    rw [he2]
    refine voErr_any N s len c0 b 1 1 [x] a W h1 rfl (by omega) h2.lt ?_
    intro i hi
    obtain rfl : i = 0 := by omega
    exact h2.one
  have HF : Hid (∀ (W : World) (t : TypeId), Calls Tryd.prog 49 #[.slice (some ⟨W.heap.size, 0, none⟩) 2 2] (W.alloc (.cells #[erV a e1, erV a e2] t)) fun e w' => e = .returned (erV a er) ∧ w' = (W.alloc (.cells #[erV a e1, erV a e2] t))) := fun W t => by
    rw [her]; unfold foOErr; rw [← he1, ← he2]; exact first2 a _ _ t W
  have hcl : ∀ x, (erV a x).cells = #[erV a x] := erV_cells a
  unfold Value.cells at hcl
  rw [← her]
  by_cases h0 : er = 0
  · have h1 : firstE [zErr N l, voErr N [x]] = 0 := by have := her; unfold foOErr at this; rw [← this]; exact h0
    rw [firstE_0, firstE_0] at h1
    obtain ⟨hz, hv1, -⟩ := h1
    obtain ⟨z1, z2, z3, z4, z5, z6⟩ := zErr_0 hz
    obtain ⟨v1, v2⟩ := voErr_one (by omega) hv1
    obtain ⟨n, hn⟩ : ∃ n, n = nOf N := ⟨_, rfl⟩
    rw [← hn] at z1 z2 z3 z4 ⊢
    have hll : Hid (len = n * n) := by show _ = _; rw [hl.out]; exact z4
    obtain ⟨x', hx'⟩ : ∃ k : Nat, (k : Int) = x := ⟨x.toNat, by omega⟩
    have ex : x.toNat = x' := by omega
    rw [ex]
    subst hx'
    have HT : Hid (∀ W : World, CsAt W s l → W.cell? ⟨w.heap.size + 1, 0, none⟩ = some (.int .i64 x') → Calls Tryd.prog 72 #[(.agg #[.int .i64 N, (.slice s len c0)]), .func (.func 73) #[] #[.pointer (some ⟨w.heap.size + 1, 0, none⟩)]] W fun e w' => ZaPost W N len (NoNeg n (tg n (matOf n l))) (tellL n (woO (tg n (matOf n l)) x')) e w') := by
      intro W h hx
      exact tellChanged_any _ _ N n c0 len s l _ W h hl hll ⟨z2, z3⟩ z1 (sz_mat z4 z6) enters_foO (chg_foO n len x' (w.heap.size + 1) _ W hx hll z3)
    obtain ⟨L, hL⟩ : ∃ L, L = tellL n (woO (tg n (matOf n l)) x') := ⟨_, rfl⟩
    obtain ⟨ok, hok⟩ : ∃ ok, ok = NoNeg n (tg n (matOf n l)) := ⟨_, rfl⟩
    rw [← hL, ← hok] at HT ⊢
    rw [h0] at HF ⊢
    rw [erV_0] at HF
    clear hL hok hS hA hl hll z1 z2 z3 z4 z5 z6 hz hn h0 hv1 v1 v2 ex her he1 he2
    go_enter Tryd.func34, Tryd.ntmps34
    go_wp2_with fail
    go_cut [7] (fun t7 wx => t7 = .nilIface ∧ St w wx (EC a s l) ((w.heap.size + 1 + 1, 0, Value.int .i64 0) :: (w.heap.size + 1 + 1, 1, Value.slice none 0 0) :: (w.heap.size + 1, 0, Value.int .i64 x') :: (w.heap.size, 0, Value.int .i64 N) :: (w.heap.size, 1, Value.slice s len c0) :: []))
    case first =>
      (go_region_held3 (fun w' => w'.cell? ⟨w.heap.size + 1 + 1, 0, none⟩ = some (.int .i64 0) ∧ w'.cell? ⟨w.heap.size + 1 + 1, 1, none⟩ = some (.slice none 0 0) ∧ w'.cell? ⟨w.heap.size + 1, 0, none⟩ = some (.int .i64 x') ∧ w'.cell? ⟨w.heap.size, 0, none⟩ = some (.int .i64 N) ∧ w'.cell? ⟨w.heap.size, 1, none⟩ = some (.slice s len c0) ∧ St w w' (EC a s l) ((w.heap.size + 1 + 1, 0, Value.int .i64 0) :: (w.heap.size + 1 + 1, 1, Value.slice none 0 0) :: (w.heap.size + 1, 0, Value.int .i64 x') :: (w.heap.size, 0, Value.int .i64 N) :: (w.heap.size, 1, Value.slice s len c0) :: [])) (first | (exact keepSt0 ((w.heap.size + 1 + 1, 0, Value.int .i64 0) :: (w.heap.size + 1 + 1, 1, Value.slice none 0 0) :: (w.heap.size + 1, 0, Value.int .i64 x') :: (w.heap.size, 0, Value.int .i64 N) :: (w.heap.size, 1, Value.slice s len c0) :: []) s0.drew) | (exact keepSt ((w.heap.size + 1 + 1, 0, Value.int .i64 0) :: (w.heap.size + 1 + 1, 1, Value.slice none 0 0) :: (w.heap.size + 1, 0, Value.int .i64 x') :: (w.heap.size, 0, Value.int .i64 N) :: (w.heap.size, 1, Value.slice s len c0) :: []) (by assumption) (by assumption)) | (exact keepSt ((w.heap.size + 1 + 1, 0, Value.int .i64 0) :: (w.heap.size + 1 + 1, 1, Value.slice none 0 0) :: (w.heap.size + 1, 0, Value.int .i64 x') :: (w.heap.size, 0, Value.int .i64 N) :: (w.heap.size, 1, Value.slice s len c0) :: []) ((Below.refl _ _).alloc (Nat.le_refl _) _) (by assumption)) | assumption) (first | (go_at_call 20; refine (HV.out _ (keepEC1 (w := w) (x := s) (l := l) ((w.heap.size + 1 + 1, 0, Value.int .i64 0) :: (w.heap.size + 1 + 1, 1, Value.slice none 0 0) :: (w.heap.size + 1, 0, Value.int .i64 x') :: (w.heap.size, 0, Value.int .i64 N) :: (w.heap.size, 1, Value.slice s len c0) :: []) (by assumption)) (keepEC2 (w := w) (a := a) ((w.heap.size + 1 + 1, 0, Value.int .i64 0) :: (w.heap.size + 1 + 1, 1, Value.slice none 0 0) :: (w.heap.size + 1, 0, Value.int .i64 x') :: (w.heap.size, 0, Value.int .i64 N) :: (w.heap.size, 1, Value.slice s len c0) :: []) (by assumption))).mono ?_; rintro e w2 ⟨rfl, hb2⟩; (first | (with_reducible have hpX := Sl1.below hpX hb2) | (with_reducible have hpX := Sl1.below (Sl1.alloc hpX _) hb2) | (with_reducible have hpX := Sl1.below Sl1.here hb2) | (with_reducible have hpX := Sl1.below (Sl1.drew Sl1.here) hb2) | skip); (first | (simp only [World.size_alloc] at hpX) | skip)) | (go_at_call 71; have hpX2 := hpX; refine (HX.out _ _ (keepEC1 (w := w) (x := s) (l := l) ((w.heap.size + 1 + 1, 0, Value.int .i64 0) :: (w.heap.size + 1 + 1, 1, Value.slice none 0 0) :: (w.heap.size + 1, 0, Value.int .i64 x') :: (w.heap.size, 0, Value.int .i64 N) :: (w.heap.size, 1, Value.slice s len c0) :: []) (by assumption)) (by first | with_reducible exact hpX | with_reducible exact hpX.alloc _ | with_reducible exact hpX.drew | with_reducible exact (hpX.alloc _).drew | with_reducible exact hpX.drew.alloc _)).mono ?_; rintro e w3 ⟨rfl, hb3⟩) | (go_at_call 71; refine (HX.out _ _ (keepEC1 (w := w) (x := s) (l := l) ((w.heap.size + 1 + 1, 0, Value.int .i64 0) :: (w.heap.size + 1 + 1, 1, Value.slice none 0 0) :: (w.heap.size + 1, 0, Value.int .i64 x') :: (w.heap.size, 0, Value.int .i64 N) :: (w.heap.size, 1, Value.slice s len c0) :: []) (by assumption)) (by first | with_reducible exact Sl1.here' (by simp) | with_reducible exact Sl1.drew (Sl1.here' (by simp)))).mono ?_; rintro e w3 ⟨rfl, hb3⟩) | (go_at_call 49; refine (HF.out _ _).mono ?_; rintro e w4 ⟨rfl, rfl⟩)))
      all_goals
        have s5 := keepSt_st (w := w) (Z := EC a s l) ((w.heap.size + 1 + 1, 0, Value.int .i64 0) :: (w.heap.size + 1 + 1, 1, Value.slice none 0 0) :: (w.heap.size + 1, 0, Value.int .i64 x') :: (w.heap.size, 0, Value.int .i64 N) :: (w.heap.size, 1, Value.slice s len c0) :: []) (by assumption)
        go_wp2_with fail
        go_meet
        case rel => exact ⟨rfl, s5⟩
    case rest =>
    obtain ⟨rfl, s5⟩ := hcut
    clear s0 q0 HV HX HF hcl
    have q5 := s5.hold
    simp only [Holds, and_true] at q5
    go_wp2_with fail
    refine (HT.out _ s5.sent.2 q5.2.2.1.1).mono ?_
    rintro e w8 ⟨hb8, h8⟩
    have s8 := s5.call hb8
    have q8 := s8.hold
    simp only [Holds, and_true] at q8
    have sz2 := q5.1.2.1
    clear s5 hb8 q5
    rcases h8 with ⟨hno, rfl⟩ | ⟨hyes, g4, cp4, rfl, hg4, hR4⟩
    · go_wp2_with fail
      refine bodyPost_ret (v := .tuple #[(.agg #[.int .i64 0, .slice none 0 0]), .bool false, .nilIface]) (by simp [results, Tryd.results34, go_sem, q8]) rfl ⟨?_, .inr (.inl ⟨rfl, hno, rfl⟩)⟩
      repeat' (first | exact s8.bel | refine Below.setCell ?_ (by first | (simp; done) | (simp; omega)) _)
    · go_wp2_with fail
      refine bodyPost_ret (v := .tuple #[(.agg #[.int .i64 N, (.slice (some ⟨g4, 0, none⟩) len cp4)]), .bool true, .nilIface]) (by simp [results, Tryd.results34, go_sem, q8]) rfl ⟨?_, .inr (.inr ⟨rfl, hyes, g4, cp4, rfl, by omega, ?_⟩)⟩
      · repeat' (first | exact s8.bel | refine Below.setCell ?_ (by first | (simp; done) | (simp; omega)) _)
      · exact (hR4.other (by show w.heap.size + 1 + 1 ≠ g4; omega) _).other (by show w.heap.size + 1 + 1 ≠ g4; omega) _
  · rw [erV_ne h0] at HF
    have H0 := hide h0
    clear h0 hS hA hl her he1 he2
    go_enter Tryd.func34, Tryd.ntmps34
    go_wp2_with fail
    go_cut [7] (fun t7 wx => t7 = .iface 169 (.pointer (some (a (er.toNat - 1)))) ∧ St w wx (EC a s l) ((w.heap.size + 1 + 1, 0, Value.int .i64 0) :: (w.heap.size + 1 + 1, 1, Value.slice none 0 0) :: (w.heap.size + 1, 0, Value.int .i64 x) :: (w.heap.size, 0, Value.int .i64 N) :: (w.heap.size, 1, Value.slice s len c0) :: []))
    case first =>
      (go_region_held3 (fun w' => w'.cell? ⟨w.heap.size + 1 + 1, 0, none⟩ = some (.int .i64 0) ∧ w'.cell? ⟨w.heap.size + 1 + 1, 1, none⟩ = some (.slice none 0 0) ∧ w'.cell? ⟨w.heap.size + 1, 0, none⟩ = some (.int .i64 x) ∧ w'.cell? ⟨w.heap.size, 0, none⟩ = some (.int .i64 N) ∧ w'.cell? ⟨w.heap.size, 1, none⟩ = some (.slice s len c0) ∧ St w w' (EC a s l) ((w.heap.size + 1 + 1, 0, Value.int .i64 0) :: (w.heap.size + 1 + 1, 1, Value.slice none 0 0) :: (w.heap.size + 1, 0, Value.int .i64 x) :: (w.heap.size, 0, Value.int .i64 N) :: (w.heap.size, 1, Value.slice s len c0) :: [])) (first | (exact keepSt0 ((w.heap.size + 1 + 1, 0, Value.int .i64 0) :: (w.heap.size + 1 + 1, 1, Value.slice none 0 0) :: (w.heap.size + 1, 0, Value.int .i64 x) :: (w.heap.size, 0, Value.int .i64 N) :: (w.heap.size, 1, Value.slice s len c0) :: []) s0.drew) | (exact keepSt ((w.heap.size + 1 + 1, 0, Value.int .i64 0) :: (w.heap.size + 1 + 1, 1, Value.slice none 0 0) :: (w.heap.size + 1, 0, Value.int .i64 x) :: (w.heap.size, 0, Value.int .i64 N) :: (w.heap.size, 1, Value.slice s len c0) :: []) (by assumption) (by assumption)) | (exact keepSt ((w.heap.size + 1 + 1, 0, Value.int .i64 0) :: (w.heap.size + 1 + 1, 1, Value.slice none 0 0) :: (w.heap.size + 1, 0, Value.int .i64 x) :: (w.heap.size, 0, Value.int .i64 N) :: (w.heap.size, 1, Value.slice s len c0) :: []) ((Below.refl _ _).alloc (Nat.le_refl _) _) (by assumption)) | assumption) (first | (go_at_call 20; refine (HV.out _ (keepEC1 (w := w) (x := s) (l := l) ((w.heap.size + 1 + 1, 0, Value.int .i64 0) :: (w.heap.size + 1 + 1, 1, Value.slice none 0 0) :: (w.heap.size + 1, 0, Value.int .i64 x) :: (w.heap.size, 0, Value.int .i64 N) :: (w.heap.size, 1, Value.slice s len c0) :: []) (by assumption)) (keepEC2 (w := w) (a := a) ((w.heap.size + 1 + 1, 0, Value.int .i64 0) :: (w.heap.size + 1 + 1, 1, Value.slice none 0 0) :: (w.heap.size + 1, 0, Value.int .i64 x) :: (w.heap.size, 0, Value.int .i64 N) :: (w.heap.size, 1, Value.slice s len c0) :: []) (by assumption))).mono ?_; rintro e w2 ⟨rfl, hb2⟩; (first | (with_reducible have hpX := Sl1.below hpX hb2) | (with_reducible have hpX := Sl1.below (Sl1.alloc hpX _) hb2) | (with_reducible have hpX := Sl1.below Sl1.here hb2) | (with_reducible have hpX := Sl1.below (Sl1.drew Sl1.here) hb2) | skip); (first | (simp only [World.size_alloc] at hpX) | skip)) | (go_at_call 71; have hpX2 := hpX; refine (HX.out _ _ (keepEC1 (w := w) (x := s) (l := l) ((w.heap.size + 1 + 1, 0, Value.int .i64 0) :: (w.heap.size + 1 + 1, 1, Value.slice none 0 0) :: (w.heap.size + 1, 0, Value.int .i64 x) :: (w.heap.size, 0, Value.int .i64 N) :: (w.heap.size, 1, Value.slice s len c0) :: []) (by assumption)) (by first | with_reducible exact hpX | with_reducible exact hpX.alloc _ | with_reducible exact hpX.drew | with_reducible exact (hpX.alloc _).drew | with_reducible exact hpX.drew.alloc _)).mono ?_; rintro e w3 ⟨rfl, hb3⟩) | (go_at_call 71; refine (HX.out _ _ (keepEC1 (w := w) (x := s) (l := l) ((w.heap.size + 1 + 1, 0, Value.int .i64 0) :: (w.heap.size + 1 + 1, 1, Value.slice none 0 0) :: (w.heap.size + 1, 0, Value.int .i64 x) :: (w.heap.size, 0, Value.int .i64 N) :: (w.heap.size, 1, Value.slice s len c0) :: []) (by assumption)) (by first | with_reducible exact Sl1.here' (by simp) | with_reducible exact Sl1.drew (Sl1.here' (by simp)))).mono ?_; rintro e w3 ⟨rfl, hb3⟩) | (go_at_call 49; refine (HF.out _ _).mono ?_; rintro e w4 ⟨rfl, rfl⟩)))
      all_goals
        have s5 := keepSt_st (w := w) (Z := EC a s l) ((w.heap.size + 1 + 1, 0, Value.int .i64 0) :: (w.heap.size + 1 + 1, 1, Value.slice none 0 0) :: (w.heap.size + 1, 0, Value.int .i64 x) :: (w.heap.size, 0, Value.int .i64 N) :: (w.heap.size, 1, Value.slice s len c0) :: []) (by assumption)
        go_wp2_with fail
        go_meet
        case rel => exact ⟨rfl, s5⟩
    case rest =>
    obtain ⟨rfl, s5⟩ := hcut
    have q5 := s5.hold
    simp only [Holds, and_true] at q5
    clear s0 q0 HV HX HF hcl
    go_wp2_with fail
    refine bodyPost_ret (v := .tuple #[(.agg #[.int .i64 0, .slice none 0 0]), .bool false, .iface 169 (.pointer (some (a (er.toNat - 1))))]) (by simp [results, Tryd.results34, go_sem, q5]) rfl ⟨?_, .inl ⟨H0.out, by rw [erV_ne H0.out]⟩⟩
    repeat' (first | exact s5.bel | refine Below.setCell ?_ (by first | (simp; done) | (simp; omega)) _)
end Go.Proofs.YtofjjaabgfmnpaaDoor
