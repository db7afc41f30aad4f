/- Zones: a variable is forgotten, or becomes another one and a number. -/
import Derived.Test.YtcbjlimpnclipaaDoorYw
import Derived.Test.YtcbjlimpnclipaaDoorYl
namespace Go.Proofs.YtcbjlimpnclipaaDoor
open Go.RowKit
set_option linter.unusedVariables false

/-- What a change makes of a square. -/
def Chg (fn : Nat) (caps : Array Value) (w : World) (n len : Nat) (d d' : Mat) : Prop :=
  ∀ (W : World) (g cp : Nat), Below w.heap.size w W → GrI W g n (encM d) → Calls Tryd.prog fn (#[(.agg #[.int .i64 n, (.slice (some ⟨g, 0, none⟩) len cp)])] ++ caps) W fun e w' => GrPost W n len (encM d') e w'

set_option maxRecDepth 20000 in
set_option maxHeartbeats 4000000 in
theorem tellChanged_any (fn : Nat) (caps : Array Value) (N : Int) (n b off c len : Nat) (l : List Ce) (d' : Mat) (w : World) (hR : RowC w b off l) (hl : Hid (len = l.length)) (hll : Hid (len = n * n)) (hn : 1 ≤ n ∧ n ≤ 5) (hN : N + 1 = n) (hS : Hid (Sz n 1099511627776 (matOf n l))) (hE : Hid (Enters fn)) (hC : Hid (Chg fn caps w n len (fw (matOf n l) n) d')) :
    Calls Tryd.prog 64 #[(.agg #[.int .i64 N, (.slice (some ⟨b, off, none⟩) len c)]), .func (.func fn) #[] caps] w fun e w' => ZaPost w N len (NoNeg n (fw (matOf n l) n)) (tellL n d') e w' := by
  have hE' : ∀ (args : Array Value) (W : World), (callFunc fn args).run Tryd.prog W = .ok (.enter fn args) W := hE.out
  have s0 := ((St.startR hR).box2 30 (.int .i64 N) (.slice (some ⟨b, off, none⟩) len c)).box2 30 (.int .i64 0) (.slice none 0 0)
  simp only [World.size_alloc] at s0
  have HB : Hid (∀ W : World, RowC W b off l → Calls Tryd.prog 42 #[(.agg #[.int .i64 N, (.slice (some ⟨b, off, none⟩) len c)])] W fun e w' => GrPost W n len (encM (matOf n l)) e w') := fun W h => boundsOf_any N n b off c len l W h hl hll hn hN
  have HC : Hid (∀ (W : World) (g cp : Nat), GrI W g n (encM (matOf n l)) → Calls Tryd.prog 58 #[(.agg #[.int .i64 n, (.slice (some ⟨g, 0, none⟩) len cp)])] W fun e w' => ClPost W n len (matOf n l) e w') := fun W g cp h => closed_any n g cp len 1099511627776 _ W h hll hn hS (by omega)
  have HT : Hid (∀ (W : World) (g1 cp1 : Nat), GrI W g1 n (encM d') → Calls Tryd.prog 59 #[(.agg #[.int .i64 n, (.slice (some ⟨g1, 0, none⟩) len cp1)])] W fun e w' => TellPost W N len (tellL n d') e w') := fun W g1 cp1 h => by
    have := tellz_any N n g1 cp1 len _ W h hll hn hN
    rw [hll.out, gridL_enc] at this
    rw [hll.out]
    exact this
  obtain ⟨L, hL⟩ : ∃ L, L = tellL n d' := ⟨_, rfl⟩
  obtain ⟨A, hA⟩ : ∃ A, A = matOf n l := ⟨_, rfl⟩
  have HCh : Hid (∀ (W : World) (g cp : Nat), Below w.heap.size w W → GrI W g n (encM (fw A n)) → Calls Tryd.prog fn (#[(.agg #[.int .i64 n, (.slice (some ⟨g, 0, none⟩) len cp)])] ++ caps) W fun e w' => GrPost W n len (encM d') e w') := by rw [hA]; exact hC.out
  rw [← hL] at HT ⊢
  rw [← hA] at HB HC ⊢
  clear hL hA hR hl hll hS hE hC
  go_enter Tryd.func64, Tryd.ntmps64
  go_wp2_with fail
  refine (HB.out _ s0.sent).mono ?_
  rintro e w1 ⟨g1, cp1, rfl, hg1, hG1, hb1⟩
  (have s1 := s0.call hb1; have q1 := s1.hold; simp only [Holds, and_true] at q1)
  clear s0 hb1
  go_wp2_with fail
  refine (HC.out _ g1 cp1 hG1).mono ?_
  rintro e w2 ⟨hb2, h2⟩
  (have s2 := s1.call hb2; have q2 := s2.hold; simp only [Holds, and_true] at q2)
  clear s1 q1 hb2
  have sz2 : w.heap.size + 1 < w2.heap.size := q2.1.2.1
  rcases h2 with ⟨hno, rfl⟩ | ⟨hyes, g2, cp2, rfl, hg2, hG2⟩
  · go_wp2_with fail
    refine bodyPost_ret (v := .tuple #[(.agg #[.int .i64 0, .slice none 0 0]), .bool false, .nilIface]) (by simp [results, Tryd.results64, go_sem, q2]) rfl ⟨?_, .inl ⟨hno, rfl⟩⟩
    repeat' (first | exact s2.bel | refine Below.setCell ?_ (by first | (simp; done) | (simp; omega)) _ | refine Below.alloc ?_ (by first | (simp; done) | (simp; omega)) _)
  · have s3 := s2.box2 77 (.int .i64 n) (.slice (some ⟨g2, 0, none⟩) len cp2)
    have hG3 := hG2.below ((Below.refl _ _).alloc (Nat.le_refl _) (.cells #[.int .i64 n, .slice (some ⟨g2, 0, none⟩) len cp2] 77))
    go_wp2_with fail
    refine (HCh.out _ g2 cp2 s3.bel hG3).mono ?_
    rintro e w4 ⟨g4, cp4, rfl, hg4, hG4, hb4⟩
    (have s4 := s3.call hb4; have q4 := s4.hold; simp only [Holds, and_true] at q4)
    clear s3 hb4 s2 q2
    go_wp2_with fail
    refine (HT.out _ g4 cp4 hG4).mono ?_
    rintro e w5 ⟨g5, cp5, rfl, hg5, hR5, hb5⟩
    (have s5 := s4.call hb5; have q5 := s5.hold; simp only [Holds, and_true] at q5)
    have sz4 : w.heap.size + 1 < w4.heap.size := q4.2.2.1.2.1
    clear s4 hb5 q4
    go_wp2_with fail
    refine bodyPost_ret (v := .tuple #[(.agg #[.int .i64 N, (.slice (some ⟨g5, 0, none⟩) len cp5)]), .bool true, .nilIface]) (by simp [results, Tryd.results64, go_sem, q5]) rfl ⟨?_, .inr ⟨hyes, g5, cp5, rfl, by omega, ?_⟩⟩
    · repeat' (first | exact s5.bel | refine Below.setCell ?_ (by first | (simp; done) | (simp; omega)) _)
    · exact (hR5.other (by show w.heap.size + 1 ≠ g5; omega) _).other (by show w.heap.size + 1 ≠ g5; omega) _

theorem enters_fo : Enters 65 := enters_of Tryd.func65 (by kernel_rfl) rfl
set_option maxRecDepth 20000 in
set_option maxHeartbeats 4000000 in
theorem chg_fo (n len x bx : Nat) (d : Mat) (w : World) (hx : w.cell? ⟨bx, 0, none⟩ = some (.int .i64 x)) (hll : Hid (len = n * n)) (hn : 1 ≤ n ∧ n ≤ 5) : Chg 65 #[.pointer (some ⟨bx, 0, none⟩)] w n len d (woM d x) := by
  intro W g cp hb hG
  have hxW : W.cell? ⟨bx, 0, none⟩ = some (.int .i64 x) := (hb.cell (World.block_lt_of_cell? w _ hx)).trans hx
  have hxl := World.block_lt_of_cell? W _ hxW
  have s0 := ((St.startG hG).box2 77 (.int .i64 n) (.slice (some ⟨g, 0, none⟩) len cp)).box2 77 (.int .i64 0) (.slice none 0 0)
  simp only [World.size_alloc] at s0
  have HW : Hid (∀ W : World, GrI W g n (encM d) → Calls Tryd.prog 66 #[(.agg #[.int .i64 n, (.slice (some ⟨g, 0, none⟩) len cp)]), .int .i64 x] W fun e w' => GrPost W n len (encM (woM d x)) e w') := fun W h => (without_any n g cp len x _ W h hll hn).mono fun _ _ k => k.congr fun i j _ _ => wo_enc d x i j
  obtain ⟨f, hf⟩ : ∃ f, f = encM (woM d x) := ⟨_, rfl⟩
  show Calls _ _ #[(.agg #[.int .i64 n, (.slice (some ⟨g, 0, none⟩) len cp)]), .pointer (some ⟨bx, 0, none⟩)] _ _
  rw [← hf] at HW ⊢
  clear hf hll hb hx hG
  go_enter Tryd.func65, Tryd.ntmps65
  go_wp2_with fail
  refine (HW.out _ s0.sent).mono ?_
  rintro e w1 ⟨g1, cp1, rfl, hg1, hG1, hb1⟩
  (have s1 := s0.call hb1; have q1 := s1.hold; simp only [Holds, and_true] at q1)
  simp only [World.size_alloc] at hg1
  clear s0 hb1
  go_wp2_with fail
  refine bodyPost_ret (v := (.agg #[.int .i64 n, (.slice (some ⟨g1, 0, none⟩) len cp1)])) (by simp [results, Tryd.results65, go_sem, q1]) rfl ⟨g1, cp1, rfl, by omega, ?_, ?_⟩
  · exact (hG1.other (by show W.heap.size + 1 ≠ g1; omega) _).other (by show W.heap.size + 1 ≠ g1; omega) _
  · iterate 2 refine Below.setCell ?_ (by first | (simp; done) | (simp; omega)) _
    exact s1.bel
theorem enters_as : Enters 68 := enters_of Tryd.func68 (by kernel_rfl) rfl
set_option maxRecDepth 20000 in
set_option maxHeartbeats 4000000 in
theorem chg_as (n len x y bx by_ bc : Nat) (c : Int) (d : Mat) (w : World) (hx : w.cell? ⟨bx, 0, none⟩ = some (.int .i64 x)) (hy : w.cell? ⟨by_, 0, none⟩ = some (.int .i64 y)) (hc : w.cell? ⟨bc, 0, none⟩ = some (.int .i64 c)) (hll : Hid (len = n * n)) (hn : 1 ≤ n ∧ n ≤ 5) (hyn : y < n) (hcc : Hid (c.natAbs ≤ 1099511627776)) (hS : Hid (Sz n 35184372088832 d)) :
    Chg 68 #[.pointer (some ⟨bx, 0, none⟩), .pointer (some ⟨by_, 0, none⟩), .pointer (some ⟨bc, 0, none⟩)] w n len d (mvM d x y c) := by
  intro W g cp hb hG
  have hxW : W.cell? ⟨bx, 0, none⟩ = some (.int .i64 x) := (hb.cell (World.block_lt_of_cell? w _ hx)).trans hx
  have hyW : W.cell? ⟨by_, 0, none⟩ = some (.int .i64 y) := (hb.cell (World.block_lt_of_cell? w _ hy)).trans hy
  have hcW : W.cell? ⟨bc, 0, none⟩ = some (.int .i64 c) := (hb.cell (World.block_lt_of_cell? w _ hc)).trans hc
  have hxl := World.block_lt_of_cell? W _ hxW
  have hyl := World.block_lt_of_cell? W _ hyW
  have hcl := World.block_lt_of_cell? W _ hcW
  have s0 := ((St.startG hG).box2 77 (.int .i64 n) (.slice (some ⟨g, 0, none⟩) len cp)).box2 77 (.int .i64 0) (.slice none 0 0)
  simp only [World.size_alloc] at s0
  have HW : Hid (∀ W : World, GrI W g n (encM d) → Calls Tryd.prog 69 #[(.agg #[.int .i64 n, (.slice (some ⟨g, 0, none⟩) len cp)]), .int .i64 x, .int .i64 y, .int .i64 c] W fun e w' => GrPost W n len (encM (mvM d x y c)) e w') := fun W h => (moved_any n g cp len x y c _ W h hll hn hyn hcc (fun i j hi hj => mv_ok hS.out (by omega) hcc.out hyn hi hj)).mono fun _ _ k => k.congr fun i j hi hj => mv_enc hS.out (by omega) hcc.out hyn hi hj
  obtain ⟨f, hf⟩ : ∃ f, f = encM (mvM d x y c) := ⟨_, rfl⟩
  show Calls _ _ #[(.agg #[.int .i64 n, (.slice (some ⟨g, 0, none⟩) len cp)]), .pointer (some ⟨bx, 0, none⟩), .pointer (some ⟨by_, 0, none⟩), .pointer (some ⟨bc, 0, none⟩)] _ _
  rw [← hf] at HW ⊢
  clear hf hll hb hx hy hc hG hS hcc
  go_enter Tryd.func68, Tryd.ntmps68
  go_wp2_with fail
  refine (HW.out _ s0.sent).mono ?_
  rintro e w1 ⟨g1, cp1, rfl, hg1, hG1, hb1⟩
  (have s1 := s0.call hb1; have q1 := s1.hold; simp only [Holds, and_true] at q1)
  simp only [World.size_alloc] at hg1
  clear s0 hb1
  go_wp2_with fail
  refine bodyPost_ret (v := (.agg #[.int .i64 n, (.slice (some ⟨g1, 0, none⟩) len cp1)])) (by simp [results, Tryd.results68, go_sem, q1]) rfl ⟨g1, cp1, rfl, by omega, ?_, ?_⟩
  · exact (hG1.other (by show W.heap.size + 1 ≠ g1; omega) _).other (by show W.heap.size + 1 ≠ g1; omega) _
  · iterate 2 refine Below.setCell ?_ (by first | (simp; done) | (simp; omega)) _
    exact s1.bel
end Go.Proofs.YtcbjlimpnclipaaDoor
