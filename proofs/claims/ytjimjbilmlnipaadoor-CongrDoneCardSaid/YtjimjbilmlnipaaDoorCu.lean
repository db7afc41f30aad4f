/- The walk of CongrDone, by what is asked of the program's functions. -/
import Derived.Test.YtjimjbilmlnipaaDoorCv
import Derived.Deep.RegionHeld3
namespace Go.Proofs.YtjimjbilmlnipaaDoor
open Go.RowKit
set_option linter.unusedVariables false


set_option maxRecDepth 20000 in
set_option maxHeartbeats 16000000 in
theorem cdone_walk (a : Nat → Addr) (hT : SixthC a) (r m r' m' n : Int) (w : World) (hS : Sents w a) (E F0 F pr pm qr qm tr tm sr sm : Int) (f : Bool) (v vs : Value) (hE : 0 ≤ E) (hF : 0 ≤ F) (hF0 : 0 ≤ F0)
    (HE : Hid (∀ W : World, Calls Tryd.prog 17 #[(.agg #[.int .i64 r, .int .i64 m]), (.agg #[.int .i64 r', .int .i64 m'])] W fun x w' => x = .returned (.int .i64 E) ∧ Below W.heap.size W w'))
    (HA : Hid (∀ W : World, Sents W a → Calls Tryd.prog 24 #[(.agg #[.int .i64 r, .int .i64 m]), (.agg #[.int .i64 r', .int .i64 m'])] W fun x w' => x = .returned (.tuple #[(.agg #[.int .i64 pr, .int .i64 pm]), v]) ∧ Below W.heap.size W w')) (HB : Hid (∀ W : World, Sents W a → Calls Tryd.prog 25 #[(.agg #[.int .i64 r, .int .i64 m]), (.agg #[.int .i64 r', .int .i64 m'])] W fun x w' => x = .returned (.tuple #[(.agg #[.int .i64 qr, .int .i64 qm]), v]) ∧ Below W.heap.size W w')) (HM : Hid (∀ W : World, Sents W a → Calls Tryd.prog 26 #[(.agg #[.int .i64 r, .int .i64 m]), (.agg #[.int .i64 r', .int .i64 m'])] W fun x w' => x = .returned (.tuple #[(.agg #[.int .i64 tr, .int .i64 tm]), v]) ∧ Below W.heap.size W w'))
    (HN : Hid (∀ W : World, Sents W a → Calls Tryd.prog 27 #[(.agg #[.int .i64 r, .int .i64 m]), .int .i64 n] W fun x w' => x = .returned (.tuple #[(.agg #[.int .i64 sr, .int .i64 sm]), vs]) ∧ Below W.heap.size W w'))
    (HC : Hid (∀ W : World, Calls Tryd.prog 11 #[(.agg #[.int .i64 r, .int .i64 m])] W fun x w' => x = .returned (.int .i64 F0) ∧ Below W.heap.size W w'))
    (HR : Hid (∀ W : World, Calls Tryd.prog 10 #[.int .i64 n, .int .i64 1048576] W fun x w' => x = .returned (.bool f) ∧ w' = W))
    (HF : Hid (F = if F0 = 0 then (if f = true then 2 else 0) else F0))
    (HX : Hid (0 < F → (∀ W : World, Sents W a → Calls Tryd.prog 21 #[(.agg #[.int .i64 sr, .int .i64 sm]), vs, (.agg #[.int .i64 0, .int .i64 0]), .int .i64 F] W fun x w' => x = .returned (.bool true) ∧ Below W.heap.size W w')))
    (HX1 : Hid (0 < E → (∀ W : World, Sents W a → Calls Tryd.prog 21 #[(.agg #[.int .i64 pr, .int .i64 pm]), v, (.agg #[.int .i64 0, .int .i64 0]), .int .i64 E] W fun x w' => x = .returned (.bool true) ∧ Below W.heap.size W w'))) (HX2 : Hid (0 < E → (∀ W : World, Sents W a → Calls Tryd.prog 21 #[(.agg #[.int .i64 qr, .int .i64 qm]), v, (.agg #[.int .i64 0, .int .i64 0]), .int .i64 E] W fun x w' => x = .returned (.bool true) ∧ Below W.heap.size W w'))) (HX3 : Hid (0 < E → (∀ W : World, Sents W a → Calls Tryd.prog 21 #[(.agg #[.int .i64 tr, .int .i64 tm]), v, (.agg #[.int .i64 0, .int .i64 0]), .int .i64 E] W fun x w' => x = .returned (.bool true) ∧ Below W.heap.size W w')))
    (HG : Hid (F = 0 → vs = .nilIface ∧ okC ⟨r, m⟩ ∧ (-1048576 ≤ n ∧ n ≤ 1048576) ∧ (⟨sr, sm⟩ : Cg) = formC ((scaleL n r m).getD 0 0) (gcdD (scaleL n r m) 3)))
    (HH : Hid (E = 0 → v = .nilIface ∧ okC ⟨r, m⟩ ∧ okC ⟨r', m'⟩ ∧ (⟨pr, pm⟩ : Cg) = formC ((pairF (fun x y => x + y) r m r' m' 9).getD 0 0) (gcdD (pairF (fun x y => x + y) r m r' m' 9) 9) ∧ (⟨qr, qm⟩ : Cg) = formC ((pairF (fun x y => x - y) r m r' m' 9).getD 0 0) (gcdD (pairF (fun x y => x - y) r m r' m' 9) 9) ∧ (⟨tr, tm⟩ : Cg) = formC ((pairF (fun x y => x * y) r m r' m' 9).getD 0 0) (gcdD (pairF (fun x y => x * y) r m r' m' 9) 9))) :
    Calls Tryd.prog 6 #[(.agg #[.int .i64 r, .int .i64 m]), (.agg #[.int .i64 r', .int .i64 m']), .int .i64 n] w fun x w' => x = .returned (.bool true) ∧ Below w.heap.size w w' := by
  have HO : Hid (∀ (p q : Int) (W : World), Calls Tryd.prog 14 #[(.agg #[.int .i64 p, .int .i64 q])] W fun e w' => e = .returned (.agg #[.int .i64 p, .int .i64 q]) ∧ Below W.heap.size W w') := own_any
  go_enter Tryd.func6, Tryd.ntmps6
  go_wp2_with fail
  have s0 := ((St.start hS).box2 23 (.int .i64 r) (.int .i64 m)).box2 23 (.int .i64 r') (.int .i64 m')
  simp only [World.size_alloc] at s0
  refine (hT _ s0.sents.errs).mono ?_
  (rintro x1 w1 ⟨rfl, hb⟩; have s1 := s0.call hb; have q1 := s1.hold; simp only [Holds, and_true] at q1; clear hb s0; try clear q0)
  go_wp2_with fail
  refine (HE.out _).mono ?_
  (rintro x1 w2 ⟨rfl, hb⟩; have s2 := s1.call hb; have q2 := s2.hold; simp only [Holds, and_true] at q2; clear hb s1; try clear q1)
  go_upto_region 5 with fail
  go_cut [9, 10] (fun t1 t2 wx => v = t2 ∧ ∃ bp : Nat, t1 = .pointer (some ⟨bp, 0, none⟩) ∧ w.heap.size ≤ bp ∧ St w wx (SZ a) ((bp, 0, Value.int .i64 pr) :: (bp, 1, Value.int .i64 pm) :: (w.heap.size + 1, 0, Value.int .i64 r') :: (w.heap.size + 1, 1, Value.int .i64 m') :: (w.heap.size, 0, Value.int .i64 r) :: (w.heap.size, 1, Value.int .i64 m) :: []))
  case first =>
    as_aux_lemma =>
      have hwB := s2.bel.size
      have kk := s2.hold
      go_region_held3 (fun w' => w'.cell? ⟨w.heap.size + 1, 0, none⟩ = some (.int .i64 r') ∧ w'.cell? ⟨w.heap.size + 1, 1, none⟩ = some (.int .i64 m') ∧ w'.cell? ⟨w.heap.size, 0, none⟩ = some (.int .i64 r) ∧ w'.cell? ⟨w.heap.size, 1, none⟩ = some (.int .i64 m) ∧ St w w' (SZ a) ((w.heap.size + 1, 0, Value.int .i64 r') :: (w.heap.size + 1, 1, Value.int .i64 m') :: (w.heap.size, 0, Value.int .i64 r) :: (w.heap.size, 1, Value.int .i64 m) :: [])) (first | (exact keepSt0 ((w.heap.size + 1, 0, Value.int .i64 r') :: (w.heap.size + 1, 1, Value.int .i64 m') :: (w.heap.size, 0, Value.int .i64 r) :: (w.heap.size, 1, Value.int .i64 m) :: []) s2.drew) | (exact keepSt ((w.heap.size + 1, 0, Value.int .i64 r') :: (w.heap.size + 1, 1, Value.int .i64 m') :: (w.heap.size, 0, Value.int .i64 r) :: (w.heap.size, 1, Value.int .i64 m) :: []) (by assumption) (by assumption)) | (exact keepSt0 ((w.heap.size + 1, 0, Value.int .i64 r') :: (w.heap.size + 1, 1, Value.int .i64 m') :: (w.heap.size, 0, Value.int .i64 r) :: (w.heap.size, 1, Value.int .i64 m) :: []) ((s6.late2 kk hwB (by first | exact Nat.le_refl _ | exact hb4.size | exact hb5.size | exact Nat.le_trans hb4.size hb5.size | exact Nat.le_trans hb5.size hb4.size) hx _ _).drop 2)) | (exact keepSt0 ((w.heap.size + 1, 0, Value.int .i64 r') :: (w.heap.size + 1, 1, Value.int .i64 m') :: (w.heap.size, 0, Value.int .i64 r) :: (w.heap.size, 1, Value.int .i64 m) :: []) (s6.alloc _)) | (exact keepSt0 ((w.heap.size + 1, 0, Value.int .i64 r') :: (w.heap.size + 1, 1, Value.int .i64 m') :: (w.heap.size, 0, Value.int .i64 r) :: (w.heap.size, 1, Value.int .i64 m) :: []) ((keepSt_st ((w.heap.size + 1, 0, Value.int .i64 r') :: (w.heap.size + 1, 1, Value.int .i64 m') :: (w.heap.size, 0, Value.int .i64 r) :: (w.heap.size, 1, Value.int .i64 m) :: []) (by assumption)).alloc _)) | (exact keepSt0 ((w.heap.size + 1, 0, Value.int .i64 r') :: (w.heap.size + 1, 1, Value.int .i64 m') :: (w.heap.size, 0, Value.int .i64 r) :: (w.heap.size, 1, Value.int .i64 m) :: []) ((keepSt_st ((w.heap.size + 1, 0, Value.int .i64 r') :: (w.heap.size + 1, 1, Value.int .i64 m') :: (w.heap.size, 0, Value.int .i64 r) :: (w.heap.size, 1, Value.int .i64 m) :: []) (by assumption)).alloc _).drew))
        (first
          | (go_at_call_of 14 (Value.agg #[.int .i64 r, .int .i64 m]); (fail_if_success (have _ := hb4)); refine (HO.out r m _).mono ?_; rintro e w4 ⟨rfl, hb4⟩; (first | (have hx4 := Holds.below hx hb4; clear hx; have hx := hx4; clear hx4; have ho4 := hx; simp only [Holds, and_true] at ho4) | (have hx := boxed2 hb4; have ho4 := hx; simp only [Holds, and_true] at ho4) | (have hx := boxed2' hb4; have ho4 := hx; simp only [Holds, and_true] at ho4) | skip))
          | (go_at_call_of 14 (Value.agg #[.int .i64 r', .int .i64 m']); refine (HO.out r' m' _).mono ?_; rintro e w5 ⟨rfl, hb5⟩; (first | (have hx5 := Holds.below hx hb5; clear hx; have hx := hx5; clear hx5; have ho5 := hx; simp only [Holds, and_true] at ho5) | (have hx := boxed2 hb5; have ho5 := hx; simp only [Holds, and_true] at ho5) | (have hx := boxed2' hb5; have ho5 := hx; simp only [Holds, and_true] at ho5) | skip))
          | (go_at_call 24; refine (HA.out _ (keepSt_st ((w.heap.size + 1, 0, Value.int .i64 r') :: (w.heap.size + 1, 1, Value.int .i64 m') :: (w.heap.size, 0, Value.int .i64 r) :: (w.heap.size, 1, Value.int .i64 m) :: []) (by assumption)).sents).mono ?_; rintro e w6 ⟨rfl, hb6⟩; have s6 := (keepSt_st ((w.heap.size + 1, 0, Value.int .i64 r') :: (w.heap.size + 1, 1, Value.int .i64 m') :: (w.heap.size, 0, Value.int .i64 r) :: (w.heap.size, 1, Value.int .i64 m) :: []) (by assumption)).call hb6; (first | (have hx6 := Holds.below hx hb6; clear hx; have hx := hx6; clear hx6; have ho6 := hx; simp only [Holds, and_true] at ho6) | (have hx := boxed2 hb6; have ho6 := hx; simp only [Holds, and_true] at ho6) | (have hx := boxed2' hb6; have ho6 := hx; simp only [Holds, and_true] at ho6) | skip)))
      all_goals
        go_wp2_with fail
        go_meet
        case rel => first
          | exact ⟨rfl, _, rfl, s6.bel.size, s6.box2 31 _ _⟩
          | exact ⟨rfl, _, rfl, Nat.le_trans hwB (by first | exact Nat.le_refl _ | exact hb4.size | exact hb5.size | exact Nat.le_trans hb4.size hb5.size | exact Nat.le_trans hb5.size hb4.size), s6.late2 kk hwB (by first | exact Nat.le_refl _ | exact hb4.size | exact hb5.size | exact Nat.le_trans hb4.size hb5.size | exact Nat.le_trans hb5.size hb4.size) hx _ _⟩
  case rest =>
  clear s2 q2
  obtain ⟨rfl, bp, rfl, hbp, s3⟩ := hcut
  have q3 := s3.hold
  simp only [Holds, and_true] at q3
  go_upto_region 6 with fail
  go_cut [11, 12] (fun t1 t2 wx => v = t2 ∧ ∃ bq : Nat, t1 = .pointer (some ⟨bq, 0, none⟩) ∧ w.heap.size ≤ bq ∧ St w wx (SZ a) ((bq, 0, Value.int .i64 qr) :: (bq, 1, Value.int .i64 qm) :: (bp, 0, Value.int .i64 pr) :: (bp, 1, Value.int .i64 pm) :: (w.heap.size + 1, 0, Value.int .i64 r') :: (w.heap.size + 1, 1, Value.int .i64 m') :: (w.heap.size, 0, Value.int .i64 r) :: (w.heap.size, 1, Value.int .i64 m) :: []))
  case first =>
    as_aux_lemma =>
      have hwB := s3.bel.size
      have kk := s3.hold
      go_region_held3 (fun w' => w'.cell? ⟨bp, 0, none⟩ = some (.int .i64 pr) ∧ w'.cell? ⟨bp, 1, none⟩ = some (.int .i64 pm) ∧ w'.cell? ⟨w.heap.size + 1, 0, none⟩ = some (.int .i64 r') ∧ w'.cell? ⟨w.heap.size + 1, 1, none⟩ = some (.int .i64 m') ∧ w'.cell? ⟨w.heap.size, 0, none⟩ = some (.int .i64 r) ∧ w'.cell? ⟨w.heap.size, 1, none⟩ = some (.int .i64 m) ∧ St w w' (SZ a) ((bp, 0, Value.int .i64 pr) :: (bp, 1, Value.int .i64 pm) :: (w.heap.size + 1, 0, Value.int .i64 r') :: (w.heap.size + 1, 1, Value.int .i64 m') :: (w.heap.size, 0, Value.int .i64 r) :: (w.heap.size, 1, Value.int .i64 m) :: [])) (first | (exact keepSt0 ((bp, 0, Value.int .i64 pr) :: (bp, 1, Value.int .i64 pm) :: (w.heap.size + 1, 0, Value.int .i64 r') :: (w.heap.size + 1, 1, Value.int .i64 m') :: (w.heap.size, 0, Value.int .i64 r) :: (w.heap.size, 1, Value.int .i64 m) :: []) s3.drew) | (exact keepSt ((bp, 0, Value.int .i64 pr) :: (bp, 1, Value.int .i64 pm) :: (w.heap.size + 1, 0, Value.int .i64 r') :: (w.heap.size + 1, 1, Value.int .i64 m') :: (w.heap.size, 0, Value.int .i64 r) :: (w.heap.size, 1, Value.int .i64 m) :: []) (by assumption) (by assumption)) | (exact keepSt0 ((bp, 0, Value.int .i64 pr) :: (bp, 1, Value.int .i64 pm) :: (w.heap.size + 1, 0, Value.int .i64 r') :: (w.heap.size + 1, 1, Value.int .i64 m') :: (w.heap.size, 0, Value.int .i64 r) :: (w.heap.size, 1, Value.int .i64 m) :: []) ((s6.late2 kk hwB (by first | exact Nat.le_refl _ | exact hb4.size | exact hb5.size | exact Nat.le_trans hb4.size hb5.size | exact Nat.le_trans hb5.size hb4.size) hx _ _).drop 2)) | (exact keepSt0 ((bp, 0, Value.int .i64 pr) :: (bp, 1, Value.int .i64 pm) :: (w.heap.size + 1, 0, Value.int .i64 r') :: (w.heap.size + 1, 1, Value.int .i64 m') :: (w.heap.size, 0, Value.int .i64 r) :: (w.heap.size, 1, Value.int .i64 m) :: []) (s6.alloc _)) | (exact keepSt0 ((bp, 0, Value.int .i64 pr) :: (bp, 1, Value.int .i64 pm) :: (w.heap.size + 1, 0, Value.int .i64 r') :: (w.heap.size + 1, 1, Value.int .i64 m') :: (w.heap.size, 0, Value.int .i64 r) :: (w.heap.size, 1, Value.int .i64 m) :: []) ((keepSt_st ((bp, 0, Value.int .i64 pr) :: (bp, 1, Value.int .i64 pm) :: (w.heap.size + 1, 0, Value.int .i64 r') :: (w.heap.size + 1, 1, Value.int .i64 m') :: (w.heap.size, 0, Value.int .i64 r) :: (w.heap.size, 1, Value.int .i64 m) :: []) (by assumption)).alloc _)) | (exact keepSt0 ((bp, 0, Value.int .i64 pr) :: (bp, 1, Value.int .i64 pm) :: (w.heap.size + 1, 0, Value.int .i64 r') :: (w.heap.size + 1, 1, Value.int .i64 m') :: (w.heap.size, 0, Value.int .i64 r) :: (w.heap.size, 1, Value.int .i64 m) :: []) ((keepSt_st ((bp, 0, Value.int .i64 pr) :: (bp, 1, Value.int .i64 pm) :: (w.heap.size + 1, 0, Value.int .i64 r') :: (w.heap.size + 1, 1, Value.int .i64 m') :: (w.heap.size, 0, Value.int .i64 r) :: (w.heap.size, 1, Value.int .i64 m) :: []) (by assumption)).alloc _).drew))
        (first
          | (go_at_call_of 14 (Value.agg #[.int .i64 r, .int .i64 m]); (fail_if_success (have _ := hb4)); refine (HO.out r m _).mono ?_; rintro e w4 ⟨rfl, hb4⟩; (first | (have hx4 := Holds.below hx hb4; clear hx; have hx := hx4; clear hx4; have ho4 := hx; simp only [Holds, and_true] at ho4) | (have hx := boxed2 hb4; have ho4 := hx; simp only [Holds, and_true] at ho4) | (have hx := boxed2' hb4; have ho4 := hx; simp only [Holds, and_true] at ho4) | skip))
          | (go_at_call_of 14 (Value.agg #[.int .i64 r', .int .i64 m']); refine (HO.out r' m' _).mono ?_; rintro e w5 ⟨rfl, hb5⟩; (first | (have hx5 := Holds.below hx hb5; clear hx; have hx := hx5; clear hx5; have ho5 := hx; simp only [Holds, and_true] at ho5) | (have hx := boxed2 hb5; have ho5 := hx; simp only [Holds, and_true] at ho5) | (have hx := boxed2' hb5; have ho5 := hx; simp only [Holds, and_true] at ho5) | skip))
          | (go_at_call 25; refine (HB.out _ (keepSt_st ((bp, 0, Value.int .i64 pr) :: (bp, 1, Value.int .i64 pm) :: (w.heap.size + 1, 0, Value.int .i64 r') :: (w.heap.size + 1, 1, Value.int .i64 m') :: (w.heap.size, 0, Value.int .i64 r) :: (w.heap.size, 1, Value.int .i64 m) :: []) (by assumption)).sents).mono ?_; rintro e w6 ⟨rfl, hb6⟩; have s6 := (keepSt_st ((bp, 0, Value.int .i64 pr) :: (bp, 1, Value.int .i64 pm) :: (w.heap.size + 1, 0, Value.int .i64 r') :: (w.heap.size + 1, 1, Value.int .i64 m') :: (w.heap.size, 0, Value.int .i64 r) :: (w.heap.size, 1, Value.int .i64 m) :: []) (by assumption)).call hb6; (first | (have hx6 := Holds.below hx hb6; clear hx; have hx := hx6; clear hx6; have ho6 := hx; simp only [Holds, and_true] at ho6) | (have hx := boxed2 hb6; have ho6 := hx; simp only [Holds, and_true] at ho6) | (have hx := boxed2' hb6; have ho6 := hx; simp only [Holds, and_true] at ho6) | skip)))
      all_goals
        go_wp2_with fail
        go_meet
        case rel => first
          | exact ⟨rfl, _, rfl, s6.bel.size, s6.box2 31 _ _⟩
          | exact ⟨rfl, _, rfl, Nat.le_trans hwB (by first | exact Nat.le_refl _ | exact hb4.size | exact hb5.size | exact Nat.le_trans hb4.size hb5.size | exact Nat.le_trans hb5.size hb4.size), s6.late2 kk hwB (by first | exact Nat.le_refl _ | exact hb4.size | exact hb5.size | exact Nat.le_trans hb4.size hb5.size | exact Nat.le_trans hb5.size hb4.size) hx _ _⟩
  case rest =>
  clear s3 q3
  obtain ⟨rfl, bq, rfl, hbq, s4⟩ := hcut
  have q4 := s4.hold
  simp only [Holds, and_true] at q4
  go_upto_region 7 with fail
  go_cut [13, 14] (fun t1 t2 wx => v = t2 ∧ ∃ bt : Nat, t1 = .pointer (some ⟨bt, 0, none⟩) ∧ w.heap.size ≤ bt ∧ St w wx (SZ a) ((bt, 0, Value.int .i64 tr) :: (bt, 1, Value.int .i64 tm) :: (bq, 0, Value.int .i64 qr) :: (bq, 1, Value.int .i64 qm) :: (bp, 0, Value.int .i64 pr) :: (bp, 1, Value.int .i64 pm) :: (w.heap.size + 1, 0, Value.int .i64 r') :: (w.heap.size + 1, 1, Value.int .i64 m') :: (w.heap.size, 0, Value.int .i64 r) :: (w.heap.size, 1, Value.int .i64 m) :: []))
  case first =>
    as_aux_lemma =>
      have hwB := s4.bel.size
      have kk := s4.hold
      go_region_held3 (fun w' => w'.cell? ⟨bq, 0, none⟩ = some (.int .i64 qr) ∧ w'.cell? ⟨bq, 1, none⟩ = some (.int .i64 qm) ∧ w'.cell? ⟨bp, 0, none⟩ = some (.int .i64 pr) ∧ w'.cell? ⟨bp, 1, none⟩ = some (.int .i64 pm) ∧ w'.cell? ⟨w.heap.size + 1, 0, none⟩ = some (.int .i64 r') ∧ w'.cell? ⟨w.heap.size + 1, 1, none⟩ = some (.int .i64 m') ∧ w'.cell? ⟨w.heap.size, 0, none⟩ = some (.int .i64 r) ∧ w'.cell? ⟨w.heap.size, 1, none⟩ = some (.int .i64 m) ∧ St w w' (SZ a) ((bq, 0, Value.int .i64 qr) :: (bq, 1, Value.int .i64 qm) :: (bp, 0, Value.int .i64 pr) :: (bp, 1, Value.int .i64 pm) :: (w.heap.size + 1, 0, Value.int .i64 r') :: (w.heap.size + 1, 1, Value.int .i64 m') :: (w.heap.size, 0, Value.int .i64 r) :: (w.heap.size, 1, Value.int .i64 m) :: [])) (first | (exact keepSt0 ((bq, 0, Value.int .i64 qr) :: (bq, 1, Value.int .i64 qm) :: (bp, 0, Value.int .i64 pr) :: (bp, 1, Value.int .i64 pm) :: (w.heap.size + 1, 0, Value.int .i64 r') :: (w.heap.size + 1, 1, Value.int .i64 m') :: (w.heap.size, 0, Value.int .i64 r) :: (w.heap.size, 1, Value.int .i64 m) :: []) s4.drew) | (exact keepSt ((bq, 0, Value.int .i64 qr) :: (bq, 1, Value.int .i64 qm) :: (bp, 0, Value.int .i64 pr) :: (bp, 1, Value.int .i64 pm) :: (w.heap.size + 1, 0, Value.int .i64 r') :: (w.heap.size + 1, 1, Value.int .i64 m') :: (w.heap.size, 0, Value.int .i64 r) :: (w.heap.size, 1, Value.int .i64 m) :: []) (by assumption) (by assumption)) | (exact keepSt0 ((bq, 0, Value.int .i64 qr) :: (bq, 1, Value.int .i64 qm) :: (bp, 0, Value.int .i64 pr) :: (bp, 1, Value.int .i64 pm) :: (w.heap.size + 1, 0, Value.int .i64 r') :: (w.heap.size + 1, 1, Value.int .i64 m') :: (w.heap.size, 0, Value.int .i64 r) :: (w.heap.size, 1, Value.int .i64 m) :: []) ((s6.late2 kk hwB (by first | exact Nat.le_refl _ | exact hb4.size | exact hb5.size | exact Nat.le_trans hb4.size hb5.size | exact Nat.le_trans hb5.size hb4.size) hx _ _).drop 2)) | (exact keepSt0 ((bq, 0, Value.int .i64 qr) :: (bq, 1, Value.int .i64 qm) :: (bp, 0, Value.int .i64 pr) :: (bp, 1, Value.int .i64 pm) :: (w.heap.size + 1, 0, Value.int .i64 r') :: (w.heap.size + 1, 1, Value.int .i64 m') :: (w.heap.size, 0, Value.int .i64 r) :: (w.heap.size, 1, Value.int .i64 m) :: []) (s6.alloc _)) | (exact keepSt0 ((bq, 0, Value.int .i64 qr) :: (bq, 1, Value.int .i64 qm) :: (bp, 0, Value.int .i64 pr) :: (bp, 1, Value.int .i64 pm) :: (w.heap.size + 1, 0, Value.int .i64 r') :: (w.heap.size + 1, 1, Value.int .i64 m') :: (w.heap.size, 0, Value.int .i64 r) :: (w.heap.size, 1, Value.int .i64 m) :: []) ((keepSt_st ((bq, 0, Value.int .i64 qr) :: (bq, 1, Value.int .i64 qm) :: (bp, 0, Value.int .i64 pr) :: (bp, 1, Value.int .i64 pm) :: (w.heap.size + 1, 0, Value.int .i64 r') :: (w.heap.size + 1, 1, Value.int .i64 m') :: (w.heap.size, 0, Value.int .i64 r) :: (w.heap.size, 1, Value.int .i64 m) :: []) (by assumption)).alloc _)) | (exact keepSt0 ((bq, 0, Value.int .i64 qr) :: (bq, 1, Value.int .i64 qm) :: (bp, 0, Value.int .i64 pr) :: (bp, 1, Value.int .i64 pm) :: (w.heap.size + 1, 0, Value.int .i64 r') :: (w.heap.size + 1, 1, Value.int .i64 m') :: (w.heap.size, 0, Value.int .i64 r) :: (w.heap.size, 1, Value.int .i64 m) :: []) ((keepSt_st ((bq, 0, Value.int .i64 qr) :: (bq, 1, Value.int .i64 qm) :: (bp, 0, Value.int .i64 pr) :: (bp, 1, Value.int .i64 pm) :: (w.heap.size + 1, 0, Value.int .i64 r') :: (w.heap.size + 1, 1, Value.int .i64 m') :: (w.heap.size, 0, Value.int .i64 r) :: (w.heap.size, 1, Value.int .i64 m) :: []) (by assumption)).alloc _).drew))
        (first
          | (go_at_call_of 14 (Value.agg #[.int .i64 r, .int .i64 m]); (fail_if_success (have _ := hb4)); refine (HO.out r m _).mono ?_; rintro e w4 ⟨rfl, hb4⟩; (first | (have hx4 := Holds.below hx hb4; clear hx; have hx := hx4; clear hx4; have ho4 := hx; simp only [Holds, and_true] at ho4) | (have hx := boxed2 hb4; have ho4 := hx; simp only [Holds, and_true] at ho4) | (have hx := boxed2' hb4; have ho4 := hx; simp only [Holds, and_true] at ho4) | skip))
          | (go_at_call_of 14 (Value.agg #[.int .i64 r', .int .i64 m']); refine (HO.out r' m' _).mono ?_; rintro e w5 ⟨rfl, hb5⟩; (first | (have hx5 := Holds.below hx hb5; clear hx; have hx := hx5; clear hx5; have ho5 := hx; simp only [Holds, and_true] at ho5) | (have hx := boxed2 hb5; have ho5 := hx; simp only [Holds, and_true] at ho5) | (have hx := boxed2' hb5; have ho5 := hx; simp only [Holds, and_true] at ho5) | skip))
          | (go_at_call 26; refine (HM.out _ (keepSt_st ((bq, 0, Value.int .i64 qr) :: (bq, 1, Value.int .i64 qm) :: (bp, 0, Value.int .i64 pr) :: (bp, 1, Value.int .i64 pm) :: (w.heap.size + 1, 0, Value.int .i64 r') :: (w.heap.size + 1, 1, Value.int .i64 m') :: (w.heap.size, 0, Value.int .i64 r) :: (w.heap.size, 1, Value.int .i64 m) :: []) (by assumption)).sents).mono ?_; rintro e w6 ⟨rfl, hb6⟩; have s6 := (keepSt_st ((bq, 0, Value.int .i64 qr) :: (bq, 1, Value.int .i64 qm) :: (bp, 0, Value.int .i64 pr) :: (bp, 1, Value.int .i64 pm) :: (w.heap.size + 1, 0, Value.int .i64 r') :: (w.heap.size + 1, 1, Value.int .i64 m') :: (w.heap.size, 0, Value.int .i64 r) :: (w.heap.size, 1, Value.int .i64 m) :: []) (by assumption)).call hb6; (first | (have hx6 := Holds.below hx hb6; clear hx; have hx := hx6; clear hx6; have ho6 := hx; simp only [Holds, and_true] at ho6) | (have hx := boxed2 hb6; have ho6 := hx; simp only [Holds, and_true] at ho6) | (have hx := boxed2' hb6; have ho6 := hx; simp only [Holds, and_true] at ho6) | skip)))
      all_goals
        go_wp2_with fail
        go_meet
        case rel => first
          | exact ⟨rfl, _, rfl, s6.bel.size, s6.box2 31 _ _⟩
          | exact ⟨rfl, _, rfl, Nat.le_trans hwB (by first | exact Nat.le_refl _ | exact hb4.size | exact hb5.size | exact Nat.le_trans hb4.size hb5.size | exact Nat.le_trans hb5.size hb4.size), s6.late2 kk hwB (by first | exact Nat.le_refl _ | exact hb4.size | exact hb5.size | exact Nat.le_trans hb4.size hb5.size | exact Nat.le_trans hb5.size hb4.size) hx _ _⟩
  case rest =>
  clear s4 q4
  obtain ⟨rfl, bt, rfl, hbt, s5⟩ := hcut
  have q5 := s5.hold
  simp only [Holds, and_true] at q5
  go_wp2_with fail
  refine (HO.out r m _).mono ?_
  (rintro x1 w6 ⟨rfl, hb⟩; have s6 := s5.call hb; have q6 := s6.hold; simp only [Holds, and_true] at q6; clear hb s5; try clear q5)
  go_wp2_with fail
  refine (HN.out _ s6.sents).mono ?_
  (rintro x1 w7 ⟨rfl, hb⟩; have s7 := s6.call hb; have q7 := s7.hold; simp only [Holds, and_true] at q7; clear hb s6; try clear q6)
  go_wp2_with fail
  have s8 := s7.box2 31 (.int .i64 sr) (.int .i64 sm)
  obtain ⟨bs, hbs⟩ : ∃ bs, bs = w7.heap.size := ⟨_, rfl⟩
  rw [← hbs] at s8 ⊢
  have hbs1 : w.heap.size ≤ bs := by rw [hbs]; exact s7.bel.size
  clear hbs s7 q7
  refine (HC.out _).mono ?_
  (rintro x1 w9 ⟨rfl, hb⟩; have s9 := s8.call hb; have q9 := s9.hold; simp only [Holds, and_true] at q9; clear hb s8; try clear q8)
  go_upto_region 10 with fail
  go_cut [73] (fun t73 wx => t73 = .bool (decide (F0 = 0) && f) ∧ St w wx (SZ a) ((bs, 0, Value.int .i64 sr) :: (bs, 1, Value.int .i64 sm) :: (bt, 0, Value.int .i64 tr) :: (bt, 1, Value.int .i64 tm) :: (bq, 0, Value.int .i64 qr) :: (bq, 1, Value.int .i64 qm) :: (bp, 0, Value.int .i64 pr) :: (bp, 1, Value.int .i64 pm) :: (w.heap.size + 1, 0, Value.int .i64 r') :: (w.heap.size + 1, 1, Value.int .i64 m') :: (w.heap.size, 0, Value.int .i64 r) :: (w.heap.size, 1, Value.int .i64 m) :: []))
  case first =>
    as_aux_lemma =>
      by_cases h0 : F0 = 0
      · subst h0
        go_wp2_with fail
        refine (HR.out _).mono ?_
        rintro x2 w10 ⟨rfl, rfl⟩
        go_wp2_with fail
        go_meet
        case rel => exact ⟨by simp, s9⟩
      · have hb0 : (F0 == 0) = false := by simp [h0]
        go_wp2_with fail
        go_meet
        case rel => exact ⟨by simp [h0], s9⟩
  case rest =>
  clear s9 q9
  obtain ⟨rfl, s9⟩ := hcut
  have q9 := s9.hold
  simp only [Holds, and_true] at q9
  obtain ⟨fb, hfb⟩ : ∃ fb, fb = (decide (F0 = 0) && f) := ⟨_, rfl⟩
  rw [← hfb]
  have HFB : Hid (F = if fb = true then 2 else F0) := by
    show _ = _
    rw [HF.out, hfb]
    by_cases h0 : F0 = 0 <;> cases f <;> simp [h0]
  clear hfb
  go_upto_if 73 with fail
  go_cut [17] (fun t17 wx => t17 = .int .i64 F ∧ St w wx (SZ a) ((bs, 0, Value.int .i64 sr) :: (bs, 1, Value.int .i64 sm) :: (bt, 0, Value.int .i64 tr) :: (bt, 1, Value.int .i64 tm) :: (bq, 0, Value.int .i64 qr) :: (bq, 1, Value.int .i64 qm) :: (bp, 0, Value.int .i64 pr) :: (bp, 1, Value.int .i64 pm) :: (w.heap.size + 1, 0, Value.int .i64 r') :: (w.heap.size + 1, 1, Value.int .i64 m') :: (w.heap.size, 0, Value.int .i64 r) :: (w.heap.size, 1, Value.int .i64 m) :: []))
  case first =>
    as_aux_lemma =>
      cases fb
      · have Hf : Hid (F = F0) := HFB.out
        go_wp2_with fail
        go_meet
        case rel => exact ⟨by rw [Hf.out], s9⟩
      · have Hf : Hid (F = 2) := HFB.out
        go_wp2_with fail
        go_meet
        case rel => exact ⟨by rw [Hf.out], s9⟩
  case rest =>
  clear s9 q9
  obtain ⟨rfl, s10⟩ := hcut
  have q10 := s10.hold
  simp only [Holds, and_true] at q10
  go_upto_if 75 with fail
  go_cut [6] (fun t6 wx => t6 = .bool false ∧ St w wx (SZ a) ((bs, 0, Value.int .i64 sr) :: (bs, 1, Value.int .i64 sm) :: (bt, 0, Value.int .i64 tr) :: (bt, 1, Value.int .i64 tm) :: (bq, 0, Value.int .i64 qr) :: (bq, 1, Value.int .i64 qm) :: (bp, 0, Value.int .i64 pr) :: (bp, 1, Value.int .i64 pm) :: (w.heap.size + 1, 0, Value.int .i64 r') :: (w.heap.size + 1, 1, Value.int .i64 m') :: (w.heap.size, 0, Value.int .i64 r) :: (w.heap.size, 1, Value.int .i64 m) :: []))
  case first =>
    as_aux_lemma =>
      by_cases hF1 : 0 < F
      · go_wp2_with fail
        refine (HX.out hF1 _ s10.sents).mono ?_
        (rintro x1 w11 ⟨rfl, hb⟩; have s11 := s10.call hb; have q11 := s11.hold; simp only [Holds, and_true] at q11; clear hb s10; try clear q10)
        go_wp2_with fail
        go_meet
        case rel => exact ⟨rfl, s11⟩
      · have hF00 : F = 0 := by omega
        obtain ⟨hvs, ok1, hnb, hJf⟩ := HG.out hF00
        subst hvs
        have HJf := hide hJf
        have ob1 := okC_b ok1
        clear hJf ok1 HG
        subst hF00
        go_wp2_with fail
        refine (first_any r m 3 1 rfl ob1.1 ob1.2 (by omega) _).mono ?_
        rintro x1 w11 ⟨⟨v1, rfl, own1⟩, hb11⟩
        have s11 := s10.call hb11
        clear q10
        obtain ⟨x2, cap2, rfl, hI2⟩ := IntsAt_of_own own1
        have hlen2 : (firstL r m 3 1).length = 3 := by simp [firstL]
        rw [hlen2]
        obtain ⟨bs2, offs, rfl, hbs2, hcs⟩ : ∃ b off, x2 = some ⟨b, off, none⟩ ∧ b < w11.heap.size ∧ ∀ i, i < (firstL r m 3 1).length → w11.cell? ⟨b, off + i, none⟩ = some (.int .i64 ((firstL r m 3 1).getD i 0)) := by
          rcases hI2 with h | h
          · rw [h] at hlen2; simp at hlen2
          · exact h
        obtain ⟨i0, hi0, hz0, hz1, hz2⟩ := info_parts Tryd.info3
        obtain ⟨l, hl⟩ : ∃ l, l = firstL r m 3 1 := ⟨_, rfl⟩
        rw [← hl] at hcs hlen2
        have Hl := hide hl
        have Hlen := hide hlen2
        clear hl hlen2 hI2 own1 hb11 s10
        go_wp2_with fail
        go_loopg [18, 20] 3 (fun g lv iv wr => ∃ (k : Nat), k + g = 3 ∧ iv = .int .i64 k ∧ wr.ownsRow w11.heap.size 3 1 lv k ((l.take k).map (fun x => Value.int .i64 (n * x))) ∧ Below w11.heap.size w11 wr)
        case atStart => exact ⟨0, rfl, rfl, World.ownsRow_nil _ _ _ _, Below.refl _ _⟩
        case round =>
          obtain ⟨k, hkg, rfl, own, hbel⟩ := hrel
          have hsz := hbel.size
          by_cases hlt : k < 3
          · have hkl : k < l.length := by rw [Hlen.out]; exact hlt
            obtain ⟨x, hx⟩ : ∃ x, x = l.getD k 0 := ⟨_, rfl⟩
            have hcx : wr.cell? ⟨bs2, offs + k, none⟩ = some (.int .i64 x) := by rw [hx, hbel.cell (p := ⟨bs2, offs + k, none⟩) hbs2]; exact hcs k hkl
            have hxb : -1099520016384 ≤ x ∧ x ≤ 1099520016384 := by
              rw [hx, Hl.out]; exact first_bd ob1.1 ob1.2 k hlt
            obtain ⟨z, hz⟩ : ∃ z, n * x = z := ⟨_, rfl⟩
            have hzb : -2305843009213693952 ≤ z ∧ z ≤ 2305843009213693952 := by rw [← hz]; exact scale_bd hnb hxb
            have HT : Hid ((l.take (k + 1)).map (fun x => Value.int .i64 (n * x)) = (l.take k).map (fun x => Value.int .i64 (n * x)) ++ [.int .i64 z]) := by
              show _ = _; rw [take_succ_getD' l k hkl, ← hx]; simp [hz]
            obtain ⟨zs, hzs⟩ : ∃ zs, zs = (l.take k).map (fun x => Value.int .i64 (n * x)) := ⟨_, rfl⟩
            rw [← hzs] at own HT
            clear hx hzs
            have hkn : (k : Int) < 3 := by omega
            have hlb : bs2 < wr.heap.size := World.block_lt_of_cell? wr _ hcx
            go_wp2_with (at_builtin; refine wpList_append_lies _ rfl _ _ 38 rfl w11.heap.size 3 i0 (.int .i64 0) 1 8 Tryd.underlying38 hi0 hz0 hz1 hz2 rfl (by decide) _ _ _ rfl (own.alloc _) ⟨wr.heap.size, 0, none⟩ 1 1 [.int .i64 z] rfl rfl (cell_one_new _ _ _) (by intro u hu; simp at hu; subst hu; rfl) (by omega) (by unfold maxLen; omega) (by omega) (by simp; omega) (wr.heap.size + 1) (by simp) ?_)
            intro g1 c1 w12 own1' hgrow1 hat1 hlt1
            have bel12 := (hbel.alloc hsz (.cells #[.int .i64 z] 3)).grown hgrow1 (by simp; omega) (fun j hj => (own.lt j hj).1)
            rw [← HT.out] at own1'
            clear own hgrow1 hat1
            go_wp2_with fail
            go_roundg (3 - (k + 1))
            case measure => omega
            case rel => exact ⟨k + 1, by omega, by go_num, own1', bel12⟩
          · have hk3 : k = 3 := by omega
            subst hk3
            have e1 : l.take 3 = l := List.take_of_length_le (by rw [Hlen.out]; omega)
            rw [e1, scale_map, Hl.out, scale_first] at own
            obtain ⟨x3, cap3, rfl, hI3⟩ := IntsAt_of_own own
            have hl3 : (scaleL n r m).length = 3 := rfl
            rw [hl3]
            obtain ⟨b3, off3, rfl, hb3, _⟩ : ∃ b off, x3 = some ⟨b, off, none⟩ ∧ b < wr.heap.size ∧ ∀ i, i < (scaleL n r m).length → wr.cell? ⟨b, off + i, none⟩ = some (.int .i64 ((scaleL n r m).getD i 0)) := by
              rcases hI3 with h | h
              · cases h
              · exact h
            have HL : Hid (∀ W : World, IntsAt W (some ⟨b3, off3, none⟩) (scaleL n r m) → Calls Tryd.prog 22 #[.slice (some ⟨b3, off3, none⟩) 3 cap3] W fun e w' => e = .returned (.agg #[.int .i64 sr, .int .i64 sm]) ∧ Below W.heap.size W w') := by
              intro W h
              have := least_any b3 off3 3 cap3 (scaleL n r m) W h rfl (by omega) (by omega) (scaleL_bd hnb ob1.1 ob1.2)
              rw [← HJf.out] at this
              exact this
            have s12 := s11.call hbel
            have q12 := s12.hold
            simp only [Holds, and_true] at q12
            clear own e1 HJf
            go_upto_region 21 with fail
            go_region_held3 (fun w' => w'.cell? ⟨bs, 0, none⟩ = some (.int .i64 sr) ∧ w'.cell? ⟨bs, 1, none⟩ = some (.int .i64 sm) ∧ w'.cell? ⟨bt, 0, none⟩ = some (.int .i64 tr) ∧ w'.cell? ⟨bt, 1, none⟩ = some (.int .i64 tm) ∧ w'.cell? ⟨bq, 0, none⟩ = some (.int .i64 qr) ∧ w'.cell? ⟨bq, 1, none⟩ = some (.int .i64 qm) ∧ w'.cell? ⟨bp, 0, none⟩ = some (.int .i64 pr) ∧ w'.cell? ⟨bp, 1, none⟩ = some (.int .i64 pm) ∧ w'.cell? ⟨w.heap.size + 1, 0, none⟩ = some (.int .i64 r') ∧ w'.cell? ⟨w.heap.size + 1, 1, none⟩ = some (.int .i64 m') ∧ w'.cell? ⟨w.heap.size, 0, none⟩ = some (.int .i64 r) ∧ w'.cell? ⟨w.heap.size, 1, none⟩ = some (.int .i64 m) ∧ St w w' (SZ a) ((bs, 0, Value.int .i64 sr) :: (bs, 1, Value.int .i64 sm) :: (bt, 0, Value.int .i64 tr) :: (bt, 1, Value.int .i64 tm) :: (bq, 0, Value.int .i64 qr) :: (bq, 1, Value.int .i64 qm) :: (bp, 0, Value.int .i64 pr) :: (bp, 1, Value.int .i64 pm) :: (w.heap.size + 1, 0, Value.int .i64 r') :: (w.heap.size + 1, 1, Value.int .i64 m') :: (w.heap.size, 0, Value.int .i64 r) :: (w.heap.size, 1, Value.int .i64 m) :: [])) (first | (exact keepSt0 ((bs, 0, Value.int .i64 sr) :: (bs, 1, Value.int .i64 sm) :: (bt, 0, Value.int .i64 tr) :: (bt, 1, Value.int .i64 tm) :: (bq, 0, Value.int .i64 qr) :: (bq, 1, Value.int .i64 qm) :: (bp, 0, Value.int .i64 pr) :: (bp, 1, Value.int .i64 pm) :: (w.heap.size + 1, 0, Value.int .i64 r') :: (w.heap.size + 1, 1, Value.int .i64 m') :: (w.heap.size, 0, Value.int .i64 r) :: (w.heap.size, 1, Value.int .i64 m) :: []) s12.drew) | (exact keepSt ((bs, 0, Value.int .i64 sr) :: (bs, 1, Value.int .i64 sm) :: (bt, 0, Value.int .i64 tr) :: (bt, 1, Value.int .i64 tm) :: (bq, 0, Value.int .i64 qr) :: (bq, 1, Value.int .i64 qm) :: (bp, 0, Value.int .i64 pr) :: (bp, 1, Value.int .i64 pm) :: (w.heap.size + 1, 0, Value.int .i64 r') :: (w.heap.size + 1, 1, Value.int .i64 m') :: (w.heap.size, 0, Value.int .i64 r) :: (w.heap.size, 1, Value.int .i64 m) :: []) (by assumption) (by assumption)) | assumption)
              (first
                | (go_at_call 22; refine (HL.out _ (by first | exact hI3 | exact hI3.below (Below.refl _ _).drew)).mono ?_; rintro e w13 ⟨rfl, hb13⟩; have s13 := (keepSt_st ((bs, 0, Value.int .i64 sr) :: (bs, 1, Value.int .i64 sm) :: (bt, 0, Value.int .i64 tr) :: (bt, 1, Value.int .i64 tm) :: (bq, 0, Value.int .i64 qr) :: (bq, 1, Value.int .i64 qm) :: (bp, 0, Value.int .i64 pr) :: (bp, 1, Value.int .i64 pm) :: (w.heap.size + 1, 0, Value.int .i64 r') :: (w.heap.size + 1, 1, Value.int .i64 m') :: (w.heap.size, 0, Value.int .i64 r) :: (w.heap.size, 1, Value.int .i64 m) :: []) (by assumption)).call hb13)
                | (go_at_call 21; refine (isCongr_same sr sm _).mono ?_; rintro e w14 ⟨rfl, hb14⟩; have s14 := (keepSt_st ((bs, 0, Value.int .i64 sr) :: (bs, 1, Value.int .i64 sm) :: (bt, 0, Value.int .i64 tr) :: (bt, 1, Value.int .i64 tm) :: (bq, 0, Value.int .i64 qr) :: (bq, 1, Value.int .i64 qm) :: (bp, 0, Value.int .i64 pr) :: (bp, 1, Value.int .i64 pm) :: (w.heap.size + 1, 0, Value.int .i64 r') :: (w.heap.size + 1, 1, Value.int .i64 m') :: (w.heap.size, 0, Value.int .i64 r) :: (w.heap.size, 1, Value.int .i64 m) :: []) (by assumption)).call hb14))
            go_wp2_with fail
            go_meet
            case rel => exact ⟨rfl, s14⟩
  case rest =>
  clear s10 q10
  obtain ⟨rfl, s11⟩ := hcut
  have q11 := s11.hold
  simp only [Holds, and_true] at q11
  by_cases hE1 : 0 < E
  · go_wp2_with fail
    refine (HX1.out hE1 _ s11.sents).mono ?_
    (rintro x1 w12 ⟨rfl, hb⟩; have s12 := s11.call hb; have q12 := s12.hold; simp only [Holds, and_true] at q12; clear hb s11; try clear q11)
    go_wp2_with fail
    refine (HX2.out hE1 _ s12.sents).mono ?_
    (rintro x1 w13 ⟨rfl, hb⟩; have s13 := s12.call hb; have q13 := s13.hold; simp only [Holds, and_true] at q13; clear hb s12; try clear q12)
    go_wp2_with fail
    refine (HX3.out hE1 _ s13.sents).mono ?_
    (rintro x1 w14 ⟨rfl, hb⟩; have s14 := s13.call hb; have q14 := s14.hold; simp only [Holds, and_true] at q14; clear hb s13; try clear q13)
    go_wp2_with fail
    go_ret
    exact ⟨ret_bool (by simp), s14.bel⟩
  · have hE00 : E = 0 := by omega
    obtain ⟨hv, ok1, ok2, hP, hQ, hM⟩ := HH.out hE00
    subst hv
    have ob1 := okC_b ok1
    have ob2 := okC_b ok2
    have HP := hide hP
    have HQ := hide hQ
    have HMM := hide hM
    clear hP hQ hM ok1 ok2 HH HG HX HX1 HX2 HX3 HF HC HN HM HA HB
    subst hE00
    go_wp2_with fail
    refine (first_any r m 3 1 rfl ob1.1 ob1.2 (by omega) _).mono ?_
    rintro x1 w12 ⟨⟨v1, rfl, own1⟩, hb12⟩
    have s12 := s11.call hb12
    have q12 := s12.hold
    simp only [Holds, and_true] at q12
    clear q11
    go_wp2_with fail
    refine (first_any r' m' 3 1 rfl ob2.1 ob2.2 (by omega) _).mono ?_
    rintro x1 w13 ⟨⟨v2, rfl, own2⟩, hb13⟩
    have s13 := s12.call hb13
    obtain ⟨xx, capx, rfl, hIx⟩ := IntsAt_of_own (owns_below own1 hb13)
    obtain ⟨xy, capy, rfl, hIy⟩ := IntsAt_of_own own2
    have hlx : (firstL r m 3 1).length = 3 := rfl
    have hly : (firstL r' m' 3 1).length = 3 := rfl
    rw [hlx, hly]
    obtain ⟨bx, ox, rfl, hbx, hcx⟩ := hIx.lies (by rw [hlx]; omega)
    obtain ⟨by', oy, rfl, hby, hcy⟩ := hIy.lies (by rw [hly]; omega)
    obtain ⟨i0, hi0, hz0, hz1, hz2⟩ := info_parts Tryd.info3
    have Hcx := hide hcx
    have Hcy := hide hcy
    clear hIx hIy hcx hcy own1 own2 hb12 hb13 s11 s12 q12 hlx hly
    have HFr : Hid (∀ (z : Int) (W : World), Calls Tryd.prog 10 #[.int .i64 z, .int .i64 1073741824] W fun e w' => e = .returned (.bool (farB z 1073741824)) ∧ w' = W) := fun z W => far_any z _ W (by omega) (by omega)
    obtain ⟨W0, hW0⟩ : ∃ W0, W0 = w13 := ⟨_, rfl⟩
    rw [← hW0]
    rw [← hW0] at s13 hbx hby Hcx Hcy
    clear hW0 w13
    go_wp2_with fail
    go_loopg [21, 22, 23, 26, 27] 3 (fun g o1 o2 o3 sv iv wr => ∃ (i : Nat) (b : Bool) (l3 : List Int) (k3 : Nat), i + g = 3 ∧ iv = .int .i64 i ∧ sv = .bool b ∧ (wr.ownsRow W0.heap.size 3 1 o1 (3 * i) ((pairF (fun x y => x + y) r m r' m' (3 * i)).map (Value.int .i64)) ∧ wr.ownsRow W0.heap.size 3 1 o2 (3 * i) ((pairF (fun x y => x - y) r m r' m' (3 * i)).map (Value.int .i64)) ∧ wr.ownsRow W0.heap.size 3 1 o3 k3 (l3.map (Value.int .i64)) ∧ Hid (DisC o1 o2 ∧ DisC o1 o3 ∧ DisC o2 o3) ∧ Hid (k3 = l3.length ∧ k3 ≤ 3 * i) ∧ Hid (b = true → l3 = pairF (fun x y => x * y) r m r' m' (3 * i) ∧ nearK r m r' m' (3 * i)) ∧ Below W0.heap.size W0 wr))
    case atStart => exact ⟨0, true, [], 0, rfl, rfl, rfl, World.ownsRow_nil _ _ _ _, World.ownsRow_nil _ _ _ _, World.ownsRow_nil _ _ _ _, ⟨DisC.nil _, DisC.nil _, DisC.nil _⟩, ⟨rfl, Nat.le_refl _⟩, fun _ => ⟨rfl, fun j hj => by omega⟩, Below.refl _ _⟩
    case round =>
      obtain ⟨i, b, l3, k3, hig, rfl, rfl, own1, own2, own3, hdis, hk3, hprod, hbel⟩ := hrel
      by_cases hi3 : i < 3
      · have hin : (i : Int) < 3 := by omega
        go_wp2_with fail
        go_loopg [21, 22, 23, 26, 28] 3 (fun g o1 o2 o3 sv kv wr => ∃ (k : Nat) (b : Bool) (l3 : List Int) (k3 : Nat), k + g = 3 ∧ kv = .int .i64 k ∧ sv = .bool b ∧ (wr.ownsRow W0.heap.size 3 1 o1 (3 * i + k) ((pairF (fun x y => x + y) r m r' m' (3 * i + k)).map (Value.int .i64)) ∧ wr.ownsRow W0.heap.size 3 1 o2 (3 * i + k) ((pairF (fun x y => x - y) r m r' m' (3 * i + k)).map (Value.int .i64)) ∧ wr.ownsRow W0.heap.size 3 1 o3 k3 (l3.map (Value.int .i64)) ∧ Hid (DisC o1 o2 ∧ DisC o1 o3 ∧ DisC o2 o3) ∧ Hid (k3 = l3.length ∧ k3 ≤ 3 * i + k) ∧ Hid (b = true → l3 = pairF (fun x y => x * y) r m r' m' (3 * i + k) ∧ nearK r m r' m' (3 * i + k)) ∧ Below W0.heap.size W0 wr))
        case atStart => exact ⟨0, b, l3, k3, rfl, rfl, rfl, own1, own2, own3, hdis, hk3, hprod, hbel⟩
        case round =>
          clear own1 own2 own3 hdis hk3 hprod hbel
          obtain ⟨k, b, l3, k3, hkg, rfl, rfl, own1, own2, own3, hdis, hk3, hprod, hbel⟩ := hrel
          by_cases hk : k < 3
          · have hkn : (k : Int) < 3 := by omega
            have hsz := hbel.size
            obtain ⟨x, hx⟩ : ∃ x, x = (firstL r m 3 1).getD i 0 := ⟨_, rfl⟩
            obtain ⟨y, hy⟩ : ∃ y, y = (firstL r' m' 3 1).getD k 0 := ⟨_, rfl⟩
            have hxb : -1099520016384 ≤ x ∧ x ≤ 1099520016384 := by rw [hx]; exact first_bd ob1.1 ob1.2 i hi3
            have hyb : -1099520016384 ≤ y ∧ y ≤ 1099520016384 := by rw [hy]; exact first_bd ob2.1 ob2.2 k hk
            have hpa : pairAt r m r' m' (3 * i + k) = (x, y) := by rw [hx, hy]; exact pairAt_is r m r' m' hk
            have hcx1 : wr.cell? ⟨bx, ox + i, none⟩ = some (.int .i64 x) := by rw [hx, hbel.cell (p := ⟨bx, ox + i, none⟩) hbx]; exact Hcx.out i hi3
            have hcy1 : wr.cell? ⟨by', oy + k, none⟩ = some (.int .i64 y) := by rw [hy, hbel.cell (p := ⟨by', oy + k, none⟩) hby]; exact Hcy.out k hk
            have hM0 : (fun w' : World => w'.cell? ⟨bx, ox + i, none⟩ = some (.int .i64 x) ∧ w'.cell? ⟨by', oy + k, none⟩ = some (.int .i64 y) ∧ Below W0.heap.size W0 w') wr := ⟨hcx1, hcy1, hbel⟩
            obtain ⟨j, hj⟩ : ∃ j, j = 3 * i + k := ⟨_, rfl⟩
            have hj9 : j < 9 := by omega
            rw [← hj] at own1 own2 hk3 hprod hpa
            have HT1 : Hid ((pairF (fun x y => x + y) r m r' m' (j + 1)).map (Value.int .i64) = (pairF (fun x y => x + y) r m r' m' j).map (Value.int .i64) ++ [.int .i64 (IntKind.i64.wrap (x + y))]) := by
              show _ = _; rw [pairF_succ, hpa, wrap_small (x + y) (by omega) (by omega)]; simp
            have HT2 : Hid ((pairF (fun x y => x - y) r m r' m' (j + 1)).map (Value.int .i64) = (pairF (fun x y => x - y) r m r' m' j).map (Value.int .i64) ++ [.int .i64 (IntKind.i64.wrap (x - y))]) := by
              show _ = _; rw [pairF_succ, hpa, wrap_small (x - y) (by omega) (by omega)]; simp
            obtain ⟨zs1, hzs1⟩ : ∃ zs, zs = (pairF (fun x y => x + y) r m r' m' j).map (Value.int .i64) := ⟨_, rfl⟩
            obtain ⟨zs2, hzs2⟩ : ∃ zs, zs = (pairF (fun x y => x - y) r m r' m' j).map (Value.int .i64) := ⟨_, rfl⟩
            rw [← hzs1] at own1 HT1
            rw [← hzs2] at own2 HT2
            have Hpa := hide hpa
            have Hj := hide hj
            have hk9 : k3 ≤ 9 := by have := hk3.out.2; omega
            clear hzs1 hzs2 hx hy hpa hj
            go_upto_region 37 with fail
            go_cut [21] (fun t21 wx => ∃ (g1 c1 : Nat), t21 = .slice (some ⟨g1, 0, none⟩) (j + 1) c1 ∧ wx.ownsRow W0.heap.size 3 1 (.slice (some ⟨g1, 0, none⟩) (j + 1) c1) (j + 1) (zs1 ++ [.int .i64 (IntKind.i64.wrap (x + y))]) ∧ wx.ownsRow W0.heap.size 3 1 u22 j zs2 ∧ wx.ownsRow W0.heap.size 3 1 u23 k3 (l3.map (Value.int .i64)) ∧ Hid (DisC (.slice (some ⟨g1, 0, none⟩) (j + 1) c1) u22 ∧ DisC (.slice (some ⟨g1, 0, none⟩) (j + 1) c1) u23) ∧ (fun w' : World => w'.cell? ⟨bx, ox + i, none⟩ = some (.int .i64 x) ∧ w'.cell? ⟨by', oy + k, none⟩ = some (.int .i64 y) ∧ Below W0.heap.size W0 w') wx)
            case first =>
              as_aux_lemma =>
                go_region_held3 (fun w' : World => w'.cell? ⟨bx, ox + i, none⟩ = some (.int .i64 x) ∧ w'.cell? ⟨by', oy + k, none⟩ = some (.int .i64 y) ∧ Below W0.heap.size W0 w') (first | (exact keepM2 hbx hby hM0 hbel.drew) | (exact keepM2 hbx hby hM0 (hbel.alloc hsz _).drew) | (exact keepM2 hbx hby hM0 ((hbel.alloc hsz _).drew.grown hgrow (by simp; omega) (fun j hj => (own1.lt j hj).1))) | assumption)
                  (first | (refine step_append_lies _ (by rfl) _ _ 38 (by rfl) W0.heap.size 3 i0 (.int .i64 0) 1 8 Tryd.underlying38 hi0 hz0 hz1 hz2 rfl (by decide) _ j zs1 (by rfl) ((own1.alloc _).drew) ⟨wr.heap.size, 0, none⟩ 1 1 [.int .i64 (IntKind.i64.wrap (x + y))] (by rfl) rfl (fun j u h => cell_one_new wr _ _ j u h) (by intro u hu; simp at hu; subst hu; rfl) (by omega) (by unfold maxLen; omega) (by omega) (by simp; omega) (wr.heap.size + 1) (by simp) ?_; intro g1 c1 w1 own1' hgrow hat hlt'))
                go_wp2_with fail
                go_meet
                case rel =>
                  have D := hdis.out
                  exact ⟨g1, c1, rfl, own1', ((own2.alloc (.cells #[.int .i64 (IntKind.i64.wrap (x + y))] 3)).drew).kept hgrow D.1.symm.ne, ((own3.alloc (.cells #[.int .i64 (IntKind.i64.wrap (x + y))] 3)).drew).kept hgrow D.2.1.symm.ne, ⟨D.1.grow hat (fun q hq => by have := (own2.lt q hq).2; omega), D.2.1.grow hat (fun q hq => by have := (own3.lt q hq).2; omega)⟩, keepM2 hbx hby hM0 ((hbel.alloc hsz _).drew.grown hgrow (by simp; omega) (fun j hj => (own1.lt j hj).1))⟩
            case rest =>
            obtain ⟨g1, c1, rfl, own1n, own2n, own3n, hdis1, hM1⟩ := hcut
            have hD23 : Hid (DisC u22 u23) := hdis.out.2.2
            obtain ⟨hcx2, hcy2, hbel1⟩ := hM1
            have hM1 : (fun w' : World => w'.cell? ⟨bx, ox + i, none⟩ = some (.int .i64 x) ∧ w'.cell? ⟨by', oy + k, none⟩ = some (.int .i64 y) ∧ Below W0.heap.size W0 w') wc := ⟨hcx2, hcy2, hbel1⟩
            have hsz1 := hbel1.size
            clear own1 own2 own3 hdis hM0 hcx1 hcy1 hbel hsz
            go_upto_region 38 with fail
            go_cut [22] (fun t22 wx => ∃ (g2 c2 : Nat), t22 = .slice (some ⟨g2, 0, none⟩) (j + 1) c2 ∧ wx.ownsRow W0.heap.size 3 1 (.slice (some ⟨g1, 0, none⟩) (j + 1) c1) (j + 1) (zs1 ++ [.int .i64 (IntKind.i64.wrap (x + y))]) ∧ wx.ownsRow W0.heap.size 3 1 (.slice (some ⟨g2, 0, none⟩) (j + 1) c2) (j + 1) (zs2 ++ [.int .i64 (IntKind.i64.wrap (x - y))]) ∧ wx.ownsRow W0.heap.size 3 1 u23 k3 (l3.map (Value.int .i64)) ∧ Hid (DisC (.slice (some ⟨g1, 0, none⟩) (j + 1) c1) (.slice (some ⟨g2, 0, none⟩) (j + 1) c2) ∧ DisC (.slice (some ⟨g2, 0, none⟩) (j + 1) c2) u23) ∧ (fun w' : World => w'.cell? ⟨bx, ox + i, none⟩ = some (.int .i64 x) ∧ w'.cell? ⟨by', oy + k, none⟩ = some (.int .i64 y) ∧ Below W0.heap.size W0 w') wx)
            case first =>
              as_aux_lemma =>
                go_region_held3 (fun w' : World => w'.cell? ⟨bx, ox + i, none⟩ = some (.int .i64 x) ∧ w'.cell? ⟨by', oy + k, none⟩ = some (.int .i64 y) ∧ Below W0.heap.size W0 w') (first | (exact keepM2 hbx hby hM1 hbel1.drew) | (exact keepM2 hbx hby hM1 (hbel1.alloc hsz1 _).drew) | (exact keepM2 hbx hby hM1 ((hbel1.alloc hsz1 _).drew.grown hgrow (by simp; omega) (fun j hj => (own2n.lt j hj).1))) | assumption)
                  (first | (refine step_append_lies _ (by rfl) _ _ 38 (by rfl) W0.heap.size 3 i0 (.int .i64 0) 1 8 Tryd.underlying38 hi0 hz0 hz1 hz2 rfl (by decide) _ j zs2 (by rfl) ((own2n.alloc _).drew) ⟨wc.heap.size, 0, none⟩ 1 1 [.int .i64 (IntKind.i64.wrap (x - y))] (by rfl) rfl (fun j u h => cell_one_new wc _ _ j u h) (by intro u hu; simp at hu; subst hu; rfl) (by omega) (by unfold maxLen; omega) (by omega) (by simp; omega) (wc.heap.size + 1) (by simp) ?_; intro g2 c2 w1 own2' hgrow hat hlt'))
                go_wp2_with fail
                go_meet
                case rel =>
                  have D := hdis1.out
                  exact ⟨g2, c2, rfl, ((own1n.alloc (.cells #[.int .i64 (IntKind.i64.wrap (x - y))] 3)).drew).kept hgrow D.1.ne, own2', ((own3n.alloc (.cells #[.int .i64 (IntKind.i64.wrap (x - y))] 3)).drew).kept hgrow hD23.out.symm.ne, ⟨(D.1.symm.grow hat (fun q hq => by have := (own1n.lt q hq).2; omega)).symm, hD23.out.grow hat (fun q hq => by have := (own3n.lt q hq).2; omega)⟩, keepM2 hbx hby hM1 ((hbel1.alloc hsz1 _).drew.grown hgrow (by simp; omega) (fun j hj => (own2n.lt j hj).1))⟩
            case rest =>
            rename_i wc1
            obtain ⟨g2, c2, rfl, own1m, own2m, own3m, hdis2, hM2⟩ := hcut
            have hD13 : Hid (DisC (.slice (some ⟨g1, 0, none⟩) (j + 1) c1) u23) := hdis1.out.2
            obtain ⟨hcx3, hcy3, hbel2⟩ := hM2
            have hM2 : (fun w' : World => w'.cell? ⟨bx, ox + i, none⟩ = some (.int .i64 x) ∧ w'.cell? ⟨by', oy + k, none⟩ = some (.int .i64 y) ∧ Below W0.heap.size W0 w') wc := ⟨hcx3, hcy3, hbel2⟩
            have hsz2 := hbel2.size
            rw [← HT1.out] at own1m
            rw [← HT2.out] at own2m
            clear own1n own2n own3n hdis1 hD23 hM1 hcx2 hcy2 hbel1 hsz1 HT1 HT2
            go_upto_region 39 with fail
            go_cut [26] (fun t26 wx => wx = wc ∧ ∃ sb : Bool, t26 = .bool sb ∧ Hid (sb = true → b = true ∧ nearN x ∧ nearN y))
            case first =>
              as_aux_lemma =>
                cases b
                · go_wp2_with fail
                  go_meet
                  case rel => exact ⟨by first | trivial | rfl, false, rfl, fun h => by cases h⟩
                · go_wp2_with fail
                  refine (HFr.out x _).mono ?_
                  rintro e4 w4 ⟨rfl, rfl⟩
                  cases hfx : farB x 1073741824
                  · go_wp2_with fail
                    refine (HFr.out y _).mono ?_
                    rintro e5 w5 ⟨rfl, rfl⟩
                    cases hfy : farB y 1073741824
                    · go_wp2_with fail
                      go_meet
                      case rel => exact ⟨by first | trivial | rfl, true, rfl, fun _ => ⟨by first | rfl | trivial, near_of hfx, near_of hfy⟩⟩
                    · go_wp2_with fail
                      go_meet
                      case rel => exact ⟨by first | trivial | rfl, false, rfl, fun h => by cases h⟩
                  · go_wp2_with fail
                    go_meet
                    case rel => exact ⟨by first | trivial | rfl, false, rfl, fun h => by cases h⟩
            case rest =>
            obtain ⟨rfl, sb, rfl, hsb⟩ := hcut
            cases sb
            · go_wp2_with fail
              go_roundg (3 - (k + 1))
              case measure => omega
              case rel =>
                have e : 3 * i + (k + 1) = j + 1 := by rw [Hj.out]; omega
                exact ⟨k + 1, false, l3, k3, by omega, by go_num, rfl, by rw [e]; exact own1m, by rw [e]; exact own2m, own3m, ⟨hdis2.out.1, hD13.out, hdis2.out.2⟩, ⟨hk3.out.1, by rw [e]; have := hk3.out.2; omega⟩, fun h => (by cases h), hbel2⟩
            · have hn := hsb.out rfl
              have hp := hprod.out hn.1
              have HT3 : Hid ((pairF (fun x y => x * y) r m r' m' (j + 1)).map (Value.int .i64) = l3.map (Value.int .i64) ++ [.int .i64 (IntKind.i64.wrap (x * y))]) := by
                show _ = _
                have := mul_nat (n := x) (x := y) (B := 1073741824) (C := 1073741824) (by have := hn.2.1; unfold nearN at this; omega) (by have := hn.2.2; unfold nearN at this; omega)
                rw [pairF_succ, Hpa.out, hp.1, wrap_small (x * y) (by omega) (by omega)]; simp
              have HK : Hid (nearK r m r' m' (j + 1)) := nearK_succ hp.2 (by rw [Hpa.out]; exact hn.2.1) (by rw [Hpa.out]; exact hn.2.2)
              have hl3 : k3 = j := by rw [hk3.out.1, hp.1, pairF_len]
              subst hl3
              obtain ⟨zs3, hzs3⟩ : ∃ zs, zs = l3.map (Value.int .i64) := ⟨_, rfl⟩
              rw [← hzs3] at own3m HT3
              clear hzs3 hp hn hsb
              go_upto_region 41 with fail
              go_region_held3 (fun w' : World => w'.cell? ⟨bx, ox + i, none⟩ = some (.int .i64 x) ∧ w'.cell? ⟨by', oy + k, none⟩ = some (.int .i64 y) ∧ Below W0.heap.size W0 w') (first | (exact keepM2 hbx hby hM2 hbel2.drew) | (exact keepM2 hbx hby hM2 (hbel2.alloc hsz2 _).drew) | (exact keepM2 hbx hby hM2 ((hbel2.alloc hsz2 _).drew.grown hgrow (by simp; omega) (fun j hj => (own3m.lt j hj).1))) | assumption)
                (first | (refine step_append_lies _ (by rfl) _ _ 38 (by rfl) W0.heap.size 3 i0 (.int .i64 0) 1 8 Tryd.underlying38 hi0 hz0 hz1 hz2 rfl (by decide) _ k3 zs3 (by rfl) ((own3m.alloc _).drew) ⟨wc.heap.size, 0, none⟩ 1 1 [.int .i64 (IntKind.i64.wrap (x * y))] (by rfl) rfl (fun j u h => cell_one_new wc _ _ j u h) (by intro u hu; simp at hu; subst hu; rfl) (by omega) (by unfold maxLen; omega) (by omega) (by simp; omega) (wc.heap.size + 1) (by simp) ?_; intro g3 c3 w1 own3p hgrow hat hlt'))
              have D := hdis2.out
              have own1p := ((own1m.alloc (.cells #[.int .i64 (IntKind.i64.wrap (x * y))] 3)).drew).kept hgrow hD13.out.ne
              have own2p := ((own2m.alloc (.cells #[.int .i64 (IntKind.i64.wrap (x * y))] 3)).drew).kept hgrow D.2.ne
              have hdis3 : Hid (DisC (.slice (some ⟨g1, 0, none⟩) (k3 + 1) c1) (.slice (some ⟨g3, 0, none⟩) (k3 + 1) c3) ∧ DisC (.slice (some ⟨g2, 0, none⟩) (k3 + 1) c2) (.slice (some ⟨g3, 0, none⟩) (k3 + 1) c3)) := ⟨(hD13.out.symm.grow hat (fun q hq => by have := (own1m.lt q hq).2; omega)).symm, (D.2.symm.grow hat (fun q hq => by have := (own2m.lt q hq).2; omega)).symm⟩
              have hbel3 := (hbel2.alloc hsz2 (.cells #[.int .i64 (IntKind.i64.wrap (x * y))] 3)).drew.grown hgrow (by simp; omega) (fun j hj => (own3m.lt j hj).1)
              rw [← HT3.out] at own3p
              clear own1m own2m own3m hgrow hat D
              go_wp2_with fail
              go_roundg (3 - (k + 1))
              case measure => omega
              case rel =>
                have e : 3 * i + (k + 1) = k3 + 1 := by rw [Hj.out]; omega
                exact ⟨k + 1, true, pairF (fun x y => x * y) r m r' m' (k3 + 1), k3 + 1, by omega, by go_num, rfl, by rw [e]; exact own1p, by rw [e]; exact own2p, own3p, ⟨hdis2.out.1, hdis3.out.1, hdis3.out.2⟩, ⟨(pairF_len _ _ _ _ _ _).symm, by rw [e]; exact Nat.le_refl _⟩, fun _ => ⟨by rw [e], by rw [e]; exact HK.out⟩, hbel3⟩
          · have hk3' : k = 3 := by omega
            subst hk3'
            have e : 3 * (i + 1) = 3 * i + 3 := by omega
            go_wp2_with fail
            go_roundg (3 - (i + 1))
            case measure => omega
            case rel => exact ⟨i + 1, b, l3, k3, by omega, by go_num, rfl, by rw [e]; exact own1, by rw [e]; exact own2, own3, hdis, by rw [e]; exact hk3, by rw [e]; exact hprod, hbel⟩
      · have hi3' : i = 3 := by omega
        subst hi3'
        have hprod9 : Hid (b = true → l3 = pairF (fun x y => x * y) r m r' m' 9 ∧ nearK r m r' m' 9) := hprod.out
        have own1' : wr.ownsRow W0.heap.size 3 1 u21 9 ((pairF (fun x y => x + y) r m r' m' 9).map (Value.int .i64)) := own1
        have own2' : wr.ownsRow W0.heap.size 3 1 u22 9 ((pairF (fun x y => x - y) r m r' m' 9).map (Value.int .i64)) := own2
        obtain ⟨xa, capa, rfl, hIa⟩ := IntsAt_of_own own1'
        obtain ⟨xb, capb, rfl, hIb⟩ := IntsAt_of_own own2'
        obtain ⟨xc, capc, rfl, hIc⟩ := IntsAt_of_own own3
        obtain ⟨la, hla⟩ : ∃ l, l = pairF (fun x y => x + y) r m r' m' 9 := ⟨_, rfl⟩
        obtain ⟨lb, hlb⟩ : ∃ l, l = pairF (fun x y => x - y) r m r' m' 9 := ⟨_, rfl⟩
        have na : la.length = 9 := by rw [hla]; exact pairF_len _ _ _ _ _ _
        have nb : lb.length = 9 := by rw [hlb]; exact pairF_len _ _ _ _ _ _
        have bds := sum_bd ob1.1 ob1.2 ob2.1 ob2.2
        rw [← hla, ← hlb] at bds
        rw [← hla] at hIa
        rw [← hlb] at hIb
        rw [← hla, ← hlb, na, nb]
        obtain ⟨ba, oa, rfl, hba, _⟩ := hIa.lies (by omega)
        obtain ⟨bb, ob, rfl, hbb, _⟩ := hIb.lies (by omega)
        have HL1 : Hid (∀ W : World, IntsAt W (some ⟨ba, oa, none⟩) la → Calls Tryd.prog 22 #[.slice (some ⟨ba, oa, none⟩) 9 capa] W fun e w' => e = .returned (.agg #[.int .i64 pr, .int .i64 pm]) ∧ Below W.heap.size W w') := by
          intro W h
          have := least_any ba oa 9 capa la W h na.symm (by omega) (by omega) bds.1
          rw [hla, ← HP.out] at this
          exact this
        have HL2 : Hid (∀ W : World, IntsAt W (some ⟨bb, ob, none⟩) lb → Calls Tryd.prog 22 #[.slice (some ⟨bb, ob, none⟩) 9 capb] W fun e w' => e = .returned (.agg #[.int .i64 qr, .int .i64 qm]) ∧ Below W.heap.size W w') := by
          intro W h
          have := least_any bb ob 9 capb lb W h nb.symm (by omega) (by omega) bds.2
          rw [hlb, ← HQ.out] at this
          exact this
        have s14 := s13.call hbel
        have sF := St.startF s14.hold s14.sents hIa hIb hIc
        have bel14 := s14.bel
        have q14 := s14.hold
        simp only [Holds, and_true] at q14
        clear own1 own2 own1' own2' own3 hdis hk3 hprod hbel hIa hIb hla hlb na nb bds s13 s14 HP HQ Hcx Hcy HFr
        go_upto_region 42 with fail
        go_cut [209] (fun t wx => t = .bool false ∧ St wr wx (FZ a (some ⟨ba, oa, none⟩) (some ⟨bb, ob, none⟩) xc la lb l3) ((bs, 0, Value.int .i64 sr) :: (bs, 1, Value.int .i64 sm) :: (bt, 0, Value.int .i64 tr) :: (bt, 1, Value.int .i64 tm) :: (bq, 0, Value.int .i64 qr) :: (bq, 1, Value.int .i64 qm) :: (bp, 0, Value.int .i64 pr) :: (bp, 1, Value.int .i64 pm) :: (w.heap.size + 1, 0, Value.int .i64 r') :: (w.heap.size + 1, 1, Value.int .i64 m') :: (w.heap.size, 0, Value.int .i64 r) :: (w.heap.size, 1, Value.int .i64 m) :: []))
        case first =>
          as_aux_lemma =>
            go_region_held3 (fun w' => w'.cell? ⟨bs, 0, none⟩ = some (.int .i64 sr) ∧ w'.cell? ⟨bs, 1, none⟩ = some (.int .i64 sm) ∧ w'.cell? ⟨bt, 0, none⟩ = some (.int .i64 tr) ∧ w'.cell? ⟨bt, 1, none⟩ = some (.int .i64 tm) ∧ w'.cell? ⟨bq, 0, none⟩ = some (.int .i64 qr) ∧ w'.cell? ⟨bq, 1, none⟩ = some (.int .i64 qm) ∧ w'.cell? ⟨bp, 0, none⟩ = some (.int .i64 pr) ∧ w'.cell? ⟨bp, 1, none⟩ = some (.int .i64 pm) ∧ w'.cell? ⟨w.heap.size + 1, 0, none⟩ = some (.int .i64 r') ∧ w'.cell? ⟨w.heap.size + 1, 1, none⟩ = some (.int .i64 m') ∧ w'.cell? ⟨w.heap.size, 0, none⟩ = some (.int .i64 r) ∧ w'.cell? ⟨w.heap.size, 1, none⟩ = some (.int .i64 m) ∧ St wr w' (FZ a (some ⟨ba, oa, none⟩) (some ⟨bb, ob, none⟩) xc la lb l3) ((bs, 0, Value.int .i64 sr) :: (bs, 1, Value.int .i64 sm) :: (bt, 0, Value.int .i64 tr) :: (bt, 1, Value.int .i64 tm) :: (bq, 0, Value.int .i64 qr) :: (bq, 1, Value.int .i64 qm) :: (bp, 0, Value.int .i64 pr) :: (bp, 1, Value.int .i64 pm) :: (w.heap.size + 1, 0, Value.int .i64 r') :: (w.heap.size + 1, 1, Value.int .i64 m') :: (w.heap.size, 0, Value.int .i64 r) :: (w.heap.size, 1, Value.int .i64 m) :: [])) (first | (exact keepSt0 ((bs, 0, Value.int .i64 sr) :: (bs, 1, Value.int .i64 sm) :: (bt, 0, Value.int .i64 tr) :: (bt, 1, Value.int .i64 tm) :: (bq, 0, Value.int .i64 qr) :: (bq, 1, Value.int .i64 qm) :: (bp, 0, Value.int .i64 pr) :: (bp, 1, Value.int .i64 pm) :: (w.heap.size + 1, 0, Value.int .i64 r') :: (w.heap.size + 1, 1, Value.int .i64 m') :: (w.heap.size, 0, Value.int .i64 r) :: (w.heap.size, 1, Value.int .i64 m) :: []) sF.drew) | (exact keepSt ((bs, 0, Value.int .i64 sr) :: (bs, 1, Value.int .i64 sm) :: (bt, 0, Value.int .i64 tr) :: (bt, 1, Value.int .i64 tm) :: (bq, 0, Value.int .i64 qr) :: (bq, 1, Value.int .i64 qm) :: (bp, 0, Value.int .i64 pr) :: (bp, 1, Value.int .i64 pm) :: (w.heap.size + 1, 0, Value.int .i64 r') :: (w.heap.size + 1, 1, Value.int .i64 m') :: (w.heap.size, 0, Value.int .i64 r) :: (w.heap.size, 1, Value.int .i64 m) :: []) (by assumption) (by assumption)) | assumption)
              (first
                | (go_at_call_of 22 (Value.slice (some ⟨ba, oa, none⟩) 9 capa); refine (HL1.out _ (keepF1 (w := wr) (a := a) (x1 := some ⟨ba, oa, none⟩) (x2 := some ⟨bb, ob, none⟩) (x3 := xc) (l1 := la) (l2 := lb) (l3 := l3) ((bs, 0, Value.int .i64 sr) :: (bs, 1, Value.int .i64 sm) :: (bt, 0, Value.int .i64 tr) :: (bt, 1, Value.int .i64 tm) :: (bq, 0, Value.int .i64 qr) :: (bq, 1, Value.int .i64 qm) :: (bp, 0, Value.int .i64 pr) :: (bp, 1, Value.int .i64 pm) :: (w.heap.size + 1, 0, Value.int .i64 r') :: (w.heap.size + 1, 1, Value.int .i64 m') :: (w.heap.size, 0, Value.int .i64 r) :: (w.heap.size, 1, Value.int .i64 m) :: []) (by assumption))).mono ?_; rintro e w15 ⟨rfl, hb15⟩; have s15 := (keepSt_st (w := wr) (Z := FZ a (some ⟨ba, oa, none⟩) (some ⟨bb, ob, none⟩) xc la lb l3) ((bs, 0, Value.int .i64 sr) :: (bs, 1, Value.int .i64 sm) :: (bt, 0, Value.int .i64 tr) :: (bt, 1, Value.int .i64 tm) :: (bq, 0, Value.int .i64 qr) :: (bq, 1, Value.int .i64 qm) :: (bp, 0, Value.int .i64 pr) :: (bp, 1, Value.int .i64 pm) :: (w.heap.size + 1, 0, Value.int .i64 r') :: (w.heap.size + 1, 1, Value.int .i64 m') :: (w.heap.size, 0, Value.int .i64 r) :: (w.heap.size, 1, Value.int .i64 m) :: []) (by assumption)).call hb15)
                | (go_at_call_of 22 (Value.slice (some ⟨bb, ob, none⟩) 9 capb); refine (HL2.out _ (keepF2 (w := wr) (a := a) (x1 := some ⟨ba, oa, none⟩) (x2 := some ⟨bb, ob, none⟩) (x3 := xc) (l1 := la) (l2 := lb) (l3 := l3) ((bs, 0, Value.int .i64 sr) :: (bs, 1, Value.int .i64 sm) :: (bt, 0, Value.int .i64 tr) :: (bt, 1, Value.int .i64 tm) :: (bq, 0, Value.int .i64 qr) :: (bq, 1, Value.int .i64 qm) :: (bp, 0, Value.int .i64 pr) :: (bp, 1, Value.int .i64 pm) :: (w.heap.size + 1, 0, Value.int .i64 r') :: (w.heap.size + 1, 1, Value.int .i64 m') :: (w.heap.size, 0, Value.int .i64 r) :: (w.heap.size, 1, Value.int .i64 m) :: []) (by assumption))).mono ?_; rintro e w16 ⟨rfl, hb16⟩; have s16 := (keepSt_st (w := wr) (Z := FZ a (some ⟨ba, oa, none⟩) (some ⟨bb, ob, none⟩) xc la lb l3) ((bs, 0, Value.int .i64 sr) :: (bs, 1, Value.int .i64 sm) :: (bt, 0, Value.int .i64 tr) :: (bt, 1, Value.int .i64 tm) :: (bq, 0, Value.int .i64 qr) :: (bq, 1, Value.int .i64 qm) :: (bp, 0, Value.int .i64 pr) :: (bp, 1, Value.int .i64 pm) :: (w.heap.size + 1, 0, Value.int .i64 r') :: (w.heap.size + 1, 1, Value.int .i64 m') :: (w.heap.size, 0, Value.int .i64 r) :: (w.heap.size, 1, Value.int .i64 m) :: []) (by assumption)).call hb16)
                | (go_at_call_of 21 (Value.agg #[.int .i64 pr, .int .i64 pm]); refine (isCongr_same pr pm _).mono ?_; rintro e w17 ⟨rfl, hb17⟩; have s17 := (keepSt_st (w := wr) (Z := FZ a (some ⟨ba, oa, none⟩) (some ⟨bb, ob, none⟩) xc la lb l3) ((bs, 0, Value.int .i64 sr) :: (bs, 1, Value.int .i64 sm) :: (bt, 0, Value.int .i64 tr) :: (bt, 1, Value.int .i64 tm) :: (bq, 0, Value.int .i64 qr) :: (bq, 1, Value.int .i64 qm) :: (bp, 0, Value.int .i64 pr) :: (bp, 1, Value.int .i64 pm) :: (w.heap.size + 1, 0, Value.int .i64 r') :: (w.heap.size + 1, 1, Value.int .i64 m') :: (w.heap.size, 0, Value.int .i64 r) :: (w.heap.size, 1, Value.int .i64 m) :: []) (by assumption)).call hb17)
                | (go_at_call_of 21 (Value.agg #[.int .i64 qr, .int .i64 qm]); refine (isCongr_same qr qm _).mono ?_; rintro e w18 ⟨rfl, hb18⟩; have s18 := (keepSt_st (w := wr) (Z := FZ a (some ⟨ba, oa, none⟩) (some ⟨bb, ob, none⟩) xc la lb l3) ((bs, 0, Value.int .i64 sr) :: (bs, 1, Value.int .i64 sm) :: (bt, 0, Value.int .i64 tr) :: (bt, 1, Value.int .i64 tm) :: (bq, 0, Value.int .i64 qr) :: (bq, 1, Value.int .i64 qm) :: (bp, 0, Value.int .i64 pr) :: (bp, 1, Value.int .i64 pm) :: (w.heap.size + 1, 0, Value.int .i64 r') :: (w.heap.size + 1, 1, Value.int .i64 m') :: (w.heap.size, 0, Value.int .i64 r) :: (w.heap.size, 1, Value.int .i64 m) :: []) (by assumption)).call hb18))
            all_goals
              go_wp2_with fail
              go_meet
              case rel => exact ⟨by simp, by assumption⟩
        case rest =>
        clear sF q14
        obtain ⟨rfl, s19⟩ := hcut
        have q19 := s19.hold
        simp only [Holds, and_true] at q19
        cases b
        · go_wp2_with fail
          go_region
          all_goals
            go_wp2_with fail
            go_ret
            exact ⟨ret_bool (by simp), bel14.trans (s19.drew.bel.mono bel14.size)⟩
        · obtain ⟨hl3, hnear⟩ := hprod9.out rfl
          have n3 : l3.length = 9 := by rw [hl3]; exact pairF_len _ _ _ _ _ _
          have hI3 := s19.sent.2.2.2
          obtain ⟨bc, oc, rfl, hbc, _⟩ := hI3.lies (by omega)
          have HL3 : Hid (∀ W : World, IntsAt W (some ⟨bc, oc, none⟩) l3 → Calls Tryd.prog 22 #[.slice (some ⟨bc, oc, none⟩) 9 capc] W fun e w' => e = .returned (.agg #[.int .i64 tr, .int .i64 tm]) ∧ Below W.heap.size W w') := by
            intro W h
            have := least_any bc oc 9 capc l3 W h n3.symm (by omega) (by omega) (by rw [hl3]; exact prod_bd hnear)
            rw [hl3, ← HMM.out] at this
            exact this
          rw [n3]
          clear hI3 hprod9 n3 hl3 hnear
          go_upto_region 44 with fail
          go_region_held3 (fun w' => w'.cell? ⟨bs, 0, none⟩ = some (.int .i64 sr) ∧ w'.cell? ⟨bs, 1, none⟩ = some (.int .i64 sm) ∧ w'.cell? ⟨bt, 0, none⟩ = some (.int .i64 tr) ∧ w'.cell? ⟨bt, 1, none⟩ = some (.int .i64 tm) ∧ w'.cell? ⟨bq, 0, none⟩ = some (.int .i64 qr) ∧ w'.cell? ⟨bq, 1, none⟩ = some (.int .i64 qm) ∧ w'.cell? ⟨bp, 0, none⟩ = some (.int .i64 pr) ∧ w'.cell? ⟨bp, 1, none⟩ = some (.int .i64 pm) ∧ w'.cell? ⟨w.heap.size + 1, 0, none⟩ = some (.int .i64 r') ∧ w'.cell? ⟨w.heap.size + 1, 1, none⟩ = some (.int .i64 m') ∧ w'.cell? ⟨w.heap.size, 0, none⟩ = some (.int .i64 r) ∧ w'.cell? ⟨w.heap.size, 1, none⟩ = some (.int .i64 m) ∧ St wr w' (FZ a (some ⟨ba, oa, none⟩) (some ⟨bb, ob, none⟩) (some ⟨bc, oc, none⟩) la lb l3) ((bs, 0, Value.int .i64 sr) :: (bs, 1, Value.int .i64 sm) :: (bt, 0, Value.int .i64 tr) :: (bt, 1, Value.int .i64 tm) :: (bq, 0, Value.int .i64 qr) :: (bq, 1, Value.int .i64 qm) :: (bp, 0, Value.int .i64 pr) :: (bp, 1, Value.int .i64 pm) :: (w.heap.size + 1, 0, Value.int .i64 r') :: (w.heap.size + 1, 1, Value.int .i64 m') :: (w.heap.size, 0, Value.int .i64 r) :: (w.heap.size, 1, Value.int .i64 m) :: [])) (first | (exact keepSt0 ((bs, 0, Value.int .i64 sr) :: (bs, 1, Value.int .i64 sm) :: (bt, 0, Value.int .i64 tr) :: (bt, 1, Value.int .i64 tm) :: (bq, 0, Value.int .i64 qr) :: (bq, 1, Value.int .i64 qm) :: (bp, 0, Value.int .i64 pr) :: (bp, 1, Value.int .i64 pm) :: (w.heap.size + 1, 0, Value.int .i64 r') :: (w.heap.size + 1, 1, Value.int .i64 m') :: (w.heap.size, 0, Value.int .i64 r) :: (w.heap.size, 1, Value.int .i64 m) :: []) s19.drew) | (exact keepSt ((bs, 0, Value.int .i64 sr) :: (bs, 1, Value.int .i64 sm) :: (bt, 0, Value.int .i64 tr) :: (bt, 1, Value.int .i64 tm) :: (bq, 0, Value.int .i64 qr) :: (bq, 1, Value.int .i64 qm) :: (bp, 0, Value.int .i64 pr) :: (bp, 1, Value.int .i64 pm) :: (w.heap.size + 1, 0, Value.int .i64 r') :: (w.heap.size + 1, 1, Value.int .i64 m') :: (w.heap.size, 0, Value.int .i64 r) :: (w.heap.size, 1, Value.int .i64 m) :: []) (by assumption) (by assumption)) | assumption)
            (first
              | (go_at_call 22; refine (HL3.out _ (keepF3 (w := wr) (a := a) (x1 := some ⟨ba, oa, none⟩) (x2 := some ⟨bb, ob, none⟩) (x3 := some ⟨bc, oc, none⟩) (l1 := la) (l2 := lb) (l3 := l3) ((bs, 0, Value.int .i64 sr) :: (bs, 1, Value.int .i64 sm) :: (bt, 0, Value.int .i64 tr) :: (bt, 1, Value.int .i64 tm) :: (bq, 0, Value.int .i64 qr) :: (bq, 1, Value.int .i64 qm) :: (bp, 0, Value.int .i64 pr) :: (bp, 1, Value.int .i64 pm) :: (w.heap.size + 1, 0, Value.int .i64 r') :: (w.heap.size + 1, 1, Value.int .i64 m') :: (w.heap.size, 0, Value.int .i64 r) :: (w.heap.size, 1, Value.int .i64 m) :: []) (by assumption))).mono ?_; rintro e w20 ⟨rfl, hb20⟩; have s20 := (keepSt_st (w := wr) (Z := FZ a (some ⟨ba, oa, none⟩) (some ⟨bb, ob, none⟩) (some ⟨bc, oc, none⟩) la lb l3) ((bs, 0, Value.int .i64 sr) :: (bs, 1, Value.int .i64 sm) :: (bt, 0, Value.int .i64 tr) :: (bt, 1, Value.int .i64 tm) :: (bq, 0, Value.int .i64 qr) :: (bq, 1, Value.int .i64 qm) :: (bp, 0, Value.int .i64 pr) :: (bp, 1, Value.int .i64 pm) :: (w.heap.size + 1, 0, Value.int .i64 r') :: (w.heap.size + 1, 1, Value.int .i64 m') :: (w.heap.size, 0, Value.int .i64 r) :: (w.heap.size, 1, Value.int .i64 m) :: []) (by assumption)).call hb20)
              | (go_at_call 21; refine (isCongr_same tr tm _).mono ?_; rintro e w21 ⟨rfl, hb21⟩; have s21 := (keepSt_st (w := wr) (Z := FZ a (some ⟨ba, oa, none⟩) (some ⟨bb, ob, none⟩) (some ⟨bc, oc, none⟩) la lb l3) ((bs, 0, Value.int .i64 sr) :: (bs, 1, Value.int .i64 sm) :: (bt, 0, Value.int .i64 tr) :: (bt, 1, Value.int .i64 tm) :: (bq, 0, Value.int .i64 qr) :: (bq, 1, Value.int .i64 qm) :: (bp, 0, Value.int .i64 pr) :: (bp, 1, Value.int .i64 pm) :: (w.heap.size + 1, 0, Value.int .i64 r') :: (w.heap.size + 1, 1, Value.int .i64 m') :: (w.heap.size, 0, Value.int .i64 r) :: (w.heap.size, 1, Value.int .i64 m) :: []) (by assumption)).call hb21))
          all_goals
            go_wp2_with fail
            go_ret
            exact ⟨ret_bool (by simp), bel14.trans (s21.bel.mono bel14.size)⟩

end Go.Proofs.YtjimjbilmlnipaaDoor
