/- The walk of CongrMeet, by what is asked of the program's functions. -/
import Derived.Test.YtjimjbilmlnipaaDoorCg
import Derived.Test.YtjimjbilmlnipaaDoorCm
import Derived.Deep.CutBlock
namespace Go.Proofs.YtjimjbilmlnipaaDoor
open Go.RowKit
set_option linter.unusedVariables false


theorem Tryd.stoodRg : Tryd.prog.stoodInHeld 23 = false := by kernel_rfl
theorem Tryd.fieldsRg : Tryd.prog.underlying 23 = some (.struct (Tryd.prog.fieldsOf 23)) := by kernel_rfl
theorem eqRg (r m r' m' : Int) (W : World) : (binOp .eql 23 (.agg #[.int .i64 r, .int .i64 m]) (.agg #[.int .i64 r', .int .i64 m'])).run Tryd.prog W = .ok (.bool (decide (r = r') && decide (m = m'))) W := by
  rw [run_eql_struct, run_equalIn_struct W 9999 _ _ _ Tryd.fieldsRg Tryd.stoodRg]
  simp [Program.fieldsOf, Tryd.underlying23, go_sem, Tryd.underlying3]
  by_cases h1 : r = r' <;> by_cases h2 : m = m' <;> simp [h1, h2]

theorem mul_small {k : Nat} {m : Int} (hk : k ≤ 4001) (hm : 0 ≤ m ∧ m ≤ 2000) : 0 ≤ (k : Int) * m ∧ (k : Int) * m ≤ 8002000 := by
  have h1 : (k : Int) * m ≤ 4001 * m := Int.mul_le_mul_of_nonneg_right (by omega) hm.1
  exact ⟨Int.mul_nonneg (by omega) hm.1, by omega⟩
theorem meetL_bound {r m : Int} {B : Cg} {N : Nat} (hN : N ≤ 4001) (hr : 0 ≤ r ∧ r ≤ 2000) (hm : 0 ≤ m ∧ m ≤ 2000) : ∀ x ∈ meetL r m B N, -2305843009213693952 ≤ x ∧ x ≤ 2305843009213693952 := by
  intro x hx
  rw [mem_meetL] at hx
  obtain ⟨k, hk, e, _⟩ := hx
  have := mul_small (k := k) (by omega) hm
  omega

set_option maxRecDepth 20000 in
set_option maxHeartbeats 8000000 in
theorem cmeet_walk (a : Nat → Addr) (hT : SixthC a) (r m r' m' : Int) (w : World) (hS : Sents w a) (E jr jm : Int) (jb : Bool) (v : Value) (hE : 0 ≤ E)
    (HE : Hid (∀ W : World, Calls Tryd.prog 17 #[(.agg #[.int .i64 r, .int .i64 m]), (.agg #[.int .i64 r', .int .i64 m'])] W fun x w' => x = .returned (.int .i64 E) ∧ Below W.heap.size W w'))
    (HJ : Hid (∀ W : World, Sents W a → Calls Tryd.prog 23 #[(.agg #[.int .i64 r, .int .i64 m]), (.agg #[.int .i64 r', .int .i64 m'])] W fun x w' => x = .returned (.tuple #[(.agg #[.int .i64 jr, .int .i64 jm]), .bool jb, v]) ∧ Below W.heap.size W w'))
    (HS : Hid (0 < E → ∀ W : World, Sents W a → Calls Tryd.prog 21 #[(.agg #[.int .i64 jr, .int .i64 jm]), v, (.agg #[.int .i64 0, .int .i64 0]), .int .i64 E] W fun x w' => x = .returned (.bool true) ∧ Below W.heap.size W w'))
    (HB0 : Hid (0 < E → jb = false))
    (HG : Hid (E = 0 → v = .nilIface ∧ okC ⟨r, m⟩ ∧ okC ⟨r', m'⟩ ∧ MeetS ⟨r, m⟩ ⟨r', m'⟩ ⟨jr, jm⟩ jb)) :
    Calls Tryd.prog 5 #[(.agg #[.int .i64 r, .int .i64 m]), (.agg #[.int .i64 r', .int .i64 m'])] w fun x w' => x = .returned (.bool true) ∧ Below w.heap.size w w' := by
  have HO : Hid (∀ (p q : Int) (W : World), Calls Tryd.prog 14 #[(.agg #[.int .i64 p, .int .i64 q])] W fun e w' => e = .returned (.agg #[.int .i64 p, .int .i64 q]) ∧ Below W.heap.size W w') := own_any
  go_enter Tryd.func5, Tryd.ntmps5
  go_wp2_with fail
  have s0 := ((St.start hS).box2 23 (.int .i64 r) (.int .i64 m)).box2 23 (.int .i64 r') (.int .i64 m')
  simp only [World.size_alloc] at s0
  refine (hT _ s0.sents.errs).mono ?_
  (rintro x1 w1 ⟨rfl, hb⟩; have s1 := s0.call hb; have q1 := s1.hold; simp only [Holds, and_true] at q1; clear hb s0; try clear q0)
  go_wp2_with fail
  refine (HE.out _).mono ?_
  (rintro x1 w2 ⟨rfl, hb⟩; have s2 := s1.call hb; have q2 := s2.hold; simp only [Holds, and_true] at q2; clear hb s1; try clear q1)
  go_upto_region 5 with fail
  go_cut [7, 8, 9] (fun s7 s8 s9 wx => s8 = .bool jb ∧ v = s9 ∧ ∃ bj : Nat, s7 = .pointer (some ⟨bj, 0, none⟩) ∧ w.heap.size + 1 < bj ∧ St w wx (SZ a) ((bj, 0, Value.int .i64 jr) :: (bj, 1, Value.int .i64 jm) :: (w.heap.size + 1, 0, Value.int .i64 r') :: (w.heap.size + 1, 1, Value.int .i64 m') :: (w.heap.size, 0, Value.int .i64 r) :: (w.heap.size, 1, Value.int .i64 m) :: []))
  case first =>
    have hwB := s2.bel.size
    have k2 := s2.hold
    have hlt : w.heap.size + 1 < w2.heap.size := by have := s2.hold.1.2.1; exact this
    go_region_held3 (fun w' => w'.cell? ⟨w.heap.size + 1, 0, none⟩ = some (.int .i64 r') ∧ w'.cell? ⟨w.heap.size + 1, 1, none⟩ = some (.int .i64 m') ∧ w'.cell? ⟨w.heap.size, 0, none⟩ = some (.int .i64 r) ∧ w'.cell? ⟨w.heap.size, 1, none⟩ = some (.int .i64 m) ∧ St w w' (SZ a) ((w.heap.size + 1, 0, Value.int .i64 r') :: (w.heap.size + 1, 1, Value.int .i64 m') :: (w.heap.size, 0, Value.int .i64 r) :: (w.heap.size, 1, Value.int .i64 m) :: [])) (first | (exact keepSt0 ((w.heap.size + 1, 0, Value.int .i64 r') :: (w.heap.size + 1, 1, Value.int .i64 m') :: (w.heap.size, 0, Value.int .i64 r) :: (w.heap.size, 1, Value.int .i64 m) :: []) s2.drew) | (exact keepSt ((w.heap.size + 1, 0, Value.int .i64 r') :: (w.heap.size + 1, 1, Value.int .i64 m') :: (w.heap.size, 0, Value.int .i64 r) :: (w.heap.size, 1, Value.int .i64 m) :: []) (by assumption) (by assumption)) | (exact keepSt0 ((w.heap.size + 1, 0, Value.int .i64 r') :: (w.heap.size + 1, 1, Value.int .i64 m') :: (w.heap.size, 0, Value.int .i64 r) :: (w.heap.size, 1, Value.int .i64 m) :: []) ((s6.late2 k2 hwB (by first | exact Nat.le_refl _ | exact hb4.size | exact hb5.size | exact Nat.le_trans hb4.size hb5.size | exact Nat.le_trans hb5.size hb4.size) hx _ _).drop 2)) | (exact keepSt0 ((w.heap.size + 1, 0, Value.int .i64 r') :: (w.heap.size + 1, 1, Value.int .i64 m') :: (w.heap.size, 0, Value.int .i64 r) :: (w.heap.size, 1, Value.int .i64 m) :: []) (s6.alloc _)) | (exact keepSt0 ((w.heap.size + 1, 0, Value.int .i64 r') :: (w.heap.size + 1, 1, Value.int .i64 m') :: (w.heap.size, 0, Value.int .i64 r) :: (w.heap.size, 1, Value.int .i64 m) :: []) ((keepSt_st ((w.heap.size + 1, 0, Value.int .i64 r') :: (w.heap.size + 1, 1, Value.int .i64 m') :: (w.heap.size, 0, Value.int .i64 r) :: (w.heap.size, 1, Value.int .i64 m) :: []) (by assumption)).alloc _)) | (exact keepSt0 ((w.heap.size + 1, 0, Value.int .i64 r') :: (w.heap.size + 1, 1, Value.int .i64 m') :: (w.heap.size, 0, Value.int .i64 r) :: (w.heap.size, 1, Value.int .i64 m) :: []) ((keepSt_st ((w.heap.size + 1, 0, Value.int .i64 r') :: (w.heap.size + 1, 1, Value.int .i64 m') :: (w.heap.size, 0, Value.int .i64 r) :: (w.heap.size, 1, Value.int .i64 m) :: []) (by assumption)).alloc _).drew))
      (first
        | (go_at_call_of 14 (Value.agg #[.int .i64 r, .int .i64 m]); refine (HO.out r m _).mono ?_; rintro e w4 ⟨rfl, hb4⟩; (first | (have hx4 := Holds.below hx hb4; clear hx; have hx := hx4; clear hx4; have ho4 := hx; simp only [Holds, and_true] at ho4) | (have hx := boxed2 hb4; have ho4 := hx; simp only [Holds, and_true] at ho4) | (have hx := boxed2' hb4; have ho4 := hx; simp only [Holds, and_true] at ho4) | skip))
        | (go_at_call_of 14 (Value.agg #[.int .i64 r', .int .i64 m']); refine (HO.out r' m' _).mono ?_; rintro e w5 ⟨rfl, hb5⟩; (first | (have hx5 := Holds.below hx hb5; clear hx; have hx := hx5; clear hx5; have ho5 := hx; simp only [Holds, and_true] at ho5) | (have hx := boxed2 hb5; have ho5 := hx; simp only [Holds, and_true] at ho5) | (have hx := boxed2' hb5; have ho5 := hx; simp only [Holds, and_true] at ho5) | skip))
        | (go_at_call 23; refine (HJ.out _ (keepSt_st ((w.heap.size + 1, 0, Value.int .i64 r') :: (w.heap.size + 1, 1, Value.int .i64 m') :: (w.heap.size, 0, Value.int .i64 r) :: (w.heap.size, 1, Value.int .i64 m) :: []) (by assumption)).sents).mono ?_; rintro e w6 ⟨rfl, hb6⟩; have s6 := (keepSt_st ((w.heap.size + 1, 0, Value.int .i64 r') :: (w.heap.size + 1, 1, Value.int .i64 m') :: (w.heap.size, 0, Value.int .i64 r) :: (w.heap.size, 1, Value.int .i64 m) :: []) (by assumption)).call hb6; (first | (have hx6 := Holds.below hx hb6; clear hx; have hx := hx6; clear hx6; have ho6 := hx; simp only [Holds, and_true] at ho6) | (have hx := boxed2 hb6; have ho6 := hx; simp only [Holds, and_true] at ho6) | (have hx := boxed2' hb6; have ho6 := hx; simp only [Holds, and_true] at ho6) | skip)))
    all_goals
      go_wp2_with fail
      go_meet
      case rel => first
        | exact ⟨rfl, rfl, _, rfl, Nat.lt_of_lt_of_le hlt (by first | exact Nat.le_trans (Nat.le_trans hb4.size hb5.size) hb6.size | exact Nat.le_trans (Nat.le_trans hb5.size hb4.size) hb6.size), s6.box2 31 _ _⟩
        | exact ⟨rfl, rfl, _, rfl, (by first | exact hlt | exact Nat.lt_of_lt_of_le hlt hb4.size | exact Nat.lt_of_lt_of_le hlt hb5.size | exact Nat.lt_of_lt_of_le hlt (Nat.le_trans hb4.size hb5.size) | exact Nat.lt_of_lt_of_le hlt (Nat.le_trans hb5.size hb4.size)), s6.late2 k2 hwB (by first | exact Nat.le_refl _ | exact hb4.size | exact hb5.size | exact Nat.le_trans hb4.size hb5.size | exact Nat.le_trans hb5.size hb4.size) hx _ _⟩
  case rest =>
  clear s2 q2
  obtain ⟨rfl, rfl, bj, rfl, hbj, s6⟩ := hcut
  have q6 := s6.hold
  simp only [Holds, and_true] at q6
  by_cases hE0 : 0 < E
  · have hj0 := HB0.out hE0
    subst hj0
    go_wp2_with fail
    refine (HS.out hE0 _ s6.sents).mono ?_
    (rintro x1 w7 ⟨rfl, hb⟩; have s7 := s6.call hb; have q7 := s7.hold; simp only [Holds, and_true] at q7; clear hb s6; try clear q6)
    go_wp2_with fail
    go_ret
    exact ⟨ret_bool (by simp), s7.bel⟩
  · obtain ⟨rfl, ok1, ok2, hM⟩ := HG.out (by omega)
    have ob1 := okC_b ok1
    have ob2 := okC_b ok2
    dsimp only at ob1 ob2
    have HM := hide hM
    have OK1 := hide ok1
    have OK2 := hide ok2
    have hE00 : E = 0 := by omega
    subst hE00
    clear hM ok1 ok2
    by_cases hm0 : m = 0
    · subst hm0
      obtain ⟨f1, f2⟩ := meet_one HM.out rfl
      dsimp only at f1 f2
      have HL := hide (fun W => leaves_any r' m' r (by omega) ob2.1 ob2.2.1 W)
      cases hb : inCB ⟨r', m'⟩ r
      · rw [hb] at f1 HL
        subst f1
        have fz : jr = 0 ∧ jm = 0 := by have := HM.out.none rfl; simpa [cgZ] using this
        obtain ⟨rfl, rfl⟩ := fz
        have hEq := fun W => eqCg 0 0 0 0 W
        clear f2 hb
        go_wp2_with fail
        refine (HL.out _).mono ?_
        rintro e w7 ⟨rfl, hb7⟩
        have s7 := ((s6.alloc _).alloc _).call hb7
        have q7 := s7.hold
        simp only [Holds, and_true] at q7
        clear hb7 q6
        go_wp2_with fail
        all_goals
          go_ret
          exact ⟨ret_bool (by simp), s7.bel⟩
      · rw [hb] at f1 HL
        subst f1
        obtain ⟨rfl, rfl⟩ := Cg.mk.inj (f2 rfl)
        clear f2 hb
        go_wp2_with fail
        refine (HL.out _).mono ?_
        rintro e w7 ⟨rfl, hb7⟩
        have s7 := ((s6.box2 23 (.int .i64 jr) (.int .i64 0)).alloc _).call hb7
        have q7 := s7.hold
        simp only [Holds, and_true] at q7
        clear hb7 q6
        go_wp2_with fail
        refine (isCongr_same jr 0 _).mono ?_
        rintro e w8 ⟨rfl, hb8⟩
        have s8 := s7.call hb8
        clear hb8 q7
        go_wp2_with fail
        all_goals
          go_ret
          exact ⟨ret_bool (by simp), s8.bel⟩
    · have e0 : (m == 0) = false := by simp [hm0]
      by_cases hm0' : m' = 0
      · subst hm0'
        obtain ⟨f1, f2⟩ := meet_one' HM.out rfl
        dsimp only at f1 f2
        have HL := hide (fun W => leaves_any r m r' (by omega) ob1.1 ob1.2.1 W)
        cases hb : inCB ⟨r, m⟩ r'
        · rw [hb] at f1 HL
          subst f1
          have fz : jr = 0 ∧ jm = 0 := by have := HM.out.none rfl; simpa [cgZ] using this
          obtain ⟨rfl, rfl⟩ := fz
          have hEq := fun W => eqCg 0 0 0 0 W
          clear f2 hb
          go_wp2_with fail
          refine (HL.out _).mono ?_
          rintro e w7 ⟨rfl, hb7⟩
          have s7 := ((s6.alloc _).alloc _).call hb7
          have q7 := s7.hold
          simp only [Holds, and_true] at q7
          clear hb7 q6
          go_wp2_with fail
          all_goals
            go_ret
            exact ⟨ret_bool (by simp), s7.bel⟩
        · rw [hb] at f1 HL
          subst f1
          obtain ⟨rfl, rfl⟩ := Cg.mk.inj (f2 rfl)
          clear f2 hb
          go_wp2_with fail
          refine (HL.out _).mono ?_
          rintro e w7 ⟨rfl, hb7⟩
          have s7 := ((s6.box2 23 (.int .i64 jr) (.int .i64 0)).alloc _).call hb7
          have q7 := s7.hold
          simp only [Holds, and_true] at q7
          clear hb7 q6
          go_wp2_with fail
          refine (isCongr_same jr 0 _).mono ?_
          rintro e w8 ⟨rfl, hb8⟩
          have s8 := s7.call hb8
          clear hb8 q7
          go_wp2_with fail
          all_goals
            go_ret
            exact ⟨ret_bool (by simp), s8.bel⟩
      · have e0' : (m' == 0) = false := by simp [hm0']
        by_cases hbig : 2000 < m ∨ 2000 < m'
        · by_cases hb1 : 2000 < m
          all_goals
            go_wp2_with fail
            all_goals
              go_ret
              exact ⟨ret_bool (by simp), s6.bel⟩
        · have hm2 : 0 < m ∧ m ≤ 2000 := by omega
          have hm2' : 0 < m' ∧ m' ≤ 2000 := by omega
          have hr2 : 0 ≤ r ∧ r < m := OK1.out.2.2.2 hm2.1
          have hr2' : 0 ≤ r' ∧ r' < m' := OK2.out.2.2.2 hm2'.1
          obtain ⟨N, hN⟩ : ∃ N : Nat, (N : Int) = 2 * m' + 1 := ⟨(2 * m' + 1).toNat, by omega⟩
          have hN2 : N ≤ 4001 := by omega
          obtain ⟨i0, hi0, hz0, hz1, hz2⟩ := info_parts Tryd.info3
          have hb1 : ¬ 2000 < m := by omega
          have hb2 : ¬ 2000 < m' := by omega
          clear hbig
          go_wp2_with fail
          go_loopg [13, 14] N (fun g out iv wr => ∃ (k : Nat), k + g = N ∧ iv = .int .i64 k ∧ wr.ownsRow wc.heap.size 3 1 out (meetL r m ⟨r', m'⟩ k).length ((meetL r m ⟨r', m'⟩ k).map (Value.int .i64)) ∧ Below wc.heap.size wc wr)
          case atStart => exact ⟨0, by omega, rfl, World.ownsRow_nil _ _ _ _, Below.refl _ _⟩
          case round =>
            obtain ⟨k, hkg, rfl, hown, hbel⟩ := hrel
            have s7 := s6.call hbel
            have q7 := s7.hold
            simp only [Holds, and_true] at q7
            clear q6
            by_cases hlt : k < N
            · have hkn : (k : Int) ≤ 2 * m' := by omega
              have hkm := mul_small (k := k) (by omega) (show 0 ≤ m ∧ m ≤ 2000 by omega)
              have HLV := hide (fun W => leaves_any r' m' (r + k * m) (by omega) ob2.1 ob2.2.1 W)
              have hlen := meetL_len r m ⟨r', m'⟩ k
              have hsz := hbel.size
              cases hb : inCB ⟨r', m'⟩ (r + k * m)
              · rw [hb] at HLV
                have HT : Hid (meetL r m ⟨r', m'⟩ (k + 1) = meetL r m ⟨r', m'⟩ k) := meetL_no hb
                clear hb
                go_wp2_with fail
                refine (HLV.out _).mono ?_
                rintro e w8 ⟨rfl, hb8⟩
                have hown' := owns_below hown hb8
                have hbel8 := hbel.trans (hb8.mono hsz)
                rw [← HT.out] at hown'
                clear hown hb8
                go_wp2_with fail
                go_roundg (N - (k + 1))
                case measure => omega
                case rel => exact ⟨k + 1, by omega, by go_num, hown', hbel8⟩
              · rw [hb] at HLV
                have HT : Hid (meetL r m ⟨r', m'⟩ (k + 1) = meetL r m ⟨r', m'⟩ k ++ [r + k * m]) := meetL_yes hb
                have HT2 : Hid ((meetL r m ⟨r', m'⟩ (k + 1)).map (Value.int .i64) = (meetL r m ⟨r', m'⟩ k).map (Value.int .i64) ++ [.int .i64 (r + k * m)]) := by show _ = _; rw [HT.out]; simp
                have HT3 : Hid ((meetL r m ⟨r', m'⟩ (k + 1)).length = (meetL r m ⟨r', m'⟩ k).length + 1) := by show _ = _; rw [HT.out]; simp
                clear hb HT
                obtain ⟨zs, hzs⟩ : ∃ zs, zs = (meetL r m ⟨r', m'⟩ k).map (Value.int .i64) := ⟨_, rfl⟩
                obtain ⟨ln, hln⟩ : ∃ ln, ln = (meetL r m ⟨r', m'⟩ k).length := ⟨_, rfl⟩
                rw [← hzs] at hown HT2
                rw [← hln] at hown HT3 hlen
                clear hzs hln
                go_wp2_with fail
                refine (HLV.out _).mono ?_
                rintro e w8 ⟨rfl, hb8⟩
                have hown8 := owns_below hown hb8
                have hbel8 := hbel.trans (hb8.mono hsz)
                have hsz8 := hbel8.size
                clear hown hb8
                go_wp2_with (at_builtin; refine wpList_append_own _ rfl _ _ 38 rfl wc.heap.size 3 i0 (.int .i64 0) 1 8 Tryd.underlying38 hi0 hz0 hz1 hz2 rfl (by decide) _ _ _ rfl (hown8.alloc _) ⟨w8.heap.size, 0, none⟩ 1 1 [.int .i64 (r + k * m)] rfl rfl (cell_one_new _ _ _) (by intro u hu; simp at hu; subst hu; rfl) (by unfold maxLen; omega) (by omega) (by simp; omega) ?_)
                intro v' w9 hown' hgrow _
                have hbel3 := (hbel8.alloc hsz8 _).grown hgrow (by simp; omega) (fun j hj => (hown8.lt j hj).1)
                rw [← HT2.out, ← HT3.out] at hown'
                clear hown8 hgrow
                go_wp2_with fail
                go_roundg (N - (k + 1))
                case measure => omega
                case rel => exact ⟨k + 1, by omega, by go_num, hown', hbel3⟩
            · have hke : k = N := by omega
              subst hke
              have hkn : ¬ (k : Int) ≤ 2 * m' := by omega
              obtain ⟨l, hl⟩ : ∃ l, l = meetL r m ⟨r', m'⟩ k := ⟨_, rfl⟩
              have facts := meet_facts (A := ⟨r, m⟩) (B := ⟨r', m'⟩) hm2.1 hm2'.1 HM.out hN hl
              have hbnd := meetL_bound (B := ⟨r', m'⟩) hN2 (show 0 ≤ r ∧ r ≤ 2000 by omega) (show 0 ≤ m ∧ m ≤ 2000 by omega)
              have hlen := meetL_len r m ⟨r', m'⟩ k
              rw [← hl] at hown hbnd hlen
              obtain ⟨x2, cap2, rfl, hI2⟩ := IntsAt_of_own hown
              have FACTS := hide facts
              have HBND := hide hbnd
              have HI2 := hide hI2
              have s7b := s7
              clear hl hown facts hbnd hI2
              by_cases hne : l = []
              · obtain ⟨fb, fz⟩ := FACTS.out.1 hne
                subst fb
                have fz' : jr = 0 ∧ jm = 0 := by simpa [cgZ] using fz
                obtain ⟨rfl, rfl⟩ := fz'
                have hEq := fun W => eqCg 0 0 0 0 W
                subst hne
                clear fz
                go_wp2_with fail
                all_goals
                  go_ret
                  exact ⟨ret_bool (by simp), s7.bel⟩
              · obtain ⟨fb, fz⟩ := FACTS.out.2 hne
                subst fb
                obtain ⟨b3, off3, rfl, hb3⟩ : ∃ b off, x2 = some ⟨b, off, none⟩ ∧ b < wr.heap.size := by
                  rcases HI2.out with h | ⟨b, off, h1, h2, _⟩
                  · exact absurd h hne
                  · exact ⟨b, off, h1, h2⟩
                have hl0 : 0 < l.length := by
                  rcases Nat.eq_zero_or_pos l.length with h | h
                  · exact absurd (List.length_eq_zero_iff.1 h) hne
                  · exact h
                have hI4 := HI2.out
                have HLe : ∀ W : World, IntsAt W (some ⟨b3, off3, none⟩) l → Calls Tryd.prog 22 #[.slice (some ⟨b3, off3, none⟩) l.length cap2] W fun e w' => e = .returned (formC (l.getD 0 0) (gcdD l l.length)).v ∧ Below W.heap.size W w' := fun W h => least_any b3 off3 l.length cap2 l W h rfl (by omega) hl0 HBND.out
                generalize formC (l.getD 0 0) (gcdD l l.length) = F at *
                obtain ⟨fr, fm⟩ := F
                have HL := hide (show ∀ W : World, IntsAt W (some ⟨b3, off3, none⟩) l → Calls Tryd.prog 22 #[.slice (some ⟨b3, off3, none⟩) l.length cap2] W fun e w' => e = .returned (.agg #[.int .i64 fr, .int .i64 fm]) ∧ Below W.heap.size W w' from HLe)
                have hEq := fun W => eqRg fr fm 0 1 W
                have hln0 : ¬ (l.length : Int) = 0 := by omega
                have hlb : ((l.length : Int) == 0) = false := by simp; omega
                clear HLe HI2 FACTS HBND hne
                generalize l.length = ln at *
                have HI4 := hide hI4
                clear hI4
                have hI4 := fun (_ : Unit) => HI4.out
                by_cases c1 : fr = 0 ∧ fm = 1
                · obtain ⟨rfl, rfl⟩ := c1
                  by_cases c2 : m = 1 ∧ m' = 1
                  · rw [if_neg (fun h => h.2 c2)] at fz
                    obtain ⟨rfl, rfl⟩ := Cg.mk.inj fz
                    obtain ⟨rfl, rfl⟩ := c2
                    go_wp2_with fail
                    refine (HL.out _ (hI4 ())).mono ?_
                    rintro e w8 ⟨rfl, hb8⟩
                    have s8 := (s7.call hb8)
                    have q8 := s8.hold
                    simp only [Holds, and_true] at q8
                    have hlt8 : bj < w8.heap.size := s8.hold.1.2.1
                    have hltw : w.heap.size < w8.heap.size := Nat.lt_of_le_of_lt (by omega) hlt8
                    have hltw' : w.heap.size + 1 < w8.heap.size := Nat.lt_of_le_of_lt (by omega) hlt8
                    clear hb8 q7
                    go_wp2_with fail
                    refine (isCongr_same _ _ _).mono ?_
                    rintro e w9 ⟨rfl, hb9⟩
                    have s9 := (s8.alloc _).call hb9
                    clear hb9
                    go_wp2_with fail
                    all_goals
                      go_ret
                      exact ⟨ret_bool (by simp), s9.bel⟩
                  · rw [if_pos ⟨rfl, c2⟩] at fz
                    obtain ⟨rfl, rfl⟩ := Cg.mk.inj fz
                    by_cases c3 : jm = 1
                    · have c4 : (m' == 1) = false := by simp; exact fun h => c2 ⟨c3, h⟩
                      have c5 : ¬ m' = 1 := fun h => c2 ⟨c3, h⟩
                      clear c2 fz
                      subst c3
                      go_wp2_with fail
                      refine (HL.out _ (hI4 ())).mono ?_
                      rintro e w8 ⟨rfl, hb8⟩
                      have s8 := (s7.call hb8)
                      have q8 := s8.hold
                      simp only [Holds, and_true] at q8
                      have hlt8 : bj < w8.heap.size := s8.hold.1.2.1
                      have hltw : w.heap.size < w8.heap.size := Nat.lt_of_le_of_lt (by omega) hlt8
                      have hltw' : w.heap.size + 1 < w8.heap.size := Nat.lt_of_le_of_lt (by omega) hlt8
                      clear hb8 q7
                      go_wp2_with fail
                      refine (isCongr_same _ _ _).mono ?_
                      rintro e w9 ⟨rfl, hb9⟩
                      have s9 := (s8.alloc _).call hb9
                      clear hb9
                      go_wp2_with fail
                      all_goals
                        go_ret
                        exact ⟨ret_bool (by simp), s9.bel⟩
                    · have c4 : (jm == 1) = false := by simp [c3]
                      clear c2 fz
                      go_wp2_with fail
                      refine (HL.out _ (hI4 ())).mono ?_
                      rintro e w8 ⟨rfl, hb8⟩
                      have s8 := (s7.call hb8)
                      have q8 := s8.hold
                      simp only [Holds, and_true] at q8
                      have hlt8 : bj < w8.heap.size := s8.hold.1.2.1
                      have hltw : w.heap.size < w8.heap.size := Nat.lt_of_le_of_lt (by omega) hlt8
                      have hltw' : w.heap.size + 1 < w8.heap.size := Nat.lt_of_le_of_lt (by omega) hlt8
                      clear hb8 q7
                      go_wp2_with fail
                      refine (isCongr_same _ _ _).mono ?_
                      rintro e w9 ⟨rfl, hb9⟩
                      have s9 := (s8.alloc _).call hb9
                      clear hb9
                      go_wp2_with fail
                      all_goals
                        go_ret
                        exact ⟨ret_bool (by simp), s9.bel⟩
                · rw [if_neg (fun h => c1 ⟨congrArg Cg.r h.1, congrArg Cg.m h.1⟩)] at fz
                  obtain ⟨rfl, rfl⟩ := Cg.mk.inj fz
                  have c1b : (decide (jr = 0) && decide (jm = 1)) = false := by
                    rcases Decidable.not_and_iff_or_not.1 c1 with h | h <;> simp [h]
                  go_wp2_with fail
                  refine (HL.out _ (hI4 ())).mono ?_
                  rintro e w8 ⟨rfl, hb8⟩
                  have s8 := (s7.call hb8)
                  have q8 := s8.hold
                  simp only [Holds, and_true] at q8
                  have hlt8 : bj < w8.heap.size := s8.hold.1.2.1
                  have hltw : w.heap.size < w8.heap.size := Nat.lt_of_le_of_lt (by omega) hlt8
                  have hltw' : w.heap.size + 1 < w8.heap.size := Nat.lt_of_le_of_lt (by omega) hlt8
                  clear hb8 q7
                  go_wp2_with fail
                  refine (isCongr_same _ _ _).mono ?_
                  rintro e w9 ⟨rfl, hb9⟩
                  have s9 := (s8.alloc _).call hb9
                  clear hb9
                  go_wp2_with fail
                  all_goals
                    go_ret
                    exact ⟨ret_bool (by simp), s9.bel⟩

end Go.Proofs.YtjimjbilmlnipaaDoor
