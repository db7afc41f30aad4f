/- The walk of CongrOf, by what is asked of the program's functions. -/
import Derived.Test.YtjimjbilmlnipaaDoorCh
namespace Go.Proofs.YtjimjbilmlnipaaDoor
open Go.RowKit
set_option linter.unusedVariables false

/-- Are the first so many of another one? -/
def allIn (B : Cg) (l : List Int) : Bool := l.all fun s => inCB B s
theorem allIn_take {B : Cg} {l : List Int} {k : Nat} (hk : k < l.length) : allIn B (l.take (k + 1)) = (allIn B (l.take k) && inCB B (l.getD k 0)) := by
  have e : l.take (k + 1) = l.take k ++ [l.getD k 0] := by rw [List.take_succ_eq_append_getElem hk]; simp [hk]
  rw [e]; simp [allIn]

theorem allIn_first (r m r' m' : Int) : allIn ⟨r', m'⟩ (firstL r m 5 2) = decide (m' ∣ m ∧ m' ∣ r - r') := by
  have e : firstL r m 5 2 = [r + (0 - 2) * m, r + (1 - 2) * m, r + (2 - 2) * m, r + (3 - 2) * m, r + (4 - 2) * m] := rfl
  rw [e, Bool.eq_iff_iff]
  simp [allIn, inCB]
  constructor
  · rintro ⟨h0, h1, h2, h3, h4⟩
    have := Int.dvd_sub h3 h2
    rw [show r + m - r' - (r - r') = m by omega] at this
    exact ⟨this, h2⟩
  · rintro ⟨h1, h2⟩
    refine ⟨?_, ?_, h2, ?_, ?_⟩
    · rw [show r + -2 * m - r' = (r - r') - (m + m) by omega]; exact Int.dvd_sub h2 (Int.dvd_add h1 h1)
    · rw [show r + -m - r' = (r - r') - m by omega]; exact Int.dvd_sub h2 h1
    · rw [show r + m - r' = (r - r') + m by omega]; exact Int.dvd_add h2 h1
    · rw [show r + 2 * m - r' = (r - r') + (m + m) by omega]; exact Int.dvd_add h2 (Int.dvd_add h1 h1)

set_option maxRecDepth 20000 in
set_option maxHeartbeats 8000000 in
theorem cof_walk (a : Nat → Addr) (hT : SixthC a) (r m r' m' n : Int) (w : World) (hS : Sents w a) (e1 E : Int) (v1 v : Value) (hb1 hb2 is : Bool) (hE : 0 ≤ E)
    (HF : Hid (∀ W : World, Calls Tryd.prog 10 #[.int .i64 n, .int .i64 1152921504606846976] W fun x w' => x = .returned (.bool false) ∧ w' = W))
    (HE1 : Hid (∀ W : World, Calls Tryd.prog 11 #[(.agg #[.int .i64 r, .int .i64 m])] W fun x w' => x = .returned (.int .i64 e1) ∧ Below W.heap.size W w'))
    (HV : Hid (∀ W : World, Sents W a → Calls Tryd.prog 13 #[(.agg #[.int .i64 r, .int .i64 m])] W fun x w' => x = .returned v1 ∧ Below W.heap.size W w'))
    (HC1 : Hid (∀ W : World, Sents W a → Calls Tryd.prog 12 #[v1, .int .i64 e1] W fun x w' => x = .returned (.bool true) ∧ Below W.heap.size W w'))
    (HH : Hid (∀ W : World, Sents W a → Calls Tryd.prog 15 #[(.agg #[.int .i64 r, .int .i64 m]), .int .i64 n] W fun x w' => x = .returned (.bool hb1) ∧ Below W.heap.size W w'))
    (HLv : Hid (e1 = 0 → ∀ W : World, Calls Tryd.prog 16 #[(.agg #[.int .i64 r, .int .i64 m]), .int .i64 n] W fun x w' => x = .returned (.bool hb1) ∧ Below W.heap.size W w'))
    (Hne : Hid (e1 ≠ 0 → hb1 = false))
    (HE : Hid (∀ W : World, Calls Tryd.prog 17 #[(.agg #[.int .i64 r, .int .i64 m]), (.agg #[.int .i64 r', .int .i64 m'])] W fun x w' => x = .returned (.int .i64 E) ∧ Below W.heap.size W w'))
    (HW : Hid (∀ W : World, Sents W a → Calls Tryd.prog 18 #[(.agg #[.int .i64 r, .int .i64 m]), (.agg #[.int .i64 r', .int .i64 m'])] W fun x w' => x = .returned (.tuple #[.bool is, v]) ∧ Below W.heap.size W w'))
    (HC : Hid (0 < E → is = false ∧ ∀ W : World, Sents W a → Calls Tryd.prog 12 #[v, .int .i64 E] W fun x w' => x = .returned (.bool true) ∧ Below W.heap.size W w'))
    (HG : Hid (E = 0 → v = .nilIface ∧ okC ⟨r, m⟩ ∧ okC ⟨r', m'⟩ ∧ is = allIn ⟨r', m'⟩ (firstL r m 5 2))) :
    Calls Tryd.prog 3 #[(.agg #[.int .i64 r, .int .i64 m]), (.agg #[.int .i64 r', .int .i64 m']), .int .i64 n] w fun x w' => x = .returned (.bool true) ∧ Below w.heap.size w w' := by
  have HO : Hid (∀ (p q : Int) (W : World), Calls Tryd.prog 14 #[(.agg #[.int .i64 p, .int .i64 q])] W fun e w' => e = .returned (.agg #[.int .i64 p, .int .i64 q]) ∧ Below W.heap.size W w') := own_any
  go_enter Tryd.func3, Tryd.ntmps3
  go_wp2_with fail
  have s0 := ((St.start hS).box2 23 (.int .i64 r) (.int .i64 m)).box2 23 (.int .i64 r') (.int .i64 m')
  simp only [World.size_alloc] at s0
  refine (hT _ s0.sents.errs).mono ?_
  (rintro x1 w1 ⟨rfl, hb⟩; have s1 := s0.call hb; have q1 := s1.hold; simp only [Holds, and_true] at q1; clear hb s0; try clear q0)
  go_wp2_with fail
  refine (HF.out _).mono ?_
  rintro x1 w11 ⟨rfl, rfl⟩
  go_wp2_with fail
  refine (HE1.out _).mono ?_
  (rintro x1 w2 ⟨rfl, hb⟩; have s2 := s1.call hb; have q2 := s2.hold; simp only [Holds, and_true] at q2; clear hb s1; try clear q1)
  go_upto_region 5 with fail
  go_cut [43] (fun s43 wx => s43 = .bool false ∧ St w wx (SZ a) ((w.heap.size + 1, 0, Value.int .i64 r') :: (w.heap.size + 1, 1, Value.int .i64 m') :: (w.heap.size, 0, Value.int .i64 r) :: (w.heap.size, 1, Value.int .i64 m) :: []))
  case first =>
    by_cases h0 : e1 = 0
    · subst h0
      go_wp2_with fail
      refine (HO.out r m _).mono ?_
      (rintro x1 w3 ⟨rfl, hb⟩; have s3 := s2.call hb; have q3 := s3.hold; simp only [Holds, and_true] at q3; clear hb s2; try clear q2)
      go_wp2_with fail
      refine (HV.out _ s3.sents).mono ?_
      (rintro x1 w4 ⟨rfl, hb⟩; have s4 := s3.call hb; have q4 := s4.hold; simp only [Holds, and_true] at q4; clear hb s3; try clear q3)
      go_wp2_with fail
      refine (HC1.out _ s4.sents).mono ?_
      (rintro x1 w5 ⟨rfl, hb⟩; have s5 := s4.call hb; have q5 := s5.hold; simp only [Holds, and_true] at q5; clear hb s4; try clear q4)
      go_wp2_with fail
      refine (HO.out r m _).mono ?_
      (rintro x1 w6 ⟨rfl, hb⟩; have s6 := s5.call hb; have q6 := s6.hold; simp only [Holds, and_true] at q6; clear hb s5; try clear q5)
      go_wp2_with fail
      refine (HH.out _ s6.sents).mono ?_
      (rintro x1 w7 ⟨rfl, hb⟩; have s7 := s6.call hb; have q7 := s7.hold; simp only [Holds, and_true] at q7; clear hb s6; try clear q6)
      go_wp2_with fail
      refine (HLv.out trivial _).mono ?_
      (rintro x1 w8 ⟨rfl, hb⟩; have s8 := s7.call hb; have q8 := s8.hold; simp only [Holds, and_true] at q8; clear hb s7; try clear q7)
      go_wp2_with fail
      go_meet
      case rel => exact ⟨by simp, s8⟩
    · have h0' : (e1 == 0) = false := by simp [h0]
      have hbf := Hne.out h0
      subst hbf
      go_wp2_with fail
      refine (HO.out r m _).mono ?_
      (rintro x1 w3 ⟨rfl, hb⟩; have s3 := s2.call hb; have q3 := s3.hold; simp only [Holds, and_true] at q3; clear hb s2; try clear q2)
      go_wp2_with fail
      refine (HV.out _ s3.sents).mono ?_
      (rintro x1 w4 ⟨rfl, hb⟩; have s4 := s3.call hb; have q4 := s4.hold; simp only [Holds, and_true] at q4; clear hb s3; try clear q3)
      go_wp2_with fail
      refine (HC1.out _ s4.sents).mono ?_
      (rintro x1 w5 ⟨rfl, hb⟩; have s5 := s4.call hb; have q5 := s5.hold; simp only [Holds, and_true] at q5; clear hb s4; try clear q4)
      go_wp2_with fail
      refine (HO.out r m _).mono ?_
      (rintro x1 w6 ⟨rfl, hb⟩; have s6 := s5.call hb; have q6 := s6.hold; simp only [Holds, and_true] at q6; clear hb s5; try clear q5)
      go_wp2_with fail
      refine (HH.out _ s6.sents).mono ?_
      (rintro x1 w7 ⟨rfl, hb⟩; have s7 := s6.call hb; have q7 := s7.hold; simp only [Holds, and_true] at q7; clear hb s6; try clear q6)
      go_wp2_with fail
      go_meet
      case rel => exact ⟨by simp, s7⟩
  case rest =>
  clear s2 q2
  obtain ⟨rfl, s2⟩ := hcut
  have q2 := s2.hold
  simp only [Holds, and_true] at q2
  go_wp2_with fail
  refine (HE.out _).mono ?_
  (rintro x1 w3 ⟨rfl, hb⟩; have s3 := s2.call hb; have q3 := s3.hold; simp only [Holds, and_true] at q3; clear hb s2; try clear q2)
  go_upto_region 8 with fail
  go_cut [9, 10] (fun s9 s10 wx => s9 = .bool is ∧ v = s10 ∧ St w wx (SZ a) ((w.heap.size + 1, 0, Value.int .i64 r') :: (w.heap.size + 1, 1, Value.int .i64 m') :: (w.heap.size, 0, Value.int .i64 r) :: (w.heap.size, 1, Value.int .i64 m) :: []))
  case first =>
    go_region_held3 (fun w' => w'.cell? ⟨w.heap.size + 1, 0, none⟩ = some (.int .i64 r') ∧ w'.cell? ⟨w.heap.size + 1, 1, none⟩ = some (.int .i64 m') ∧ w'.cell? ⟨w.heap.size, 0, none⟩ = some (.int .i64 r) ∧ w'.cell? ⟨w.heap.size, 1, none⟩ = some (.int .i64 m) ∧ St w w' (SZ a) ((w.heap.size + 1, 0, Value.int .i64 r') :: (w.heap.size + 1, 1, Value.int .i64 m') :: (w.heap.size, 0, Value.int .i64 r) :: (w.heap.size, 1, Value.int .i64 m) :: [])) (first | (exact keepSt0 ((w.heap.size + 1, 0, Value.int .i64 r') :: (w.heap.size + 1, 1, Value.int .i64 m') :: (w.heap.size, 0, Value.int .i64 r) :: (w.heap.size, 1, Value.int .i64 m) :: []) s3.drew) | (exact keepSt ((w.heap.size + 1, 0, Value.int .i64 r') :: (w.heap.size + 1, 1, Value.int .i64 m') :: (w.heap.size, 0, Value.int .i64 r) :: (w.heap.size, 1, Value.int .i64 m) :: []) (by assumption) (by assumption)))
      (first
        | (go_at_call_of 14 (Value.agg #[.int .i64 r, .int .i64 m]); refine (HO.out r m _).mono ?_; rintro e w4 ⟨rfl, hb4⟩)
        | (go_at_call_of 14 (Value.agg #[.int .i64 r', .int .i64 m']); refine (HO.out r' m' _).mono ?_; rintro e w5 ⟨rfl, hb5⟩)
        | (go_at_call 18; refine (HW.out _ (keepSt_st ((w.heap.size + 1, 0, Value.int .i64 r') :: (w.heap.size + 1, 1, Value.int .i64 m') :: (w.heap.size, 0, Value.int .i64 r) :: (w.heap.size, 1, Value.int .i64 m) :: []) (by assumption)).sents).mono ?_; rintro e w6 ⟨rfl, hb6⟩; have s6 := (keepSt_st ((w.heap.size + 1, 0, Value.int .i64 r') :: (w.heap.size + 1, 1, Value.int .i64 m') :: (w.heap.size, 0, Value.int .i64 r) :: (w.heap.size, 1, Value.int .i64 m) :: []) (by assumption)).call hb6))
    all_goals
      go_wp2_with fail
      go_meet
      case rel => exact ⟨rfl, rfl, s6⟩
  case rest =>
  clear s3 q3
  obtain ⟨rfl, rfl, s3⟩ := hcut
  have q3 := s3.hold
  simp only [Holds, and_true] at q3
  by_cases hE0 : 0 < E
  · obtain ⟨rfl, hC⟩ := HC.out hE0
    go_wp2_with fail
    refine (hC _ s3.sents).mono ?_
    (rintro x1 w4 ⟨rfl, hb⟩; have s4 := s3.call hb; have q4 := s4.hold; simp only [Holds, and_true] at q4; clear hb s3; try clear q3)
    go_wp2_with fail
    go_ret
    exact ⟨ret_bool (by simp), s4.bel⟩
  · obtain ⟨rfl, ok1, ok2, his⟩ := HG.out (by omega)
    have ob1 := okC_b ok1
    have ob2 := okC_b ok2
    have hE00 : E = 0 := by omega
    have His := hide his
    subst hE00
    clear his ok1 ok2
    go_wp2_with fail
    refine (first_any r m 5 2 rfl ob1.1 ob1.2 (by omega) _).mono ?_
    rintro x1 w7 ⟨⟨v1, rfl, own1⟩, hb7⟩
    have s7 := s3.call hb7
    obtain ⟨x2, cap2, rfl, hI2⟩ := IntsAt_of_own own1
    have hlen2 : (firstL r m 5 2).length = 5 := by simp [firstL]
    rw [hlen2]
    have hbnd := firstL_bound (k := 5) (h := 2) ob1.1 ob1.2 (by omega) (by omega)
    obtain ⟨l, hl⟩ : ∃ l, l = firstL r m 5 2 := ⟨_, rfl⟩
    rw [← hl] at hI2 hlen2 hbnd
    have His2 : Hid (is = allIn ⟨r', m'⟩ l) := by show _ = _; rw [hl]; exact His.out
    obtain ⟨bs, offs, rfl, hbs, hcs⟩ : ∃ b off, x2 = some ⟨b, off, none⟩ ∧ b < w7.heap.size ∧ ∀ i, i < l.length → w7.cell? ⟨b, off + i, none⟩ = some (.int .i64 (l.getD i 0)) := by
      rcases hI2 with h | h
      · rw [h] at hlen2; simp at hlen2
      · exact h
    have Hcs := hide hcs
    have Hbnd := hide hbnd
    have Hlen := hide hlen2
    obtain ⟨q7a, q7b⟩ : w.heap.size + 1 < w7.heap.size ∧ w.heap.size < w7.heap.size := ⟨s7.hold.1.2.1, s7.hold.2.2.1.2.1⟩
    clear own1 hI2 hcs hbnd hlen2 hl His s3 q3 hb7
    go_wp2_with fail
    go_loopg [12, 13] 5 (fun g wv iv wr => ∃ (k : Nat) (b : Bool), k + g = 5 ∧ wv = .bool b ∧ iv = .int .i64 k ∧ Hid (b = allIn ⟨r', m'⟩ (l.take k)) ∧ Below w7.heap.size w7 wr)
    case atStart => exact ⟨0, true, by omega, rfl, rfl, (by show _ = _; simp [allIn]), Below.refl _ _⟩
    case round =>
      obtain ⟨k, b, hkg, rfl, rfl, hbk, hbel⟩ := hrel
      have s8 := s7.call hbel
      have q8 := s8.hold
      simp only [Holds, and_true] at q8
      by_cases hlt : k < 5
      · have hkn : (k : Int) < 5 := by omega
        have hkl : k < l.length := by rw [Hlen.out]; exact hlt
        obtain ⟨y, hy⟩ : ∃ y, y = l.getD k 0 := ⟨_, rfl⟩
        have hcy : wr.cell? ⟨bs, offs + k, none⟩ = some (.int .i64 y) := by rw [hy, hbel.cell (p := ⟨bs, offs + k, none⟩) hbs]; exact Hcs.out k hkl
        have hyb : -2305843009213693952 ≤ y ∧ y ≤ 2305843009213693952 := Hbnd.out y (by rw [hy, show l.getD k 0 = l[k] by simp [hkl]]; exact List.getElem_mem hkl)
        obtain ⟨ib, hib⟩ : ∃ ib, ib = inCB ⟨r', m'⟩ y := ⟨_, rfl⟩
        have hnx : allIn ⟨r', m'⟩ (l.take (k + 1)) = (b && ib) := by rw [allIn_take hkl, ← hbk.out, ← hy, ← hib]
        have HLv2 : Hid (∀ W : World, Calls Tryd.prog 16 #[(.agg #[.int .i64 r', .int .i64 m']), .int .i64 y] W fun x w' => x = .returned (.bool ib) ∧ Below W.heap.size W w') := by
          intro W; rw [hib]; exact leaves_any r' m' y (by omega) ob2.1 ob2.2.1 W
        have Hnx := hide hnx
        have Hcy := hide hcy
        clear hy hib hnx hbk
        cases b
        · go_wp2_with fail
          go_region
          all_goals go_wp2_with fail
          go_roundg (5 - (k + 1))
          case measure => omega
          case rel => exact ⟨k + 1, false, by omega, by simp, by go_num, (by show _ = _; rw [Hnx.out]; rfl), hbel.drew⟩
        · have hw8 : Hid (Below w7.heap.size w7 wr) := hbel
          go_wp2_with fail
          go_region_held3 (fun w' => w'.cell? ⟨w.heap.size + 1, 0, none⟩ = some (.int .i64 r') ∧ w'.cell? ⟨w.heap.size + 1, 1, none⟩ = some (.int .i64 m') ∧ w'.cell? ⟨bs, offs + k, none⟩ = some (.int .i64 y) ∧ Below w7.heap.size w7 w') (first | (exact ⟨q8.1.1, q8.2.1.1, hcy, hbel.drew⟩) | (exact ⟨(s7.call b9).hold.1.1, (s7.call b9).hold.2.1.1, (b9.cell (p := ⟨bs, offs + k, none⟩) hbs).trans ((hw8.out.cell (p := ⟨bs, offs + k, none⟩) hbs).symm.trans Hcy.out), b9⟩))
            (first
              | (go_at_call 16; refine (HLv2.out _).mono ?_; rintro e w9 ⟨rfl, hb9⟩; have b9 : Below w7.heap.size w7 w9 := hw8.out.drew.trans (Below.mono hb9 hw8.out.size)))
          go_wp2_with fail
          go_roundg (5 - (k + 1))
          case measure => omega
          case rel => exact ⟨k + 1, ib, by omega, by simp, by go_num, (by show _ = _; rw [Hnx.out]; rfl), b9⟩
      · have hke : k = 5 := by omega
        subst hke
        have hbi : b = is := by rw [His2.out, hbk.out, List.take_of_length_le (by rw [Hlen.out]; exact Nat.le_refl _)]
        subst hbi
        clear hbk His2
        go_wp2_with fail
        go_ret
        exact ⟨ret_bool (by simp), s8.bel⟩

set_option maxHeartbeats 1000000 in
theorem cof_far (a : Nat → Addr) (hT : SixthC a) (r m r' m' n : Int) (w : World) (hS : Sents w a)
    (HF : Hid (∀ W : World, Calls Tryd.prog 10 #[.int .i64 n, .int .i64 1152921504606846976] W fun x w' => x = .returned (.bool true) ∧ w' = W)) :
    Calls Tryd.prog 3 #[(.agg #[.int .i64 r, .int .i64 m]), (.agg #[.int .i64 r', .int .i64 m']), .int .i64 n] w fun x w' => x = .returned (.bool true) ∧ Below w.heap.size w w' := by
  go_enter Tryd.func3, Tryd.ntmps3
  go_wp2_with fail
  have s0 := ((St.start hS).box2 23 (.int .i64 r) (.int .i64 m)).box2 23 (.int .i64 r') (.int .i64 m')
  simp only [World.size_alloc] at s0
  refine (hT _ s0.sents.errs).mono ?_
  (rintro x1 w1 ⟨rfl, hb⟩; have s1 := s0.call hb; have q1 := s1.hold; simp only [Holds, and_true] at q1; clear hb s0; try clear q0)
  go_wp2_with fail
  refine (HF.out _).mono ?_
  rintro x1 w11 ⟨rfl, rfl⟩
  go_wp2_with fail
  go_ret
  exact ⟨ret_bool (by simp), s1.bel⟩

theorem congrOf_by (a : Nat → Addr) (hT : SixthC a) (hV : CValidC a) (hH : CHasC a) (hW : CWithinC a) (r m r' m' n : Int) (w : World) (hS : Sents w a) (r1 : (-9223372036854775808 ≤ r ∧ r ≤ 9223372036854775807) ∧ (-9223372036854775808 ≤ m ∧ m ≤ 9223372036854775807)) (r2 : (-9223372036854775808 ≤ r' ∧ r' ≤ 9223372036854775807) ∧ (-9223372036854775808 ≤ m' ∧ m' ≤ 9223372036854775807)) (r3 : (-9223372036854775808 ≤ n ∧ n ≤ 9223372036854775807)) :
    Calls Tryd.prog 3 #[(.agg #[.int .i64 r, .int .i64 m]), (.agg #[.int .i64 r', .int .i64 m']), .int .i64 n] w fun x w' => x = .returned (.bool true) ∧ Below w.heap.size w w' := by
  have hF := fun W => far_any n 1152921504606846976 W (by omega) (by omega)
  cases hf : farB n 1152921504606846976 with
  | true => rw [hf] at hF; exact cof_far a hT r m r' m' n w hS hF
  | false =>
    rw [hf] at hF
    have hn : -1152921504606846976 ≤ n ∧ n ≤ 1152921504606846976 := by simp [farB] at hf; omega
    obtain ⟨e1, he1⟩ : ∃ e, e = cgErr r m := ⟨_, rfl⟩
    obtain ⟨E, hE⟩ : ∃ E, E = twoC ⟨r, m⟩ ⟨r', m'⟩ := ⟨_, rfl⟩
    have hr := twoC_range ⟨r, m⟩ ⟨r', m'⟩
    have hr1 := cgErr_range r m
    refine cof_walk a hT r m r' m' n w hS e1 E (errV a e1) (errV a E) (decide (e1 = 0) && inCB ⟨r, m⟩ n) false (decide (E = 0) && decide (m' ∣ m ∧ m' ∣ r - r')) (by omega) hF ?_ ?_ ?_ ?_ ?_ ?_ ?_ ?_ ?_ ?_
    · intro W; rw [he1]; exact cgErr_any r m W
    · intro W hs; rw [he1]; exact hV r m W hs.errs r1
    · intro W hs; exact coded_errV e1 (by omega) (by omega) a W hs
    · intro W hs; rw [he1]; exact hH r m n W hs.errs r1 r3
    · intro h0 W
      have ok := (okC_iff ⟨r, m⟩).1 (he1.symm.trans h0)
      have ob := okC_b ok
      have := leaves_any r m n (by omega) ob.1 ob.2.1 W
      rw [h0]; exact this
    · intro h0; simp [h0]
    · intro W; rw [hE]; exact twoC_any r m r' m' W
    · intro W hs; rw [hE]; exact hW r m r' m' W hs.errs r1 r2
    · intro h0
      exact ⟨by rw [decide_eq_false (by omega)]; rfl, fun W hs => coded_errV E (by omega) (by omega) a W hs⟩
    · intro h0
      obtain ⟨o1, o2⟩ := (twoC_ok _ _).1 (hE.symm.trans h0)
      exact ⟨by rw [h0]; rfl, o1, o2, by rw [allIn_first, h0]; rfl⟩

end Go.Proofs.YtjimjbilmlnipaaDoor
