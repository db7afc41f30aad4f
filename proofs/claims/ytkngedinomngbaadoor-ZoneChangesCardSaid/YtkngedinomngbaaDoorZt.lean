/- Zones: which are right, closed, and has it a point: the law's walk. -/
import Derived.Test.YtkngedinomngbaaDoorYv
import Derived.Test.YtkngedinomngbaaDoorYs
import Derived.Test.YtkngedinomngbaaDoorZr
import Derived.Test.YtkngedinomngbaaDoorZi
namespace Go.Proofs.YtkngedinomngbaaDoor
open Go.RowKit
set_option linter.unusedVariables false

theorem coded_er (e : Int) (h1 : 0 ≤ e) (h2 : e ≤ 8) (a : Nat → Addr) (w : World) (hS : Sents w a) :
    Calls Tryd.prog 18 #[erV a e, .int .i64 e] w fun x w' => x = .returned (.bool true) ∧ Below w.heap.size w w' := by
  by_cases h : e = 0
  · subst h
    rw [erV_0]
    refine (coded_nil 0 w).mono ?_
    rintro x w' ⟨rfl, hb⟩
    exact ⟨by simp, hb⟩
  · rw [erV_ne h]
    refine (coded_sent (e.toNat - 1) (by omega) e a (a (e.toNat - 1)) rfl w hS).mono ?_
    rintro x w' ⟨rfl, hb⟩
    refine ⟨?_, hb⟩
    have : ((e.toNat - 1 : Nat) : Int) + 1 = e := by omega
    rw [decide_eq_true this]
/-- All errors, a slice of cells, numbers. -/
def SCI (a : Nat → Addr) (x : Option Addr) (l : List Ce) (y : Option Addr) (p : List Int) (W : World) : Prop := Sents W a ∧ CsAt W x l ∧ IntsAt W y p
theorem St.startSCI {w : World} {a : Nat → Addr} {x y : Option Addr} {l : List Ce} {p : List Int} (h : Sents w a) (k : CsAt w x l) (k' : IntsAt w y p) : St w w (SCI a x l y p) [] :=
  ⟨Below.refl _ _, trivial, ⟨h, k, k'⟩, fun _ _ q hb => ⟨h.stays q.1 hb, k.stays q.2.1 hb, k'.stays q.2.2 hb⟩⟩

theorem near_size' {l : List Ce} {B : Int} (h : nearL l B = true) : ∀ i, i < l.length → (l.getD i ceZ).m.natAbs ≤ B.natAbs := by
  intro i hi
  have e : l.getD i ceZ = l[i] := by simp [hi]
  rw [e]
  unfold nearL at h
  simp only [Bool.not_eq_true', List.any_eq_false] at h
  have := h l[i] (List.getElem_mem hi)
  simp [farC, farB] at this
  omega
theorem zErr_rng (N : Int) (l : List Ce) : 0 ≤ zErr N l ∧ zErr N l ≤ 8 := zoErr_range N l
theorem ptErr_rng (N : Int) (p : List Int) : 0 ≤ ptErr N p ∧ ptErr N p ≤ 8 := by unfold ptErr; split; omega; split <;> omega

set_option maxRecDepth 20000 in
set_option maxHeartbeats 8000000 in
theorem zoneClose_by (N : Int) (x : Option Addr) (c0 len : Nat) (l : List Ce) (y : Option Addr) (c1 k : Nat) (p : List Int) (a : Nat → Addr) (w : World) (hS : Sents w a) (hA : CsAt w x l) (hI : IntsAt w y p) (hl : Hid (len = l.length)) (hlen : len ≤ 9223372036854775807) (hk : Hid (k = p.length)) (hkl : k ≤ 9223372036854775807) (hN64 : -9223372036854775808 ≤ N ∧ N ≤ 9223372036854775807) :
    Calls Tryd.prog 3 #[(.agg #[.int .i64 N, (.slice x len c0)]), .slice y k c1] w fun e w' => e = .returned (.bool true) ∧ Below w.heap.size w w' := by
  have s0 := (St.startSCI hS hA hI).box2 24 (.int .i64 N) (.slice x len c0)
  go_enter Tryd.func3, Tryd.ntmps3
  go_wp2_with fail
  refine (free_any a _ s0.sent.1.errs).mono ?_
  rintro e w1 ⟨rfl, hb1⟩
  (have s1 := s0.call hb1; have q1 := s1.hold; simp only [Holds, and_true] at q1; clear s0 hb1; try clear q0)
  clear hS hA hI
  by_cases h100 : len ≤ 100
  rotate_left
  · have h100' : (100 : Int) < (len : Int) := by omega
    go_wp2_with fail
    go_ret
    exact ⟨rfl, s1.bel⟩
  have h100' : ¬ (100 : Int) < (len : Int) := by omega
  by_cases k100 : k ≤ 100
  rotate_left
  · have k100' : (100 : Int) < (k : Int) := by omega
    go_wp2_with fail
    go_ret
    exact ⟨rfl, s1.bel⟩
  have k100' : ¬ (100 : Int) < (k : Int) := by omega
  have HE : Hid (∀ W : World, CsAt W x l → Calls Tryd.prog 13 #[(.agg #[.int .i64 N, (.slice x len c0)])] W fun e w' => e = .returned (.int .i64 (zErr N l)) ∧ Below W.heap.size W w') := fun W h => zoneError_any N x c0 len l W hN64 h hl (by omega)
  have HZ : Hid (∀ W : World, CsAt W x l → Calls Tryd.prog 15 #[(.agg #[.int .i64 N, (.slice x len c0)])] W fun e w' => ∃ y cap, e = .returned (.agg #[.int .i64 N, (.slice y len cap)]) ∧ CsAt w' y l ∧ Below W.heap.size W w') := fun W h => zoneOf_any N x c0 len l W h hl (by omega)
  have HI : Hid (∀ W : World, IntsAt W y p → Calls Tryd.prog 17 #[.slice y k c1] W fun e w' => ∃ y' cap, e = .returned (.slice y' k cap) ∧ IntsAt w' y' p ∧ Below W.heap.size W w') := fun W h => intsCopy_as y k c1 p W h hk (by omega)
  obtain ⟨E, hE⟩ : ∃ E, E = zErr N l := ⟨_, rfl⟩
  have hEr := zErr_rng N l
  obtain ⟨F, hF⟩ : ∃ F, F = hasErr N l p := ⟨_, rfl⟩
  have hFr : 0 ≤ F ∧ F ≤ 8 := by
    rw [hF]; unfold hasErr
    have h2 := ptErr_rng N p
    simp only [firstE]
    split
    · exact hEr
    · split
      · exact h2
      · omega
  obtain ⟨hv, hhv⟩ : ∃ b, b = (decide (F = 0) && inB (nOf N) (ptD p) (encM (matOf (nOf N) l))) := ⟨_, rfl⟩
  have HV : Hid (∀ (W : World) (z : Option Addr) (cz : Nat), ErrS W a → CsAt W z l → Calls Tryd.prog 19 #[(.agg #[.int .i64 N, (.slice z len cz)])] W fun e w' => e = .returned (erV a E) ∧ Below W.heap.size W w') := fun W z cz h1 h2 => by rw [hE]; exact valid_any N z cz len l a W h1 h2 hl (by omega)
  have HH : Hid (∀ (W : World) (z y' : Option Addr) (cz cy : Nat), ErrS W a → CsAt W z l → IntsAt W y' p → Calls Tryd.prog 16 #[(.agg #[.int .i64 N, (.slice z len cz)]), .slice y' k cy] W fun e w' => e = .returned (.tuple #[.bool hv, erV a F]) ∧ Below W.heap.size W w') := by
    intro W z y' cz cy h1 h2 h3
    refine (has_any N z len cz l y' k cy p a W h1 h2 h3 hl (by omega) hk (by omega)).mono ?_
    rintro e w' ⟨hb, h | h⟩
    · rw [← hF] at h
      exact ⟨by rw [h.2, hhv, decide_eq_false h.1]; rfl, hb⟩
    · rw [← hF] at h
      exact ⟨by rw [h.2, hhv, decide_eq_true h.1, h.1]; rfl, hb⟩
  have HD : Hid (∀ (W : World), Sents W a → Calls Tryd.prog 18 #[erV a E, .int .i64 E] W fun e w' => e = .returned (.bool true) ∧ Below W.heap.size W w') := fun W h => coded_er E (by rw [hE]; exact hEr.1) (by rw [hE]; exact hEr.2) a W h
  have HDF : Hid (∀ (W : World), Sents W a → Calls Tryd.prog 18 #[erV a F, .int .i64 F] W fun e w' => e = .returned (.bool true) ∧ Below W.heap.size W w') := fun W h => coded_er F hFr.1 hFr.2 a W h
  rw [← hE] at HE hEr
  have HEq := hide hE
  have HFq := hide hF
  have Hhv := hide hhv
  clear hE hF hhv
  go_wp2_with fail
  refine (HE.out _ s1.sent.2.1).mono ?_
  rintro e w2 ⟨rfl, hb2⟩
  (have s2 := s1.call hb2; have q2 := s2.hold; simp only [Holds, and_true] at q2; clear s1 hb2; try clear q1)
  go_wp2_with fail
  refine (HZ.out _ s2.sent.2.1).mono ?_
  rintro e w3 ⟨y3, d3, rfl, hy3, hb3⟩
  (have s3 := s2.call hb3; have q3 := s3.hold; simp only [Holds, and_true] at q3; clear s2 hb3; try clear q2)
  go_wp2_with fail
  refine (close_any N y3 d3 len l a _ s3.sent.1.errs hy3 hl (by omega)).mono ?_
  rintro e w4 ⟨hb4, h4⟩
  (have s4 := s3.call hb4; have q4 := s4.hold; simp only [Holds, and_true] at q4; clear s3 hb4; try clear q3)
  rw [← HEq.out] at h4
  obtain ⟨N4, x4, k4, c4, is, L4, rfl, hx4, hk4, h4'⟩ : ∃ (N4 : Int) (x4 : Option Addr) (k4 c4 : Nat) (is : Bool) (L4 : List Ce), e = .returned (.tuple #[(.agg #[.int .i64 N4, (.slice x4 k4 c4)]), .bool is, erV a E]) ∧ CsAt w4 x4 L4 ∧ k4 = L4.length ∧ ((E ≠ 0 ∧ is = false ∧ N4 = 0 ∧ L4 = []) ∨ (E = 0 ∧ is = false ∧ N4 = 0 ∧ L4 = [] ∧ ¬ NoNeg (nOf N) (fw (matOf (nOf N) l) (nOf N))) ∨ (E = 0 ∧ is = true ∧ N4 = N ∧ NoNeg (nOf N) (fw (matOf (nOf N) l) (nOf N)) ∧ L4 = tellL (nOf N) (fw (matOf (nOf N) l) (nOf N)))) := by
    rcases h4 with ⟨h, rfl⟩ | ⟨h, h', rfl⟩ | ⟨h, h', g, cp, rfl, _, hR⟩
    · exact ⟨0, none, 0, 0, false, [], rfl, .inl rfl, rfl, .inl ⟨h, rfl, rfl, rfl⟩⟩
    · exact ⟨0, none, 0, 0, false, [], by rw [h, erV_0], .inl rfl, rfl, .inr (.inl ⟨h, rfl, rfl, rfl, h'⟩)⟩
    · have hz := zErr_0 (HEq.out.symm.trans h)
      exact ⟨N, some ⟨g, 0, none⟩, len, cp, true, _, by rw [h, erV_0], .inr ⟨g, 0, rfl, hR⟩, by rw [tellL_len, hl.out]; exact hz.2.2.2.1, .inr (.inr ⟨h, rfl, rfl, h', rfl⟩)⟩
  have H4 := hide h4'
  have Hk4 := hide hk4
  clear h4 h4' hy3 hk4
  have s5 := s4.box2 30 (.int .i64 N4) (.slice x4 k4 c4)
  have hx5 := hx4.below ((Below.refl _ _).alloc (Nat.le_refl _) (.cells #[.int .i64 N4, .slice x4 k4 c4] 30))
  have q5 := s5.hold
  simp only [Holds, and_true] at q5
  have hbW := s5.bel
  have s6 := s5.re.both (Y := fun W => CsAt W x4 L4) hx5 (fun _ _ q hb => CsAt.stays hx5 q hb)
  clear s5 hx4 hx5
  go_wp2_with fail
  refine (HZ.out _ s6.sent.1.2.1).mono ?_
  rintro e w7 ⟨y7, d7, rfl, hy7, hb7⟩
  (have s7 := s6.call hb7; have q7 := s7.hold; simp only [Holds, and_true] at q7; clear s6 hb7; try clear q6)
  go_wp2_with fail
  refine (HI.out _ s7.sent.1.2.2).mono ?_
  rintro e w8 ⟨y8, d8, rfl, hy8, hb8⟩
  have hy78 := hy7.below hb8
  (have s8 := s7.call hb8; have q8 := s8.hold; simp only [Holds, and_true] at q8; clear s7 hb8; try clear q7)
  go_wp2_with fail
  refine (HH.out _ y7 y8 d7 d8 s8.sent.1.1.errs hy78 hy8).mono ?_
  rintro e w9 ⟨rfl, hb9⟩
  (have s9 := s8.call hb9; have q9 := s9.hold; simp only [Holds, and_true] at q9; clear s8 hb9; try clear q8)
  clear hy7 hy8 hy78
  go_wp2_with fail
  refine (HZ.out _ s9.sent.1.2.1).mono ?_
  rintro e w10 ⟨y10, d10, rfl, hy10, hb10⟩
  (have s10 := s9.call hb10; have q10 := s10.hold; simp only [Holds, and_true] at q10; clear s9 hb10; try clear q9)
  go_wp2_with fail
  refine (HV.out _ y10 d10 s10.sent.1.1.errs hy10).mono ?_
  rintro e w11 ⟨rfl, hb11⟩
  (have s11 := s10.call hb11; have q11 := s11.hold; simp only [Holds, and_true] at q11; clear s10 hb11; try clear q10)
  go_wp2_with fail
  refine (HD.out _ s11.sent.1.1).mono ?_
  rintro e w12 ⟨rfl, hb12⟩
  (have s12 := s11.call hb12; have q12 := s12.hold; simp only [Holds, and_true] at q12; clear s11 hb12; try clear q11)
  clear hy10 HE HZ HI HV HH
  have hfin : ∀ W : World, Below (w4.alloc (.cells #[.int .i64 N4, .slice x4 k4 c4] 30)).heap.size (w4.alloc (.cells #[.int .i64 N4, .slice x4 k4 c4] 30)) W → Below w.heap.size w W := fun W h => hbW.trans (h.mono hbW.size)
  have Hfin := hide hfin
  clear hfin hbW
  by_cases hE0 : E = 0
  rotate_left
  · have hFE : F = E := by rw [HFq.out]; unfold hasErr; rw [← HEq.out]; simp [firstE, hE0]
    have hvf : hv = false := by rw [Hhv.out, decide_eq_false (by rw [hFE]; exact hE0)]; rfl
    have hE0b : (E == 0) = false := by simp [hE0]
    have hEp : 0 < E := by omega
    obtain ⟨rfl, rfl, rfl⟩ : is = false ∧ N4 = 0 ∧ L4 = [] := by
      rcases H4.out with h | h | h
      · exact ⟨h.2.1, h.2.2.1, h.2.2.2⟩
      · exact absurd h.1 hE0
      · exact absurd h.1 hE0
    have hk40 : k4 = 0 := Hk4.out
    subst hvf hk40
    rw [hFE] at HDF
    have erE : erV a F = erV a E := by rw [hFE]
    have HN0 : Hid (∀ W : World, Calls Tryd.prog 22 #[(.agg #[.int .i64 0, (.slice x4 0 c4)])] W fun e w' => e = .returned (.bool true) ∧ Below W.heap.size W w') := fun W => (noZone_any 0 x4 0 c4 W).mono fun _ _ h => ⟨by rw [h.1]; rfl, h.2⟩
    rw [hFE]
    have HE0 := hide hE0
    clear HEq HFq Hhv H4 hFE erE hE0
    go_wp2_with fail
    refine wp_loop_rounds 1 ?_
    rw [rounds_succ]
    by_cases hk0 : k = 0
    all_goals
      have hk0' : ((0 : Int) < (k : Int)) ∨ ¬ ((0 : Int) < (k : Int)) := Classical.em _
    · have hk1 : ¬ (0 : Int) < (k : Int) := by omega
      clear hk0'
      go_wp2_with fail
      refine (HDF.out _ s12.sent.1.1).mono ?_
      rintro e w13 ⟨rfl, hb13⟩
      have s13 := s12.call hb13
      have q13 := s13.hold
      simp only [Holds, and_true] at q13
      go_wp2_with fail
      refine (HD.out _ s13.sent.1.1).mono ?_
      rintro e w14 ⟨rfl, hb14⟩
      have s14 := s13.call hb14
      have q14 := s14.hold
      simp only [Holds, and_true] at q14
      go_wp2_with fail
      refine (HN0.out _).mono ?_
      rintro e w15 ⟨rfl, hb15⟩
      have s15 := s14.call hb15
      go_wp2_with fail
      go_ret
      exact ⟨rfl, Hfin.out _ s15.bel⟩
    · have hk1 : (0 : Int) < (k : Int) := by omega
      clear hk0'
      go_wp2_with fail
      refine (HDF.out _ s12.sent.1.1).mono ?_
      rintro e w13 ⟨rfl, hb13⟩
      have s13 := s12.call hb13
      have q13 := s13.hold
      simp only [Holds, and_true] at q13
      go_wp2_with fail
      refine (HD.out _ s13.sent.1.1).mono ?_
      rintro e w14 ⟨rfl, hb14⟩
      have s14 := s13.call hb14
      have q14 := s14.hold
      simp only [Holds, and_true] at q14
      go_wp2_with fail
      refine (HN0.out _).mono ?_
      rintro e w15 ⟨rfl, hb15⟩
      have s15 := s14.call hb15
      go_wp2_with fail
      go_ret
      exact ⟨rfl, Hfin.out _ s15.bel⟩
  · subst hE0
    have hhv := Hhv.out
    obtain ⟨z1, z2, z3, z4, z5, z6⟩ := zErr_0 HEq.out.symm
    obtain ⟨n, hn⟩ : ∃ n, n = nOf N := ⟨_, rfl⟩
    rw [← hn] at z1 z2 z3 z4 H4 hhv
    have hFp : F = ptErr N p := by rw [HFq.out]; unfold hasErr; rw [← HEq.out]; simp [firstE]; intro h; exact h.symm
    have hll : Hid (len = n * n) := by show _ = _; rw [hl.out]; exact z4
    have hpos : 1 ≤ l.length := by rw [z4]; exact Nat.mul_le_mul z2 z2
    have HNr : Hid (∀ W : World, CsAt W x l → Calls Tryd.prog 23 #[.slice x len c0] W fun e w' => e = .returned (.bool (nearL l 1048576)) ∧ w' = W) := fun W h => by
      have := near_law x c0 len l W h hl hlen
      rw [decide_eq_true h100, Bool.true_and] at this
      exact this
    have HCl : Hid (nearL l 1048576 = true → ∀ W : World, CsAt W x l → Calls Tryd.prog 24 #[(.agg #[.int .i64 N, (.slice x len c0)])] W fun e w' => ∃ (N5 : Int) (x5 : Option Addr) (k5 c5 : Nat), e = .returned (.tuple #[(.agg #[.int .i64 N5, (.slice x5 k5 c5)]), .bool is]) ∧ N4 = N5 ∧ k5 = L4.length ∧ CsAt w' x5 L4 ∧ Below W.heap.size W w') := by
      intro hnr W h
      obtain ⟨b, off, rfl, hR⟩ := h.row hpos
      refine (closedZone_any N n b off c0 len l W z1 ⟨z2, z3⟩ hR hl hll).mono ?_
      obtain ⟨r1, r2⟩ := closed_row z3 z4 z5 (by simpa using near_size' hnr)
      have hsz : Sz n 1048576 (matOf n l) := sz_mat z4 (by simpa using near_size' hnr)
      rintro e w' ⟨hb, ⟨hneg, rfl⟩ | ⟨hpos', g, cap, rfl, _, _, hR'⟩⟩
      · have hno : ¬ NoNeg n (fw (matOf n l) n) := fun h => r1.1 hneg (fw_some.2 h)
        rcases H4.out with h4 | h4 | h4
        · exact absurd rfl h4.1
        · obtain ⟨_, rfl, rfl, rfl, _⟩ := h4
          exact ⟨0, none, 0, 0, rfl, rfl, rfl, .inl rfl, hb⟩
        · exact absurd h4.2.2.2.1 hno
      · have hyes : NoNeg n (fw (matOf n l) n) := by
          apply Classical.byContradiction
          intro h
          obtain ⟨i, hi, hlt⟩ := r1.2 (fun hx => h (fw_some.1 hx))
          have := hpos' i hi
          omega
        rcases H4.out with h4 | h4 | h4
        · exact absurd rfl h4.1
        · exact absurd hyes h4.2.2.2.2
        · obtain ⟨_, rfl, rfl, _, rfl⟩ := h4
          rw [r2 (fw_some.2 hyes), ← tellL_near ((hsz.fw5 z3 (Nat.le_refl n)).mono (by omega))] at hR'
          exact ⟨N4, some ⟨g, 0, none⟩, len, cap, rfl, rfl, by rw [tellL_len]; exact hll.out, .inr ⟨g, 0, rfl, hR'⟩, hb⟩
    have HIz : Hid (∀ (W : World) (x5 : Option Addr) (c5 k5 : Nat), k5 = L4.length → CsAt W x4 L4 → CsAt W x5 L4 → Calls Tryd.prog 25 #[(.agg #[.int .i64 N4, (.slice x4 k4 c4)]), (.agg #[.int .i64 N4, (.slice x5 k5 c5)])] W fun e w' => e = .returned (.bool true) ∧ Below W.heap.size W w') := by
      intro W x5 c5 k5 hk5 h1 h2
      have hL4 : L4.length ≤ 1000 := by
        rcases H4.out with h4 | h4 | h4
        · exact absurd rfl h4.1
        · rw [h4.2.2.2.1]; simp
        · rw [h4.2.2.2.2, tellL_len, ← hll.out]; omega
      refine (isZone_any N4 N4 x4 x5 k4 c4 k5 c5 L4 L4 W h1 h2 Hk4 hk5 (by have := Hk4.out; omega)).mono ?_
      rintro e w' ⟨rfl, hb⟩
      exact ⟨by simp, hb⟩
    have HHz : Hid (∀ W : World, F = 0 → CsAt W x l → IntsAt W y p → Calls Tryd.prog 21 #[(.agg #[.int .i64 N, (.slice x len c0)]), .slice y k c1] W fun e w' => e = .returned (.bool hv) ∧ Below W.heap.size W w') := by
      intro W hF0 h1 h2
      obtain ⟨b, off, rfl, hR⟩ := h1.row hpos
      obtain ⟨p1, p2⟩ := ptErr_0 (hFp.symm.trans hF0)
      have hkk := hk.out
      have hb0 : hv = inB n (ptD p) (encM (matOf n l)) := by rw [hhv, decide_eq_true hF0]; rfl
      rw [hb0]
      exact hasZone_any N n b off c0 len l y k c1 p W hR h2 hl hll hk (by omega) ⟨z2, z3⟩ z1 p2
    have HhvF : Hid (F ≠ 0 → hv = false) := fun h => by rw [hhv, decide_eq_false h]; rfl
    obtain ⟨nr, hnr⟩ : ∃ b, b = nearL l 1048576 := ⟨_, rfl⟩
    rw [← hnr] at HNr HCl
    rw [erV_0]
    have HFp := hide hFp
    clear HEq HFq Hhv hhv hFp H4 hnr hn z1 z2 z3 z4 z5 z6 hpos hll HD
    by_cases hkN : (k : Int) = N
    · subst hkN
      go_wp2_with fail
      go_loopg [12, 13] k (fun gh fv iv wr => ∃ (f : Int) (i : Nat), i + gh = k ∧ fv = .int .i64 f ∧ iv = .int .i64 i ∧ w12 = wr ∧ Hid ((f = 0 ∧ (p.take i).any farP = false) ∨ (f = 2 ∧ F = 2)))
      case atStart => exact ⟨0, 0, by omega, rfl, rfl, rfl, .inl ⟨rfl, rfl⟩⟩
      case round =>
        obtain ⟨f, i, hig, rfl, rfl, rfl, HL⟩ := hrel
        by_cases hik : i < k
        · have hik' : (i : Int) < (k : Int) := by omega
          by_cases hf0 : f = 0
          · subst hf0
            have hil : i < p.length := by rw [← hk.out]; exact hik
            have HL2 : Hid ((p.take i).any farP = false) := by
              rcases HL.out with h | h
              · exact h.2
              · exact absurd h.1 (by omega)
            obtain ⟨v, hv'⟩ : ∃ v, v = p.getD i 0 := ⟨_, rfl⟩
            have hII : IntsAt w12 y p := s12.sent.1.2.2
            obtain ⟨bp, op, hy, hcv⟩ := hII.get i hil v hv'
            obtain ⟨fb, hfb⟩ : ∃ b, b = farB v 1099511627776 := ⟨_, rfl⟩
            have HFr : Hid (∀ W : World, Calls Tryd.prog 20 #[.int .i64 v, .int .i64 1099511627776] W fun e w' => e = .returned (.bool fb) ∧ w' = W) := fun W => by rw [hfb]; exact far_any v _ W (by omega) (by omega)
            have Hv := hide hv'
            have Hfb := hide hfb
            clear hv' hfb hII
            subst hy
            go_wp2_with fail
            refine (HFr.out _).mono ?_
            rintro e w13 ⟨rfl, hw13⟩
            rw [hw13]
            cases fb
            · go_wp2_with fail
              go_roundg (k - (i + 1))
              case measure => omega
              case rel => exact ⟨0, i + 1, by omega, rfl, by go_num, rfl, .inl ⟨rfl, by rw [anyI_snoc hil, HL2.out, ← Hv.out]; unfold farP; rw [← Hfb.out]; rfl⟩⟩
            · go_wp2_with fail
              go_roundg (k - (i + 1))
              case measure => omega
              case rel =>
                refine ⟨2, i + 1, by omega, rfl, by go_num, rfl, .inr ⟨rfl, ?_⟩⟩
                rw [HFp.out]; unfold ptErr
                rw [if_neg (fun h => h (by rw [← hk.out])), if_pos (anyI_yes hil (by rw [← Hv.out]; unfold farP; rw [← Hfb.out]))]
          · obtain ⟨rfl, hF2⟩ : f = 2 ∧ F = 2 := by
              rcases HL.out with h | h
              · exact absurd h.1 hf0
              · exact h
            have hvf : hv = false := HhvF.out (by omega)
            subst hF2 hvf
            clear HHz HhvF HFp hf0 HL hFr
            go_wp2_with fail
            refine (HDF.out _ s12.sent.1.1).mono ?_
            rintro e w14 ⟨rfl, hb14⟩
            have s14 := s12.call hb14
            have q14 := s14.hold
            simp only [Holds, and_true] at q14
            go_wp2_with fail
            refine (HNr.out _ s14.sent.1.2.1).mono ?_
            rintro e w15 ⟨rfl, hw15⟩
            rw [hw15]
            clear hw15 w15 HDF HNr
            cases nr
            · go_wp2_with fail
              go_ret
              exact ⟨rfl, Hfin.out _ s14.bel⟩
            go_wp2_with fail
            refine (HCl.out (by first | rfl | trivial) _ s14.sent.1.2.1).mono ?_
            rintro e w16 ⟨N5, x5, k5, c5, rfl, hN5, hk5, hx5, hb16⟩
            subst hN5
            have s16 := (s14.call hb16).box2 24 (.int .i64 N4) (.slice x5 k5 c5)
            have hx6 := hx5.below ((Below.refl _ _).alloc (Nat.le_refl _) (.cells #[.int .i64 N4, .slice x5 k5 c5] 24))
            have q16 := (s14.call hb16).hold
            simp only [Holds, and_true] at q16
            clear q14
            have HIz2 : Hid (∀ W : World, CsAt W x4 L4 → CsAt W x5 L4 → Calls Tryd.prog 25 #[(.agg #[.int .i64 N4, (.slice x4 k4 c4)]), (.agg #[.int .i64 N4, (.slice x5 k5 c5)])] W fun e w' => e = .returned (.bool true) ∧ Below W.heap.size W w') := fun W h1 h2 => HIz.out W x5 c5 k5 hk5 h1 h2
            have Hk5 := hide hk5
            clear hk5 HIz
            cases is
            all_goals
              go_wp2_with fail
              refine (HIz2.out _ s16.sent.2 hx6).mono ?_
              rintro e w17 ⟨rfl, hb17⟩
              have s17 := s16.call hb17
              go_wp2_with fail
              go_ret
              exact ⟨rfl, Hfin.out _ s17.bel⟩
        · have hik' : ¬ (i : Int) < (k : Int) := by omega
          have hfF : f = F := by
            rcases HL.out with h | h
            · rw [h.1, HFp.out]; unfold ptErr
              have h2 := h.2
              rw [List.take_of_length_le (by rw [← hk.out]; omega)] at h2
              rw [if_neg (fun h => h (by rw [← hk.out])), h2]; simp
            · omega
          subst hfF
          clear HL HFp
          by_cases hf0 : f = 0
          · subst hf0
            go_wp2_with fail
            refine (HHz.out _ (by first | rfl | trivial) s12.sent.1.2.1 s12.sent.1.2.2).mono ?_
            rintro e w13 ⟨rfl, hb13⟩
            (have s13 := s12.call hb13; have q13 := s13.hold; simp only [Holds, and_true] at q13; clear s12 hb13; try clear q12)
            clear HHz HhvF
            cases hv
            all_goals
              go_wp2_with fail
              refine (HDF.out _ s13.sent.1.1).mono ?_
              rintro e w14 ⟨rfl, hb14⟩
              have s14 := s13.call hb14
              have q14 := s14.hold
              simp only [Holds, and_true] at q14
              go_wp2_with fail
              refine (HNr.out _ s14.sent.1.2.1).mono ?_
              rintro e w15 ⟨rfl, hw15⟩
              rw [hw15]
              clear hw15 w15 HDF HNr
              cases nr
              · go_wp2_with fail
                go_ret
                exact ⟨rfl, Hfin.out _ s14.bel⟩
              go_wp2_with fail
              refine (HCl.out (by first | rfl | trivial) _ s14.sent.1.2.1).mono ?_
              rintro e w16 ⟨N5, x5, k5, c5, rfl, hN5, hk5, hx5, hb16⟩
              subst hN5
              have s16 := (s14.call hb16).box2 24 (.int .i64 N4) (.slice x5 k5 c5)
              have hx6 := hx5.below ((Below.refl _ _).alloc (Nat.le_refl _) (.cells #[.int .i64 N4, .slice x5 k5 c5] 24))
              have q16 := (s14.call hb16).hold
              simp only [Holds, and_true] at q16
              clear q14
              have HIz2 : Hid (∀ W : World, CsAt W x4 L4 → CsAt W x5 L4 → Calls Tryd.prog 25 #[(.agg #[.int .i64 N4, (.slice x4 k4 c4)]), (.agg #[.int .i64 N4, (.slice x5 k5 c5)])] W fun e w' => e = .returned (.bool true) ∧ Below W.heap.size W w') := fun W h1 h2 => HIz.out W x5 c5 k5 hk5 h1 h2
              have Hk5 := hide hk5
              clear hk5 HIz
              cases is
              all_goals
                go_wp2_with fail
                refine (HIz2.out _ s16.sent.2 hx6).mono ?_
                rintro e w17 ⟨rfl, hb17⟩
                have s17 := s16.call hb17
                go_wp2_with fail
                go_ret
                exact ⟨rfl, Hfin.out _ s17.bel⟩
          · have hvf : hv = false := HhvF.out hf0
            subst hvf
            have hf0b : (f == 0) = false := by simp [hf0]
            clear HHz HhvF
            go_wp2_with fail
            refine (HDF.out _ s12.sent.1.1).mono ?_
            rintro e w14 ⟨rfl, hb14⟩
            have s14 := s12.call hb14
            have q14 := s14.hold
            simp only [Holds, and_true] at q14
            go_wp2_with fail
            refine (HNr.out _ s14.sent.1.2.1).mono ?_
            rintro e w15 ⟨rfl, hw15⟩
            rw [hw15]
            clear hw15 w15 HDF HNr
            cases nr
            · go_wp2_with fail
              go_ret
              exact ⟨rfl, Hfin.out _ s14.bel⟩
            go_wp2_with fail
            refine (HCl.out (by first | rfl | trivial) _ s14.sent.1.2.1).mono ?_
            rintro e w16 ⟨N5, x5, k5, c5, rfl, hN5, hk5, hx5, hb16⟩
            subst hN5
            have s16 := (s14.call hb16).box2 24 (.int .i64 N4) (.slice x5 k5 c5)
            have hx6 := hx5.below ((Below.refl _ _).alloc (Nat.le_refl _) (.cells #[.int .i64 N4, .slice x5 k5 c5] 24))
            have q16 := (s14.call hb16).hold
            simp only [Holds, and_true] at q16
            clear q14
            have HIz2 : Hid (∀ W : World, CsAt W x4 L4 → CsAt W x5 L4 → Calls Tryd.prog 25 #[(.agg #[.int .i64 N4, (.slice x4 k4 c4)]), (.agg #[.int .i64 N4, (.slice x5 k5 c5)])] W fun e w' => e = .returned (.bool true) ∧ Below W.heap.size W w') := fun W h1 h2 => HIz.out W x5 c5 k5 hk5 h1 h2
            have Hk5 := hide hk5
            clear hk5 HIz
            cases is
            all_goals
              go_wp2_with fail
              refine (HIz2.out _ s16.sent.2 hx6).mono ?_
              rintro e w17 ⟨rfl, hb17⟩
              have s17 := s16.call hb17
              go_wp2_with fail
              go_ret
              exact ⟨rfl, Hfin.out _ s17.bel⟩
    · have hF3 : F = 3 := by rw [HFp.out]; unfold ptErr; rw [if_pos (by rw [← hk.out]; exact hkN)]
      have hvf : hv = false := HhvF.out (by omega)
      subst hF3 hvf
      have hkNb : ((k : Int) != N) = true := by simp [hkN]
      clear HHz HhvF HFp hFr
      go_wp2_with fail
      refine wp_loop_rounds 1 ?_
      rw [rounds_succ]
      by_cases hk0 : (0 : Int) < (k : Int)
      · go_wp2_with fail
        refine (HDF.out _ s12.sent.1.1).mono ?_
        rintro e w14 ⟨rfl, hb14⟩
        have s14 := s12.call hb14
        have q14 := s14.hold
        simp only [Holds, and_true] at q14
        go_wp2_with fail
        refine (HNr.out _ s14.sent.1.2.1).mono ?_
        rintro e w15 ⟨rfl, hw15⟩
        rw [hw15]
        clear hw15 w15 HDF HNr
        cases nr
        · go_wp2_with fail
          go_ret
          exact ⟨rfl, Hfin.out _ s14.bel⟩
        go_wp2_with fail
        refine (HCl.out (by first | rfl | trivial) _ s14.sent.1.2.1).mono ?_
        rintro e w16 ⟨N5, x5, k5, c5, rfl, hN5, hk5, hx5, hb16⟩
        subst hN5
        have s16 := (s14.call hb16).box2 24 (.int .i64 N4) (.slice x5 k5 c5)
        have hx6 := hx5.below ((Below.refl _ _).alloc (Nat.le_refl _) (.cells #[.int .i64 N4, .slice x5 k5 c5] 24))
        have q16 := (s14.call hb16).hold
        simp only [Holds, and_true] at q16
        clear q14
        have HIz2 : Hid (∀ W : World, CsAt W x4 L4 → CsAt W x5 L4 → Calls Tryd.prog 25 #[(.agg #[.int .i64 N4, (.slice x4 k4 c4)]), (.agg #[.int .i64 N4, (.slice x5 k5 c5)])] W fun e w' => e = .returned (.bool true) ∧ Below W.heap.size W w') := fun W h1 h2 => HIz.out W x5 c5 k5 hk5 h1 h2
        have Hk5 := hide hk5
        clear hk5 HIz
        cases is
        all_goals
          go_wp2_with fail
          refine (HIz2.out _ s16.sent.2 hx6).mono ?_
          rintro e w17 ⟨rfl, hb17⟩
          have s17 := s16.call hb17
          go_wp2_with fail
          go_ret
          exact ⟨rfl, Hfin.out _ s17.bel⟩
      · go_wp2_with fail
        refine (HDF.out _ s12.sent.1.1).mono ?_
        rintro e w14 ⟨rfl, hb14⟩
        have s14 := s12.call hb14
        have q14 := s14.hold
        simp only [Holds, and_true] at q14
        go_wp2_with fail
        refine (HNr.out _ s14.sent.1.2.1).mono ?_
        rintro e w15 ⟨rfl, hw15⟩
        rw [hw15]
        clear hw15 w15 HDF HNr
        cases nr
        · go_wp2_with fail
          go_ret
          exact ⟨rfl, Hfin.out _ s14.bel⟩
        go_wp2_with fail
        refine (HCl.out (by first | rfl | trivial) _ s14.sent.1.2.1).mono ?_
        rintro e w16 ⟨N5, x5, k5, c5, rfl, hN5, hk5, hx5, hb16⟩
        subst hN5
        have s16 := (s14.call hb16).box2 24 (.int .i64 N4) (.slice x5 k5 c5)
        have hx6 := hx5.below ((Below.refl _ _).alloc (Nat.le_refl _) (.cells #[.int .i64 N4, .slice x5 k5 c5] 24))
        have q16 := (s14.call hb16).hold
        simp only [Holds, and_true] at q16
        clear q14
        have HIz2 : Hid (∀ W : World, CsAt W x4 L4 → CsAt W x5 L4 → Calls Tryd.prog 25 #[(.agg #[.int .i64 N4, (.slice x4 k4 c4)]), (.agg #[.int .i64 N4, (.slice x5 k5 c5)])] W fun e w' => e = .returned (.bool true) ∧ Below W.heap.size W w') := fun W h1 h2 => HIz.out W x5 c5 k5 hk5 h1 h2
        have Hk5 := hide hk5
        clear hk5 HIz
        cases is
        all_goals
          go_wp2_with fail
          refine (HIz2.out _ s16.sent.2 hx6).mono ?_
          rintro e w17 ⟨rfl, hb17⟩
          have s17 := s16.call hb17
          go_wp2_with fail
          go_ret
          exact ⟨rfl, Hfin.out _ s17.bel⟩

theorem zoneClose_true (N : Int) (x : Option Addr) (c0 : Nat) (l : List Ce) (y : Option Addr) (c1 k : Nat) (p : List Int) (a : Nat → Addr) (w : World) (hS : Sents w a) (hN : -9223372036854775808 ≤ N ∧ N ≤ 9223372036854775807) (hA : CsAt w x l) (hlen : l.length ≤ 9223372036854775807) (hm : ∀ A ∈ l, -9223372036854775808 ≤ A.m ∧ A.m ≤ 9223372036854775807)
    (hI : IntsAt w y p) (hk : k = p.length) (hkl : k ≤ 9223372036854775807) (hw : ∀ v ∈ p, -9223372036854775808 ≤ v ∧ v ≤ 9223372036854775807) :
    Calls Tryd.prog 3 #[(.agg #[.int .i64 N, (.slice x l.length c0)]), .slice y k c1] w fun e w' => e = .returned (.bool true) ∧ Below w.heap.size w w' :=
  zoneClose_by N x c0 l.length l y c1 k p a w hS hA hI rfl hlen hk hkl hN
end Go.Proofs.YtkngedinomngbaaDoor
