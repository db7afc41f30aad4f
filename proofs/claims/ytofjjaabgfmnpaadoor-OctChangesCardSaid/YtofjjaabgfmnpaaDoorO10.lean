/- Octagons: a variable forgotten, moved: the law's walk, over any contracts. -/
import Derived.Test.YtofjjaabgfmnpaaDoorXf
import Derived.Test.YtofjjaabgfmnpaaDoorO0
import Derived.Test.YtofjjaabgfmnpaaDoorIc
import Derived.Test.YtofjjaabgfmnpaaDoorYs
import Derived.Test.YtofjjaabgfmnpaaDoorZo
namespace Go.Proofs.YtofjjaabgfmnpaaDoor
open Go.RowKit
set_option linter.unusedVariables false

/-- What a change answers: an error, none, or a zone. -/
def AnsZ (a : Nat → Addr) (F N : Int) (ok : Prop) (LF : List Ce) (W : World) (e : Ending) (w' : World) : Prop :=
  ∃ (N4 : Int) (x4 : Option Addr) (k4 c4 : Nat) (is : Bool) (L4 : List Ce), e = .returned (.tuple #[(.agg #[.int .i64 N4, (.slice x4 k4 c4)]), .bool is, erV a F]) ∧ CsAt w' x4 L4 ∧ Hid (k4 = L4.length ∧ k4 ≤ 1000 ∧ ((F ≠ 0 ∧ is = false ∧ N4 = 0 ∧ L4 = []) ∨ (F = 0 ∧ ¬ ok ∧ is = false ∧ N4 = 0 ∧ L4 = []) ∨ (F = 0 ∧ ok ∧ is = true ∧ N4 = N ∧ L4 = LF))) ∧ Below W.heap.size W w'
theorem St.bel2 {w v W : World} {Z : World → Prop} {L : List (Nat × Nat × Value)} (s : St v W Z L) (h : Below w.heap.size w v) : Below w.heap.size w W := h.trans (s.bel.mono h.size)

set_option maxRecDepth 20000 in
set_option maxHeartbeats 16000000 in
theorem changesO_by (N xv sg yv c : Int) (s : Option Addr) (c0 len : Nat) (l : List Ce) (a : Nat → Addr) (w : World) (hS : Sents w a) (hA : CsAt w s l) (hl : Hid (len = l.length)) (hlen : len ≤ 9223372036854775807)
    (E F G : Int) (hE : 0 ≤ E ∧ E ≤ 8) (hF : 0 ≤ F ∧ F ≤ 8) (hG : 0 ≤ G ∧ G ≤ 8) (okA : Prop) (LA LF LG : List Ce) (fb : Bool) (hfb : Hid (fb = farB c 1099511627776))
    (hne : Hid (E ≠ 0 → F = E ∧ G = E))
    (hF1 : Hid (E = 0 → F = if xv < 0 ∨ N ≤ xv then 3 else 0))
    (hG1 : Hid (E = 0 → G = if xv < 0 ∨ N ≤ xv ∨ yv < 0 ∨ N ≤ yv ∨ sg < -1 ∨ 1 < sg then 3 else if fb = true then 2 else 0))
    (HE : Hid (len ≤ 100 → ∀ W : World, CsAt W s l → Calls Tryd.prog 14 #[(.agg #[.int .i64 N, (.slice s len c0)])] W fun e w' => e = .returned (.int .i64 E) ∧ Below W.heap.size W w'))
    (HFo : Hid (len ≤ 100 → ∀ (W : World) (y : Option Addr) (cy : Nat), Sents W a → CsAt W y l → Calls Tryd.prog 34 #[(.agg #[.int .i64 N, (.slice y len cy)]), .int .i64 xv] W fun e w' => AnsZ a F N okA LF W e w'))
    (HAs : Hid (len ≤ 100 → ∀ (W : World) (y : Option Addr) (cy : Nat), Sents W a → CsAt W y l → Calls Tryd.prog 35 #[(.agg #[.int .i64 N, (.slice y len cy)]), .int .i64 xv, .int .i64 sg, .int .i64 yv, .int .i64 c] W fun e w' => AnsZ a G N okA LG W e w'))
    (HCl : Hid (len ≤ 100 → E = 0 → nearL l 1048576 = true → ∀ W : World, CsAt W s l → Calls Tryd.prog 25 #[(.agg #[.int .i64 N, (.slice s len c0)])] W fun e w' => AnsR (fun is N5 L5 => (¬ okA ∧ is = false) ∨ (okA ∧ is = true ∧ N5 = N ∧ L5 = LA)) W e w'))
    (HFr : Hid (len ≤ 100 → E = 0 → F = 0 → nearL l 1048576 = true → okA → ∀ (W : World) (z : Option Addr) (k cz : Nat), k = LA.length → CsAt W z LA → Calls Tryd.prog 36 #[(.agg #[.int .i64 N, (.slice z k cz)]), .int .i64 xv] W fun e w' => ∃ (z3 : Option Addr) (k3 c3 : Nat), e = .returned (.agg #[.int .i64 N, (.slice z3 k3 c3)]) ∧ CsNew W w' z3 LF ∧ Hid (k3 = LF.length) ∧ Below W.heap.size W w'))
    (HAz : Hid (len ≤ 100 → E = 0 → G = 0 → nearL l 1048576 = true → farB c 1048576 = false → okA → ∀ (W : World) (z : Option Addr) (k cz : Nat), k = LA.length → CsAt W z LA → Calls Tryd.prog 37 #[(.agg #[.int .i64 N, (.slice z k cz)]), .int .i64 xv, .int .i64 sg, .int .i64 yv, .int .i64 c] W fun e w' => ∃ (z3 : Option Addr) (k3 c3 : Nat), e = .returned (.tuple #[(.agg #[.int .i64 N, (.slice z3 k3 c3)]), .bool true]) ∧ CsNew W w' z3 LG ∧ Hid (k3 = LG.length) ∧ Below W.heap.size W w')) :
    Calls Tryd.prog 5 #[(.agg #[.int .i64 N, (.slice s len c0)]), .int .i64 xv, .int .i64 sg, .int .i64 yv, .int .i64 c] w fun e w' => e = .returned (.bool true) ∧ Below w.heap.size w w' := by
  have s0 := (St.startZq (cs := [(s, l)]) hS (by intro p hp; simp at hp; rcases hp with rfl; exact hA)).box2 24 (.int .i64 N) (.slice s len c0)
  go_enter Tryd.func5, Tryd.ntmps5
  go_wp2_with fail
  refine (free_any a _ s0.sent.1.errs).mono ?_
  rintro e w1 ⟨rfl, hb1⟩
  (have s1 := s0.call hb1; have q1 := s1.hold; simp only [Holds, and_true] at q1; clear s0 hb1; try clear q0)
  clear hS hA
  by_cases h100 : len ≤ 100
  rotate_left
  · have h100' : (100 : Int) < (len : Int) := by omega
    go_wp2_with fail
    go_ret
    exact ⟨rfl, s1.bel⟩
  have h100' : ¬ (100 : Int) < (len : Int) := by omega
  have HE' := hide (HE.out h100)
  have HFo' := hide (HFo.out h100)
  have HAs' := hide (HAs.out h100)
  have HCl' := hide (HCl.out h100)
  have HFr' := hide (HFr.out h100)
  have HAz' := hide (HAz.out h100)
  have HNr : Hid (∀ W : World, CsAt W s l → Calls Tryd.prog 24 #[.slice s len c0] W fun e w' => e = .returned (.bool (nearL l 1048576)) ∧ w' = W) := fun W h => by
    have := near_law s c0 len l W h hl hlen
    rw [decide_eq_true h100, Bool.true_and] at this
    exact this
  have HZ : Hid (∀ W : World, CsAt W s l → Calls Tryd.prog 16 #[(.agg #[.int .i64 N, (.slice s len c0)])] W fun e w' => ∃ y cap, e = .returned (.agg #[.int .i64 N, (.slice y len cap)]) ∧ CsAt w' y l ∧ Below W.heap.size W w') := fun W h => zoneOf_any N s c0 len l W h hl (by omega)
  have HFar : Hid (∀ W : World, Calls Tryd.prog 21 #[.int .i64 c, .int .i64 1099511627776] W fun e w' => e = .returned (.bool fb) ∧ w' = W) := fun W => by rw [hfb.out]; exact far_any c _ W (by omega) (by omega)
  clear HE HFo HAs HCl HFr HAz hfb
  go_wp2_with fail
  refine (HE'.out _ (s1.sent.c (by simp))).mono ?_
  rintro e w2 ⟨rfl, hb2⟩
  (have s2 := s1.call hb2; have q2 := s2.hold; simp only [Holds, and_true] at q2; clear s1 hb2; try clear q1)
  clear HE'
  go_upto_if 41 with fail
  go_cut [13, 14] (fun t11 t12 wx => t11 = .int .i64 F ∧ t12 = .int .i64 G ∧ w2 = wx)
  case first =>
    by_cases k0 : E = 0
    rotate_left
    · as_aux_lemma =>
        have k0b : (E == 0) = false := by simp [k0]
        obtain ⟨f1, f2⟩ := hne.out k0
        have HR := hide (And.intro f1 f2)
        clear f1 f2 hne hF1 hG1
        go_wp2_with fail
        go_meet
        case rel => exact ⟨by rw [HR.out.1], by rw [HR.out.2], rfl⟩
    · have e1 := hide (hF1.out k0)
      have e2 := hide (hG1.out k0)
      clear hF1 hG1 hne hF hG
      subst k0
      clear HFo' HAs' HCl' HFr' HAz' HNr HZ
      by_cases x1 : xv < 0
      · have eF : Hid (F = 3 ∧ G = 3) := ⟨by rw [e1.out]; simp [x1], by rw [e2.out]; simp [x1]⟩
        clear e1 e2
        (rcases (show yv < 0 ∨ (¬ yv < 0 ∧ N ≤ yv) ∨ (¬ yv < 0 ∧ ¬ N ≤ yv ∧ sg < -1) ∨ (¬ yv < 0 ∧ ¬ N ≤ yv ∧ ¬ sg < -1 ∧ 1 < sg) ∨ (¬ yv < 0 ∧ ¬ N ≤ yv ∧ ¬ sg < -1 ∧ ¬ 1 < sg) by omega) with y1 | ⟨y1, y2⟩ | ⟨y1, y2, y3⟩ | ⟨y1, y2, y3, y4⟩ | ⟨y1, y2, y3, y4⟩ <;> (as_aux_lemma => (go_wp2_with fail; go_meet; case rel => exact ⟨by rw [eF.out.1], by rw [eF.out.2], rfl⟩)))
      by_cases x2 : N ≤ xv
      · have eF : Hid (F = 3 ∧ G = 3) := ⟨by rw [e1.out]; simp [x2], by rw [e2.out]; simp [x2]⟩
        clear e1 e2
        (rcases (show yv < 0 ∨ (¬ yv < 0 ∧ N ≤ yv) ∨ (¬ yv < 0 ∧ ¬ N ≤ yv ∧ sg < -1) ∨ (¬ yv < 0 ∧ ¬ N ≤ yv ∧ ¬ sg < -1 ∧ 1 < sg) ∨ (¬ yv < 0 ∧ ¬ N ≤ yv ∧ ¬ sg < -1 ∧ ¬ 1 < sg) by omega) with y1 | ⟨y1, y2⟩ | ⟨y1, y2, y3⟩ | ⟨y1, y2, y3, y4⟩ | ⟨y1, y2, y3, y4⟩ <;> (as_aux_lemma => (go_wp2_with fail; go_meet; case rel => exact ⟨by rw [eF.out.1], by rw [eF.out.2], rfl⟩)))
      by_cases y1 : yv < 0
      · have eF : Hid (F = 0 ∧ G = 3) := ⟨by rw [e1.out]; simp [x1, x2], by rw [e2.out]; simp [y1]⟩
        clear e1 e2
        (as_aux_lemma => (go_wp2_with fail; go_meet; case rel => exact ⟨by rw [eF.out.1], by rw [eF.out.2], rfl⟩))
      by_cases y2 : N ≤ yv
      · have eF : Hid (F = 0 ∧ G = 3) := ⟨by rw [e1.out]; simp [x1, x2], by rw [e2.out]; simp [y2]⟩
        clear e1 e2
        (as_aux_lemma => (go_wp2_with fail; go_meet; case rel => exact ⟨by rw [eF.out.1], by rw [eF.out.2], rfl⟩))
      by_cases y3 : sg < -1
      · have eF : Hid (F = 0 ∧ G = 3) := ⟨by rw [e1.out]; simp [x1, x2], by rw [e2.out]; simp [y3]⟩
        clear e1 e2
        (as_aux_lemma => (go_wp2_with fail; go_meet; case rel => exact ⟨by rw [eF.out.1], by rw [eF.out.2], rfl⟩))
      by_cases y4 : 1 < sg
      · have eF : Hid (F = 0 ∧ G = 3) := ⟨by rw [e1.out]; simp [x1, x2], by rw [e2.out]; simp [y4]⟩
        clear e1 e2
        (as_aux_lemma => (go_wp2_with fail; go_meet; case rel => exact ⟨by rw [eF.out.1], by rw [eF.out.2], rfl⟩))
      cases fb
      · have eF : Hid (F = 0 ∧ G = 0) := ⟨by rw [e1.out]; simp [x1, x2], by rw [e2.out]; simp [x1, x2, y1, y2, y3, y4]⟩
        clear e1 e2
        (as_aux_lemma => (go_wp2_with fail; refine (HFar.out _).mono ?_; rintro e w3 ⟨rfl, hw3⟩; rw [hw3]; go_wp2_with fail; go_meet; case rel => exact ⟨by rw [eF.out.1], by rw [eF.out.2], rfl⟩))
      · have eF : Hid (F = 0 ∧ G = 2) := ⟨by rw [e1.out]; simp [x1, x2], by rw [e2.out]; simp [x1, x2, y1, y2, y3, y4]⟩
        clear e1 e2
        (as_aux_lemma => (go_wp2_with fail; refine (HFar.out _).mono ?_; rintro e w3 ⟨rfl, hw3⟩; rw [hw3]; go_wp2_with fail; go_meet; case rel => exact ⟨by rw [eF.out.1], by rw [eF.out.2], rfl⟩))
  case rest =>
  obtain ⟨rfl, rfl, rfl⟩ := hcut
  clear hne hF1 hG1 HFar
  go_wp2_with fail
  refine (HZ.out _ (s2.sent.c (by simp))).mono ?_
  rintro e w3 ⟨y3, d3, rfl, hy3, hb3⟩
  (have s3 := s2.call hb3; have q3 := s3.hold; simp only [Holds, and_true] at q3; clear s2 hb3; try clear q2)
  go_wp2_with fail
  refine (HFo'.out _ y3 d3 s3.sent.1 hy3).mono ?_
  rintro e w4 ⟨Na, xa, ka, ca, isa, La, rfl, hxa, Ha, hb4⟩
  have s4 := (s3.call hb4).box2 30 (.int .i64 Na) (.slice xa ka ca)
  have hxa' := hxa.below ((Below.refl _ _).alloc (Nat.le_refl _) (.cells #[.int .i64 Na, .slice xa ka ca] 30))
  clear hxa hb4 s3 q3 hy3 HFo'
  go_upto_region 16 with fail
  obtain ⟨W4, hW4, s4⟩ := s4.nam
  obtain ⟨ba, hba⟩ : ∃ b, b = w4.heap.size := ⟨_, rfl⟩
  rw [← hW4] at hxa' ⊢
  rw [← hba] at s4 ⊢
  clear hW4 hba
  have hbW4 := s4.bel
  have s4 := s4.moreq hxa'
  clear hxa'
  have q4 := s4.hold
  simp only [Holds, and_true] at q4
  go_wp2_with fail
  refine (HZ.out _ (s4.sent.c (by simp))).mono ?_
  rintro e w5 ⟨y5, d5, rfl, hy5, hb5⟩
  (have s5 := s4.call hb5; have q5 := s5.hold; simp only [Holds, and_true] at q5; clear s4 hb5; try clear q4)
  go_wp2_with fail
  refine (HAs'.out _ y5 d5 s5.sent.1 hy5).mono ?_
  rintro e w6 ⟨Nb, xb, kb, cb, isb, Lb, rfl, hxb, Hb, hb6⟩
  have s6 := (s5.call hb6).box2 30 (.int .i64 Nb) (.slice xb kb cb)
  have hxb' := hxb.below ((Below.refl _ _).alloc (Nat.le_refl _) (.cells #[.int .i64 Nb, .slice xb kb cb] 30))
  clear hxb hb6 s5 q5 hy5 HAs' HZ
  go_upto_region 17 with fail
  obtain ⟨W6, hW6, s6⟩ := s6.nam
  obtain ⟨bb, hbb⟩ : ∃ b, b = w6.heap.size := ⟨_, rfl⟩
  rw [← hW6] at hxb' ⊢
  rw [← hbb] at s6 ⊢
  clear hW6 hbb
  have hbW6 := s6.bel2 hbW4
  have s6 := s6.moreq hxb'
  clear hxb' hbW4
  have q6 := s6.hold
  simp only [Holds, and_true] at q6
  obtain ⟨W8, hW8, s8⟩ := s6.nam
  rw [← hW8]
  have hbW8 : Below w.heap.size w W8 := by rw [hW8]; exact hbW6
  have s8 := s8.re
  clear hW8 s6 q6 hbW6
  have q8 := s8.hold
  simp only [Holds, and_true] at q8
  have HDf : Hid (∀ (W : World), Sents W a → Calls Tryd.prog 19 #[erV a F, .int .i64 F] W fun e w' => e = .returned (.bool true) ∧ Below W.heap.size W w') := fun W h => coded_er F hF.1 hF.2 a W h
  have HDg : Hid (∀ (W : World), Sents W a → Calls Tryd.prog 19 #[erV a G, .int .i64 G] W fun e w' => e = .returned (.bool true) ∧ Below W.heap.size W w') := fun W h => coded_er G hG.1 hG.2 a W h
  go_wp2_with fail
  refine (HDf.out _ s8.sent.1).mono ?_
  rintro e w9 ⟨rfl, hb9⟩
  (have s9 := s8.call hb9; have q9 := s9.hold; simp only [Holds, and_true] at q9; clear s8 hb9; try clear q8)
  go_wp2_with fail
  refine (HDg.out _ s9.sent.1).mono ?_
  rintro e w10 ⟨rfl, hb10⟩
  (have s10 := s9.call hb10; have q10 := s10.hold; simp only [Holds, and_true] at q10; clear s9 hb10; try clear q9)
  have s11 := s10
  have q11 := q10
  clear s10 q10 HDf HDg
  go_upto_region 19 with fail
  have HNa : Hid (F ≠ 0 → isa = false ∧ ∀ W : World, Calls Tryd.prog 23 #[(.agg #[.int .i64 Na, (.slice xa ka ca)])] W fun e w' => e = .returned (.bool true) ∧ Below W.heap.size W w') := by
    intro hf
    rcases Ha.out.2.2 with h | h | h
    · refine ⟨h.2.1, fun W => ?_⟩
      obtain ⟨-, -, rfl, rfl⟩ := h
      have : ka = 0 := Ha.out.1
      subst this
      exact (noZone_any 0 xa 0 ca W).mono fun _ _ h => ⟨by rw [h.1]; rfl, h.2⟩
    · exact absurd h.1 hf
    · exact absurd h.1 hf
  have HNb : Hid (G ≠ 0 → isb = false ∧ ∀ W : World, Calls Tryd.prog 23 #[(.agg #[.int .i64 Nb, (.slice xb kb cb)])] W fun e w' => e = .returned (.bool true) ∧ Below W.heap.size W w') := by
    intro hf
    rcases Hb.out.2.2 with h | h | h
    · refine ⟨h.2.1, fun W => ?_⟩
      obtain ⟨-, -, rfl, rfl⟩ := h
      have : kb = 0 := Hb.out.1
      subst this
      exact (noZone_any 0 xb 0 cb W).mono fun _ _ h => ⟨by rw [h.1]; rfl, h.2⟩
    · exact absurd h.1 hf
    · exact absurd h.1 hf
  go_cut [123] (fun t wx => t = .bool false ∧ St W8 wx (Zq a [(xb, Lb), (xa, La), (s, l)]) ((bb, 0, Value.int .i64 Nb) :: (bb, 1, Value.slice xb kb cb) :: (ba, 0, Value.int .i64 Na) :: (ba, 1, Value.slice xa ka ca) :: ((w.heap.size, 0, Value.int .i64 N) :: (w.heap.size, 1, Value.slice s len c0) :: [])))
  case first =>
   as_aux_lemma =>
    by_cases kF : F = 0
    · by_cases kG : G = 0
      · have kF' : ¬ 0 < F := by omega
        have kG' : ¬ 0 < G := by omega
        clear HNa HNb kF kG
        go_wp2_with fail
        go_meet
        case rel => exact ⟨rfl, s11⟩
      · have kF' : ¬ 0 < F := by omega
        have kG' : 0 < G := by omega
        obtain ⟨rfl, hn⟩ := HNb.out kG
        have HN := hide hn
        clear HNa HNb hn kF kG
        go_wp2_with fail
        refine (HN.out _).mono ?_
        rintro e w12 ⟨rfl, hb12⟩
        go_wp2_with fail
        go_meet
        case rel => exact ⟨rfl, s11.call hb12⟩
    · have kF' : 0 < F := by omega
      obtain ⟨rfl, hn⟩ := HNa.out kF
      have HN := hide hn
      by_cases kG : G = 0
      · have kG' : ¬ 0 < G := by omega
        clear HNa HNb hn kF kG
        go_wp2_with fail
        refine (HN.out _).mono ?_
        rintro e w12 ⟨rfl, hb12⟩
        (have s12 := s11.call hb12; have q12 := s12.hold; simp only [Holds, and_true] at q12; clear s11 hb12; try clear q11)
        go_wp2_with fail
        go_meet
        case rel => exact ⟨rfl, s12⟩
      · have kG' : 0 < G := by omega
        obtain ⟨rfl, hn2⟩ := HNb.out kG
        have HN2 := hide hn2
        clear HNa HNb hn hn2 kF kG
        go_wp2_with fail
        refine (HN.out _).mono ?_
        rintro e w12 ⟨rfl, hb12⟩
        (have s12 := s11.call hb12; have q12 := s12.hold; simp only [Holds, and_true] at q12; clear s11 hb12; try clear q11)
        go_wp2_with fail
        refine (HN2.out _).mono ?_
        rintro e w13 ⟨rfl, hb13⟩
        go_wp2_with fail
        go_meet
        case rel => exact ⟨rfl, s12.call hb13⟩
  case rest =>
  clear s11 q11
  obtain ⟨rfl, s11⟩ := hcut
  clear HNa HNb
  have s12 := s11
  clear s11
  obtain ⟨W12, hW12, s12⟩ := s12.nam
  rw [← hW12]
  clear hW12
  have hbW12 := s12.bel2 hbW8
  have s12 := s12.re
  have q12 := s12.hold
  simp only [Holds, and_true] at q12
  by_cases hE0 : E = 0
  rotate_left
  · have hE0' : 0 < E := by omega
    clear hE0
    go_wp2_with fail
    go_ret
    exact ⟨rfl, hbW12⟩
  subst hE0
  have HCl2 := hide (HCl'.out rfl)
  have HFr2 := hide (HFr'.out rfl)
  have HAz2 := hide (HAz'.out rfl)
  clear HCl' HFr' HAz'
  obtain ⟨na, hna⟩ : ∃ b, b = nearL l 1048576 := ⟨_, rfl⟩
  rw [← hna] at HNr HCl2 HFr2 HAz2
  clear hna
  obtain ⟨fc, hfc⟩ : ∃ b, b = farB c 1048576 := ⟨_, rfl⟩
  have HFar2 : Hid (∀ W : World, Calls Tryd.prog 21 #[.int .i64 c, .int .i64 1048576] W fun e w' => e = .returned (.bool fc) ∧ w' = W) := fun W => by rw [hfc]; exact far_any c _ W (by omega) (by omega)
  rw [← hfc] at HAz2
  clear hfc
  have h00 : ¬ (0 : Int) < 0 := by omega
  go_wp2_with fail
  refine (HNr.out _ (s12.sent.c (by simp))).mono ?_
  rintro e w7 ⟨rfl, hw7⟩
  rw [hw7]
  clear hw7 w7 HNr
  cases na
  · go_wp2_with fail
    go_ret
    exact ⟨rfl, hbW12⟩
  go_wp2_with fail
  refine (HFar2.out _).mono ?_
  rintro e w7 ⟨rfl, hw7⟩
  rw [hw7]
  clear hw7 w7 HFar2
  cases fc
  rotate_left
  · go_wp2_with fail
    go_ret
    exact ⟨rfl, hbW12⟩
  have K1 := hide (HCl2.out (by trivial))
  have K2 : Hid (F = 0 → okA → _) := fun h k => HFr2.out h (by trivial) k
  have K3 : Hid (G = 0 → okA → _) := fun h k => HAz2.out h (by trivial) (by trivial) k
  clear HCl2 HFr2 HAz2
  go_wp2_with fail
  refine (K1.out _ (s12.sent.c (by simp))).mono ?_
  rintro e w13 ⟨N5, x5, k5, c5, is5, L5, rfl, hx5, H5, hb13⟩
  have s13 := (s12.call hb13).box2 24 (.int .i64 N5) (.slice x5 k5 c5)
  have hx5' := hx5.below ((Below.refl _ _).alloc (Nat.le_refl _) (.cells #[.int .i64 N5, .slice x5 k5 c5] 24))
  clear hx5 hb13 s12 q12 K1
  go_upto_if 142 with fail
  obtain ⟨W13, hW13, s13⟩ := s13.nam
  obtain ⟨bs, hbs⟩ : ∃ b, b = w13.heap.size := ⟨_, rfl⟩
  rw [← hW13] at hx5' ⊢
  rw [← hbs] at s13 ⊢
  clear hW13 hbs
  have hbW13 := s13.bel2 hbW12
  have s13 := s13.moreq hx5'
  clear hx5' hbW12
  have q13 := s13.hold
  simp only [Holds, and_true] at q13
  have ap13 := s13.hold.older
  have HIz : Hid (∀ (W : World) (x y : Option Addr) (k cx k' cy : Nat) (M : Int) (L : List Ce), k = L.length ∧ k' = L.length ∧ k ≤ 1000 → CsAt W x L → CsAt W y L → Calls Tryd.prog 26 #[(.agg #[.int .i64 M, (.slice x k cx)]), (.agg #[.int .i64 M, (.slice y k' cy)])] W fun e w' => e = .returned (.bool true) ∧ Below W.heap.size W w') := by
    intro W x y k cx k' cy M L hk h1 h2
    refine (isZone_any M M x y k cx k' cy L L W h1 h2 hk.1 hk.2.1 hk.2.2).mono ?_
    rintro e w' ⟨rfl, hb⟩
    exact ⟨by simp, hb⟩
  have Hap := hide ap13
  clear ap13
  go_cut [10] (fun t wx => t = .bool false ∧ St W13 wx (Zq a [(x5, L5), (xb, Lb), (xa, La), (s, l)]) ((bs, 0, Value.int .i64 N5) :: (bs, 1, Value.slice x5 k5 c5) :: ((bb, 0, Value.int .i64 Nb) :: (bb, 1, Value.slice xb kb cb) :: (ba, 0, Value.int .i64 Na) :: (ba, 1, Value.slice xa ka ca) :: ((w.heap.size, 0, Value.int .i64 N) :: (w.heap.size, 1, Value.slice s len c0) :: []))))
  case first =>
   as_aux_lemma =>
    by_cases kF : F = 0
    rotate_left
    · have kFb : (F == 0) = false := by simp [kF]
      clear K2 K3 Ha Hb
      go_wp2_with fail
      go_meet
      case rel => exact ⟨rfl, s13⟩
    have kFb : (F == 0) = true := by simp [kF]
    by_cases hok : okA
    · obtain ⟨rfl, rfl, rfl⟩ : is5 = true ∧ N5 = N ∧ L5 = LA := by
        rcases H5.out.2.2 with h | h
        · exact absurd hok h.1
        · exact h.2
      obtain ⟨rfl, rfl, rfl⟩ : isa = true ∧ Na = N5 ∧ La = LF := by
        rcases Ha.out.2.2 with h | h | h
        · exact absurd kF h.1
        · exact absurd hok h.2.1
        · exact h.2.2
      have K2' := hide (K2.out kF hok)
      clear K2 K3 Hb kF
      have s14 := s13.box2 24 (.int .i64 0) (.slice none 0 0)
      have q14 := s14.hold
      simp only [Holds, and_true] at q14
      go_wp2_with fail
      refine (K2'.out _ x5 k5 c5 H5.out.1 (s14.sent.c (by simp))).mono ?_
      rintro e w15 ⟨z15, k15, c15, rfl, hz15, hk15, hb15⟩
      have s15 := s14.call hb15
      have q15 := s15.hold
      simp only [Holds, and_true] at q15
      have s17 := ((s15.drop 2).setO (p := ⟨W13.heap.size, 0, none⟩) (Nat.le_refl _) Hap.out (.int .i64 Na)).setO (p := ⟨W13.heap.size, 1, none⟩) (Nat.le_refl _) Hap.out (.slice z15 k15 c15)
      have hz17 := hz15.two (b := W13.heap.size) (by simp) (.int .i64 Na) (.slice z15 k15 c15)
      have Hs17 := hide s17
      have Hz17 := hide hz17
      have la : ba < W13.heap.size := q13.2.2.2.2.1.2.1
      clear s17 hz17 s14 q14 s13 q13 hb15 hz15
      go_wp2_with fail
      refine (HIz.out _ xa z15 ka ca k15 c15 Na La ⟨Ha.out.1, hk15.out, Ha.out.2.1⟩ (Hs17.out.sent.c (by simp)) Hz17.out).mono ?_
      rintro e w16 ⟨rfl, hb16⟩
      go_wp2_with fail
      go_meet
      case rel => exact ⟨rfl, Hs17.out.call hb16⟩
    · obtain rfl : is5 = false := by
        rcases H5.out.2.2 with h | h
        · exact h.2
        · exact absurd h.1 hok
      obtain ⟨rfl, rfl, rfl⟩ : isa = false ∧ Na = 0 ∧ La = [] := by
        rcases Ha.out.2.2 with h | h | h
        · exact absurd kF h.1
        · exact h.2.2
        · exact absurd h.2.1 hok
      clear K2 K3 Hb kF
      have s14 := s13.box2 24 (.int .i64 0) (.slice none 0 0)
      have q14 := s14.hold
      simp only [Holds, and_true] at q14
      go_wp2_with fail
      refine (HIz.out _ xa none ka ca 0 0 0 [] ⟨Ha.out.1, rfl, Ha.out.2.1⟩ (s14.sent.c (by simp)) (.inl rfl)).mono ?_
      rintro e w16 ⟨rfl, hb16⟩
      go_wp2_with fail
      go_meet
      case rel => exact ⟨rfl, (s14.drop 2).call hb16⟩
  case rest =>
  obtain ⟨rfl, s14⟩ := hcut
  clear s13 q13 Hap K2
  obtain ⟨W14, hW14, s14⟩ := s14.nam
  rw [← hW14]
  clear hW14
  have hbW14 := s14.bel2 hbW13
  have s14 := s14.re
  have q14 := s14.hold
  simp only [Holds, and_true] at q14
  have Hap := hide s14.hold.older
  by_cases kG : G = 0
  rotate_left
  · as_aux_lemma =>
      have kGb : (G == 0) = false := by simp [kG]
      clear K3 Ha Hb
      go_wp2_with fail
      go_ret
      exact ⟨rfl, hbW14⟩
  have kGb : (G == 0) = true := by simp [kG]
  by_cases hok : okA
  · as_aux_lemma =>
      obtain ⟨rfl, rfl, rfl⟩ : is5 = true ∧ N5 = N ∧ L5 = LA := by
        rcases H5.out.2.2 with h | h
        · exact absurd hok h.1
        · exact h.2
      obtain ⟨rfl, rfl, rfl⟩ : isb = true ∧ Nb = N5 ∧ Lb = LG := by
        rcases Hb.out.2.2 with h | h | h
        · exact absurd kG h.1
        · exact absurd hok h.2.1
        · exact h.2.2
      have K3' := hide (K3.out kG hok)
      clear K3 Ha kG
      have s15 := s14.box2 24 (.int .i64 0) (.slice none 0 0)
      have q15 := s15.hold
      simp only [Holds, and_true] at q15
      go_wp2_with fail
      refine (K3'.out _ x5 k5 c5 H5.out.1 (s15.sent.c (by simp))).mono ?_
      rintro e w16 ⟨z16, k16, c16, rfl, hz16, hk16, hb16⟩
      have s16 := s15.call hb16
      have q16 := s16.hold
      simp only [Holds, and_true] at q16
      have s17 := ((s16.drop 2).setO (p := ⟨W14.heap.size, 0, none⟩) (Nat.le_refl _) Hap.out (.int .i64 Nb)).setO (p := ⟨W14.heap.size, 1, none⟩) (Nat.le_refl _) Hap.out (.slice z16 k16 c16)
      have hz17 := hz16.two (b := W14.heap.size) (by simp) (.int .i64 Nb) (.slice z16 k16 c16)
      have Hs17 := hide s17
      have Hz17 := hide hz17
      have lb : bb < W14.heap.size := q14.2.2.1.2.1
      clear s17 hz17 s15 q15 s14 q14 hb16 hz16
      go_wp2_with fail
      refine (HIz.out _ xb z16 kb cb k16 c16 Nb Lb ⟨Hb.out.1, hk16.out, Hb.out.2.1⟩ (Hs17.out.sent.c (by simp)) Hz17.out).mono ?_
      rintro e w17 ⟨rfl, hb17⟩
      go_wp2_with fail
      go_ret
      exact ⟨rfl, (Hs17.out.call hb17).bel2 hbW14⟩
  · as_aux_lemma =>
      obtain rfl : is5 = false := by
        rcases H5.out.2.2 with h | h
        · exact h.2
        · exact absurd h.1 hok
      obtain ⟨rfl, rfl, rfl⟩ : isb = false ∧ Nb = 0 ∧ Lb = [] := by
        rcases Hb.out.2.2 with h | h | h
        · exact absurd kG h.1
        · exact h.2.2
        · exact absurd h.2.1 hok
      clear K3 Ha kG
      have s15 := s14.box2 24 (.int .i64 0) (.slice none 0 0)
      have q15 := s15.hold
      simp only [Holds, and_true] at q15
      go_wp2_with fail
      refine (HIz.out _ xb none kb cb 0 0 0 [] ⟨Hb.out.1, rfl, Hb.out.2.1⟩ (s15.sent.c (by simp)) (.inl rfl)).mono ?_
      rintro e w16 ⟨rfl, hb16⟩
      go_wp2_with fail
      go_ret
      exact ⟨rfl, ((s15.drop 2).call hb16).bel2 hbW14⟩
end Go.Proofs.YtofjjaabgfmnpaaDoor
