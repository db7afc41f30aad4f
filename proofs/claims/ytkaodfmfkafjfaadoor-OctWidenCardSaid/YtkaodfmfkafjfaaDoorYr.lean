/- Zones: one widened by another one. -/
import Derived.Test.YtkaodfmfkafjfaaDoorYp
namespace Go.Proofs.YtkaodfmfkafjfaaDoor
open Go.RowKit
set_option linter.unusedVariables false

/-- What is widened. -/
def widM (n : Nat) (A B : Mat) : Mat := fun i j => if nnB n (tg n B) = false then A i j else if nnB n (tg n A) = false then tg n B i j else keptB (A i j) (tg n B i j)
theorem widM_a {n : Nat} {A B : Mat} (h : ¬ NoNeg n (tg n B)) : widM n A B = A := by
  funext i j; unfold widM; rw [if_pos (nnB_no h)]
theorem widM_b {n : Nat} {A B : Mat} (h : NoNeg n (tg n B)) (k : ¬ NoNeg n (tg n A)) : widM n A B = tg n B := by
  funext i j; unfold widM; rw [if_neg (by rw [nnB_yes h]; simp), if_pos (nnB_no k)]
theorem widM_ab {n : Nat} {A B : Mat} (h : NoNeg n (tg n B)) (k : NoNeg n (tg n A)) : widM n A B = fun i j => keptB (A i j) (tg n B i j) := by
  funext i j; unfold widM; rw [if_neg (by rw [nnB_yes h]; simp), if_neg (by rw [nnB_yes k]; simp)]

set_option maxRecDepth 20000 in
set_option maxHeartbeats 8000000 in
theorem widen_any (N M : Int) (x y : Option Addr) (len c len' c' : Nat) (l m : List Ce) (a : Nat → Addr) (w : World) (hS : ErrS w a) (hA : CsAt w x l) (hB : CsAt w y m) (hl : Hid (len = l.length)) (hm : Hid (len' = m.length)) (hn : len ≤ 1000) (hn' : len' ≤ 1000) :
    Calls Tryd.prog 40 #[(.agg #[.int .i64 N, (.slice x len c)]), (.agg #[.int .i64 M, (.slice y len' c')])] w fun e w' =>
      JrPost w a (pairErr N l M m) N len False (tellL (nOf N) (widM (nOf N) (matOf (nOf N) l) (matOf (nOf N) m))) e w' := by
  have s0 := (((St.startEC2 hS hA hB).box2 30 (.int .i64 N) (.slice x len c)).box2 30 (.int .i64 M) (.slice y len' c')).box2 30 (.int .i64 0) (.slice none 0 0)
  simp only [World.size_alloc] at s0
  obtain ⟨er, her⟩ : ∃ e, e = pairErr N l M m := ⟨_, rfl⟩
  have HP : Hid (∀ W : World, ErrS W a → CsAt W x l → CsAt W y m → Calls Tryd.prog 65 #[(.agg #[.int .i64 N, (.slice x len c)]), (.agg #[.int .i64 M, (.slice y len' c')])] W fun e w' => e = .returned (erV a er) ∧ Below W.heap.size W w') := fun W h1 h2 h3 => by rw [her]; exact pairError_any N M x y len c len' c' l m a W h1 h2 h3 hl hm hn hn'
  rw [← her]
  by_cases h0 : er = 0
  · have hNM : N = M := (pairErr_0 (her.symm.trans h0)).2.2
    subst hNM
    have R := right2 (her.symm.trans h0)
    rw [← hl.out] at R
    obtain ⟨n, hnn⟩ : ∃ n, n = nOf N := ⟨_, rfl⟩
    rw [← hnn] at R ⊢
    have hlm : len' = len := by rw [hm.out, ← R.hm]
    subst hlm
    have P := hide (parts R x y c c')
    have HW : Hid (∀ (W : World) (g cp h ch : Nat), GrI W g n (encM (matOf n l)) → GrI W h n (encM (tg n (matOf n m))) → Calls Tryd.prog 68 #[(.agg #[.int .i64 n, (.slice (some ⟨g, 0, none⟩) len' cp)]), (.agg #[.int .i64 n, (.slice (some ⟨h, 0, none⟩) len' ch)]), .func (.func 81) #[] #[]] W fun e w' => GrPost W n len' (encM (fun i j => keptB (matOf n l i j) (tg n (matOf n m) i j))) e w') := fun W g cp h ch k1 k2 =>
      (with_any _ n g cp h ch len' _ _ keptI W k1 k2 R.hll (by have := R.hn; omega) enters_kept mk_kept).mono fun _ _ k => k.congr fun i j hi hj => (enc_kept _ _).symm
    obtain ⟨A, hAA⟩ : ∃ A, A = matOf n l := ⟨_, rfl⟩
    obtain ⟨B, hBB⟩ : ∃ B, B = matOf n m := ⟨_, rfl⟩
    have PbA : Hid (∀ W : World, CsAt W x l → Calls Tryd.prog 48 #[(.agg #[.int .i64 N, (.slice x len' c)])] W fun e w' => GrPost W n len' (encM A) e w') := by rw [hAA]; exact P.out.bA
    have PbB : Hid (∀ W : World, CsAt W y m → Calls Tryd.prog 48 #[(.agg #[.int .i64 N, (.slice y len' c')])] W fun e w' => GrPost W n len' (encM B) e w') := by rw [hBB]; exact P.out.bB
    have PcA : Hid (∀ (W : World) (g cp : Nat), GrI W g n (encM A) → Calls Tryd.prog 66 #[(.agg #[.int .i64 n, (.slice (some ⟨g, 0, none⟩) len' cp)])] W fun e w' => TgPost W n len' A e w') := by rw [hAA]; exact P.out.cA
    have PcB : Hid (∀ (W : World) (g cp : Nat), GrI W g n (encM B) → Calls Tryd.prog 66 #[(.agg #[.int .i64 n, (.slice (some ⟨g, 0, none⟩) len' cp)])] W fun e w' => TgPost W n len' B e w') := by rw [hBB]; exact P.out.cB
    have PtL : Hid (∀ (W : World) (g cp : Nat) (d : Mat), GrI W g n (encM d) → Calls Tryd.prog 67 #[(.agg #[.int .i64 n, (.slice (some ⟨g, 0, none⟩) len' cp)])] W fun e w' => TellPost W N len' (tellL n d) e w') := P.out.tl
    rw [← hAA, ← hBB] at HW ⊢
    rw [h0] at HP ⊢
    rw [erV_0] at HP
    clear hAA hBB P R her h0 hl hm hnn hS hA hB
    go_enter Tryd.func40, Tryd.ntmps40
    go_wp2_with fail
    refine (HP.out _ s0.sent.1 s0.sent.2.1 s0.sent.2.2).mono ?_
    rintro e w1 ⟨rfl, hb1⟩
    (have s1 := s0.call hb1; have q1 := s1.hold; simp only [Holds, and_true] at q1; clear s0 hb1; try clear q0)
    go_wp2_with fail
    refine (PbA.out _ s1.sent.2.1).mono ?_
    rintro e w2 ⟨g2, cp2, rfl, hg2, hG2, hb2⟩
    (have s2 := s1.call hb2; have q2 := s2.hold; simp only [Holds, and_true] at q2; clear s1 hb2; try clear q1)
    have s3 := s2.box2 84 (.int .i64 n) (.slice (some ⟨g2, 0, none⟩) len' cp2)
    have hG3 := hG2.below ((Below.refl _ _).alloc (Nat.le_refl _) (.cells #[.int .i64 n, .slice (some ⟨g2, 0, none⟩) len' cp2] 84))
    go_wp2_with fail
    refine (PcA.out _ g2 cp2 hG3).mono ?_
    rintro e w4 ⟨hb4, h4⟩
    have hG4 := hG3.below hb4
    (have s4 := s3.call hb4; have q4 := s4.hold; simp only [Holds, and_true] at q4; clear s3 hb4; try clear q3)
    obtain ⟨oA, hoA, zn, xn, kn, cn, rfl⟩ : ∃ (oA : Bool), (oA = true ↔ NoNeg n (tg n A)) ∧ ∃ (zn : Int) (xn : Option Addr) (kn cn : Nat), e = .returned (.tuple #[(.agg #[.int .i64 zn, (.slice xn kn cn)]), .bool oA]) := by
      rcases h4 with ⟨h, rfl⟩ | ⟨h, g, cp, rfl, _⟩
      · exact ⟨false, by simp [h], _, _, _, _, rfl⟩
      · exact ⟨true, by simp [h], _, _, _, _, rfl⟩
    have HoA := hide hoA
    clear h4 hoA
    have s5 := s4.box2 84 (.int .i64 zn) (.slice xn kn cn)
    have hG5 := hG4.below ((Below.refl _ _).alloc (Nat.le_refl _) (.cells #[.int .i64 zn, .slice xn kn cn] 84))
    go_wp2_with fail
    refine (PbB.out _ s5.sent.2.2).mono ?_
    rintro e w6 ⟨g6, cp6, rfl, hg6, hG6, hb6⟩
    have hG5' := hG5.below hb6
    (have s6 := s5.call hb6; have q6 := s6.hold; simp only [Holds, and_true] at q6; clear s5 hb6; try clear q5)
    go_wp2_with fail
    refine (PcB.out _ g6 cp6 hG6).mono ?_
    rintro e w7 ⟨hb7, h7⟩
    have hG7 := hG5'.below hb7
    (have s7 := s6.call hb7; have q7 := s7.hold; simp only [Holds, and_true] at q7; clear s6 hb7; try clear q6)
    have sz7 : w.heap.size + 1 + 1 < w7.heap.size := q7.2.2.2.2.1.2.1
    clear hG4 hG5 hG5' hG3 hG2 hG6 q2 q4
    rcases h7 with ⟨hno, rfl⟩ | ⟨hyes, g7, cp7, rfl, hg7, hG8⟩
    · have s8 := s7.box2 84 (.int .i64 0) (.slice none 0 0)
      have hG9 := hG7.below ((Below.refl _ _).alloc (Nat.le_refl _) (.cells #[.int .i64 0, .slice none 0 0] 84))
      go_wp2_with fail
      refine (PtL.out _ g2 cp2 _ hG9).mono ?_
      rintro e w9 ⟨g9, cp9, rfl, hg9, hR9, hb9⟩
      simp only [World.size_alloc] at hg9
      (have s9 := s8.call hb9; have q9 := s9.hold; simp only [Holds, and_true] at q9; clear s8 hb9; try clear q8)
      go_wp2_with fail
      refine bodyPost_ret (v := .tuple #[(.agg #[.int .i64 N, (.slice (some ⟨g9, 0, none⟩) len' cp9)]), .nilIface]) (by simp [results, Tryd.results40, go_sem, q9]) rfl ⟨?_, .inr (.inr ⟨rfl, fun k => k, g9, cp9, rfl, by omega, ?_⟩)⟩
      · repeat' (first | exact s9.bel | refine Below.setCell ?_ (by first | (simp; done) | (simp; omega)) _)
      · rw [widM_a hno]
        exact (hR9.other (by show w.heap.size + 1 + 1 ≠ g9; omega) _).other (by show w.heap.size + 1 + 1 ≠ g9; omega) _
    · have s8 := s7.box2 84 (.int .i64 n) (.slice (some ⟨g7, 0, none⟩) len' cp7)
      have hG9 := hG7.below ((Below.refl _ _).alloc (Nat.le_refl _) (.cells #[.int .i64 n, .slice (some ⟨g7, 0, none⟩) len' cp7] 84))
      have hG10 := hG8.below ((Below.refl _ _).alloc (Nat.le_refl _) (.cells #[.int .i64 n, .slice (some ⟨g7, 0, none⟩) len' cp7] 84))
      have q8 := s8.hold
      simp only [Holds, and_true] at q8
      cases oA
      · have hnoA : Hid (¬ NoNeg n (tg n A)) := fun h => by have := HoA.out.2 h; cases this
        go_wp2_with fail
        refine (PtL.out _ g7 cp7 _ hG10).mono ?_
        rintro e w9 ⟨g9, cp9, rfl, hg9, hR9, hb9⟩
        simp only [World.size_alloc] at hg9
        (have s9 := s8.call hb9; have q9 := s9.hold; simp only [Holds, and_true] at q9; clear s8 hb9; try clear q8)
        go_wp2_with fail
        refine bodyPost_ret (v := .tuple #[(.agg #[.int .i64 N, (.slice (some ⟨g9, 0, none⟩) len' cp9)]), .nilIface]) (by simp [results, Tryd.results40, go_sem, q9]) rfl ⟨?_, .inr (.inr ⟨rfl, fun k => k, g9, cp9, rfl, by omega, ?_⟩)⟩
        · repeat' (first | exact s9.bel | refine Below.setCell ?_ (by first | (simp; done) | (simp; omega)) _)
        · rw [widM_b hyes hnoA.out]
          exact (hR9.other (by show w.heap.size + 1 + 1 ≠ g9; omega) _).other (by show w.heap.size + 1 + 1 ≠ g9; omega) _
      · have hyA : Hid (NoNeg n (tg n A)) := HoA.out.1 rfl
        go_wp2_with fail
        refine (HW.out _ g2 cp2 g7 cp7 hG9 hG10).mono ?_
        rintro e w9 ⟨g9, cp9, rfl, hg9, hG11, hb9⟩
        (have s9 := s8.call hb9; have q9 := s9.hold; simp only [Holds, and_true] at q9; clear s8 hb9; try clear q8)
        have sz9 : w.heap.size + 1 + 1 < w9.heap.size := q9.2.2.2.2.2.2.1.2.1
        go_wp2_with fail
        refine (PtL.out _ g9 cp9 _ hG11).mono ?_
        rintro e w10 ⟨g10, cp10, rfl, hg10, hR10, hb10⟩
        (have s10 := s9.call hb10; have q10 := s10.hold; simp only [Holds, and_true] at q10; clear s9 hb10; try clear q9)
        go_wp2_with fail
        refine bodyPost_ret (v := .tuple #[(.agg #[.int .i64 N, (.slice (some ⟨g10, 0, none⟩) len' cp10)]), .nilIface]) (by simp [results, Tryd.results40, go_sem, q10]) rfl ⟨?_, .inr (.inr ⟨rfl, fun k => k, g10, cp10, rfl, by omega, ?_⟩)⟩
        · repeat' (first | exact s10.bel | refine Below.setCell ?_ (by first | (simp; done) | (simp; omega)) _)
        · rw [widM_ab hyes hyA.out]
          exact (hR10.other (by show w.heap.size + 1 + 1 ≠ g10; omega) _).other (by show w.heap.size + 1 + 1 ≠ g10; omega) _
  · rw [erV_ne h0] at HP
    have H0 := hide h0
    clear h0 hS hA hB hl hm her
    go_enter Tryd.func40, Tryd.ntmps40
    go_wp2_with fail
    refine (HP.out _ s0.sent.1 s0.sent.2.1 s0.sent.2.2).mono ?_
    rintro e w1 ⟨rfl, hb1⟩
    (have s1 := s0.call hb1; have q1 := s1.hold; simp only [Holds, and_true] at q1; clear s0 hb1; try clear q0)
    go_wp2_with fail
    refine bodyPost_ret (v := .tuple #[(.agg #[.int .i64 0, .slice none 0 0]), .iface 169 (.pointer (some (a (er.toNat - 1))))]) (by simp [results, Tryd.results40, go_sem, q1]) rfl ⟨?_, .inl ⟨H0.out, by rw [erV_ne H0.out]⟩⟩
    repeat' (first | exact s1.bel | refine Below.setCell ?_ (by first | (simp; done) | (simp; omega)) _)
end Go.Proofs.YtkaodfmfkafjfaaDoor
