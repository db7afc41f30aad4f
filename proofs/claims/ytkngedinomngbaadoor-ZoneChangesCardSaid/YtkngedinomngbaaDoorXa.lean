/- Zones: does one lie in another one (zone.Within); the numbers of a variable (grid.Span, zone.Bounds). -/
import Derived.Test.YtkngedinomngbaaDoorYp
import Derived.Test.YtkngedinomngbaaDoorYu
import Derived.Test.YtkngedinomngbaaDoorYl
namespace Go.Proofs.YtkngedinomngbaaDoor
open Go.RowKit
set_option linter.unusedVariables false

/-- What Within answers. -/
def WiPost (w : World) (a : Nat → Addr) (er : Int) (b : Bool) (e : Ending) (w' : World) : Prop :=
  Below w.heap.size w w' ∧ ((er ≠ 0 ∧ e = .returned (.tuple #[.bool false, erV a er])) ∨ (er = 0 ∧ e = .returned (.tuple #[.bool b, .nilIface])))
/-- Does the closed one lie within the other's bounds? -/
def wiB (n : Nat) (A B : Mat) : Bool := !nnB n (fw A n) || inB n (encM (fw A n)) (encM B)

set_option maxRecDepth 20000 in
set_option maxHeartbeats 8000000 in
theorem zwithin_any (N M : Int) (x y : Option Addr) (len c len' c' : Nat) (l m : List Ce) (a : Nat → Addr) (w : World) (hS : ErrS w a) (hA : CsAt w x l) (hB : CsAt w y m) (hl : Hid (len = l.length)) (hm : Hid (len' = m.length)) (hn : len ≤ 1000) (hn' : len' ≤ 1000) :
    Calls Tryd.prog 29 #[(.agg #[.int .i64 N, (.slice x len c)]), (.agg #[.int .i64 M, (.slice y len' c')])] w fun e w' =>
      WiPost w a (pairErr N l M m) (wiB (nOf N) (matOf (nOf N) l) (matOf (nOf N) m)) e w' := by
  have s0 := ((St.startEC2 hS hA hB).box2 30 (.int .i64 N) (.slice x len c)).box2 30 (.int .i64 M) (.slice y len' c')
  simp only [World.size_alloc] at s0
  obtain ⟨er, her⟩ : ∃ e, e = pairErr N l M m := ⟨_, rfl⟩
  have HP : Hid (∀ W : World, ErrS W a → CsAt W x l → CsAt W y m → Calls Tryd.prog 61 #[(.agg #[.int .i64 N, (.slice x len c)]), (.agg #[.int .i64 M, (.slice y len' c')])] W fun e w' => e = .returned (erV a er) ∧ Below W.heap.size W w') := fun W h1 h2 h3 => by rw [her]; exact pairError_any N M x y len c len' c' l m a W h1 h2 h3 hl hm hn hn'
  rw [← her]
  by_cases h0 : er = 0
  · have hNM : N = M := (pairErr_0 (her.symm.trans h0)).2.2
    subst hNM
    have R := right2 (her.symm.trans h0)
    rw [← hl.out] at R
    obtain ⟨n, hnn⟩ : ∃ n, n = nOf N := ⟨_, rfl⟩
    rw [← hnn] at R ⊢
    have hlm : len' = len := by rw [hm.out, ← R.hm]
    subst hlm
    have P := hide (parts R x y c c')
    obtain ⟨A, hAA⟩ : ∃ A, A = matOf n l := ⟨_, rfl⟩
    obtain ⟨B, hBB⟩ : ∃ B, B = matOf n m := ⟨_, rfl⟩
    have PbA : Hid (∀ W : World, CsAt W x l → Calls Tryd.prog 47 #[(.agg #[.int .i64 N, (.slice x len' c)])] W fun e w' => GrPost W n len' (encM A) e w') := by rw [hAA]; exact P.out.bA
    have PbB : Hid (∀ W : World, CsAt W y m → Calls Tryd.prog 47 #[(.agg #[.int .i64 N, (.slice y len' c')])] W fun e w' => GrPost W n len' (encM B) e w') := by rw [hBB]; exact P.out.bB
    have PcA : Hid (∀ (W : World) (g cp : Nat), GrI W g n (encM A) → Calls Tryd.prog 62 #[(.agg #[.int .i64 n, (.slice (some ⟨g, 0, none⟩) len' cp)])] W fun e w' => ClPost W n len' A e w') := by rw [hAA]; exact P.out.cA
    have HW : Hid (∀ (W : World) (g cp h ch : Nat), GrI W g n (encM (fw A n)) → GrI W h n (encM B) → Calls Tryd.prog 51 #[(.agg #[.int .i64 n, (.slice (some ⟨g, 0, none⟩) len' cp)]), (.agg #[.int .i64 n, (.slice (some ⟨h, 0, none⟩) len' ch)])] W fun e w' => e = .returned (.bool (inB n (encM (fw A n)) (encM B))) ∧ Below W.heap.size W w') := fun W g cp h ch k1 k2 => gwithin_any n g cp h ch len' _ _ W k1 k2 R.hll (by have := R.hn; omega)
    rw [← hAA, ← hBB]
    rw [h0] at HP ⊢
    rw [erV_0] at HP
    obtain ⟨bb, hbb⟩ : ∃ b, b = inB n (encM (fw A n)) (encM B) := ⟨_, rfl⟩
    rw [← hbb] at HW
    have Hbb := hide hbb
    clear hAA hBB P R her h0 hl hm hnn hS hA hB hbb
    go_enter Tryd.func29, Tryd.ntmps29
    go_wp2_with fail
    refine (HP.out _ s0.sent.1 s0.sent.2.1 s0.sent.2.2).mono ?_
    rintro e w1 ⟨rfl, hb1⟩
    (have s1 := s0.call hb1; have q1 := s1.hold; simp only [Holds, and_true] at q1; clear s0 hb1; try clear q0)
    go_wp2_with fail
    refine (PbA.out _ s1.sent.2.1).mono ?_
    rintro e w2 ⟨g2, cp2, rfl, hg2, hG2, hb2⟩
    (have s2 := s1.call hb2; have q2 := s2.hold; simp only [Holds, and_true] at q2; clear s1 hb2; try clear q1)
    go_wp2_with fail
    refine (PcA.out _ g2 cp2 hG2).mono ?_
    rintro e w3 ⟨hb3, h3⟩
    (have s3 := s2.call hb3; have q3 := s3.hold; simp only [Holds, and_true] at q3; clear s2 hb3; try clear q2)
    clear hG2
    rcases h3 with ⟨hno, rfl⟩ | ⟨hyes, g3, cp3, rfl, hg3, hG3⟩
    · have s4 := s3.box2 82 (.int .i64 0) (.slice none 0 0)
      have Hw : Hid (wiB n A B = true) := by show _ = _; unfold wiB; rw [nnB_no hno]; rfl
      go_wp2_with fail
      go_region_with fail
      all_goals
        go_wp2_with fail
        refine bodyPost_ret (v := .tuple #[.bool true, .nilIface]) (by simp [results, Tryd.results29, go_sem]) rfl ⟨s4.drew.bel, .inr ⟨rfl, by rw [Hw.out]⟩⟩
    · have s4 := s3.box2 82 (.int .i64 n) (.slice (some ⟨g3, 0, none⟩) len' cp3)
      have hG4 := hG3.below ((Below.refl _ _).alloc (Nat.le_refl _) (.cells #[.int .i64 n, .slice (some ⟨g3, 0, none⟩) len' cp3] 82))
      have Hw : Hid (wiB n A B = bb) := by show _ = _; unfold wiB; rw [nnB_yes hyes, ← Hbb.out]; rfl
      have hbW := s4.bel
      have s5 := s4.re.both (Y := fun W => GrI W g3 n (encM (fw A n))) hG4 (fun _ _ q hb => GrI.stays hG4.lt q hb)
      obtain ⟨b7, hb7⟩ : ∃ b, b = w3.heap.size := ⟨_, rfl⟩
      rw [← hb7] at s5
      obtain ⟨W4, hW4⟩ : ∃ W, W = w3.alloc (.cells #[.int .i64 n, .slice (some ⟨g3, 0, none⟩) len' cp3] 82) := ⟨_, rfl⟩
      rw [← hW4] at s5 hbW
      have q5 := s5.hold
      simp only [Holds, and_true] at q5
      go_wp2_with fail
      rw [← hb7, ← hW4]
      clear hW4
      clear s4 hG4 hG3 hb7
      go_region_held3 (fun w' => w'.cell? ⟨b7, 0, none⟩ = some (.int .i64 n) ∧ w'.cell? ⟨b7, 1, none⟩ = some (.slice (some ⟨g3, 0, none⟩) len' cp3) ∧ w'.cell? ⟨w.heap.size + 1, 0, none⟩ = some (.int .i64 N) ∧ w'.cell? ⟨w.heap.size + 1, 1, none⟩ = some (.slice y len' c') ∧ w'.cell? ⟨w.heap.size, 0, none⟩ = some (.int .i64 N) ∧ w'.cell? ⟨w.heap.size, 1, none⟩ = some (.slice x len' c) ∧ St W4 w' (fun W => EC2 a x l y m W ∧ GrI W g3 n (encM (fw A n))) ((b7, 0, Value.int .i64 n) :: (b7, 1, Value.slice (some ⟨g3, 0, none⟩) len' cp3) :: (w.heap.size + 1, 0, Value.int .i64 N) :: (w.heap.size + 1, 1, Value.slice y len' c') :: (w.heap.size, 0, Value.int .i64 N) :: (w.heap.size, 1, Value.slice x len' c) :: []))
        (first | (exact keepSt0 ((b7, 0, Value.int .i64 n) :: (b7, 1, Value.slice (some ⟨g3, 0, none⟩) len' cp3) :: (w.heap.size + 1, 0, Value.int .i64 N) :: (w.heap.size + 1, 1, Value.slice y len' c') :: (w.heap.size, 0, Value.int .i64 N) :: (w.heap.size, 1, Value.slice x len' c) :: []) s5.drew) | (exact keepSt ((b7, 0, Value.int .i64 n) :: (b7, 1, Value.slice (some ⟨g3, 0, none⟩) len' cp3) :: (w.heap.size + 1, 0, Value.int .i64 N) :: (w.heap.size + 1, 1, Value.slice y len' c') :: (w.heap.size, 0, Value.int .i64 N) :: (w.heap.size, 1, Value.slice x len' c) :: []) (by assumption) (by assumption)) | assumption)
        (first
          | (go_at_call 47; refine (PbB.out _ (keepSt_st (w := W4) (Z := fun W => EC2 a x l y m W ∧ GrI W g3 n (encM (fw A n))) ((b7, 0, Value.int .i64 n) :: (b7, 1, Value.slice (some ⟨g3, 0, none⟩) len' cp3) :: (w.heap.size + 1, 0, Value.int .i64 N) :: (w.heap.size + 1, 1, Value.slice y len' c') :: (w.heap.size, 0, Value.int .i64 N) :: (w.heap.size, 1, Value.slice x len' c) :: []) (by assumption)).sent.1.2.2).mono ?_; rintro e w6 ⟨g6, cp6, rfl, hg6, hG6, hb6⟩; have s6 := (keepSt_st (w := W4) (Z := fun W => EC2 a x l y m W ∧ GrI W g3 n (encM (fw A n))) ((b7, 0, Value.int .i64 n) :: (b7, 1, Value.slice (some ⟨g3, 0, none⟩) len' cp3) :: (w.heap.size + 1, 0, Value.int .i64 N) :: (w.heap.size + 1, 1, Value.slice y len' c') :: (w.heap.size, 0, Value.int .i64 N) :: (w.heap.size, 1, Value.slice x len' c) :: []) (by assumption)).call hb6)
          | (go_at_call 51; refine (HW.out _ g3 cp3 g6 cp6 s6.sent.2 hG6).mono ?_; rintro e w8 ⟨rfl, hb8⟩; have s8 := s6.call hb8))
      all_goals
        go_wp2_with fail
        refine bodyPost_ret (v := .tuple #[.bool bb, .nilIface]) (by simp [results, Tryd.results29, go_sem]) rfl ⟨hbW.trans (s8.bel.mono hbW.size), .inr ⟨rfl, by rw [Hw.out]⟩⟩
  · rw [erV_ne h0] at HP
    have H0 := hide h0
    clear h0 hS hA hB hl hm her
    go_enter Tryd.func29, Tryd.ntmps29
    go_wp2_with fail
    refine (HP.out _ s0.sent.1 s0.sent.2.1 s0.sent.2.2).mono ?_
    rintro e w1 ⟨rfl, hb1⟩
    (have s1 := s0.call hb1; have q1 := s1.hold; simp only [Holds, and_true] at q1; clear s0 hb1; try clear q0)
    go_wp2_with fail
    refine bodyPost_ret (v := .tuple #[.bool false, .iface 160 (.pointer (some (a (er.toNat - 1))))]) (by simp [results, Tryd.results29, go_sem]) rfl ⟨s1.bel, .inl ⟨H0.out, by rw [erV_ne H0.out]⟩⟩
end Go.Proofs.YtkngedinomngbaaDoor
