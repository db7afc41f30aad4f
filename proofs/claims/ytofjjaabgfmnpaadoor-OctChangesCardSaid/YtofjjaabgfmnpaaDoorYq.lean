/- Zones: the meet of two. -/
import Derived.Test.YtofjjaabgfmnpaaDoorYp
namespace Go.Proofs.YtofjjaabgfmnpaaDoor
open Go.RowKit
set_option linter.unusedVariables false

/-- What is answered, in one form. -/
def ZaOne (w w' : World) (Ni : Int) (len : Nat) (ok : Prop) (L : List Ce) (N' : Int) (x' : Option Addr) (k cp : Nat) (ob : Bool) : Prop :=
  (ob = false ∧ ¬ ok ∧ N' = 0 ∧ x' = none ∧ k = 0 ∧ cp = 0) ∨ (ob = true ∧ ok ∧ N' = Ni ∧ k = len ∧ ∃ g, x' = some ⟨g, 0, none⟩ ∧ w.heap.size ≤ g ∧ RowC w' g 0 L)
theorem za_split {w w' : World} {Ni : Int} {len : Nat} {ok : Prop} {L : List Ce} {e : Ending} (h : ((¬ ok ∧ e = .returned (.tuple #[(.agg #[.int .i64 0, .slice none 0 0]), .bool false, .nilIface])) ∨
    (ok ∧ ∃ g cp, e = .returned (.tuple #[(.agg #[.int .i64 Ni, (.slice (some ⟨g, 0, none⟩) len cp)]), .bool true, .nilIface]) ∧ w.heap.size ≤ g ∧ RowC w' g 0 L))) :
    ∃ (N' : Int) (x' : Option Addr) (k cp : Nat) (ob : Bool), e = .returned (.tuple #[(.agg #[.int .i64 N', (.slice x' k cp)]), .bool ob, .nilIface]) ∧ ZaOne w w' Ni len ok L N' x' k cp ob := by
  rcases h with ⟨h1, h2⟩ | ⟨h1, g, cp, h2, h3, h4⟩
  · exact ⟨0, none, 0, 0, false, h2, .inl ⟨rfl, h1, rfl, rfl, rfl, rfl⟩⟩
  · exact ⟨Ni, some ⟨g, 0, none⟩, len, cp, true, h2, .inr ⟨rfl, h1, rfl, rfl, g, rfl, h3, h4⟩⟩

theorem sz_min {n k : Nat} {A B : Mat} (hA : Sz n k A) (hB : Sz n k B) : Sz n k (With2 minB A B) := by
  intro i j hi hj v hv
  rcases minB_cases (A i j) (B i j) with e | e
  · exact hA i j hi hj v (e.symm.trans hv)
  · exact hB i j hi hj v (e.symm.trans hv)

set_option maxRecDepth 20000 in
set_option maxHeartbeats 8000000 in
theorem meet_any (N M : Int) (x y : Option Addr) (len c len' c' : Nat) (l m : List Ce) (a : Nat → Addr) (w : World) (hS : ErrS w a) (hA : CsAt w x l) (hB : CsAt w y m) (hl : Hid (len = l.length)) (hm : Hid (len' = m.length)) (hn : len ≤ 1000) (hn' : len' ≤ 1000) :
    Calls Tryd.prog 29 #[(.agg #[.int .i64 N, (.slice x len c)]), (.agg #[.int .i64 M, (.slice y len' c')])] w fun e w' =>
      ZrPost w a (pairErr N l M m) N len (NoNeg (nOf N) (tg (nOf N) (With2 minB (matOf (nOf N) l) (matOf (nOf N) m)))) (tellL (nOf N) (tg (nOf N) (With2 minB (matOf (nOf N) l) (matOf (nOf N) m)))) e w' := by
  have s0 := (((St.startEC2 hS hA hB).box2 30 (.int .i64 N) (.slice x len c)).box2 30 (.int .i64 M) (.slice y len' c')).box2 30 (.int .i64 0) (.slice none 0 0)
  simp only [World.size_alloc] at s0
  obtain ⟨er, her⟩ : ∃ e, e = pairErr N l M m := ⟨_, rfl⟩
  have HP : Hid (∀ W : World, ErrS W a → CsAt W x l → CsAt W y m → Calls Tryd.prog 65 #[(.agg #[.int .i64 N, (.slice x len c)]), (.agg #[.int .i64 M, (.slice y len' c')])] W fun e w' => e = .returned (erV a er) ∧ Below W.heap.size W w') := fun W h1 h2 h3 => by rw [her]; exact pairError_any N M x y len c len' c' l m a W h1 h2 h3 hl hm hn hn'
  rw [← her]
  by_cases h0 : er = 0
  · have hNM : N = M := (pairErr_0 (her.symm.trans h0)).2.2
    subst hNM
    have R := right2 (her.symm.trans h0)
    rw [← hl.out] at R
    obtain ⟨n, hnn⟩ : ∃ n, n = nOf N := ⟨_, rfl⟩
    rw [← hnn] at R ⊢
    have hlm : len' = len := by rw [hm.out, ← R.hm]
    subst hlm
    have P := hide (parts R x y c c')
    obtain ⟨D, hD⟩ : ∃ D, D = With2 minB (matOf n l) (matOf n m) := ⟨_, rfl⟩
    have HW : Hid (∀ (W : World) (g cp h ch : Nat), GrI W g n (encM (matOf n l)) → GrI W h n (encM (matOf n m)) → Calls Tryd.prog 68 #[(.agg #[.int .i64 n, (.slice (some ⟨g, 0, none⟩) len' cp)]), (.agg #[.int .i64 n, (.slice (some ⟨h, 0, none⟩) len' ch)]), .func (.func 70) #[] #[]] W fun e w' => GrPost W n len' (encM D) e w') := fun W g cp h ch k1 k2 => by
      rw [hD]
      exact (with_any _ n g cp h ch len' _ _ minI W k1 k2 R.hll (by have := R.hn; omega) enters_min mk_min).mono fun _ _ k => k.congr fun i j hi hj => (enc_min (R.sl.ok (by omega) hi hj) (R.sm.ok (by omega) hi hj)).symm
    have HT : Hid (∀ (W : World) (g cp : Nat), GrI W g n (encM D) → Calls Tryd.prog 47 #[(.agg #[.int .i64 n, (.slice (some ⟨g, 0, none⟩) len' cp)])] W fun e w' => ZaPost W N len' (NoNeg n (tg n D)) (tellL n (tg n D)) e w') := fun W g cp h => tellClosed_any N n g cp len' 1099511627776 D W h R.hll R.hn R.hN (by rw [hD]; exact sz_min R.sl R.sm) (by omega)
    obtain ⟨fA, hfA⟩ : ∃ A, A = encM (matOf n l) := ⟨_, rfl⟩
    obtain ⟨fB, hfB⟩ : ∃ B, B = encM (matOf n m) := ⟨_, rfl⟩
    have PbA : Hid (∀ W : World, CsAt W x l → Calls Tryd.prog 48 #[(.agg #[.int .i64 N, (.slice x len' c)])] W fun e w' => GrPost W n len' fA e w') := by rw [hfA]; exact P.out.bA
    have PbB : Hid (∀ W : World, CsAt W y m → Calls Tryd.prog 48 #[(.agg #[.int .i64 N, (.slice y len' c')])] W fun e w' => GrPost W n len' fB e w') := by rw [hfB]; exact P.out.bB
    rw [← hfA, ← hfB] at HW
    rw [← hD]
    rw [h0] at HP ⊢
    rw [erV_0] at HP
    obtain ⟨ok, hok⟩ : ∃ ok, ok = NoNeg n (tg n D) := ⟨_, rfl⟩
    obtain ⟨L, hL⟩ : ∃ L, L = tellL n (tg n D) := ⟨_, rfl⟩
    obtain ⟨fD, hfD⟩ : ∃ f, f = encM D := ⟨_, rfl⟩
    rw [← hok, ← hL] at HT ⊢
    rw [← hfD] at HT HW
    clear hfA hfB hfD hok hL hD P R her h0 hl hm hnn hS hA hB
    go_enter Tryd.func29, Tryd.ntmps29
    go_wp2_with fail
    refine (HP.out _ s0.sent.1 s0.sent.2.1 s0.sent.2.2).mono ?_
    rintro e w1 ⟨rfl, hb1⟩
    (have s1 := s0.call hb1; have q1 := s1.hold; simp only [Holds, and_true] at q1)
    clear s0 hb1 HP
    go_wp2_with fail
    go_region_with (first
      | (go_at_call_of 48 (Value.agg #[.int .i64 N, .slice x len' c]); refine (PbA.out _ s1.drew.sent.2.1).mono ?_; rintro e w2 ⟨g2, cp2, rfl, hg2, hG2, hb2⟩; have s2 := s1.drew.call hb2; have q2 := s2.hold; simp only [Holds, and_true] at q2)
      | (go_at_call_of 48 (Value.agg #[.int .i64 N, .slice y len' c']); refine (PbB.out _ s2.sent.2.2).mono ?_; rintro e w3 ⟨g3, cp3, rfl, hg3, hG3, hb3⟩; have hG2' := hG2.below hb3; have s3 := s2.call hb3; have q3 := s3.hold; simp only [Holds, and_true] at q3)
      | (go_at_call 68; refine (HW.out _ g2 cp2 g3 cp3 hG2' hG3).mono ?_; rintro e w4 ⟨g4, cp4, rfl, hg4, hG4, hb4⟩; have s4 := s3.call hb4; have q4 := s4.hold; simp only [Holds, and_true] at q4)
      | (go_at_call 47; refine (HT.out _ g4 cp4 hG4).mono ?_; rintro e w5 ⟨hb5, h5⟩; obtain ⟨N5, x5, k5, c5, ob, rfl, h5'⟩ := za_split h5; have s5 := s4.call hb5; have q5 := s5.hold; simp only [Holds, and_true] at q5))
    all_goals
      have sz4 : w.heap.size + 1 + 1 < w4.heap.size := q4.1.2.1
      have H5 := hide h5'
      clear h5 h5'
      go_wp2_with fail
      refine bodyPost_ret (v := .tuple #[(.agg #[.int .i64 N5, (.slice x5 k5 c5)]), .bool ob, .nilIface]) (by simp [results, Tryd.results29, go_sem, q5]) rfl ⟨?_, ?_⟩
      · repeat' (first | exact s5.bel | refine Below.setCell ?_ (by first | (simp; done) | (simp; omega)) _)
      · rcases H5.out with ⟨rfl, h1, rfl, rfl, rfl, rfl⟩ | ⟨rfl, h1, rfl, rfl, g5, rfl, hg5, hR5⟩
        · exact .inr (.inl ⟨rfl, h1, rfl⟩)
        · exact .inr (.inr ⟨rfl, h1, g5, c5, rfl, by omega, (hR5.other (by show w.heap.size + 1 + 1 ≠ g5; omega) _).other (by show w.heap.size + 1 + 1 ≠ g5; omega) _⟩)
  · rw [erV_ne h0] at HP
    have H0 := hide h0
    clear h0 hS hA hB hl hm her
    go_enter Tryd.func29, Tryd.ntmps29
    go_wp2_with fail
    refine (HP.out _ s0.sent.1 s0.sent.2.1 s0.sent.2.2).mono ?_
    rintro e w1 ⟨rfl, hb1⟩
    (have s1 := s0.call hb1; have q1 := s1.hold; simp only [Holds, and_true] at q1)
    go_wp2_with fail
    refine bodyPost_ret (v := .tuple #[(.agg #[.int .i64 0, .slice none 0 0]), .bool false, .iface 169 (.pointer (some (a (er.toNat - 1))))]) (by simp [results, Tryd.results29, go_sem, q1]) rfl ⟨?_, .inl ⟨H0.out, by rw [erV_ne H0.out]⟩⟩
    repeat' (first | exact s1.bel | refine Below.setCell ?_ (by first | (simp; done) | (simp; omega)) _)
end Go.Proofs.YtofjjaabgfmnpaaDoor
