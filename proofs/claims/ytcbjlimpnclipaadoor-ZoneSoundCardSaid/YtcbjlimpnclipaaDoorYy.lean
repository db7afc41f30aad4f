/- Zones: zone.Forget and zone.Assign. -/
import Derived.Test.YtcbjlimpnclipaaDoorYx
namespace Go.Proofs.YtcbjlimpnclipaaDoor
open Go.RowKit
set_option linter.unusedVariables false

def foErr (N : Int) (l : List Ce) (x : Int) : Int := firstE [zErr N l, varErr N 1 x]
def asErr (N : Int) (l : List Ce) (x y c : Int) : Int := firstE [zErr N l, varErr N 1 x, varErr N 0 y, numErr c]

set_option maxRecDepth 20000 in
set_option maxHeartbeats 4000000 in
theorem forget_any (N x : Int) (s : Option Addr) (c0 len : Nat) (l : List Ce) (a : Nat → Addr) (w : World) (hS : ErrS w a) (hA : CsAt w s l) (hl : Hid (len = l.length)) (hlen : len ≤ 1000) :
    Calls Tryd.prog 30 #[(.agg #[.int .i64 N, (.slice s len c0)]), .int .i64 x] w fun e w' =>
      ZrPost w a (foErr N l x) N len (NoNeg (nOf N) (fw (matOf (nOf N) l) (nOf N))) (tellL (nOf N) (woM (fw (matOf (nOf N) l) (nOf N)) x.toNat)) e w' := by
  have s0 := (((St.startEC hS hA).box2 30 (.int .i64 N) (.slice s len c0)).box1 3 (.int .i64 x)).box2 30 (.int .i64 0) (.slice none 0 0)
  simp only [World.size_alloc] at s0
  have q0 := s0.hold
  simp only [Holds, and_true] at q0
  obtain ⟨e1, he1⟩ : ∃ e, e = zErr N l := ⟨_, rfl⟩
  obtain ⟨e2, he2⟩ : ∃ e, e = varErr N 1 x := ⟨_, rfl⟩
  obtain ⟨er, her⟩ : ∃ e, e = foErr N l x := ⟨_, rfl⟩
  have HV : Hid (∀ W : World, ErrS W a → CsAt W s l → Calls Tryd.prog 16 #[(.agg #[.int .i64 N, (.slice s len c0)])] W fun e w' => e = .returned (erV a e1) ∧ Below W.heap.size W w') := fun W h1 h2 => by rw [he1]; exact valid_any N s c0 len l a W h1 h2 hl hlen
  have HX : Hid (∀ (W : World), ErrS W a → Calls Tryd.prog 63 #[(.agg #[.int .i64 N, (.slice s len c0)]), .int .i64 1, .int .i64 x] W fun e w' => e = .returned (erV a e2) ∧ Below W.heap.size W w') := fun W h => by rw [he2]; exact varErr_any N 1 x s len c0 a W h
  have HF : Hid (∀ (W : World) (t : TypeId), Calls Tryd.prog 43 #[.slice (some ⟨W.heap.size, 0, none⟩) 2 2] (W.alloc (.cells #[erV a e1, erV a e2] t)) fun e w' => e = .returned (erV a er) ∧ w' = (W.alloc (.cells #[erV a e1, erV a e2] t))) := fun W t => by
    rw [her]; unfold foErr; rw [← he1, ← he2]; exact first2 a _ _ t W
  have hcl : ∀ x, (erV a x).cells = #[erV a x] := erV_cells a
  unfold Value.cells at hcl
  rw [← her]
  by_cases h0 : er = 0
  · have h1 : firstE [zErr N l, varErr N 1 x] = 0 := by have := her; unfold foErr at this; rw [← this]; exact h0
    rw [firstE_0, firstE_0] at h1
    obtain ⟨hz, hv1, -⟩ := h1
    obtain ⟨z1, z2, z3, z4, z5, z6⟩ := zErr_0 hz
    obtain ⟨v1, v2⟩ := varErr_0 hv1
    obtain ⟨n, hn⟩ : ∃ n, n = nOf N := ⟨_, rfl⟩
    rw [← hn] at z1 z2 z3 z4 ⊢
    have hpos : 1 ≤ n * n := Nat.mul_le_mul z2 z2
    have hll : Hid (len = n * n) := by show _ = _; rw [hl.out]; exact z4
    obtain ⟨x', hx'⟩ : ∃ k : Nat, (k : Int) = x := ⟨x.toNat, by omega⟩
    have ex : x.toNat = x' := by omega
    rw [ex]
    subst hx'
    have HT : Hid (∀ W : World, CsAt W s l → W.cell? ⟨w.heap.size + 1, 0, none⟩ = some (.int .i64 x') → Calls Tryd.prog 64 #[(.agg #[.int .i64 N, (.slice s len c0)]), .func (.func 65) #[] #[.pointer (some ⟨w.heap.size + 1, 0, none⟩)]] W fun e w' => ZaPost W N len (NoNeg n (fw (matOf n l) n)) (tellL n (woM (fw (matOf n l) n) x')) e w') := by
      intro W h hx
      obtain ⟨b, off, rfl, hR⟩ := h.row (by omega)
      exact tellChanged_any _ _ N n b off c0 len l _ W hR hl hll ⟨z2, z3⟩ z1 (sz_mat z4 z6) enters_fo (chg_fo n len x' (w.heap.size + 1) _ W hx hll ⟨z2, z3⟩)
    obtain ⟨L, hL⟩ : ∃ L, L = tellL n (woM (fw (matOf n l) n) x') := ⟨_, rfl⟩
    obtain ⟨ok, hok⟩ : ∃ ok, ok = NoNeg n (fw (matOf n l) n) := ⟨_, rfl⟩
    rw [← hL, ← hok] at HT ⊢
    rw [h0] at HF ⊢
    rw [erV_0] at HF
    clear hL hok hS hA hl hll z1 z2 z3 z4 z5 z6 hz hn hpos h0 hv1 v1 v2 ex her he1 he2
    go_enter Tryd.func30, Tryd.ntmps30
    go_wp2_with fail
    (go_region_held3 (fun w' => w'.cell? ⟨w.heap.size + 1 + 1, 0, none⟩ = some (.int .i64 0) ∧ w'.cell? ⟨w.heap.size + 1 + 1, 1, none⟩ = some (.slice none 0 0) ∧ w'.cell? ⟨w.heap.size + 1, 0, none⟩ = some (.int .i64 x') ∧ w'.cell? ⟨w.heap.size, 0, none⟩ = some (.int .i64 N) ∧ w'.cell? ⟨w.heap.size, 1, none⟩ = some (.slice s len c0) ∧ St w w' (EC a s l) ((w.heap.size + 1 + 1, 0, Value.int .i64 0) :: (w.heap.size + 1 + 1, 1, Value.slice none 0 0) :: (w.heap.size + 1, 0, Value.int .i64 x') :: (w.heap.size, 0, Value.int .i64 N) :: (w.heap.size, 1, Value.slice s len c0) :: [])) (first | (exact keepSt0 ((w.heap.size + 1 + 1, 0, Value.int .i64 0) :: (w.heap.size + 1 + 1, 1, Value.slice none 0 0) :: (w.heap.size + 1, 0, Value.int .i64 x') :: (w.heap.size, 0, Value.int .i64 N) :: (w.heap.size, 1, Value.slice s len c0) :: []) s0.drew) | (exact keepSt ((w.heap.size + 1 + 1, 0, Value.int .i64 0) :: (w.heap.size + 1 + 1, 1, Value.slice none 0 0) :: (w.heap.size + 1, 0, Value.int .i64 x') :: (w.heap.size, 0, Value.int .i64 N) :: (w.heap.size, 1, Value.slice s len c0) :: []) (by assumption) (by assumption)) | (exact keepSt ((w.heap.size + 1 + 1, 0, Value.int .i64 0) :: (w.heap.size + 1 + 1, 1, Value.slice none 0 0) :: (w.heap.size + 1, 0, Value.int .i64 x') :: (w.heap.size, 0, Value.int .i64 N) :: (w.heap.size, 1, Value.slice s len c0) :: []) ((Below.refl _ _).alloc (Nat.le_refl _) _) (by assumption)) | assumption) (first | (go_at_call 16; refine (HV.out _ (keepEC1 (w := w) (x := s) (l := l) ((w.heap.size + 1 + 1, 0, Value.int .i64 0) :: (w.heap.size + 1 + 1, 1, Value.slice none 0 0) :: (w.heap.size + 1, 0, Value.int .i64 x') :: (w.heap.size, 0, Value.int .i64 N) :: (w.heap.size, 1, Value.slice s len c0) :: []) (by assumption)) (keepEC2 (w := w) (a := a) ((w.heap.size + 1 + 1, 0, Value.int .i64 0) :: (w.heap.size + 1 + 1, 1, Value.slice none 0 0) :: (w.heap.size + 1, 0, Value.int .i64 x') :: (w.heap.size, 0, Value.int .i64 N) :: (w.heap.size, 1, Value.slice s len c0) :: []) (by assumption))).mono ?_; rintro e w2 ⟨rfl, hb2⟩) | (go_at_call 63; refine (HX.out _ (keepEC1 (w := w) (x := s) (l := l) ((w.heap.size + 1 + 1, 0, Value.int .i64 0) :: (w.heap.size + 1 + 1, 1, Value.slice none 0 0) :: (w.heap.size + 1, 0, Value.int .i64 x') :: (w.heap.size, 0, Value.int .i64 N) :: (w.heap.size, 1, Value.slice s len c0) :: []) (by assumption))).mono ?_; rintro e w2 ⟨rfl, hb2⟩) | (go_at_call 43; refine (HF.out _ _).mono ?_; rintro e w2 ⟨rfl, rfl⟩)); have s5 := keepSt_st (w := w) (W := w2.alloc (.cells #[erV a e1, erV a e2] 32)) (Z := EC a s l) ((w.heap.size + 1 + 1, 0, Value.int .i64 0) :: (w.heap.size + 1 + 1, 1, Value.slice none 0 0) :: (w.heap.size + 1, 0, Value.int .i64 x') :: (w.heap.size, 0, Value.int .i64 N) :: (w.heap.size, 1, Value.slice s len c0) :: []) (by assumption); obtain ⟨W5, hW5⟩ : ∃ W, W = w2.alloc (.cells #[erV a e1, erV a e2] 32) := ⟨_, rfl⟩; rw [← hW5] at s5 ⊢; clear hW5 s0 q0 HV HX HF hcl; have q5 := s5.hold; simp only [Holds, and_true] at q5)
    go_wp2_with fail
    refine (HT.out _ s5.sent.2 q5.2.2.1.1).mono ?_
    rintro e w8 ⟨hb8, h8⟩
    have s8 := s5.call hb8
    have q8 := s8.hold
    simp only [Holds, and_true] at q8
    have sz2 : w.heap.size + 1 + 1 < W5.heap.size := q5.1.2.1
    clear s5 hb8 q5
    rcases h8 with ⟨hno, rfl⟩ | ⟨hyes, g4, cp4, rfl, hg4, hR4⟩
    · go_wp2_with fail
      refine bodyPost_ret (v := .tuple #[(.agg #[.int .i64 0, .slice none 0 0]), .bool false, .nilIface]) (by simp [results, Tryd.results30, go_sem, q8]) rfl ⟨?_, .inr (.inl ⟨rfl, hno, rfl⟩)⟩
      repeat' (first | exact s8.bel | refine Below.setCell ?_ (by first | (simp; done) | (simp; omega)) _)
    · go_wp2_with fail
      refine bodyPost_ret (v := .tuple #[(.agg #[.int .i64 N, (.slice (some ⟨g4, 0, none⟩) len cp4)]), .bool true, .nilIface]) (by simp [results, Tryd.results30, go_sem, q8]) rfl ⟨?_, .inr (.inr ⟨rfl, hyes, g4, cp4, rfl, by omega, ?_⟩)⟩
      · repeat' (first | exact s8.bel | refine Below.setCell ?_ (by first | (simp; done) | (simp; omega)) _)
      · exact (hR4.other (by show w.heap.size + 1 + 1 ≠ g4; omega) _).other (by show w.heap.size + 1 + 1 ≠ g4; omega) _
  · rw [erV_ne h0] at HF
    have H0 := hide h0
    clear h0 hS hA hl her he1 he2
    go_enter Tryd.func30, Tryd.ntmps30
    go_wp2_with fail
    (go_region_held3 (fun w' => w'.cell? ⟨w.heap.size + 1 + 1, 0, none⟩ = some (.int .i64 0) ∧ w'.cell? ⟨w.heap.size + 1 + 1, 1, none⟩ = some (.slice none 0 0) ∧ w'.cell? ⟨w.heap.size + 1, 0, none⟩ = some (.int .i64 x) ∧ w'.cell? ⟨w.heap.size, 0, none⟩ = some (.int .i64 N) ∧ w'.cell? ⟨w.heap.size, 1, none⟩ = some (.slice s len c0) ∧ St w w' (EC a s l) ((w.heap.size + 1 + 1, 0, Value.int .i64 0) :: (w.heap.size + 1 + 1, 1, Value.slice none 0 0) :: (w.heap.size + 1, 0, Value.int .i64 x) :: (w.heap.size, 0, Value.int .i64 N) :: (w.heap.size, 1, Value.slice s len c0) :: [])) (first | (exact keepSt0 ((w.heap.size + 1 + 1, 0, Value.int .i64 0) :: (w.heap.size + 1 + 1, 1, Value.slice none 0 0) :: (w.heap.size + 1, 0, Value.int .i64 x) :: (w.heap.size, 0, Value.int .i64 N) :: (w.heap.size, 1, Value.slice s len c0) :: []) s0.drew) | (exact keepSt ((w.heap.size + 1 + 1, 0, Value.int .i64 0) :: (w.heap.size + 1 + 1, 1, Value.slice none 0 0) :: (w.heap.size + 1, 0, Value.int .i64 x) :: (w.heap.size, 0, Value.int .i64 N) :: (w.heap.size, 1, Value.slice s len c0) :: []) (by assumption) (by assumption)) | (exact keepSt ((w.heap.size + 1 + 1, 0, Value.int .i64 0) :: (w.heap.size + 1 + 1, 1, Value.slice none 0 0) :: (w.heap.size + 1, 0, Value.int .i64 x) :: (w.heap.size, 0, Value.int .i64 N) :: (w.heap.size, 1, Value.slice s len c0) :: []) ((Below.refl _ _).alloc (Nat.le_refl _) _) (by assumption)) | assumption) (first | (go_at_call 16; refine (HV.out _ (keepEC1 (w := w) (x := s) (l := l) ((w.heap.size + 1 + 1, 0, Value.int .i64 0) :: (w.heap.size + 1 + 1, 1, Value.slice none 0 0) :: (w.heap.size + 1, 0, Value.int .i64 x) :: (w.heap.size, 0, Value.int .i64 N) :: (w.heap.size, 1, Value.slice s len c0) :: []) (by assumption)) (keepEC2 (w := w) (a := a) ((w.heap.size + 1 + 1, 0, Value.int .i64 0) :: (w.heap.size + 1 + 1, 1, Value.slice none 0 0) :: (w.heap.size + 1, 0, Value.int .i64 x) :: (w.heap.size, 0, Value.int .i64 N) :: (w.heap.size, 1, Value.slice s len c0) :: []) (by assumption))).mono ?_; rintro e w2 ⟨rfl, hb2⟩) | (go_at_call 63; refine (HX.out _ (keepEC1 (w := w) (x := s) (l := l) ((w.heap.size + 1 + 1, 0, Value.int .i64 0) :: (w.heap.size + 1 + 1, 1, Value.slice none 0 0) :: (w.heap.size + 1, 0, Value.int .i64 x) :: (w.heap.size, 0, Value.int .i64 N) :: (w.heap.size, 1, Value.slice s len c0) :: []) (by assumption))).mono ?_; rintro e w2 ⟨rfl, hb2⟩) | (go_at_call 43; refine (HF.out _ _).mono ?_; rintro e w2 ⟨rfl, rfl⟩)); have s5 := keepSt_st (w := w) (W := w2.alloc (.cells #[erV a e1, erV a e2] 32)) (Z := EC a s l) ((w.heap.size + 1 + 1, 0, Value.int .i64 0) :: (w.heap.size + 1 + 1, 1, Value.slice none 0 0) :: (w.heap.size + 1, 0, Value.int .i64 x) :: (w.heap.size, 0, Value.int .i64 N) :: (w.heap.size, 1, Value.slice s len c0) :: []) (by assumption); obtain ⟨W5, hW5⟩ : ∃ W, W = w2.alloc (.cells #[erV a e1, erV a e2] 32) := ⟨_, rfl⟩; rw [← hW5] at s5 ⊢; clear hW5 s0 q0 HV HX HF hcl; have q5 := s5.hold; simp only [Holds, and_true] at q5)
    go_wp2_with fail
    refine bodyPost_ret (v := .tuple #[(.agg #[.int .i64 0, .slice none 0 0]), .bool false, .iface 154 (.pointer (some (a (er.toNat - 1))))]) (by simp [results, Tryd.results30, go_sem, q5]) rfl ⟨?_, .inl ⟨H0.out, by rw [erV_ne H0.out]⟩⟩
    repeat' (first | exact s5.bel | refine Below.setCell ?_ (by first | (simp; done) | (simp; omega)) _)
end Go.Proofs.YtcbjlimpnclipaaDoor
