/- Zones: one bound more, told (zone.Guard). -/
import Derived.Test.YtkngedinomngbaaDoorYj
import Derived.Test.YtkngedinomngbaaDoorYh
import Derived.Test.YtkngedinomngbaaDoorYk
namespace Go.Proofs.YtkngedinomngbaaDoor
open Go.RowKit
set_option linter.unusedVariables false

theorem keepEC1 {w W : World} {a : Nat → Addr} {x : Option Addr} {l : List Ce} (L : List (Nat × Nat × Value)) (h : CellsAnd W L (St w W (EC a x l) L)) : ErrS W a := h.last.sent.1
theorem keepEC2 {w W : World} {a : Nat → Addr} {x : Option Addr} {l : List Ce} (L : List (Nat × Nat × Value)) (h : CellsAnd W L (St w W (EC a x l) L)) : CsAt W x l := h.last.sent.2

theorem firstE_0 {e : Int} {l : List Int} : firstE (e :: l) = 0 ↔ e = 0 ∧ firstE l = 0 := by
  by_cases h : e = 0
  · subst h; simp [firstE]
  · simp [firstE, h]

def guErr (N : Int) (l : List Ce) (i j c : Int) : Int := firstE [zErr N l, varErr N 0 i, varErr N 0 j, numErr c]
theorem varErr_0 {N first x : Int} (h : varErr N first x = 0) : first ≤ x ∧ x ≤ N := by
  unfold varErr at h
  by_cases k : x < first ∨ N < x
  · rw [if_pos k] at h; omega
  · omega
theorem numErr_0 {c : Int} (h : numErr c = 0) : c.natAbs ≤ 1099511627776 := by
  unfold numErr at h
  by_cases k : farB c 1099511627776 = true
  · rw [if_pos k] at h; omega
  · simp [farB] at k; omega

set_option maxRecDepth 20000 in
set_option maxHeartbeats 4000000 in
theorem guard_any (N i j c : Int) (x : Option Addr) (c0 len : Nat) (l : List Ce) (a : Nat → Addr) (w : World) (hS : ErrS w a) (hA : CsAt w x l) (hl : Hid (len = l.length)) (hlen : len ≤ 1000) :
    Calls Tryd.prog 35 #[(.agg #[.int .i64 N, (.slice x len c0)]), .int .i64 i, .int .i64 j, .int .i64 c] w fun e w' =>
      ZrPost w a (guErr N l i j c) N len (NoNeg (nOf N) (fw (grdM (matOf (nOf N) l) i.toNat j.toNat c) (nOf N))) (tellL (nOf N) (fw (grdM (matOf (nOf N) l) i.toNat j.toNat c) (nOf N))) e w' := by
  have s0 := ((St.startEC hS hA).box2 30 (.int .i64 N) (.slice x len c0)).box2 30 (.int .i64 0) (.slice none 0 0)
  simp only [World.size_alloc] at s0
  have q0 := s0.hold
  simp only [Holds, and_true] at q0
  obtain ⟨e1, he1⟩ : ∃ e, e = zErr N l := ⟨_, rfl⟩
  obtain ⟨e4, he4⟩ : ∃ e, e = numErr c := ⟨_, rfl⟩
  obtain ⟨e2, he2⟩ : ∃ e, e = varErr N 0 i := ⟨_, rfl⟩
  obtain ⟨e3, he3⟩ : ∃ e, e = varErr N 0 j := ⟨_, rfl⟩
  obtain ⟨er, her⟩ : ∃ e, e = guErr N l i j c := ⟨_, rfl⟩
  have HV : Hid (∀ W : World, ErrS W a → CsAt W x l → Calls Tryd.prog 19 #[(.agg #[.int .i64 N, (.slice x len c0)])] W fun e w' => e = .returned (erV a e1) ∧ Below W.heap.size W w') := fun W h1 h2 => by rw [he1]; exact valid_any N x c0 len l a W h1 h2 hl hlen
  have HX : Hid (∀ (W : World) (y : Int), ErrS W a → Calls Tryd.prog 67 #[.int .i64 y, .int .i64 0, .int .i64 N] W fun e w' => e = .returned (erV a (varErr N 0 y)) ∧ Below W.heap.size W w') := fun W y h => varErr_any N 0 y a W h
  have HN : Hid (∀ W : World, ErrS W a → Calls Tryd.prog 71 #[.int .i64 c] W fun e w' => e = .returned (erV a e4) ∧ w' = W) := fun W h => by rw [he4]; exact numErr_any c a W h
  have HF : Hid (∀ (W : World) (t : TypeId), Calls Tryd.prog 48 #[.slice (some ⟨W.heap.size, 0, none⟩) 4 4] (W.alloc (.cells #[erV a e1, erV a (varErr N 0 i), erV a (varErr N 0 j), erV a e4] t)) fun e w' => e = .returned (erV a er) ∧ w' = (W.alloc (.cells #[erV a e1, erV a (varErr N 0 i), erV a (varErr N 0 j), erV a e4] t))) := fun W t => by
    rw [her]; unfold guErr; rw [← he1, ← he4]; exact first4 a _ _ _ _ t W
  have hcl : ∀ x, (erV a x).cells = #[erV a x] := erV_cells a
  unfold Value.cells at hcl
  rw [← her]
  by_cases h0 : er = 0
  · have hall := her
    rw [h0] at hall
    have h1 : firstE [zErr N l, varErr N 0 i, varErr N 0 j, numErr c] = 0 := hall.symm
    rw [firstE_0, firstE_0, firstE_0, firstE_0] at h1
    obtain ⟨hz, hv1, hv2, hnm, -⟩ := h1
    obtain ⟨z1, z2, z3, z4, z5, z6⟩ := zErr_0 hz
    obtain ⟨v1, v2⟩ := varErr_0 hv1
    obtain ⟨v3, v4⟩ := varErr_0 hv2
    have v5 := numErr_0 hnm
    obtain ⟨n, hn⟩ : ∃ n, n = nOf N := ⟨_, rfl⟩
    rw [← hn] at z1 z2 z3 z4 ⊢
    have hpos : 1 ≤ n * n := Nat.mul_le_mul z2 z2
    have hll : Hid (len = n * n) := by show _ = _; rw [hl.out]; exact z4
    obtain ⟨i', hi'⟩ : ∃ k : Nat, (k : Int) = i := ⟨i.toNat, by omega⟩
    obtain ⟨j', hj'⟩ : ∃ k : Nat, (k : Int) = j := ⟨j.toNat, by omega⟩
    have hi2 : i' < n := by omega
    have hj2 : j' < n := by omega
    have ei : i.toNat = i' := by omega
    have ej : j.toNat = j' := by omega
    rw [ei, ej]
    have hSz := sz_mat z4 z6
    obtain ⟨d, hd⟩ : ∃ d, d = grdM (matOf n l) i' j' c := ⟨_, rfl⟩
    have hSd : Sz n 1099511627776 d := by rw [hd]; exact sz_grd hSz hi2 hj2 v5
    have HB : Hid (∀ W : World, CsAt W x l → Calls Tryd.prog 47 #[(.agg #[.int .i64 N, (.slice x len c0)])] W fun e w' => GrPost W n len (encM (matOf n l)) e w') := by
      intro W h
      exact boundsOf_cs N n c0 len _ l W h hl hll ⟨z2, z3⟩ z1
    have HG : Hid (∀ (W : World) (g cp : Nat), GrI W g n (encM (matOf n l)) → Calls Tryd.prog 74 #[(.agg #[.int .i64 n, (.slice (some ⟨g, 0, none⟩) len cp)]), .int .i64 i, .int .i64 j, .int .i64 c] W fun e w' => GrPost W n len (encM d) e w') := fun W g cp h => by
      rw [← hi', ← hj', hd]
      exact (guarded_any n g cp len i' j' c _ W h hll hi2 hj2 (by omega)).mono fun _ _ k => k.congr fun p q _ _ => gu_enc hSz (by omega) hi2 hj2 (by omega) p q
    have HT : Hid (∀ (W : World) (g cp : Nat), GrI W g n (encM d) → Calls Tryd.prog 46 #[(.agg #[.int .i64 n, (.slice (some ⟨g, 0, none⟩) len cp)])] W fun e w' => ZaPost W N len (NoNeg n (fw d n)) (tellL n (fw d n)) e w') := fun W g cp h => tellClosed_any N n g cp len 1099511627776 d W h hll ⟨z2, z3⟩ z1 hSd (by omega)
    rw [← hd]
    obtain ⟨L, hL⟩ : ∃ L, L = tellL n (fw d n) := ⟨_, rfl⟩
    obtain ⟨ok, hok⟩ : ∃ ok, ok = NoNeg n (fw d n) := ⟨_, rfl⟩
    obtain ⟨f, hf⟩ : ∃ f, f = encM (matOf n l) := ⟨_, rfl⟩
    obtain ⟨f2, hf2⟩ : ∃ f, f = encM d := ⟨_, rfl⟩
    rw [← hL, ← hok] at HT ⊢
    rw [← hf] at HG HB
    rw [← hf2] at HG HT
    rw [h0] at HF ⊢
    rw [erV_0] at HF
    clear hL hok hf hf2 hS hA hl hll z1 z2 z3 z4 z5 z6 hz hn hpos h0 hall hv1 hv2 hnm v1 v2 v3 v4 v5 hi' hj' hi2 hj2 ei ej hSz hSd hd her he1 he2 he3 he4
    clear e2 e3
    go_enter Tryd.func35, Tryd.ntmps35
    go_wp2_with fail
    go_region_held3 (fun w' => w'.cell? ⟨w.heap.size + 1, 0, none⟩ = some (.int .i64 0) ∧ w'.cell? ⟨w.heap.size + 1, 1, none⟩ = some (.slice none 0 0) ∧ w'.cell? ⟨w.heap.size, 0, none⟩ = some (.int .i64 N) ∧ w'.cell? ⟨w.heap.size, 1, none⟩ = some (.slice x len c0) ∧ St w w' (EC a x l) ((w.heap.size + 1, 0, Value.int .i64 0) :: (w.heap.size + 1, 1, Value.slice none 0 0) :: (w.heap.size, 0, Value.int .i64 N) :: (w.heap.size, 1, Value.slice x len c0) :: [])) (first | (exact keepSt0 ((w.heap.size + 1, 0, Value.int .i64 0) :: (w.heap.size + 1, 1, Value.slice none 0 0) :: (w.heap.size, 0, Value.int .i64 N) :: (w.heap.size, 1, Value.slice x len c0) :: []) s0.drew) | (exact keepSt ((w.heap.size + 1, 0, Value.int .i64 0) :: (w.heap.size + 1, 1, Value.slice none 0 0) :: (w.heap.size, 0, Value.int .i64 N) :: (w.heap.size, 1, Value.slice x len c0) :: []) (by assumption) (by assumption)) | (exact keepSt ((w.heap.size + 1, 0, Value.int .i64 0) :: (w.heap.size + 1, 1, Value.slice none 0 0) :: (w.heap.size, 0, Value.int .i64 N) :: (w.heap.size, 1, Value.slice x len c0) :: []) ((Below.refl _ _).alloc (Nat.le_refl _) _) (by assumption)) | assumption)
      (first
        | (go_at_call 19; refine (HV.out _ (keepEC1 (w := w) (x := x) (l := l) ((w.heap.size + 1, 0, Value.int .i64 0) :: (w.heap.size + 1, 1, Value.slice none 0 0) :: (w.heap.size, 0, Value.int .i64 N) :: (w.heap.size, 1, Value.slice x len c0) :: []) (by assumption)) (keepEC2 (w := w) (a := a) ((w.heap.size + 1, 0, Value.int .i64 0) :: (w.heap.size + 1, 1, Value.slice none 0 0) :: (w.heap.size, 0, Value.int .i64 N) :: (w.heap.size, 1, Value.slice x len c0) :: []) (by assumption))).mono ?_; rintro e w2 ⟨rfl, hb2⟩)
        | (go_at_call 67; refine (HX.out _ _ (keepEC1 (w := w) (x := x) (l := l) ((w.heap.size + 1, 0, Value.int .i64 0) :: (w.heap.size + 1, 1, Value.slice none 0 0) :: (w.heap.size, 0, Value.int .i64 N) :: (w.heap.size, 1, Value.slice x len c0) :: []) (by assumption))).mono ?_; rintro e w2 ⟨rfl, hb2⟩)
        | (go_at_call 71; refine (HN.out _ (keepEC1 (w := w) (x := x) (l := l) ((w.heap.size + 1, 0, Value.int .i64 0) :: (w.heap.size + 1, 1, Value.slice none 0 0) :: (w.heap.size, 0, Value.int .i64 N) :: (w.heap.size, 1, Value.slice x len c0) :: []) (by assumption))).mono ?_; rintro e w2 ⟨rfl, rfl⟩)
        | (go_at_call 48; refine (HF.out _ _).mono ?_; rintro e w2 ⟨rfl, rfl⟩))
    have s5 := keepSt_st (w := w) (W := w2.alloc (.cells #[erV a e1, erV a (varErr N 0 i), erV a (varErr N 0 j), erV a e4] 32)) (Z := EC a x l) ((w.heap.size + 1, 0, Value.int .i64 0) :: (w.heap.size + 1, 1, Value.slice none 0 0) :: (w.heap.size, 0, Value.int .i64 N) :: (w.heap.size, 1, Value.slice x len c0) :: []) (by assumption)
    obtain ⟨W5, hW5⟩ : ∃ W, W = w2.alloc (.cells #[erV a e1, erV a (varErr N 0 i), erV a (varErr N 0 j), erV a e4] 32) := ⟨_, rfl⟩
    rw [← hW5] at s5 ⊢
    clear hW5
    have q5 := s5.hold
    simp only [Holds, and_true] at q5
    clear s0 q0 HV HX HN HF hcl
    go_wp2_with fail
    refine (HB.out _ s5.sent.2).mono ?_
    rintro e w6 ⟨g2, cp2, rfl, hg2, hG2, hb6⟩
    have s6 := s5.call hb6
    have q6 := s6.hold
    simp only [Holds, and_true] at q6
    clear s5 hb6 q5
    go_wp2_with fail
    refine (HG.out _ g2 cp2 hG2).mono ?_
    rintro e w7 ⟨g3, cp3, rfl, hg3, hG3, hb7⟩
    have s7 := s6.call hb7
    have q7 := s7.hold
    simp only [Holds, and_true] at q7
    clear s6 hb7 q6
    go_wp2_with fail
    refine (HT.out _ g3 cp3 hG3).mono ?_
    rintro e w8 ⟨hb8, h8⟩
    have s8 := s7.call hb8
    have q8 := s8.hold
    simp only [Holds, and_true] at q8
    have sz2 : w.heap.size + 1 < w7.heap.size := q7.1.2.1
    clear s7 hb8 q7
    rcases h8 with ⟨hno, rfl⟩ | ⟨hyes, g4, cp4, rfl, hg4, hR4⟩
    · go_wp2_with fail
      refine bodyPost_ret (v := .tuple #[(.agg #[.int .i64 0, .slice none 0 0]), .bool false, .nilIface]) (by simp [results, Tryd.results35, go_sem, q8]) rfl ⟨?_, .inr (.inl ⟨rfl, hno, rfl⟩)⟩
      repeat' (first | exact s8.bel | refine Below.setCell ?_ (by first | (simp; done) | (simp; omega)) _)
    · go_wp2_with fail
      refine bodyPost_ret (v := .tuple #[(.agg #[.int .i64 N, (.slice (some ⟨g4, 0, none⟩) len cp4)]), .bool true, .nilIface]) (by simp [results, Tryd.results35, go_sem, q8]) rfl ⟨?_, .inr (.inr ⟨rfl, hyes, g4, cp4, rfl, by omega, ?_⟩)⟩
      · repeat' (first | exact s8.bel | refine Below.setCell ?_ (by first | (simp; done) | (simp; omega)) _)
      · exact (hR4.other (by show w.heap.size + 1 ≠ g4; omega) _).other (by show w.heap.size + 1 ≠ g4; omega) _
  · rw [erV_ne h0] at HF
    have H0 := hide h0
    clear h0 hS hA hl her he1 he2 he3 he4
    clear e2 e3
    go_enter Tryd.func35, Tryd.ntmps35
    go_wp2_with fail
    go_region_held3 (fun w' => w'.cell? ⟨w.heap.size + 1, 0, none⟩ = some (.int .i64 0) ∧ w'.cell? ⟨w.heap.size + 1, 1, none⟩ = some (.slice none 0 0) ∧ w'.cell? ⟨w.heap.size, 0, none⟩ = some (.int .i64 N) ∧ w'.cell? ⟨w.heap.size, 1, none⟩ = some (.slice x len c0) ∧ St w w' (EC a x l) ((w.heap.size + 1, 0, Value.int .i64 0) :: (w.heap.size + 1, 1, Value.slice none 0 0) :: (w.heap.size, 0, Value.int .i64 N) :: (w.heap.size, 1, Value.slice x len c0) :: [])) (first | (exact keepSt0 ((w.heap.size + 1, 0, Value.int .i64 0) :: (w.heap.size + 1, 1, Value.slice none 0 0) :: (w.heap.size, 0, Value.int .i64 N) :: (w.heap.size, 1, Value.slice x len c0) :: []) s0.drew) | (exact keepSt ((w.heap.size + 1, 0, Value.int .i64 0) :: (w.heap.size + 1, 1, Value.slice none 0 0) :: (w.heap.size, 0, Value.int .i64 N) :: (w.heap.size, 1, Value.slice x len c0) :: []) (by assumption) (by assumption)) | (exact keepSt ((w.heap.size + 1, 0, Value.int .i64 0) :: (w.heap.size + 1, 1, Value.slice none 0 0) :: (w.heap.size, 0, Value.int .i64 N) :: (w.heap.size, 1, Value.slice x len c0) :: []) ((Below.refl _ _).alloc (Nat.le_refl _) _) (by assumption)) | assumption)
      (first
        | (go_at_call 19; refine (HV.out _ (keepEC1 (w := w) (x := x) (l := l) ((w.heap.size + 1, 0, Value.int .i64 0) :: (w.heap.size + 1, 1, Value.slice none 0 0) :: (w.heap.size, 0, Value.int .i64 N) :: (w.heap.size, 1, Value.slice x len c0) :: []) (by assumption)) (keepEC2 (w := w) (a := a) ((w.heap.size + 1, 0, Value.int .i64 0) :: (w.heap.size + 1, 1, Value.slice none 0 0) :: (w.heap.size, 0, Value.int .i64 N) :: (w.heap.size, 1, Value.slice x len c0) :: []) (by assumption))).mono ?_; rintro e w2 ⟨rfl, hb2⟩)
        | (go_at_call 67; refine (HX.out _ _ (keepEC1 (w := w) (x := x) (l := l) ((w.heap.size + 1, 0, Value.int .i64 0) :: (w.heap.size + 1, 1, Value.slice none 0 0) :: (w.heap.size, 0, Value.int .i64 N) :: (w.heap.size, 1, Value.slice x len c0) :: []) (by assumption))).mono ?_; rintro e w2 ⟨rfl, hb2⟩)
        | (go_at_call 71; refine (HN.out _ (keepEC1 (w := w) (x := x) (l := l) ((w.heap.size + 1, 0, Value.int .i64 0) :: (w.heap.size + 1, 1, Value.slice none 0 0) :: (w.heap.size, 0, Value.int .i64 N) :: (w.heap.size, 1, Value.slice x len c0) :: []) (by assumption))).mono ?_; rintro e w2 ⟨rfl, rfl⟩)
        | (go_at_call 48; refine (HF.out _ _).mono ?_; rintro e w2 ⟨rfl, rfl⟩))
    have s5 := keepSt_st (w := w) (W := w2.alloc (.cells #[erV a e1, erV a (varErr N 0 i), erV a (varErr N 0 j), erV a e4] 32)) (Z := EC a x l) ((w.heap.size + 1, 0, Value.int .i64 0) :: (w.heap.size + 1, 1, Value.slice none 0 0) :: (w.heap.size, 0, Value.int .i64 N) :: (w.heap.size, 1, Value.slice x len c0) :: []) (by assumption)
    obtain ⟨W5, hW5⟩ : ∃ W, W = w2.alloc (.cells #[erV a e1, erV a (varErr N 0 i), erV a (varErr N 0 j), erV a e4] 32) := ⟨_, rfl⟩
    rw [← hW5] at s5 ⊢
    clear hW5
    have q5 := s5.hold
    simp only [Holds, and_true] at q5
    clear s0 q0 HV HX HN HF hcl
    go_wp2_with fail
    refine bodyPost_ret (v := .tuple #[(.agg #[.int .i64 0, .slice none 0 0]), .bool false, .iface 160 (.pointer (some (a (er.toNat - 1))))]) (by simp [results, Tryd.results35, go_sem, q5]) rfl ⟨?_, .inl ⟨H0.out, by rw [erV_ne H0.out]⟩⟩
    repeat' (first | exact s5.bel | refine Below.setCell ?_ (by first | (simp; done) | (simp; omega)) _)

end Go.Proofs.YtkngedinomngbaaDoor
