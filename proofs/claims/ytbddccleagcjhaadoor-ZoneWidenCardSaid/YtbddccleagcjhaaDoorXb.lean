/- Zones: the numbers of a variable (grid.Span, zone.Bounds). -/
import Derived.Test.YtbddccleagcjhaaDoorYp
import Derived.Test.YtbddccleagcjhaaDoorYl
namespace Go.Proofs.YtbddccleagcjhaaDoor
open Go.RowKit
set_option linter.unusedVariables false

/-- What is told of a number: of the bounds of its opposite, and of itself. -/
def spanV (u v : Int) : Value := .agg #[.bool (!(tellI u).h), .bool (!(tellI v).h), .int .i64 (-(tellI u).m), .int .i64 (tellI v).m]
set_option maxRecDepth 20000 in
set_option maxHeartbeats 2000000 in
theorem span_any (u v : Int) (w : World) :
    Calls Tryd.prog 77 #[.int .i64 u, .int .i64 v] w fun e w' => e = .returned (spanV u v) ∧ Below w.heap.size w w' := by
  have s0 := (St.start1' w).box4 63 (.bool false) (.bool false) (.int .i64 0) (.int .i64 0)
  obtain ⟨⟨h, m⟩, ht⟩ : ∃ t, t = tellI u := ⟨_, rfl⟩
  obtain ⟨⟨h', m'⟩, ht'⟩ : ∃ t, t = tellI v := ⟨_, rfl⟩
  have HT : Hid (∀ W : World, Calls Tryd.prog 100 #[.int .i64 u] W fun e w' => e = .returned (.tuple #[.bool h, .int .i64 m]) ∧ w' = W) := fun W => by
    have := told_any u W
    rw [← ht] at this
    exact this
  have HU : Hid (∀ W : World, Calls Tryd.prog 100 #[.int .i64 v] W fun e w' => e = .returned (.tuple #[.bool h', .int .i64 m']) ∧ w' = W) := fun W => by
    have := told_any v W
    rw [← ht'] at this
    exact this
  have hm : -1099511627776 ≤ m ∧ m ≤ 1099511627776 := by
    have : m = (tellI u).m := by rw [← ht]
    unfold tellI at this
    split at this
    · simp at this; omega
    · simp at this; split at this <;> omega
  have hV : spanV u v = Value.agg #[.bool (!h), .bool (!h'), .int .i64 (-m), .int .i64 m'] := by unfold spanV; rw [← ht, ← ht']
  rw [hV]
  clear ht ht' hV
  go_enter Tryd.func77, Tryd.ntmps77
  go_wp2_with fail
  refine (HT.out _).mono ?_
  rintro e w1 ⟨rfl, hw⟩
  rw [hw]
  clear hw w1
  go_wp2_with fail
  refine (HU.out _).mono ?_
  rintro e w1 ⟨rfl, hw⟩
  rw [hw]
  clear hw w1
  go_wp2_with fail
  refine bodyPost_ret (v := (Value.agg #[.bool (!h), .bool (!h'), .int .i64 (-m), .int .i64 (m')])) (by simp [results, Tryd.results77, go_sem]; try omega) rfl ⟨rfl, ?_⟩
  repeat' (first | exact s0.bel | refine Below.setCell ?_ (by first | (simp; done) | (simp; omega)) _ | exact (Below.refl _ _).alloc (Nat.le_refl _) _)

/-- What Bounds answers. -/
def BoPost (w : World) (a : Nat → Addr) (er : Int) (ok : Prop) (V : Value) (e : Ending) (w' : World) : Prop :=
  Below w.heap.size w w' ∧ ((er ≠ 0 ∧ e = .returned (.tuple #[(Value.agg #[.bool (false), .bool (false), .int .i64 (0), .int .i64 (0)]), .bool false, erV a er])) ∨ (er = 0 ∧ ¬ ok ∧ e = .returned (.tuple #[(Value.agg #[.bool (false), .bool (false), .int .i64 (0), .int .i64 (0)]), .bool false, .nilIface])) ∨ (er = 0 ∧ ok ∧ e = .returned (.tuple #[V, .bool true, .nilIface])))
def boErr (N : Int) (l : List Ce) (x : Int) : Int := firstE [zErr N l, varErr N 1 x]
set_option maxRecDepth 20000 in
set_option maxHeartbeats 4000000 in
theorem bounds_any (N x : Int) (s : Option Addr) (c0 len : Nat) (l : List Ce) (a : Nat → Addr) (w : World) (hS : ErrS w a) (hA : CsAt w s l) (hl : Hid (len = l.length)) (hlen : len ≤ 1000) :
    Calls Tryd.prog 40 #[(.agg #[.int .i64 N, (.slice s len c0)]), .int .i64 x] w fun e w' =>
      BoPost w a (boErr N l x) (NoNeg (nOf N) (fw (matOf (nOf N) l) (nOf N))) (spanV (encM (fw (matOf (nOf N) l) (nOf N)) x.toNat 0) (encM (fw (matOf (nOf N) l) (nOf N)) 0 x.toNat)) e w' := by
  have s0 := ((St.startEC hS hA).box2 30 (.int .i64 N) (.slice s len c0)).box4 63 (.bool false) (.bool false) (.int .i64 0) (.int .i64 0)
  simp only [World.size_alloc] at s0
  have q0 := s0.hold
  simp only [Holds, and_true] at q0
  obtain ⟨e1, he1⟩ : ∃ e, e = zErr N l := ⟨_, rfl⟩
  obtain ⟨e2, he2⟩ : ∃ e, e = varErr N 1 x := ⟨_, rfl⟩
  obtain ⟨er, her⟩ : ∃ e, e = boErr N l x := ⟨_, rfl⟩
  have HV : Hid (∀ W : World, ErrS W a → CsAt W s l → Calls Tryd.prog 19 #[(.agg #[.int .i64 N, (.slice s len c0)])] W fun e w' => e = .returned (erV a e1) ∧ Below W.heap.size W w') := fun W h1 h2 => by rw [he1]; exact valid_any N s c0 len l a W h1 h2 hl hlen
  have HX : Hid (∀ (W : World), ErrS W a → Calls Tryd.prog 67 #[.int .i64 x, .int .i64 1, .int .i64 N] W fun e w' => e = .returned (erV a e2) ∧ Below W.heap.size W w') := fun W h => by rw [he2]; exact varErr_any N 1 x a W h
  have HF : Hid (∀ (W : World) (t : TypeId), Calls Tryd.prog 48 #[.slice (some ⟨W.heap.size, 0, none⟩) 2 2] (W.alloc (.cells #[erV a e1, erV a e2] t)) fun e w' => e = .returned (erV a er) ∧ w' = (W.alloc (.cells #[erV a e1, erV a e2] t))) := fun W t => by
    rw [her]; unfold boErr; rw [← he1, ← he2]; exact first2 a _ _ t W
  have hcl : ∀ x, (erV a x).cells = #[erV a x] := erV_cells a
  unfold Value.cells at hcl
  rw [← her]
  by_cases h0 : er = 0
  · have h1 : firstE [zErr N l, varErr N 1 x] = 0 := by have := her; unfold boErr at this; rw [← this]; exact h0
    rw [firstE_0, firstE_0] at h1
    obtain ⟨hz, hv1, -⟩ := h1
    obtain ⟨z1, z2, z3, z4, z5, z6⟩ := zErr_0 hz
    obtain ⟨v1, v2⟩ := varErr_0 hv1
    obtain ⟨n, hn⟩ : ∃ n, n = nOf N := ⟨_, rfl⟩
    rw [← hn] at z1 z2 z3 z4 ⊢
    have hpos : 1 ≤ n * n := Nat.mul_le_mul z2 z2
    have hll : Hid (len = n * n) := by show _ = _; rw [hl.out]; exact z4
    obtain ⟨x', hx'⟩ : ∃ k : Nat, (k : Int) = x := ⟨x.toNat, by omega⟩
    have ex : x.toNat = x' := by omega
    have hxn : x' < n := by omega
    rw [ex]
    subst hx'
    have HB : Hid (∀ W : World, CsAt W s l → Calls Tryd.prog 47 #[(.agg #[.int .i64 N, (.slice s len c0)])] W fun e w' => GrPost W n len (encM (matOf n l)) e w') := by
      intro W h
      exact boundsOf_cs N n c0 len _ l W h hl hll ⟨z2, z3⟩ z1
    have HC : Hid (∀ (W : World) (g cp : Nat), GrI W g n (encM (matOf n l)) → Calls Tryd.prog 62 #[(.agg #[.int .i64 n, (.slice (some ⟨g, 0, none⟩) len cp)])] W fun e w' => ClPost W n len (matOf n l) e w') := fun W g cp h => closed_any n g cp len 1099511627776 _ W h hll (by omega) (sz_mat z4 z6) (by omega)
    obtain ⟨F, hFF⟩ : ∃ F : Int → Int → Int, F = fun p q => encM (fw (matOf n l) n) p.toNat q.toNat := ⟨_, rfl⟩
    have e1' : encM (fw (matOf n l) n) x' 0 = F (x' : Int) 0 := by rw [hFF]; simp
    have e2' : encM (fw (matOf n l) n) 0 x' = F 0 (x' : Int) := by rw [hFF]; simp
    have HA1 : Hid (∀ (W : World) (g cp : Nat) (p q : Int), (p = x' ∧ q = 0) ∨ (p = 0 ∧ q = x') → GrI W g n (encM (fw (matOf n l) n)) → Calls Tryd.prog 78 #[(.agg #[.int .i64 n, (.slice (some ⟨g, 0, none⟩) len cp)]), .int .i64 p, .int .i64 q] W fun e w' => e = .returned (.int .i64 (F p q)) ∧ Below W.heap.size W w') := by
      intro W g cp p q hpq h
      rcases hpq with ⟨rfl, rfl⟩ | ⟨rfl, rfl⟩
      · rw [← e1']; exact at_any n g cp len x' 0 _ W h hll hxn (by omega) (by omega)
      · rw [← e2']; exact at_any n g cp len 0 x' _ W h hll (by omega) hxn (by omega)
    obtain ⟨b1, b2, i1, i2, hsv⟩ : ∃ (b1 b2 : Bool) (i1 i2 : Int), spanV (F (x' : Int) 0) (F 0 (x' : Int)) = Value.agg #[.bool b1, .bool b2, .int .i64 i1, .int .i64 i2] := ⟨_, _, _, _, rfl⟩
    have HSp : Hid (∀ (W : World), Calls Tryd.prog 77 #[.int .i64 (F (x' : Int) 0), .int .i64 (F 0 (x' : Int))] W fun e w' => e = .returned (Value.agg #[.bool b1, .bool b2, .int .i64 i1, .int .i64 i2]) ∧ Below W.heap.size W w') := fun W => by rw [← hsv]; exact span_any _ _ W
    rw [e1', e2', hsv]
    obtain ⟨ok, hok⟩ : ∃ ok, ok = NoNeg n (fw (matOf n l) n) := ⟨_, rfl⟩
    rw [h0] at HF ⊢
    rw [erV_0] at HF
    clear hS hA hl hll z1 z2 z3 z4 z5 z6 hz hn hpos h0 hv1 v1 v2 ex her he1 he2 hok hsv hFF e1' e2'
    clear ok
    go_enter Tryd.func40, Tryd.ntmps40
    go_wp2_with fail
    (go_region_held3 (fun w' => w'.cell? ⟨w.heap.size + 1, 0, none⟩ = some (.bool false) ∧ w'.cell? ⟨w.heap.size + 1, 1, none⟩ = some (.bool false) ∧ w'.cell? ⟨w.heap.size + 1, 2, none⟩ = some (.int .i64 0) ∧ w'.cell? ⟨w.heap.size + 1, 3, none⟩ = some (.int .i64 0) ∧ w'.cell? ⟨w.heap.size, 0, none⟩ = some (.int .i64 N) ∧ w'.cell? ⟨w.heap.size, 1, none⟩ = some (.slice s len c0) ∧ St w w' (EC a s l) ((w.heap.size + 1, 0, Value.bool false) :: (w.heap.size + 1, 1, Value.bool false) :: (w.heap.size + 1, 2, Value.int .i64 0) :: (w.heap.size + 1, 3, Value.int .i64 0) :: (w.heap.size, 0, Value.int .i64 N) :: (w.heap.size, 1, Value.slice s len c0) :: [])) (first | (exact keepSt0 ((w.heap.size + 1, 0, Value.bool false) :: (w.heap.size + 1, 1, Value.bool false) :: (w.heap.size + 1, 2, Value.int .i64 0) :: (w.heap.size + 1, 3, Value.int .i64 0) :: (w.heap.size, 0, Value.int .i64 N) :: (w.heap.size, 1, Value.slice s len c0) :: []) s0.drew) | (exact keepSt ((w.heap.size + 1, 0, Value.bool false) :: (w.heap.size + 1, 1, Value.bool false) :: (w.heap.size + 1, 2, Value.int .i64 0) :: (w.heap.size + 1, 3, Value.int .i64 0) :: (w.heap.size, 0, Value.int .i64 N) :: (w.heap.size, 1, Value.slice s len c0) :: []) (by assumption) (by assumption)) | (exact keepSt ((w.heap.size + 1, 0, Value.bool false) :: (w.heap.size + 1, 1, Value.bool false) :: (w.heap.size + 1, 2, Value.int .i64 0) :: (w.heap.size + 1, 3, Value.int .i64 0) :: (w.heap.size, 0, Value.int .i64 N) :: (w.heap.size, 1, Value.slice s len c0) :: []) ((Below.refl _ _).alloc (Nat.le_refl _) _) (by assumption)) | assumption) (first | (go_at_call 19; refine (HV.out _ (keepEC1 (w := w) (x := s) (l := l) ((w.heap.size + 1, 0, Value.bool false) :: (w.heap.size + 1, 1, Value.bool false) :: (w.heap.size + 1, 2, Value.int .i64 0) :: (w.heap.size + 1, 3, Value.int .i64 0) :: (w.heap.size, 0, Value.int .i64 N) :: (w.heap.size, 1, Value.slice s len c0) :: []) (by assumption)) (keepEC2 (w := w) (a := a) ((w.heap.size + 1, 0, Value.bool false) :: (w.heap.size + 1, 1, Value.bool false) :: (w.heap.size + 1, 2, Value.int .i64 0) :: (w.heap.size + 1, 3, Value.int .i64 0) :: (w.heap.size, 0, Value.int .i64 N) :: (w.heap.size, 1, Value.slice s len c0) :: []) (by assumption))).mono ?_; rintro e w2 ⟨rfl, hb2⟩) | (go_at_call 67; refine (HX.out _ (keepEC1 (w := w) (x := s) (l := l) ((w.heap.size + 1, 0, Value.bool false) :: (w.heap.size + 1, 1, Value.bool false) :: (w.heap.size + 1, 2, Value.int .i64 0) :: (w.heap.size + 1, 3, Value.int .i64 0) :: (w.heap.size, 0, Value.int .i64 N) :: (w.heap.size, 1, Value.slice s len c0) :: []) (by assumption))).mono ?_; rintro e w2 ⟨rfl, hb2⟩) | (go_at_call 48; refine (HF.out _ _).mono ?_; rintro e w2 ⟨rfl, rfl⟩)); have s5 := keepSt_st (w := w) (W := w2.alloc (.cells #[erV a e1, erV a e2] 32)) (Z := EC a s l) ((w.heap.size + 1, 0, Value.bool false) :: (w.heap.size + 1, 1, Value.bool false) :: (w.heap.size + 1, 2, Value.int .i64 0) :: (w.heap.size + 1, 3, Value.int .i64 0) :: (w.heap.size, 0, Value.int .i64 N) :: (w.heap.size, 1, Value.slice s len c0) :: []) (by assumption); obtain ⟨W5, hW5⟩ : ∃ W, W = w2.alloc (.cells #[erV a e1, erV a e2] 32) := ⟨_, rfl⟩; rw [← hW5] at s5 ⊢; clear hW5 s0 q0 HV HX HF hcl; have q5 := s5.hold; simp only [Holds, and_true] at q5)
    go_wp2_with fail
    refine (HB.out _ s5.sent.2).mono ?_
    rintro e w6 ⟨g2, cp2, rfl, hg2, hG2, hb6⟩
    (have s6 := s5.call hb6; have q6 := s6.hold; simp only [Holds, and_true] at q6; clear s5 hb6; try clear q5)
    go_wp2_with fail
    refine (HC.out _ g2 cp2 hG2).mono ?_
    rintro e w7 ⟨hb7, h7⟩
    (have s7 := s6.call hb7; have q7 := s7.hold; simp only [Holds, and_true] at q7; clear s6 hb7; try clear q6)
    clear hG2
    rcases h7 with ⟨hno, rfl⟩ | ⟨hyes, g3, cp3, rfl, hg3, hG3⟩
    · go_wp2_with fail
      refine bodyPost_ret (v := .tuple #[(Value.agg #[.bool (false), .bool (false), .int .i64 (0), .int .i64 (0)]), .bool false, .nilIface]) (by simp [results, Tryd.results40, go_sem, q7]) rfl ⟨?_, .inr (.inl ⟨rfl, hno, rfl⟩)⟩
      repeat' (first | exact s7.bel | refine Below.setCell ?_ (by first | (simp; done) | (simp; omega)) _ | refine Below.alloc ?_ (by first | (simp; done) | (simp; omega)) _)
    · have s8 := s7.box2 82 (.int .i64 n) (.slice (some ⟨g3, 0, none⟩) len cp3)
      have hG4 := hG3.below ((Below.refl _ _).alloc (Nat.le_refl _) (.cells #[.int .i64 n, .slice (some ⟨g3, 0, none⟩) len cp3] 82))
      have hbW := s8.bel
      have s9 := s8.re.both (Y := fun W => GrI W g3 n (encM (fw (matOf n l) n))) hG4 (fun _ _ q hb => GrI.stays hG4.lt q hb)
      clear s8 hG4 hG3 s7
      have q9 := s9.hold
      simp only [Holds, and_true] at q9
      go_wp2_with fail
      obtain ⟨W4, hW4⟩ : ∃ W, W = w7.alloc (.cells #[.int .i64 n, .slice (some ⟨g3, 0, none⟩) len cp3] 82) := ⟨_, rfl⟩
      obtain ⟨b7, hb7⟩ : ∃ b, b = w7.heap.size := ⟨_, rfl⟩
      rw [← hW4, ← hb7] at s9 q9 ⊢
      rw [← hW4] at hbW
      clear hW4 hb7
      go_region_with (first
        | (go_at_call 78; (fail_if_success (have _ := s10)); refine (HA1.out _ g3 cp3 _ _ (by first | exact .inl ⟨rfl, rfl⟩ | exact .inr ⟨rfl, rfl⟩) s9.drew.sent.2).mono ?_; rintro e w10 ⟨rfl, hb10⟩; have s10 := s9.drew.call hb10; have q10 := s10.hold; simp only [Holds, and_true] at q10)
        | (go_at_call 78; refine (HA1.out _ g3 cp3 _ _ (by first | exact .inl ⟨rfl, rfl⟩ | exact .inr ⟨rfl, rfl⟩) s10.sent.2).mono ?_; rintro e w11 ⟨rfl, hb11⟩; have s11 := s10.call hb11; have q11 := s11.hold; simp only [Holds, and_true] at q11)
        | (go_at_call 77; refine (HSp.out _).mono ?_; rintro e w12 ⟨rfl, hb12⟩; have s12 := s11.call hb12; have q12 := s12.hold; simp only [Holds, and_true] at q12))
      all_goals
        have sz12 : w.heap.size + 1 < w12.heap.size := q12.2.2.1.2.1
        go_wp2_with fail
        refine bodyPost_ret (v := .tuple #[(Value.agg #[.bool (b1), .bool (b2), .int .i64 (i1), .int .i64 (i2)]), .bool true, .nilIface]) (by simp [results, Tryd.results40, go_sem, q12]) rfl ⟨?_, .inr (.inr ⟨rfl, hyes, rfl⟩)⟩
        repeat' (first | exact hbW.trans (s12.bel.mono hbW.size) | refine Below.setCell ?_ (by first | (simp; done) | (simp; omega)) _)
  · rw [erV_ne h0] at HF
    have H0 := hide h0
    clear h0 hS hA hl her he1 he2
    go_enter Tryd.func40, Tryd.ntmps40
    go_wp2_with fail
    (go_region_held3 (fun w' => w'.cell? ⟨w.heap.size + 1, 0, none⟩ = some (.bool false) ∧ w'.cell? ⟨w.heap.size + 1, 1, none⟩ = some (.bool false) ∧ w'.cell? ⟨w.heap.size + 1, 2, none⟩ = some (.int .i64 0) ∧ w'.cell? ⟨w.heap.size + 1, 3, none⟩ = some (.int .i64 0) ∧ w'.cell? ⟨w.heap.size, 0, none⟩ = some (.int .i64 N) ∧ w'.cell? ⟨w.heap.size, 1, none⟩ = some (.slice s len c0) ∧ St w w' (EC a s l) ((w.heap.size + 1, 0, Value.bool false) :: (w.heap.size + 1, 1, Value.bool false) :: (w.heap.size + 1, 2, Value.int .i64 0) :: (w.heap.size + 1, 3, Value.int .i64 0) :: (w.heap.size, 0, Value.int .i64 N) :: (w.heap.size, 1, Value.slice s len c0) :: [])) (first | (exact keepSt0 ((w.heap.size + 1, 0, Value.bool false) :: (w.heap.size + 1, 1, Value.bool false) :: (w.heap.size + 1, 2, Value.int .i64 0) :: (w.heap.size + 1, 3, Value.int .i64 0) :: (w.heap.size, 0, Value.int .i64 N) :: (w.heap.size, 1, Value.slice s len c0) :: []) s0.drew) | (exact keepSt ((w.heap.size + 1, 0, Value.bool false) :: (w.heap.size + 1, 1, Value.bool false) :: (w.heap.size + 1, 2, Value.int .i64 0) :: (w.heap.size + 1, 3, Value.int .i64 0) :: (w.heap.size, 0, Value.int .i64 N) :: (w.heap.size, 1, Value.slice s len c0) :: []) (by assumption) (by assumption)) | (exact keepSt ((w.heap.size + 1, 0, Value.bool false) :: (w.heap.size + 1, 1, Value.bool false) :: (w.heap.size + 1, 2, Value.int .i64 0) :: (w.heap.size + 1, 3, Value.int .i64 0) :: (w.heap.size, 0, Value.int .i64 N) :: (w.heap.size, 1, Value.slice s len c0) :: []) ((Below.refl _ _).alloc (Nat.le_refl _) _) (by assumption)) | assumption) (first | (go_at_call 19; refine (HV.out _ (keepEC1 (w := w) (x := s) (l := l) ((w.heap.size + 1, 0, Value.bool false) :: (w.heap.size + 1, 1, Value.bool false) :: (w.heap.size + 1, 2, Value.int .i64 0) :: (w.heap.size + 1, 3, Value.int .i64 0) :: (w.heap.size, 0, Value.int .i64 N) :: (w.heap.size, 1, Value.slice s len c0) :: []) (by assumption)) (keepEC2 (w := w) (a := a) ((w.heap.size + 1, 0, Value.bool false) :: (w.heap.size + 1, 1, Value.bool false) :: (w.heap.size + 1, 2, Value.int .i64 0) :: (w.heap.size + 1, 3, Value.int .i64 0) :: (w.heap.size, 0, Value.int .i64 N) :: (w.heap.size, 1, Value.slice s len c0) :: []) (by assumption))).mono ?_; rintro e w2 ⟨rfl, hb2⟩) | (go_at_call 67; refine (HX.out _ (keepEC1 (w := w) (x := s) (l := l) ((w.heap.size + 1, 0, Value.bool false) :: (w.heap.size + 1, 1, Value.bool false) :: (w.heap.size + 1, 2, Value.int .i64 0) :: (w.heap.size + 1, 3, Value.int .i64 0) :: (w.heap.size, 0, Value.int .i64 N) :: (w.heap.size, 1, Value.slice s len c0) :: []) (by assumption))).mono ?_; rintro e w2 ⟨rfl, hb2⟩) | (go_at_call 48; refine (HF.out _ _).mono ?_; rintro e w2 ⟨rfl, rfl⟩)); have s5 := keepSt_st (w := w) (W := w2.alloc (.cells #[erV a e1, erV a e2] 32)) (Z := EC a s l) ((w.heap.size + 1, 0, Value.bool false) :: (w.heap.size + 1, 1, Value.bool false) :: (w.heap.size + 1, 2, Value.int .i64 0) :: (w.heap.size + 1, 3, Value.int .i64 0) :: (w.heap.size, 0, Value.int .i64 N) :: (w.heap.size, 1, Value.slice s len c0) :: []) (by assumption); obtain ⟨W5, hW5⟩ : ∃ W, W = w2.alloc (.cells #[erV a e1, erV a e2] 32) := ⟨_, rfl⟩; rw [← hW5] at s5 ⊢; clear hW5 s0 q0 HV HX HF hcl; have q5 := s5.hold; simp only [Holds, and_true] at q5)
    go_wp2_with fail
    refine bodyPost_ret (v := .tuple #[(Value.agg #[.bool (false), .bool (false), .int .i64 (0), .int .i64 (0)]), .bool false, .iface 160 (.pointer (some (a (er.toNat - 1))))]) (by simp [results, Tryd.results40, go_sem, q5]) rfl ⟨?_, .inl ⟨H0.out, by rw [erV_ne H0.out]⟩⟩
    repeat' (first | exact s5.bel | refine Below.setCell ?_ (by first | (simp; done) | (simp; omega)) _)
end Go.Proofs.YtbddccleagcjhaaDoor
