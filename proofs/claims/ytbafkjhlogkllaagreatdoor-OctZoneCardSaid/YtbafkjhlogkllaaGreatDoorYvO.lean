/- Zones: has one a point (zone.Has)? -/
import Derived.Test.YtbafkjhlogkllaaGreatDoorYuO
import Derived.Test.YtbafkjhlogkllaaGreatDoorOfO
namespace Go.Proofs.YtbafkjhlogkllaaGreatDoor.Oc
open Go.RowKit
set_option linter.unusedVariables false

def farP (v : Int) : Bool := farB v 1099511627776
def ptErr (N : Int) (p : List Int) : Int := if (p.length : Int) ≠ N then 3 else if p.any farP = true then 2 else 0
def hasErr (N : Int) (l : List Ce) (p : List Int) : Int := firstE [zErr N l, ptErr N p]

theorem anyI_snoc {l : List Int} {k : Nat} (h : k < l.length) (p : Int → Bool) : (l.take (k + 1)).any p = ((l.take k).any p || p (l.getD k 0)) := by
  rw [List.take_add_one, List.any_append]; simp [h]
theorem anyI_yes {l : List Int} {k : Nat} (h : k < l.length) {p : Int → Bool} (hp : p (l.getD k 0) = true) : l.any p = true := by
  rw [List.any_eq_true]
  exact ⟨l.getD k 0, by rw [show l.getD k 0 = l[k] by simp [h]]; exact List.getElem_mem h, hp⟩
theorem enters_far : Enters 54 := enters_of Tryz.func54 (by kernel_rfl) rfl

set_option maxHeartbeats 1000000 in
theorem indexI_nil (x : Option Addr) (c fn : Nat) (w : World) :
    Calls Tryz.prog 83 #[.slice x 0 c, .func (.func fn) #[] #[]] w fun e w' => IxPost w false e w' := by
  go_enter Tryz.func83, Tryz.ntmps83
  go_wp2_with fail
  refine wp_loop_rounds 1 ?_
  rw [rounds_succ]
  go_wp2_with fail
  go_ret
  exact ⟨-1, rfl, Below.refl _ _, .inl ⟨rfl, rfl⟩⟩
set_option maxRecDepth 20000 in
set_option maxHeartbeats 2000000 in
theorem indexI_any (x : Option Addr) (c n : Nat) (l : List Int) (w : World) (hI : IntsAt w x l) (hl : Hid (n = l.length)) (hn : n ≤ 1000) :
    Calls Tryz.prog 83 #[.slice x n c, .func (.func 54) #[] #[]] w fun e w' => IxPost w (l.any farP) e w' := by
  rcases hI with rfl | ⟨b, off, rfl, hlt, hcell⟩
  · have : n = 0 := hl.out
    subst this
    exact indexI_nil x c _ w
  have hcell' := hide hcell
  clear hcell
  go_enter Tryz.func83, Tryz.ntmps83
  go_wp2_with fail
  go_loopg [8] n (fun gh iv wr => ∃ k : Nat, k + gh = n ∧ iv = .int .i64 k ∧ Hid ((l.take k).any farP = false) ∧ wr = w)
  case atStart => exact ⟨0, by omega, rfl, rfl, rfl⟩
  case round =>
    obtain ⟨k, hkg, rfl, HL, rfl⟩ := hrel
    by_cases hk : k < n
    · have hkl : k < l.length := by rw [← hl.out]; exact hk
      have hkn : (k : Int) < (n : Int) := by omega
      obtain ⟨v, hv⟩ : ∃ v, v = l.getD k 0 := ⟨_, rfl⟩
      have c1 := hcell'.out k hkl
      rw [← hv] at c1
      have Hv := hide hv
      obtain ⟨q, hq⟩ : ∃ q, q = farB v 1099511627776 := ⟨_, rfl⟩
      have HT : Hid (∀ W : World, Calls Tryz.prog 54 #[.int .i64 v] W fun e w' => e = .returned (.bool q) ∧ w' = W) := fun W => by rw [hq]; exact bfar_any v W
      have Hq := hide hq
      clear hq hv
      go_wp2_with fail
      refine (HT.out _).mono ?_
      rintro e w2 ⟨rfl, hw2⟩
      rw [hw2]
      cases q
      · go_wp2_with fail
        go_roundg (n - (k + 1))
        case measure => omega
        case rel => exact ⟨k + 1, by omega, by go_num, (by show _ = _; rw [anyI_snoc hkl, HL.out, ← Hv.out]; unfold farP; rw [← Hq.out]; rfl), rfl⟩
      · go_wp2_with fail
        go_ret
        exact ⟨k, rfl, Below.refl _ _, .inr ⟨by omega, anyI_yes hkl (by rw [← Hv.out]; unfold farP; rw [← Hq.out])⟩⟩
    · have hkn : ¬ (k : Int) < (n : Int) := by omega
      have ee : Hid (l.any farP = false) := by
        show _ = _
        have := HL.out
        rwa [List.take_of_length_le (by rw [← hl.out]; omega)] at this
      go_wp2_with fail
      go_ret
      exact ⟨-1, rfl, Below.refl _ _, .inl ⟨rfl, ee.out⟩⟩
set_option maxHeartbeats 1000000 in
theorem containsI_any (x : Option Addr) (c n : Nat) (l : List Int) (w : World) (hI : IntsAt w x l) (hl : Hid (n = l.length)) (hn : n ≤ 1000) :
    Calls Tryz.prog 55 #[.slice x n c, .func (.func 54) #[] #[]] w fun e w' => e = .returned (.bool (l.any farP)) ∧ Below w.heap.size w w' := by
  have HI : Hid (∀ W : World, IntsAt W x l → Calls Tryz.prog 83 #[.slice x n c, .func (.func 54) #[] #[]] W fun e w' => IxPost W (l.any farP) e w') := fun W h => indexI_any x c n l W h hl hn
  obtain ⟨q, hq⟩ : ∃ q, q = l.any farP := ⟨_, rfl⟩
  rw [← hq] at HI ⊢
  clear hq
  go_enter Tryz.func55, Tryz.ntmps55
  go_wp2_with fail
  refine (HI.out _ hI).mono ?_
  rintro e w2 ⟨r, rfl, hb2, hr⟩
  rcases hr with ⟨rfl, rfl⟩ | ⟨hr, rfl⟩
  · go_wp2_with fail
    go_ret
    exact ⟨rfl, hb2⟩
  · go_wp2_with fail
    go_ret
    exact ⟨ret_bool (by simp), hb2⟩

set_option maxRecDepth 20000 in
set_option maxHeartbeats 2000000 in
theorem pointError_any (N : Int) (x : Option Addr) (k c' : Nat) (p : List Int) (a : Nat → Addr) (w : World) (hS : ErrS w a) (hI : IntsAt w x p) (hk : Hid (k = p.length)) (hk2 : k ≤ 1000) :
    Calls Tryz.prog 34 #[.slice x k c', .int .i64 N] w fun e w' => e = .returned (erV a (ptErr N p)) ∧ Below w.heap.size w w' := by
  have e2 : w.cell? ⟨2, 0, none⟩ = some (.iface 146 (.pointer (some (a 2)))) := hS.2
  have l2 := World.block_lt_of_cell? w _ e2
  have s0 := (⟨Below.refl _ _, trivial, ⟨hS, hI⟩, fun _ _ q hb => ⟨hS.stays q.1 hb, hI.stays q.2 hb⟩⟩ : St w w (fun W => ErrS W a ∧ IntsAt W x p) [])
  have HC : Hid (∀ W : World, IntsAt W x p → Calls Tryz.prog 55 #[.slice x k c', .func (.func 54) #[] #[]] W fun e w' => e = .returned (.bool (p.any farP)) ∧ Below W.heap.size W w') := fun W h => containsI_any x c' k p W h hk hk2
  obtain ⟨q, hq⟩ : ∃ q, q = p.any farP := ⟨_, rfl⟩
  obtain ⟨r, hr⟩ : ∃ r, r = ptErr N p := ⟨_, rfl⟩
  rw [← hr]
  unfold ptErr at hr
  rw [← hk.out, ← hq] at hr
  rw [← hq] at HC
  clear hq hS hI hk
  by_cases hkN : (k : Int) = N
  · rw [if_neg (fun h => h hkN)] at hr
    cases q
    · simp at hr
      subst hr
      subst hkN
      go_enter Tryz.func34, Tryz.ntmps34
      go_wp2_with fail
      refine (HC.out _ s0.sent.2).mono ?_
      rintro e w1 ⟨rfl, hb1⟩
      have s1 := s0.call hb1
      go_wp2_with fail
      go_ret
      exact ⟨rfl, s1.bel⟩
    · simp at hr
      subst hr
      subst hkN
      go_enter Tryz.func34, Tryz.ntmps34
      go_wp2_with fail
      refine (HC.out _ s0.sent.2).mono ?_
      rintro e w1 ⟨rfl, hb1⟩
      have s1 := s0.call hb1
      have f1 : w1.cell? ⟨1, 0, none⟩ = some (.iface 146 (.pointer (some (a 1)))) := s1.sent.1.1
      go_wp2_with fail
      go_ret
      exact ⟨rfl, s1.bel⟩
  · rw [if_pos hkN] at hr
    subst hr
    have hb : ((k : Int) != N) = true := by simp [hkN]
    go_enter Tryz.func34, Tryz.ntmps34
    go_wp2_with fail
    go_ret
    exact ⟨rfl, Below.refl _ _⟩

/-- Errors, cells and numbers kept. -/
def EP (a : Nat → Addr) (x : Option Addr) (l : List Ce) (y : Option Addr) (p : List Int) (W : World) : Prop := ErrS W a ∧ CsAt W x l ∧ IntsAt W y p
theorem St.startEP {w : World} {a : Nat → Addr} {x y : Option Addr} {l : List Ce} {p : List Int} (h : ErrS w a) (k : CsAt w x l) (k' : IntsAt w y p) : St w w (EP a x l y p) [] :=
  ⟨Below.refl _ _, trivial, ⟨h, k, k'⟩, fun _ _ q hb => ⟨h.stays q.1 hb, k.stays q.2.1 hb, k'.stays q.2.2 hb⟩⟩
theorem keepEP {w W : World} {a : Nat → Addr} {x y : Option Addr} {l : List Ce} {p : List Int} (L : List (Nat × Nat × Value)) (h : CellsAnd W L (St w W (EP a x l y p) L)) : EP a x l y p W := h.last.sent

/-- What Has answers. -/
def HasPost (w : World) (a : Nat → Addr) (er : Int) (b : Bool) (e : Ending) (w' : World) : Prop :=
  Below w.heap.size w w' ∧ ((er ≠ 0 ∧ e = .returned (.tuple #[.bool false, erV a er])) ∨ (er = 0 ∧ e = .returned (.tuple #[.bool b, .nilIface])))

theorem ptErr_0 {N : Int} {p : List Int} (h : ptErr N p = 0) : (p.length : Int) = N ∧ ∀ v ∈ p, v.natAbs ≤ 1099511627776 := by
  unfold ptErr at h
  by_cases c1 : (p.length : Int) ≠ N
  · rw [if_pos c1] at h; omega
  rw [if_neg c1] at h
  by_cases c2 : p.any farP = true
  · rw [if_pos c2] at h; omega
  refine ⟨by omega, fun v hv => ?_⟩
  have : ¬ farP v = true := fun k => c2 (List.any_eq_true.2 ⟨v, hv, k⟩)
  simp [farP, farB] at this
  omega

set_option maxRecDepth 20000 in
set_option maxHeartbeats 4000000 in
theorem has_any (N : Int) (x : Option Addr) (len c : Nat) (l : List Ce) (y : Option Addr) (k c' : Nat) (p : List Int) (a : Nat → Addr) (w : World) (hS : ErrS w a) (hA : CsAt w x l) (hI : IntsAt w y p) (hl : Hid (len = l.length)) (hlen : len ≤ 1000) (hk : Hid (k = p.length)) (hk2 : k ≤ 1000) :
    Calls Tryz.prog 17 #[(.agg #[.int .i64 N, (.slice x len c)]), .slice y k c'] w fun e w' => HasPost w a (hasErr N l p) (inB (nOf N) (ptD p) (encM (matOf (nOf N) l))) e w' := by
  have s0 := (St.startEP hS hA hI).box2 30 (.int .i64 N) (.slice x len c)
  have q0 := s0.hold
  simp only [Holds, and_true] at q0
  obtain ⟨e1, he1⟩ : ∃ e, e = zErr N l := ⟨_, rfl⟩
  obtain ⟨e2, he2⟩ : ∃ e, e = ptErr N p := ⟨_, rfl⟩
  obtain ⟨er, her⟩ : ∃ e, e = firstE [e1, e2] := ⟨_, rfl⟩
  have HV : Hid (∀ W : World, ErrS W a → CsAt W x l → Calls Tryz.prog 38 #[(.agg #[.int .i64 N, (.slice x len c)])] W fun e w' => e = .returned (erV a e1) ∧ Below W.heap.size W w') := fun W h1 h2 => by rw [he1]; exact valid_any N x c len l a W h1 h2 hl hlen
  have HE : Hid (∀ W : World, ErrS W a → IntsAt W y p → Calls Tryz.prog 34 #[.slice y k c', .int .i64 N] W fun e w' => e = .returned (erV a e2) ∧ Below W.heap.size W w') := fun W h1 h2 => by rw [he2]; exact pointError_any N y k c' p a W h1 h2 hk hk2
  have HF : Hid (∀ (W : World) (t : TypeId), Calls Tryz.prog 32 #[.slice (some ⟨W.heap.size, 0, none⟩) 2 2] (W.alloc (.cells #[erV a e1, erV a e2] t)) fun e w' => e = .returned (erV a er) ∧ w' = (W.alloc (.cells #[erV a e1, erV a e2] t))) := fun W t => by rw [her]; exact first2 a _ _ t W
  have hcl : ∀ x, (erV a x).cells = #[erV a x] := erV_cells a
  unfold Value.cells at hcl
  have hp : hasErr N l p = er := by unfold hasErr; rw [← he1, ← he2, ← her]
  rw [hp]
  by_cases h0 : er = 0
  · have hall : firstE [zErr N l, ptErr N p] = 0 := by rw [← he1, ← he2, ← her]; exact h0
    rw [firstE_0, firstE_0] at hall
    obtain ⟨z1, z2, z3, z4, z5, z6⟩ := zErr_0 hall.1
    obtain ⟨p1, p2⟩ := ptErr_0 hall.2.1
    obtain ⟨n, hn⟩ : ∃ n, n = nOf N := ⟨_, rfl⟩
    rw [← hn] at z1 z2 z3 z4 ⊢
    have hll : Hid (len = n * n) := by show _ = _; rw [hl.out]; exact z4
    have hkn : 2 * k = n := by have := hk.out; omega
    have HB : Hid (∀ W : World, CsAt W x l → Calls Tryz.prog 40 #[(.agg #[.int .i64 N, (.slice x len c)])] W fun e w' => GrPost W n len (encM (matOf n l)) e w') := by
      intro W h
      exact boundsOf_cs N n c len _ l W h hl hll ⟨z2, z3⟩ z1
    have HP : Hid (∀ W : World, IntsAt W y p → Calls Tryz.prog 39 #[.slice y k c'] W fun e w' => GrPost W n len (ptD p) e w') := fun W h => pointBounds_any y k c' n len p W h hk (by omega) p2 hkn hll
    have HW : Hid (∀ (W : World) (g cp h ch : Nat), GrI W g n (ptD p) → GrI W h n (encM (matOf n l)) → Calls Tryz.prog 36 #[(.agg #[.int .i64 n, (.slice (some ⟨g, 0, none⟩) len cp)]), (.agg #[.int .i64 n, (.slice (some ⟨h, 0, none⟩) len ch)])] W fun e w' => e = .returned (.bool (inB n (ptD p) (encM (matOf n l)))) ∧ Below W.heap.size W w') := fun W g cp h ch k1 k2 => gwithin_any n g cp h ch len _ _ W k1 k2 hll (by omega)
    obtain ⟨bb, hbb⟩ : ∃ b, b = inB n (ptD p) (encM (matOf n l)) := ⟨_, rfl⟩
    obtain ⟨f, hf⟩ : ∃ f, f = encM (matOf n l) := ⟨_, rfl⟩
    obtain ⟨f2, hf2⟩ : ∃ f, f = ptD p := ⟨_, rfl⟩
    rw [← hbb] at HW ⊢
    rw [← hf] at HB HW
    rw [← hf2] at HP HW
    rw [h0] at HF ⊢
    rw [erV_0] at HF
    clear hbb hf hf2 hp her he1 he2 hS hA hI hl hk hll hkn p1 p2 z1 z2 z3 z4 z5 z6 hall hn h0
    go_enter Tryz.func17, Tryz.ntmps17
    go_wp2_with fail
    (go_region_held3 (fun w' => w'.cell? ⟨w.heap.size, 0, none⟩ = some (.int .i64 N) ∧ w'.cell? ⟨w.heap.size, 1, none⟩ = some (.slice x len c) ∧ St w w' (EP a x l y p) ((w.heap.size, 0, Value.int .i64 N) :: (w.heap.size, 1, Value.slice x len c) :: [])) (first | (exact keepSt0 ((w.heap.size, 0, Value.int .i64 N) :: (w.heap.size, 1, Value.slice x len c) :: []) s0.drew) | (exact keepSt ((w.heap.size, 0, Value.int .i64 N) :: (w.heap.size, 1, Value.slice x len c) :: []) (by assumption) (by assumption)) | (exact keepSt ((w.heap.size, 0, Value.int .i64 N) :: (w.heap.size, 1, Value.slice x len c) :: []) ((Below.refl _ _).alloc (Nat.le_refl _) _) (by assumption)) | assumption) (first | (go_at_call 38; refine (HV.out _ (keepEP (w := w) (a := a) (x := x) (y := y) (l := l) (p := p) ((w.heap.size, 0, Value.int .i64 N) :: (w.heap.size, 1, Value.slice x len c) :: []) (by assumption)).1 (keepEP (w := w) (a := a) (x := x) (y := y) (l := l) (p := p) ((w.heap.size, 0, Value.int .i64 N) :: (w.heap.size, 1, Value.slice x len c) :: []) (by assumption)).2.1).mono ?_; rintro e w2 ⟨rfl, hb2⟩) | (go_at_call 34; refine (HE.out _ (keepEP (w := w) (a := a) (x := x) (y := y) (l := l) (p := p) ((w.heap.size, 0, Value.int .i64 N) :: (w.heap.size, 1, Value.slice x len c) :: []) (by assumption)).1 (keepEP (w := w) (a := a) (x := x) (y := y) (l := l) (p := p) ((w.heap.size, 0, Value.int .i64 N) :: (w.heap.size, 1, Value.slice x len c) :: []) (by assumption)).2.2).mono ?_; rintro e w2 ⟨rfl, hb2⟩) | (go_at_call 32; refine (HF.out _ _).mono ?_; rintro e w2 ⟨rfl, rfl⟩)); have s5 := keepSt_st (w := w) (W := w2.alloc (.cells #[erV a e1, erV a e2] 32)) (Z := EP a x l y p) ((w.heap.size, 0, Value.int .i64 N) :: (w.heap.size, 1, Value.slice x len c) :: []) (by assumption))
    obtain ⟨W5, hW5⟩ : ∃ W, W = w2.alloc (.cells #[erV a e1, erV a e2] 32) := ⟨_, rfl⟩
    rw [← hW5] at s5 ⊢
    clear hW5 s0 q0 HV HE HF hcl
    have q5 := s5.hold
    simp only [Holds, and_true] at q5
    go_wp2_with fail
    go_region_with (first
      | (go_at_call 39; refine (HP.out _ s5.drew.sent.2.2).mono ?_; rintro e w6 ⟨g6, c6, rfl, hg6, hG6, hb6⟩; have s6 := s5.drew.call hb6; have q6 := s6.hold; simp only [Holds, and_true] at q6)
      | (go_at_call 40; refine (HB.out _ s6.sent.2.1).mono ?_; rintro e w7 ⟨g7, c7, rfl, hg7, hG7, hb7⟩; have hG67 := hG6.below hb7; have s7 := s6.call hb7)
      | (go_at_call 36; refine (HW.out _ g6 c6 g7 c7 hG67 hG7).mono ?_; rintro e w8 ⟨rfl, hb8⟩; have s8 := s7.call hb8))
    all_goals
      go_wp2_with fail
      refine bodyPost_ret (v := .tuple #[.bool bb, .nilIface]) (by simp [results, Tryz.results17, go_sem]) rfl ⟨s8.bel, .inr ⟨rfl, rfl⟩⟩
  · rw [erV_ne h0] at HF
    have H0 := hide h0
    clear h0 hS hA hI hl hk hp her he1 he2
    go_enter Tryz.func17, Tryz.ntmps17
    go_wp2_with fail
    (go_region_held3 (fun w' => w'.cell? ⟨w.heap.size, 0, none⟩ = some (.int .i64 N) ∧ w'.cell? ⟨w.heap.size, 1, none⟩ = some (.slice x len c) ∧ St w w' (EP a x l y p) ((w.heap.size, 0, Value.int .i64 N) :: (w.heap.size, 1, Value.slice x len c) :: [])) (first | (exact keepSt0 ((w.heap.size, 0, Value.int .i64 N) :: (w.heap.size, 1, Value.slice x len c) :: []) s0.drew) | (exact keepSt ((w.heap.size, 0, Value.int .i64 N) :: (w.heap.size, 1, Value.slice x len c) :: []) (by assumption) (by assumption)) | (exact keepSt ((w.heap.size, 0, Value.int .i64 N) :: (w.heap.size, 1, Value.slice x len c) :: []) ((Below.refl _ _).alloc (Nat.le_refl _) _) (by assumption)) | assumption) (first | (go_at_call 38; refine (HV.out _ (keepEP (w := w) (a := a) (x := x) (y := y) (l := l) (p := p) ((w.heap.size, 0, Value.int .i64 N) :: (w.heap.size, 1, Value.slice x len c) :: []) (by assumption)).1 (keepEP (w := w) (a := a) (x := x) (y := y) (l := l) (p := p) ((w.heap.size, 0, Value.int .i64 N) :: (w.heap.size, 1, Value.slice x len c) :: []) (by assumption)).2.1).mono ?_; rintro e w2 ⟨rfl, hb2⟩) | (go_at_call 34; refine (HE.out _ (keepEP (w := w) (a := a) (x := x) (y := y) (l := l) (p := p) ((w.heap.size, 0, Value.int .i64 N) :: (w.heap.size, 1, Value.slice x len c) :: []) (by assumption)).1 (keepEP (w := w) (a := a) (x := x) (y := y) (l := l) (p := p) ((w.heap.size, 0, Value.int .i64 N) :: (w.heap.size, 1, Value.slice x len c) :: []) (by assumption)).2.2).mono ?_; rintro e w2 ⟨rfl, hb2⟩) | (go_at_call 32; refine (HF.out _ _).mono ?_; rintro e w2 ⟨rfl, rfl⟩)); have s5 := keepSt_st (w := w) (W := w2.alloc (.cells #[erV a e1, erV a e2] 32)) (Z := EP a x l y p) ((w.heap.size, 0, Value.int .i64 N) :: (w.heap.size, 1, Value.slice x len c) :: []) (by assumption))
    go_wp2_with fail
    refine bodyPost_ret (v := .tuple #[.bool false, .iface 146 (.pointer (some (a (er.toNat - 1))))]) (by simp [results, Tryz.results17, go_sem]) rfl ⟨s5.bel, .inl ⟨H0.out, by rw [erV_ne H0.out]⟩⟩

/-- It has the point just if each bound holds. -/
theorem inB_pt {n : Nat} {p : List Int} {m : Mat} (hp : ∀ v ∈ p, v.natAbs ≤ 1099511627776) : inB n (ptD p) (encM m) = true ↔ Pt n m (ptF p) := by
  unfold inB
  rw [decide_eq_true_iff]
  have key : ∀ i j, ptD p i j ≤ encM m i j ↔ okB (ptF p j - ptF p i) (m i j) := by
    intro i j
    have u1 := ptF_small hp i
    have u2 := ptF_small hp j
    show ptF p j - ptF p i ≤ encB (m i j) ↔ _
    cases m i j with
    | none => simp [encB, okB]; omega
    | some v => simp [encB, okB]
  constructor
  · intro h i j hi hj
    have := h (i * n + j) (idx_in hi hj)
    obtain ⟨e1, e2⟩ := div_at (i := i) hj
    rw [e1, e2] at this
    exact (key i j).1 this
  · intro h q hq
    exact (key _ _).2 (h _ _ (Nat.div_lt_of_lt_mul hq) (Nat.mod_lt _ (Nat.pos_of_ne_zero (fun e => by subst e; simp at hq))))

end Go.Proofs.YtbafkjhlogkllaaGreatDoor.Oc
