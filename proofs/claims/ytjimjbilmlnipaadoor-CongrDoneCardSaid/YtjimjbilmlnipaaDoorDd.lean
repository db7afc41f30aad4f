/- The program's congruences: joins, sums, differences. -/
import Derived.Test.YtjimjbilmlnipaaDoorDc
namespace Go.Proofs.YtjimjbilmlnipaaDoor
open Go.RowKit
set_option linter.unusedVariables false

theorem ints_new1 (W : World) (t : TypeId) (x : Int) : IntsAt (W.alloc (.cells #[.int .i64 x] t)) (some ⟨W.heap.size, 0, none⟩) [x] :=
  .inr ⟨_, _, rfl, by simp, fun i hi => by
    rcases (by simp at hi; omega : i = 0) with rfl
    simp⟩
theorem ints_new2 (W : World) (t : TypeId) (x y : Int) : IntsAt (W.alloc (.cells #[.int .i64 x, .int .i64 y] t)) (some ⟨W.heap.size, 0, none⟩) [x, y] :=
  .inr ⟨_, _, rfl, by simp, fun i hi => by
    rcases (by simp at hi; omega : i = 0 ∨ i = 1) with rfl | rfl <;> simp⟩
theorem ints_new3 (W : World) (t : TypeId) (x y z : Int) : IntsAt (W.alloc (.cells #[.int .i64 x, .int .i64 y, .int .i64 z] t)) (some ⟨W.heap.size, 0, none⟩) [x, y, z] :=
  .inr ⟨_, _, rfl, by simp, fun i hi => by
    rcases (by simp at hi; omega : i = 0 ∨ i = 1 ∨ i = 2) with rfl | rfl | rfl <;> simp⟩

theorem firstError_as (x r m r' m' : Int) (hx : Hid (x = twoC ⟨r, m⟩ ⟨r', m'⟩)) (a : Nat → Addr) (hr : (-9223372036854775808 ≤ r ∧ r ≤ 9223372036854775807) ∧ (-9223372036854775808 ≤ m ∧ m ≤ 9223372036854775807)) (hr' : (-9223372036854775808 ≤ r' ∧ r' ≤ 9223372036854775807) ∧ (-9223372036854775808 ≤ m' ∧ m' ≤ 9223372036854775807)) (b : Nat) (w : World) (hS : ErrS w a) (hT : TwoAt w b r m r' m') :
    Calls Tryd.prog 36 #[.slice (some ⟨b, 0, none⟩) 2 2] w fun e w' => e = .returned (errV a x) ∧ Below w.heap.size w w' := by
  rw [hx.out]; exact firstError_any b r m r' m' a w hS hT hr hr'

theorem cleast_as (zr zm n : Int) (l : List Int) (k : Nat) (hz : Hid (formC n (gcdT l k) = ⟨zr, zm⟩)) (a : Nat → Addr) (hl : k = l.length) (hk : k ≤ 1000) (hb : ∀ s ∈ l, -4611686018427387904 ≤ s ∧ s ≤ 4611686018427387904) (hn : (-9223372036854775808 ≤ n ∧ n ≤ 9223372036854775807)) (b : Nat) (w : World) (hS : ErrS w a) (hA : IntsAt w (some ⟨b, 0, none⟩) l) :
    Calls Tryd.prog 37 #[.int .i64 n, .slice (some ⟨b, 0, none⟩) k k] w fun e w' => e = .returned (.agg #[.int .i64 zr, .int .i64 zm]) ∧ Below w.heap.size w w' := by
  have hle : ∀ j, j ≤ l.length → gcdT l j ≤ 4611686018427387904 := by
    intro j
    induction j with
    | zero => intro _; simp [gcdT]
    | succ j ih =>
      intro hj
      refine gcd_le' (ih (by omega)) ?_
      have := hb (l.getD j 0) (by rw [show l.getD j 0 = l[j] by simp [show j < l.length from hj]]; exact List.getElem_mem hj)
      omega
  have := cleast_any n b 0 k k l a w hS hA hl hk hb (hle k (by omega)) hn
  rw [hz.out] at this
  exact this

theorem TwoAt.of {w W : World} {Z : World → Prop} {b : Nat} {r m r' m' : Int} {L : List (Nat × Nat × Value)} (h : St w W Z ((b, 0, .int .i64 r) :: (b, 1, .int .i64 m) :: (b, 2, .int .i64 r') :: (b, 3, .int .i64 m') :: L)) : TwoAt W b r m r' m' :=
  ⟨h.hold.1, h.hold.2.1, h.hold.2.2.1, h.hold.2.2.2.1, trivial⟩

theorem okC_rng {r m : Int} (h : okC ⟨r, m⟩) : (-1099511627776 ≤ r ∧ r ≤ 1099511627776) ∧ (0 ≤ m ∧ m ≤ 1048576) ∧ (m ≠ 0 → 0 ≤ r ∧ r < 1048576) := by
  obtain ⟨h1, h2, h3, h4⟩ := h
  dsimp only at *
  by_cases h0 : m = 0
  · exact ⟨h3 h0, ⟨h1, h2⟩, fun h => absurd h0 h⟩
  · have := h4 (by omega)
    exact ⟨by omega, ⟨h1, h2⟩, fun _ => by omega⟩

set_option maxRecDepth 20000 in
set_option maxHeartbeats 4000000 in
theorem cjoin_is (a : Nat → Addr) : CJoinC a := by
  intro r m r' m' w hS hR hQ
  obtain ⟨x, hx⟩ : ∃ x, x = twoC ⟨r, m⟩ ⟨r', m'⟩ := ⟨_, rfl⟩
  have HE : Hid (∀ (b : Nat) (W : World), ErrS W a → TwoAt W b r m r' m' → Calls Tryd.prog 36 #[.slice (some ⟨b, 0, none⟩) 2 2] W fun e w' => e = .returned (errV a x) ∧ Below W.heap.size W w') := firstError_as x r m r' m' hx a hR hQ
  rw [← hx]
  have s00 := (((St.startE hS).box2 31 (.int .i64 r) (.int .i64 m)).box2 31 (.int .i64 r') (.int .i64 m')).box2 31 (.int .i64 0) (.int .i64 0)
  simp only [callocSize] at s00
  by_cases h0 : x = 0
  · obtain ⟨o1, o2⟩ := (twoC_ok _ _).1 (hx.symm.trans h0)
    obtain ⟨b1, b2, _⟩ := okC_rng o1
    obtain ⟨b3, b4, _⟩ := okC_rng o2
    clear o1 o2 hR hQ hx
    obtain ⟨⟨zr, zm⟩, hz⟩ : ∃ Z, formC (r) (gcdT [m, m', r' - r] 3) = Z := ⟨_, rfl⟩
    have HL : Hid (∀ (b : Nat) (W : World), ErrS W a → IntsAt W (some ⟨b, 0, none⟩) [m, m', r' - r] → Calls Tryd.prog 37 #[.int .i64 (r), .slice (some ⟨b, 0, none⟩) 3 3] W fun e w' => e = .returned (.agg #[.int .i64 zr, .int .i64 zm]) ∧ Below W.heap.size W w') :=
      cleast_as zr zm (r) _ 3 hz a rfl (by omega) (by simp; omega) (by omega)
    rw [if_pos h0]
    have hzz : formC (r) (Int.gcd (Int.gcd m m') (r - r')) = ⟨zr, zm⟩ := by rw [← hz, gcdT_join]
    have HZ := hide hzz
    clear hz hzz
    subst h0
    show Calls _ _ _ _ fun e w' => e = .returned (.tuple #[(formC (r) (Int.gcd (Int.gcd m m') (r - r'))).v, errV a 0]) ∧ _
    rw [HZ.out]
    clear HZ
    go_enter Tryd.func20, Tryd.ntmps20
    go_wp2_with fail
    have s0 := s00.box4 31 (.int .i64 r) (.int .i64 m) (.int .i64 r') (.int .i64 m')
    simp only [callocSize] at s0
    refine (HE.out _ _ s0.errz (TwoAt.of s0)).mono ?_
    (rintro e1 w1 ⟨rfl, hb⟩; have s1 := s0.call hb; have q1 := s1.hold; simp only [Holds, and_true] at q1; clear hb; try clear q0)
    rw [cerrV_zero]
    go_wp2_with fail
    have s2 := s1.alloc (.cells #[.int .i64 (m), .int .i64 (m'), .int .i64 (r' - r)] 3)
    refine (HL.out _ _ s2.errz (ints_new3 _ _ (m) (m') (r' - r))).mono ?_
    (rintro e1 w3 ⟨rfl, hb⟩; have s3 := s2.call hb; have q3 := s3.hold; simp only [Holds, and_true] at q3; clear hb; try clear q2)
    go_wp2_with fail
    refine bodyPost_ret (v := .tuple #[(.agg #[.int .i64 zr, .int .i64 zm]), .nilIface]) (by simp [results, Tryd.results20, go_sem, *]) rfl ⟨rfl, ?_⟩
    iterate 2 refine Below.setCell ?_ (by first | (simp; done) | (simp; omega)) _
    exact s3.bel
  · clear hx
    rw [if_neg h0]
    go_enter Tryd.func20, Tryd.ntmps20
    go_wp2_with fail
    have s0 := s00.box4 31 (.int .i64 r) (.int .i64 m) (.int .i64 r') (.int .i64 m')
    simp only [callocSize] at s0
    refine (HE.out _ _ s0.errz (TwoAt.of s0)).mono ?_
    (rintro e1 w1 ⟨rfl, hb⟩; have s1 := s0.call hb; have q1 := s1.hold; simp only [Holds, and_true] at q1; clear hb; try clear q0)
    rw [cerrV_some h0]
    go_wp2_with fail
    refine bodyPost_ret (v := .tuple #[(.agg #[.int .i64 0, .int .i64 0]), .iface 107 (.pointer (some (a (x.toNat - 1))))]) (by simp [results, Tryd.results20, go_sem, *]) rfl ⟨by rw [cerrV_some h0]; rfl, ?_⟩
    iterate 2 refine Below.setCell ?_ (by first | (simp; done) | (simp; omega)) _
    exact s1.bel

set_option maxRecDepth 20000 in
set_option maxHeartbeats 4000000 in
theorem cadd_is (a : Nat → Addr) : CAddC a := by
  intro r m r' m' w hS hR hQ
  obtain ⟨x, hx⟩ : ∃ x, x = twoC ⟨r, m⟩ ⟨r', m'⟩ := ⟨_, rfl⟩
  have HE : Hid (∀ (b : Nat) (W : World), ErrS W a → TwoAt W b r m r' m' → Calls Tryd.prog 36 #[.slice (some ⟨b, 0, none⟩) 2 2] W fun e w' => e = .returned (errV a x) ∧ Below W.heap.size W w') := firstError_as x r m r' m' hx a hR hQ
  rw [← hx]
  have s00 := (((St.startE hS).box2 31 (.int .i64 r) (.int .i64 m)).box2 31 (.int .i64 r') (.int .i64 m')).box2 31 (.int .i64 0) (.int .i64 0)
  simp only [callocSize] at s00
  by_cases h0 : x = 0
  · obtain ⟨o1, o2⟩ := (twoC_ok _ _).1 (hx.symm.trans h0)
    obtain ⟨b1, b2, _⟩ := okC_rng o1
    obtain ⟨b3, b4, _⟩ := okC_rng o2
    clear o1 o2 hR hQ hx
    obtain ⟨⟨zr, zm⟩, hz⟩ : ∃ Z, formC (r + r') (gcdT [m, m'] 2) = Z := ⟨_, rfl⟩
    have HL : Hid (∀ (b : Nat) (W : World), ErrS W a → IntsAt W (some ⟨b, 0, none⟩) [m, m'] → Calls Tryd.prog 37 #[.int .i64 (r + r'), .slice (some ⟨b, 0, none⟩) 2 2] W fun e w' => e = .returned (.agg #[.int .i64 zr, .int .i64 zm]) ∧ Below W.heap.size W w') :=
      cleast_as zr zm (r + r') _ 2 hz a rfl (by omega) (by simp; omega) (by omega)
    rw [if_pos h0]
    have hzz : formC (r + r') (Int.gcd m m') = ⟨zr, zm⟩ := by rw [← hz, gcdT_two]
    have HZ := hide hzz
    clear hz hzz
    subst h0
    show Calls _ _ _ _ fun e w' => e = .returned (.tuple #[(formC (r + r') (Int.gcd m m')).v, errV a 0]) ∧ _
    rw [HZ.out]
    clear HZ
    go_enter Tryd.func24, Tryd.ntmps24
    go_wp2_with fail
    have s0 := s00.box4 31 (.int .i64 r) (.int .i64 m) (.int .i64 r') (.int .i64 m')
    simp only [callocSize] at s0
    refine (HE.out _ _ s0.errz (TwoAt.of s0)).mono ?_
    (rintro e1 w1 ⟨rfl, hb⟩; have s1 := s0.call hb; have q1 := s1.hold; simp only [Holds, and_true] at q1; clear hb; try clear q0)
    rw [cerrV_zero]
    go_wp2_with fail
    have s2 := s1.alloc (.cells #[.int .i64 (m), .int .i64 (m')] 3)
    refine (HL.out _ _ s2.errz (ints_new2 _ _ (m) (m'))).mono ?_
    (rintro e1 w3 ⟨rfl, hb⟩; have s3 := s2.call hb; have q3 := s3.hold; simp only [Holds, and_true] at q3; clear hb; try clear q2)
    go_wp2_with fail
    refine bodyPost_ret (v := .tuple #[(.agg #[.int .i64 zr, .int .i64 zm]), .nilIface]) (by simp [results, Tryd.results24, go_sem, *]) rfl ⟨rfl, ?_⟩
    iterate 2 refine Below.setCell ?_ (by first | (simp; done) | (simp; omega)) _
    exact s3.bel
  · clear hx
    rw [if_neg h0]
    go_enter Tryd.func24, Tryd.ntmps24
    go_wp2_with fail
    have s0 := s00.box4 31 (.int .i64 r) (.int .i64 m) (.int .i64 r') (.int .i64 m')
    simp only [callocSize] at s0
    refine (HE.out _ _ s0.errz (TwoAt.of s0)).mono ?_
    (rintro e1 w1 ⟨rfl, hb⟩; have s1 := s0.call hb; have q1 := s1.hold; simp only [Holds, and_true] at q1; clear hb; try clear q0)
    rw [cerrV_some h0]
    go_wp2_with fail
    refine bodyPost_ret (v := .tuple #[(.agg #[.int .i64 0, .int .i64 0]), .iface 107 (.pointer (some (a (x.toNat - 1))))]) (by simp [results, Tryd.results24, go_sem, *]) rfl ⟨by rw [cerrV_some h0]; rfl, ?_⟩
    iterate 2 refine Below.setCell ?_ (by first | (simp; done) | (simp; omega)) _
    exact s1.bel

set_option maxRecDepth 20000 in
set_option maxHeartbeats 4000000 in
theorem csub_is (a : Nat → Addr) : CSubC a := by
  intro r m r' m' w hS hR hQ
  obtain ⟨x, hx⟩ : ∃ x, x = twoC ⟨r, m⟩ ⟨r', m'⟩ := ⟨_, rfl⟩
  have HE : Hid (∀ (b : Nat) (W : World), ErrS W a → TwoAt W b r m r' m' → Calls Tryd.prog 36 #[.slice (some ⟨b, 0, none⟩) 2 2] W fun e w' => e = .returned (errV a x) ∧ Below W.heap.size W w') := firstError_as x r m r' m' hx a hR hQ
  rw [← hx]
  have s00 := (((St.startE hS).box2 31 (.int .i64 r) (.int .i64 m)).box2 31 (.int .i64 r') (.int .i64 m')).box2 31 (.int .i64 0) (.int .i64 0)
  simp only [callocSize] at s00
  by_cases h0 : x = 0
  · obtain ⟨o1, o2⟩ := (twoC_ok _ _).1 (hx.symm.trans h0)
    obtain ⟨b1, b2, _⟩ := okC_rng o1
    obtain ⟨b3, b4, _⟩ := okC_rng o2
    clear o1 o2 hR hQ hx
    obtain ⟨⟨zr, zm⟩, hz⟩ : ∃ Z, formC (r - r') (gcdT [m, m'] 2) = Z := ⟨_, rfl⟩
    have HL : Hid (∀ (b : Nat) (W : World), ErrS W a → IntsAt W (some ⟨b, 0, none⟩) [m, m'] → Calls Tryd.prog 37 #[.int .i64 (r - r'), .slice (some ⟨b, 0, none⟩) 2 2] W fun e w' => e = .returned (.agg #[.int .i64 zr, .int .i64 zm]) ∧ Below W.heap.size W w') :=
      cleast_as zr zm (r - r') _ 2 hz a rfl (by omega) (by simp; omega) (by omega)
    rw [if_pos h0]
    have hzz : formC (r - r') (Int.gcd m m') = ⟨zr, zm⟩ := by rw [← hz, gcdT_two]
    have HZ := hide hzz
    clear hz hzz
    subst h0
    show Calls _ _ _ _ fun e w' => e = .returned (.tuple #[(formC (r - r') (Int.gcd m m')).v, errV a 0]) ∧ _
    rw [HZ.out]
    clear HZ
    go_enter Tryd.func25, Tryd.ntmps25
    go_wp2_with fail
    have s0 := s00.box4 31 (.int .i64 r) (.int .i64 m) (.int .i64 r') (.int .i64 m')
    simp only [callocSize] at s0
    refine (HE.out _ _ s0.errz (TwoAt.of s0)).mono ?_
    (rintro e1 w1 ⟨rfl, hb⟩; have s1 := s0.call hb; have q1 := s1.hold; simp only [Holds, and_true] at q1; clear hb; try clear q0)
    rw [cerrV_zero]
    go_wp2_with fail
    have s2 := s1.alloc (.cells #[.int .i64 (m), .int .i64 (m')] 3)
    refine (HL.out _ _ s2.errz (ints_new2 _ _ (m) (m'))).mono ?_
    (rintro e1 w3 ⟨rfl, hb⟩; have s3 := s2.call hb; have q3 := s3.hold; simp only [Holds, and_true] at q3; clear hb; try clear q2)
    go_wp2_with fail
    refine bodyPost_ret (v := .tuple #[(.agg #[.int .i64 zr, .int .i64 zm]), .nilIface]) (by simp [results, Tryd.results25, go_sem, *]) rfl ⟨rfl, ?_⟩
    iterate 2 refine Below.setCell ?_ (by first | (simp; done) | (simp; omega)) _
    exact s3.bel
  · clear hx
    rw [if_neg h0]
    go_enter Tryd.func25, Tryd.ntmps25
    go_wp2_with fail
    have s0 := s00.box4 31 (.int .i64 r) (.int .i64 m) (.int .i64 r') (.int .i64 m')
    simp only [callocSize] at s0
    refine (HE.out _ _ s0.errz (TwoAt.of s0)).mono ?_
    (rintro e1 w1 ⟨rfl, hb⟩; have s1 := s0.call hb; have q1 := s1.hold; simp only [Holds, and_true] at q1; clear hb; try clear q0)
    rw [cerrV_some h0]
    go_wp2_with fail
    refine bodyPost_ret (v := .tuple #[(.agg #[.int .i64 0, .int .i64 0]), .iface 107 (.pointer (some (a (x.toNat - 1))))]) (by simp [results, Tryd.results25, go_sem, *]) rfl ⟨by rw [cerrV_some h0]; rfl, ?_⟩
    iterate 2 refine Below.setCell ?_ (by first | (simp; done) | (simp; omega)) _
    exact s1.bel

end Go.Proofs.YtjimjbilmlnipaaDoor
