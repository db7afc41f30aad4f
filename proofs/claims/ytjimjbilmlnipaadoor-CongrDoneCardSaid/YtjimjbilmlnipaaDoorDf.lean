/- The program's congruences: products; a region that draws its order, with boxes that are read and one into which is stored. -/
import Derived.Test.YtjimjbilmlnipaaDoorDe
namespace Go.Proofs.YtjimjbilmlnipaaDoor
open Go.RowKit
set_option linter.unusedVariables false

/-- The number in a cell. -/
def numC (w : World) (b o : Nat) : Int := match w.cell? ⟨b, o, none⟩ with
  | some (.int _ n) => n
  | _ => 0
theorem numC_of {w : World} {b o : Nat} {n : Int} (h : w.cell? ⟨b, o, none⟩ = some (.int .i64 n)) : w.cell? ⟨b, o, none⟩ = some (.int .i64 (numC w b o)) := by
  unfold numC; rw [h]

structure Kv (w W : World) (Z : World → Prop) (L : List (Nat × Nat × Value)) (r : Nat) : Prop where
  st : St w W Z L
  ap : Apart r L
  ge : w.heap.size ≤ r
  r0 : ∃ n, W.cell? ⟨r, 0, none⟩ = some (.int .i64 n)
  r1 : ∃ n, W.cell? ⟨r, 1, none⟩ = some (.int .i64 n)
  f0 : W.frozen? ⟨r, 0, none⟩ = false
  f1 : W.frozen? ⟨r, 1, none⟩ = false
  lt : r < W.heap.size

theorem Kv.all {w W : World} {a : Nat → Addr} {L : List (Nat × Nat × Value)} {r : Nat} (h : Kv w W (EZ a) L r) : CellsAnd W L (W.cell? ⟨r, 0, none⟩ = some (.int .i64 (numC W (r) 0)) ∧ W.cell? ⟨r, 1, none⟩ = some (.int .i64 (numC W (r) 1)) ∧ W.frozen? ⟨r, 0, none⟩ = false ∧ W.frozen? ⟨r, 1, none⟩ = false ∧ Kv w W (EZ a) L (r)) := by
  obtain ⟨n0, r0⟩ := h.r0
  obtain ⟨n1, r1⟩ := h.r1
  exact CellsAnd.mk h.st.hold ⟨numC_of r0, numC_of r1, h.f0, h.f1, h⟩

theorem Kv.of {w W : World} {Z : World → Prop} {L : List (Nat × Nat × Value)} {r : Nat} {x y : Int} (h : St w W Z ((r, 0, .int .i64 x) :: (r, 1, .int .i64 y) :: L)) (ap : Apart r L) (ge : w.heap.size ≤ r) : Kv w W Z L r := by
  have k := h.hold
  exact ⟨h.drop 2, ap, ge, ⟨x, k.1.1⟩, ⟨y, k.2.1.1⟩, k.1.2.2, k.2.1.2.2, k.1.2.1⟩

theorem Kv.call {w W W' : World} {Z : World → Prop} {L : List (Nat × Nat × Value)} {r : Nat} (h : Kv w W Z L r) (hb : Below W.heap.size W W') : Kv w W' Z L r := by
  have lt := h.lt
  obtain ⟨n0, r0⟩ := h.r0
  obtain ⟨n1, r1⟩ := h.r1
  exact ⟨h.st.call hb, h.ap, h.ge, ⟨n0, (hb.cell (p := ⟨_, _, none⟩) lt).trans r0⟩, ⟨n1, (hb.cell (p := ⟨_, _, none⟩) lt).trans r1⟩, (hb.frozen (p := ⟨_, _, none⟩) lt).trans h.f0, (hb.frozen (p := ⟨_, _, none⟩) lt).trans h.f1, Nat.lt_of_lt_of_le lt hb.size⟩

theorem Kv.drew {w W : World} {Z : World → Prop} {L : List (Nat × Nat × Value)} {r : Nat} (h : Kv w W Z L r) : Kv w W.drew Z L r := h.call (Below.refl _ _).drew
theorem Kv.alloc {w W : World} {Z : World → Prop} {L : List (Nat × Nat × Value)} {r : Nat} (h : Kv w W Z L r) (o : Obj) : Kv w (W.alloc o) Z L r := h.call ((Below.refl _ _).alloc (Nat.le_refl _) _)

theorem Kv.store {w W : World} {Z : World → Prop} {L : List (Nat × Nat × Value)} {r : Nat} (h : Kv w W Z L r) (x y : Int) : Kv w ((W.setCell ⟨r, 0, none⟩ (.int .i64 x)).setCell ⟨r, 1, none⟩ (.int .i64 y)) Z L r := by
  obtain ⟨n0, r0⟩ := h.r0
  obtain ⟨n1, r1⟩ := h.r1
  have s0 : St w W Z ((r, 0, .int .i64 n0) :: (r, 1, .int .i64 n1) :: L) := h.st.add (L' := [(r, 0, .int .i64 n0), (r, 1, .int .i64 n1)]) ⟨⟨r0, h.lt, h.f0⟩, ⟨r1, h.lt, h.f1⟩, trivial⟩
  exact Kv.of ((s0.put20 h.ge h.ap (.int .i64 x)).put21 h.ge h.ap (.int .i64 y)) h.ap h.ge

theorem keepV {w W W' : World} {a : Nat → Addr} (L : List (Nat × Nat × Value)) (r : Nat) (hb : Below W.heap.size W W') (h : CellsAnd W L (W.cell? ⟨r, 0, none⟩ = some (.int .i64 (numC W (r) 0)) ∧ W.cell? ⟨r, 1, none⟩ = some (.int .i64 (numC W (r) 1)) ∧ W.frozen? ⟨r, 0, none⟩ = false ∧ W.frozen? ⟨r, 1, none⟩ = false ∧ Kv w W (EZ a) L (r))) : CellsAnd W' L (W'.cell? ⟨r, 0, none⟩ = some (.int .i64 (numC W' (r) 0)) ∧ W'.cell? ⟨r, 1, none⟩ = some (.int .i64 (numC W' (r) 1)) ∧ W'.frozen? ⟨r, 0, none⟩ = false ∧ W'.frozen? ⟨r, 1, none⟩ = false ∧ Kv w W' (EZ a) L (r)) := (h.last.2.2.2.2.call hb).all
theorem keepVd {w W : World} {a : Nat → Addr} (L : List (Nat × Nat × Value)) (r : Nat) (h : CellsAnd W L (W.cell? ⟨r, 0, none⟩ = some (.int .i64 (numC W (r) 0)) ∧ W.cell? ⟨r, 1, none⟩ = some (.int .i64 (numC W (r) 1)) ∧ W.frozen? ⟨r, 0, none⟩ = false ∧ W.frozen? ⟨r, 1, none⟩ = false ∧ Kv w W (EZ a) L (r))) : CellsAnd W.drew L (W.drew.cell? ⟨r, 0, none⟩ = some (.int .i64 (numC W.drew (r) 0)) ∧ W.drew.cell? ⟨r, 1, none⟩ = some (.int .i64 (numC W.drew (r) 1)) ∧ W.drew.frozen? ⟨r, 0, none⟩ = false ∧ W.drew.frozen? ⟨r, 1, none⟩ = false ∧ Kv w W.drew (EZ a) L (r)) := h.last.2.2.2.2.drew.all
theorem keepVa {w W : World} {a : Nat → Addr} {o : Obj} (L : List (Nat × Nat × Value)) (r : Nat) (h : CellsAnd W L (W.cell? ⟨r, 0, none⟩ = some (.int .i64 (numC W (r) 0)) ∧ W.cell? ⟨r, 1, none⟩ = some (.int .i64 (numC W (r) 1)) ∧ W.frozen? ⟨r, 0, none⟩ = false ∧ W.frozen? ⟨r, 1, none⟩ = false ∧ Kv w W (EZ a) L (r))) : CellsAnd (W.alloc o) L ((W.alloc o).cell? ⟨r, 0, none⟩ = some (.int .i64 (numC (W.alloc o) (r) 0)) ∧ (W.alloc o).cell? ⟨r, 1, none⟩ = some (.int .i64 (numC (W.alloc o) (r) 1)) ∧ (W.alloc o).frozen? ⟨r, 0, none⟩ = false ∧ (W.alloc o).frozen? ⟨r, 1, none⟩ = false ∧ Kv w (W.alloc o) (EZ a) L (r)) := (h.last.2.2.2.2.alloc o).all
theorem keepVs {w W W1 : World} {a : Nat → Addr} (L : List (Nat × Nat × Value)) (r : Nat) {x y : Int} (e : W1 = (W.setCell ⟨r, 0, none⟩ (.int .i64 x)).setCell ⟨r, 1, none⟩ (.int .i64 y)) (h : CellsAnd W L (W.cell? ⟨r, 0, none⟩ = some (.int .i64 (numC W (r) 0)) ∧ W.cell? ⟨r, 1, none⟩ = some (.int .i64 (numC W (r) 1)) ∧ W.frozen? ⟨r, 0, none⟩ = false ∧ W.frozen? ⟨r, 1, none⟩ = false ∧ Kv w W (EZ a) L (r))) : CellsAnd W1 L (W1.cell? ⟨r, 0, none⟩ = some (.int .i64 (numC W1 (r) 0)) ∧ W1.cell? ⟨r, 1, none⟩ = some (.int .i64 (numC W1 (r) 1)) ∧ W1.frozen? ⟨r, 0, none⟩ = false ∧ W1.frozen? ⟨r, 1, none⟩ = false ∧ Kv w W1 (EZ a) L (r)) := by
  subst e; exact (h.last.2.2.2.2.store x y).all
theorem keepV_k {w W : World} {a : Nat → Addr} (L : List (Nat × Nat × Value)) (r : Nat) (h : CellsAnd W L (W.cell? ⟨r, 0, none⟩ = some (.int .i64 (numC W (r) 0)) ∧ W.cell? ⟨r, 1, none⟩ = some (.int .i64 (numC W (r) 1)) ∧ W.frozen? ⟨r, 0, none⟩ = false ∧ W.frozen? ⟨r, 1, none⟩ = false ∧ Kv w W (EZ a) L (r))) : Kv w W (EZ a) L r := h.last.2.2.2.2


set_option maxRecDepth 20000 in
set_option maxHeartbeats 4000000 in
theorem cmul_is (a : Nat → Addr) : CMulC a := by
  intro r m r' m' w hS hR hQ
  obtain ⟨x, hx⟩ : ∃ x, x = twoC ⟨r, m⟩ ⟨r', m'⟩ := ⟨_, rfl⟩
  have HE : Hid (∀ (b : Nat) (W : World), ErrS W a → TwoAt W b r m r' m' → Calls Tryd.prog 36 #[.slice (some ⟨b, 0, none⟩) 2 2] W fun e w' => e = .returned (errV a x) ∧ Below W.heap.size W w') := firstError_as x r m r' m' hx a hR hQ
  rw [← hx]
  have s00 := (((St.startE hS).box2 31 (.int .i64 r) (.int .i64 m)).box2 31 (.int .i64 r') (.int .i64 m')).box2 31 (.int .i64 0) (.int .i64 0)
  simp only [callocSize] at s00
  by_cases h0 : x = 0
  · obtain ⟨o1, o2⟩ := (twoC_ok _ _).1 (hx.symm.trans h0)
    obtain ⟨b1, b2, c1⟩ := okC_rng o1
    obtain ⟨b3, b4, c2⟩ := okC_rng o2
    obtain ⟨p, hp⟩ : ∃ p, p = if -9223372036854775807 ≤ r * r' ∧ r * r' ≤ 9223372036854775807 then r * r' else 9223372036854775807 := ⟨_, rfl⟩
    have pb : (-9223372036854775808 ≤ p ∧ p ≤ 9223372036854775807) := by rw [hp]; split <;> omega
    have HP : Hid (∀ W : World, Calls Tryd.prog 40 #[.int .i64 r, .int .i64 r'] W fun e w' => e = .returned (.int .i64 p) ∧ w' = W) := fun W => by rw [hp]; exact product_is r r' W b1 b3
    have u1 : (r * m').natAbs ≤ 1099511627776 * 1048576 := mul_b (by omega) (by omega)
    have u2 : (r' * m).natAbs ≤ 1099511627776 * 1048576 := mul_b (by omega) (by omega)
    have u3 : (m * m').natAbs ≤ 1048576 * 1048576 := mul_b (by omega) (by omega)
    have v1 : IntKind.i64.wrap (r * m') = r * m' := wrap_small _ (by omega) (by omega)
    have v2 : IntKind.i64.wrap (r' * m) = r' * m := wrap_small _ (by omega) (by omega)
    have v3 : IntKind.i64.wrap (m * m') = m * m' := wrap_small _ (by omega) (by omega)
    obtain ⟨⟨zr, zm⟩, hz⟩ : ∃ Z, formC p (gcdT [r * m', r' * m, m * m'] 3) = Z := ⟨_, rfl⟩
    have HL : Hid (∀ (b : Nat) (W : World), ErrS W a → IntsAt W (some ⟨b, 0, none⟩) [IntKind.i64.wrap (r * m'), IntKind.i64.wrap (r' * m), IntKind.i64.wrap (m * m')] → Calls Tryd.prog 37 #[.int .i64 p, .slice (some ⟨b, 0, none⟩) 3 3] W fun e w' => e = .returned (.agg #[.int .i64 zr, .int .i64 zm]) ∧ Below W.heap.size W w') := by
      rw [v1, v2, v3]
      exact cleast_as zr zm p _ 3 hz a rfl (by omega) (by simp; omega) pb
    have hzz : formC (r * r') (Int.gcd (Int.gcd (m * m') (m * r')) (r * m')) = ⟨zr, zm⟩ := by
      rw [← hz, hp]
      split
      · rw [gcdT_mul]
      · rename_i hno
        obtain ⟨e1, e2⟩ := mul_far o1 o2 hno
        rw [gcdT_mul, e1, e2]
        have hfar : farB (r * r') 1099511627776 = true := by simp [farB]; omega
        unfold formC
        simp [hfar]
        simp [farB]
    rw [if_pos h0]
    show Calls _ _ _ _ fun e w' => e = .returned (.tuple #[(formC (r * r') (Int.gcd (Int.gcd (m * m') (m * r')) (r * m'))).v, errV a x]) ∧ _
    rw [hzz]
    clear hz hzz o1 o2 hR hQ hx hp c1 c2 u1 u2 u3 v1 v2 v3
    subst h0
    go_enter Tryd.func26, Tryd.ntmps26
    go_wp2_with fail
    have s0 := s00.box4 31 (.int .i64 r) (.int .i64 m) (.int .i64 r') (.int .i64 m')
    simp only [callocSize] at s0
    refine (HE.out _ _ s0.errz (TwoAt.of s0)).mono ?_
    (rintro e1 w1 ⟨rfl, hb⟩; have s1 := s0.call hb; have q1 := s1.hold; simp only [Holds, and_true] at q1; clear hb; try clear q0)
    rw [cerrV_zero]
    have hK0 : Kv w w1 (EZ a) ((w.heap.size + 1, 0, Value.int .i64 (r')) :: (w.heap.size + 1, 1, Value.int .i64 (m')) :: (w.heap.size, 0, Value.int .i64 (r)) :: (w.heap.size, 1, Value.int .i64 (m)) :: []) (w.heap.size + 1 + 1) := Kv.of (s1.drop 4) ⟨(by dsimp only; omega), (by dsimp only; omega), (by dsimp only; omega), (by dsimp only; omega), trivial⟩ (by omega)
    go_upto_region 4 with fail
    go_region_held3 (fun w' => w'.cell? ⟨w.heap.size + 1, 0, none⟩ = some (.int .i64 (r')) ∧ w'.cell? ⟨w.heap.size + 1, 1, none⟩ = some (.int .i64 (m')) ∧ w'.cell? ⟨w.heap.size, 0, none⟩ = some (.int .i64 (r)) ∧ w'.cell? ⟨w.heap.size, 1, none⟩ = some (.int .i64 (m)) ∧ (w'.cell? ⟨w.heap.size + 1 + 1, 0, none⟩ = some (.int .i64 (numC w' (w.heap.size + 1 + 1) 0)) ∧ w'.cell? ⟨w.heap.size + 1 + 1, 1, none⟩ = some (.int .i64 (numC w' (w.heap.size + 1 + 1) 1)) ∧ w'.frozen? ⟨w.heap.size + 1 + 1, 0, none⟩ = false ∧ w'.frozen? ⟨w.heap.size + 1 + 1, 1, none⟩ = false ∧ Kv w w' (EZ a) ((w.heap.size + 1, 0, Value.int .i64 (r')) :: (w.heap.size + 1, 1, Value.int .i64 (m')) :: (w.heap.size, 0, Value.int .i64 (r)) :: (w.heap.size, 1, Value.int .i64 (m)) :: []) (w.heap.size + 1 + 1))) (first | (exact keepVs ((w.heap.size + 1, 0, Value.int .i64 (r')) :: (w.heap.size + 1, 1, Value.int .i64 (m')) :: (w.heap.size, 0, Value.int .i64 (r)) :: (w.heap.size, 1, Value.int .i64 (m)) :: []) (w.heap.size + 1 + 1) rfl (by assumption)) | (exact keepVa ((w.heap.size + 1, 0, Value.int .i64 (r')) :: (w.heap.size + 1, 1, Value.int .i64 (m')) :: (w.heap.size, 0, Value.int .i64 (r)) :: (w.heap.size, 1, Value.int .i64 (m)) :: []) (w.heap.size + 1 + 1) (by assumption)) | (exact keepVd ((w.heap.size + 1, 0, Value.int .i64 (r')) :: (w.heap.size + 1, 1, Value.int .i64 (m')) :: (w.heap.size, 0, Value.int .i64 (r)) :: (w.heap.size, 1, Value.int .i64 (m)) :: []) (w.heap.size + 1 + 1) (by assumption)) | (exact keepV ((w.heap.size + 1, 0, Value.int .i64 (r')) :: (w.heap.size + 1, 1, Value.int .i64 (m')) :: (w.heap.size, 0, Value.int .i64 (r)) :: (w.heap.size, 1, Value.int .i64 (m)) :: []) (w.heap.size + 1 + 1) (by assumption) (by assumption)) | (exact (Kv.drew hK0).all) | assumption)
      (first
        | (go_at_call 40; refine (HP.out _).mono ?_; rintro e w2 ⟨rfl, rfl⟩)
        | (go_at_call 37; refine (HL.out _ _ (keepV_k ((w.heap.size + 1, 0, Value.int .i64 (r')) :: (w.heap.size + 1, 1, Value.int .i64 (m')) :: (w.heap.size, 0, Value.int .i64 (r)) :: (w.heap.size, 1, Value.int .i64 (m)) :: []) (w.heap.size + 1 + 1) (by assumption)).st.errz (by exact ints_new3 _ _ _ _ _)).mono ?_; rintro e w3 ⟨rfl, hb3⟩; have hK3 := (keepV_k ((w.heap.size + 1, 0, Value.int .i64 (r')) :: (w.heap.size + 1, 1, Value.int .i64 (m')) :: (w.heap.size, 0, Value.int .i64 (r)) :: (w.heap.size, 1, Value.int .i64 (m)) :: []) (w.heap.size + 1 + 1) (by assumption)).call hb3))
    all_goals
      obtain ⟨n0, r0⟩ := hK3.r0
      obtain ⟨n1, r1⟩ := hK3.r1
      go_wp2_with fail
      refine bodyPost_ret (v := .tuple #[(.agg #[.int .i64 zr, .int .i64 zm]), .nilIface]) (by simp [results, Tryd.results26, go_sem, r0, r1]) rfl ⟨rfl, ?_⟩
      iterate 2 refine Below.setCell ?_ (by first | (simp; done) | (simp; omega)) _
      exact hK3.st.bel
  · clear hx
    rw [if_neg h0]
    go_enter Tryd.func26, Tryd.ntmps26
    go_wp2_with fail
    have s0 := s00.box4 31 (.int .i64 r) (.int .i64 m) (.int .i64 r') (.int .i64 m')
    simp only [callocSize] at s0
    refine (HE.out _ _ s0.errz (TwoAt.of s0)).mono ?_
    (rintro e1 w1 ⟨rfl, hb⟩; have s1 := s0.call hb; have q1 := s1.hold; simp only [Holds, and_true] at q1; clear hb; try clear q0)
    rw [cerrV_some h0]
    go_wp2_with fail
    refine bodyPost_ret (v := .tuple #[(.agg #[.int .i64 0, .int .i64 0]), .iface 107 (.pointer (some (a (x.toNat - 1))))]) (by simp [results, Tryd.results26, go_sem, *]) rfl ⟨by rw [cerrV_some h0]; rfl, ?_⟩
    iterate 2 refine Below.setCell ?_ (by first | (simp; done) | (simp; omega)) _
    exact s1.bel

end Go.Proofs.YtjimjbilmlnipaaDoor
