/- The program's congruences: Meet; the closed fact. -/
import Derived.Test.YtjimjbilmlnipaaDoorDg
namespace Go.Proofs.YtjimjbilmlnipaaDoor
open Go.RowKit
set_option linter.unusedVariables false

set_option maxRecDepth 20000 in
set_option maxHeartbeats 4000000 in
theorem cmeet_is (a : Nat → Addr) : CMeetC a := by
  intro r m r' m' w hS hR hQ
  obtain ⟨x, hx⟩ : ∃ x, x = twoC ⟨r, m⟩ ⟨r', m'⟩ := ⟨_, rfl⟩
  have HE : Hid (∀ (b : Nat) (W : World), ErrS W a → TwoAt W b r m r' m' → Calls Tryd.prog 36 #[.slice (some ⟨b, 0, none⟩) 2 2] W fun e w' => e = .returned (errV a x) ∧ Below W.heap.size W w') := firstError_as x r m r' m' hx a hR hQ
  rw [← hx]
  have s00 := (((St.startE hS).box2 31 (.int .i64 r) (.int .i64 m)).box2 31 (.int .i64 r') (.int .i64 m')).box2 31 (.int .i64 0) (.int .i64 0)
  simp only [callocSize] at s00
  by_cases h0 : x = 0
  · obtain ⟨o1, o2⟩ := (twoC_ok _ _).1 (hx.symm.trans h0)
    have HM : Hid (∀ (W : World), ErrS W a → Calls Tryd.prog 39 #[(.agg #[.int .i64 r, .int .i64 m]), (.agg #[.int .i64 r', .int .i64 m'])] W fun e w' => ∃ (zr zm : Int) (b : Bool), e = .returned (.tuple #[(.agg #[.int .i64 zr, .int .i64 zm]), .bool b]) ∧ MeetS ⟨r, m⟩ ⟨r', m'⟩ ⟨zr, zm⟩ b ∧ Below W.heap.size W w') := fun W h => (cmeet_any r m r' m' a W h o1 o2).mono fun _ _ ⟨⟨zr, zm⟩, b, h1, h2, h3⟩ => ⟨zr, zm, b, h1, h2, h3⟩
    clear hx o1 o2
    subst h0
    go_enter Tryd.func23, Tryd.ntmps23
    go_wp2_with fail
    have s0 := s00.box4 31 (.int .i64 r) (.int .i64 m) (.int .i64 r') (.int .i64 m')
    simp only [callocSize] at s0
    refine (HE.out _ _ s0.errz (TwoAt.of s0)).mono ?_
    (rintro e1 w1 ⟨rfl, hb⟩; have s1 := s0.call hb; have q1 := s1.hold; simp only [Holds, and_true] at q1; clear hb; try clear q0)
    rw [cerrV_zero]
    go_wp2_with fail
    refine (HM.out _ s1.errz).mono ?_
    rintro e2 w2 ⟨zr, zm, zb, rfl, hM, hb⟩
    have s2 := s1.call hb
    have q2 := s2.hold
    simp only [Holds, and_true] at q2
    have HMM := hide hM
    clear hb hM q1
    go_wp2_with fail
    refine bodyPost_ret (v := .tuple #[(.agg #[.int .i64 zr, .int .i64 zm]), .bool zb, .nilIface]) (by simp [results, Tryd.results23, go_sem, *]) rfl ⟨⟨⟨zr, zm⟩, zb, rfl, fun _ => HMM.out, fun h => absurd rfl h⟩, ?_⟩
    have hsz := s2.bel.size
    repeat' (first | exact s2.bel | refine Below.alloc ?_ (by first | (simp; done) | (simp; omega) | omega) _ | refine Below.setCell ?_ (by first | (simp; done) | (simp; omega) | omega) _)
  · clear hx
    go_enter Tryd.func23, Tryd.ntmps23
    go_wp2_with fail
    have s0 := s00.box4 31 (.int .i64 r) (.int .i64 m) (.int .i64 r') (.int .i64 m')
    simp only [callocSize] at s0
    refine (HE.out _ _ s0.errz (TwoAt.of s0)).mono ?_
    (rintro e1 w1 ⟨rfl, hb⟩; have s1 := s0.call hb; have q1 := s1.hold; simp only [Holds, and_true] at q1; clear hb; try clear q0)
    rw [cerrV_some h0]
    go_wp2_with fail
    refine bodyPost_ret (v := .tuple #[(.agg #[.int .i64 0, .int .i64 0]), .bool false, .iface 107 (.pointer (some (a (x.toNat - 1))))]) (by simp [results, Tryd.results23, go_sem, *]) rfl ⟨⟨cgZ, false, (by rw [cerrV_some h0]; rfl), fun h => absurd h h0, fun _ => ⟨rfl, rfl⟩⟩, ?_⟩
    iterate 2 refine Below.setCell ?_ (by first | (simp; done) | (simp; omega)) _
    exact s1.bel

theorem sixth_fact {R : Cg} {b : Bool} (h : MeetS ⟨2, 4⟩ ⟨4, 6⟩ R b) : R = ⟨10, 12⟩ ∧ b = true := by
  have hb : b = true := h.some.2 ⟨10, ⟨2, rfl⟩, ⟨1, rfl⟩⟩
  obtain ⟨o, s⟩ := h.fit hb (by decide)
  have k := cg_is (R := R) (L := 12) (x := 10) o (by omega) (fun n => by
    rw [s n]
    unfold inC
    dsimp only
    omega)
  obtain ⟨r, m⟩ := R
  obtain ⟨k1, k2⟩ := k
  dsimp only at k1 k2
  exact ⟨by rw [k1, k2]; rfl, hb⟩

theorem Tryd.stoodCc : Tryd.prog.stoodInHeld 31 = false := by kernel_rfl
theorem Tryd.fieldsCc : Tryd.prog.underlying 31 = some (.struct (Tryd.prog.fieldsOf 31)) := by kernel_rfl
theorem eqCc (r m r' m' : Int) (W : World) : (binOp .eql 31 (.agg #[.int .i64 r, .int .i64 m]) (.agg #[.int .i64 r', .int .i64 m'])).run Tryd.prog W = .ok (.bool (decide (r = r') && decide (m = m'))) W := by
  rw [run_eql_struct, run_equalIn_struct W 9999 _ _ _ Tryd.fieldsCc Tryd.stoodCc]
  simp [Program.fieldsOf, Tryd.underlying31, go_sem, Tryd.underlying3]
  by_cases h1 : r = r' <;> by_cases h2 : m = m' <;> simp [h1, h2]

set_option maxHeartbeats 4000000 in
theorem sixth_is (a : Nat → Addr) : SixthC a := by
  intro w hS
  have HM : Hid (∀ (W : World), ErrS W a → Calls Tryd.prog 23 #[(.agg #[.int .i64 2, .int .i64 4]), (.agg #[.int .i64 4, .int .i64 6])] W fun e w' => e = .returned (.tuple #[(.agg #[.int .i64 10, .int .i64 12]), .bool true, .nilIface]) ∧ Below W.heap.size W w') := by
    intro W h
    refine (cmeet_is a 2 4 4 6 W h (by omega) (by omega)).mono ?_
    rintro e w' ⟨⟨R, b, he, h1, h2⟩, hb⟩
    have ht : twoC ⟨2, 4⟩ ⟨4, 6⟩ = 0 := by decide
    obtain ⟨rfl, rfl⟩ := sixth_fact (h1 ht)
    rw [ht] at he
    exact ⟨he, hb⟩
  have hE : ∀ W : World, (binOp .eql 31 (.agg #[.int .i64 10, .int .i64 12]) (.agg #[.int .i64 10, .int .i64 12])).run Tryd.prog W = .ok (.bool true) W := fun W => (eqCc 10 12 10 12 W).trans (by simp)
  have s0 := St.startE hS
  go_enter Tryd.func9, Tryd.ntmps9
  go_wp2_with fail
  refine (HM.out _ hS).mono ?_
  rintro e1 w1 ⟨rfl, hb⟩
  have s1 := s0.call hb
  clear hb
  go_wp2_with fail
  go_ret
  exact ⟨rfl, Below.alloc s1.bel (by have := s1.bel.size; omega) _⟩

end Go.Proofs.YtjimjbilmlnipaaDoor
