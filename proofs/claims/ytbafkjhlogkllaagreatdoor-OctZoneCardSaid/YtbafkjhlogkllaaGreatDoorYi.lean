/- Zones: the bounds of a zone as a square. -/
import Derived.Test.YtbafkjhlogkllaaGreatDoorYc
namespace Go.Proofs.YtbafkjhlogkllaaGreatDoor
open Go.RowKit
set_option linter.unusedVariables false

/-- A row of cells kept. -/
def RZ (b off : Nat) (l : List Ce) (W : World) : Prop := RowC W b off l
theorem St.startR {w : World} {b off : Nat} {l : List Ce} (h : RowC w b off l) : St w w (RZ b off l) [] := ⟨Below.refl _ _, trivial, h, fun _ _ k hb => RowC.stays h.lt k hb⟩

theorem enters_bounds : Enters 58 := enters_of Tryz.func58 (by kernel_rfl) rfl
set_option maxRecDepth 20000 in
set_option maxHeartbeats 2000000 in
theorem bounds_asks (Ni : Int) (n b off c len bz bs : Nat) (l : List Ce) (w : World) (s : St w w (RZ b off l) ((bz, 0, Value.int .i64 Ni) :: (bz, 1, Value.slice (some ⟨b, off, none⟩) len c) :: (bs, 0, Value.int .i64 n) :: [])) (hl : Hid (len = l.length)) (hll : Hid (len = n * n)) (hn : n ≤ 8) :
    Asks 58 #[.pointer (some ⟨bz, 0, none⟩), .pointer (some ⟨bs, 0, none⟩)] w n (encM (matOf n l)) := by
  intro W i j hb hi hj
  have sW := (s.call hb).re
  have q0 := sW.hold
  simp only [Holds, and_true] at q0
  have R : RowC W b off l := sW.sent
  obtain ⟨ik, hik⟩ : ∃ m : Nat, m = i * n := ⟨_, rfl⟩
  obtain ⟨x1, hx1⟩ : ∃ m : Nat, m = ik + j := ⟨_, rfl⟩
  have a1 : (i : Int) * (n : Int) = (ik : Int) := by rw [hik, Int.natCast_mul]
  have a3 : (ik : Int) + (j : Int) = (x1 : Int) := by omega
  have b1 : x1 < len := by rw [hll.out, hx1, hik]; exact idx_in hi hj
  have b2 : len ≤ 64 := by
    have := Nat.mul_le_mul hn hn
    have := hll.out
    omega
  have b4 : (x1 : Int) < (len : Int) := by omega
  obtain ⟨⟨ch, cm⟩, hc⟩ : ∃ C, C = l.getD x1 ceZ := ⟨_, rfl⟩
  have hxl : x1 < l.length := by rw [← hl.out]; exact b1
  have c1 : W.cell? ⟨b, off + x1 * 2, none⟩ = some (.bool ch) := by have := R.has x1 hxl; rw [← hc] at this; exact this
  have c2 : W.cell? ⟨b, off + x1 * 2 + 1, none⟩ = some (.int .i64 cm) := by have := R.most x1 hxl; rw [← hc] at this; exact this
  have hbl := R.lt
  obtain ⟨z, hz⟩ : ∃ z, z = encM (matOf n l) i j := ⟨_, rfl⟩
  rw [← hz]
  have Hz : Hid (z = if ch = true then cm else 9223372036854775807) := by
    show _ = _
    rw [hz]
    show encB ((l.getD (i * n + j) ceZ).bd) = _
    rw [← hik, ← hx1, ← hc]
    cases ch <;> rfl
  clear s hz hl hll hb hik hx1 hc R
  show Calls _ _ #[.int .i64 i, .int .i64 j, .pointer (some ⟨bz, 0, none⟩), .pointer (some ⟨bs, 0, none⟩)] _ _
  cases ch
  all_goals
    go_enter Tryz.func58, Tryz.ntmps58
    go_wp2_with fail
    go_ret
    exact ⟨ret_int (by rw [Hz.out]; rfl), (Below.refl _ _).alloc (Nat.le_refl _) _⟩

set_option maxRecDepth 20000 in
set_option maxHeartbeats 2000000 in
theorem boundsOf_any (Ni : Int) (n b off c len : Nat) (l : List Ce) (w : World) (hR : RowC w b off l) (hl : Hid (len = l.length)) (hll : Hid (len = n * n)) (hn : 1 ≤ n ∧ n ≤ 5) (hN : Ni + 1 = n) :
    Calls Tryz.prog 37 #[(.agg #[.int .i64 Ni, (.slice (some ⟨b, off, none⟩) len c)])] w fun e w' => GrPost w n len (encM (matOf n l)) e w' := by
  have s0 := (((St.startR hR).box2 37 (.int .i64 Ni) (.slice (some ⟨b, off, none⟩) len c)).box2 62 (.int .i64 0) (.slice none 0 0)).box1 3 (.int .i64 n)
  simp only [World.size_alloc] at s0
  obtain ⟨F, hF⟩ : ∃ F, F = encM (matOf n l) := ⟨_, rfl⟩
  have HO : Hid (∀ W : World, St W W (RZ b off l) [(w.heap.size + 1 + 1, 0, Value.int .i64 n), (w.heap.size + 1, 0, Value.int .i64 0), (w.heap.size + 1, 1, Value.slice none 0 0), (w.heap.size, 0, Value.int .i64 Ni), (w.heap.size, 1, (.slice (some ⟨b, off, none⟩) len c))] → Calls Tryz.prog 46 #[.int .i64 n, .func (.func 58) #[] #[.pointer (some ⟨w.heap.size, 0, none⟩), .pointer (some ⟨w.heap.size + 1 + 1, 0, none⟩)]] W fun e w' => GrPost W n len F e w') := by
    intro W h
    rw [hF]
    refine of_any _ _ n len _ W hll (by omega) enters_bounds (bounds_asks Ni n b off c len w.heap.size (w.heap.size + 1 + 1) l W ⟨h.bel, ?_, h.sent, h.cl⟩ hl hll (by omega))
    have := h.hold
    exact ⟨this.2.2.2.1, this.2.2.2.2.1, this.1, trivial⟩
  rw [← hF]
  clear hF hR hl hll
  go_enter Tryz.func37, Tryz.ntmps37
  go_wp2_with fail
  refine (HO.out _ s0.re).mono ?_
  rintro e w1 ⟨g1, cp1, rfl, hg1, hG1, hb1⟩
  have s1 := s0.call hb1
  have q1 := s1.hold
  simp only [Holds, and_true] at q1
  simp only [World.size_alloc] at hg1
  clear s0 hb1
  go_wp2_with fail
  refine bodyPost_ret (v := (.agg #[.int .i64 n, (.slice (some ⟨g1, 0, none⟩) len cp1)])) (by simp [results, Tryz.results37, go_sem, q1]) rfl ⟨g1, cp1, rfl, by omega, ?_, ?_⟩
  · exact (hG1.other (by show w.heap.size + 1 ≠ g1; omega) _).other (by show w.heap.size + 1 ≠ g1; omega) _
  · iterate 2 refine Below.setCell ?_ (by first | (simp; done) | (simp; omega)) _
    exact s1.bel

theorem CsAt.rowOf {w : World} {x : Option Addr} {l : List Ce} (h : CsAt w x l) (k : 1 ≤ l.length) : ∃ b off, x = some ⟨b, off, none⟩ ∧ RowC w b off l := by
  rcases h with h | h
  · rw [h] at k; simp at k
  · exact h
theorem boundsOf_cs (Ni : Int) (n c len : Nat) (x : Option Addr) (l : List Ce) (w : World) (hA : CsAt w x l) (hl : Hid (len = l.length)) (hll : Hid (len = n * n)) (hn : 1 ≤ n ∧ n ≤ 5) (hN : Ni + 1 = n) :
    Calls Tryz.prog 37 #[(.agg #[.int .i64 Ni, (.slice x len c)])] w fun e w' => GrPost w n len (encM (matOf n l)) e w' := by
  obtain ⟨b, off, rfl, hR⟩ := hA.rowOf (by rw [← hl.out, hll.out]; exact Nat.mul_le_mul hn.1 hn.1)
  exact boundsOf_any Ni n b off c len l w hR hl hll hn hN

end Go.Proofs.YtbafkjhlogkllaaGreatDoor
