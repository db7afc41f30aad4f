/- Zones among a row's arguments. -/
import Derived.Test.YtbafkjhlogkllaaGreatDoorRq
import Derived.Test.YtbafkjhlogkllaaGreatDoorZh
import Derived.Deep.Slices
import Derived.Deep.SlicePairs
namespace Go.Proofs.YtbafkjhlogkllaaGreatDoor
open Go.ChangeShapes Go.WideShapes Go.ChangeAt Go.RowKit

theorem Tryz.cellsCell : Tryz.prog.cellsOf 56 = 2 := by kernel_rfl
theorem Tryz.cellsZone : Tryz.prog.cellsOf 24 = 2 := by kernel_rfl

theorem list2z {cs : List Value} (h : cs.length = 2) : ∃ c0 c1, cs = [c0, c1] := by
  match cs, h with
  | [a, b], _ => exact ⟨a, b, rfl⟩

theorem trod_struct2z {H : Type} {enc : TypeId × Value → H} {P : Program} {w : World} {base : Nat} {spare : Nat → Bool} {held : Bool} {t : TypeId} {f0 f1 : Field} {fuel : Nat} {cs : List Value} {x : DataW H × List MemPlace} (ht : P.underlying t = some (.struct #[f0, f1])) (h : DataW.trod enc P w base spare held fuel t cs = some x) :
    ∃ y0 y1 n, cs.length = P.cellsOf t ∧ DataW.trod enc P w base spare held n f0.type ((cs.drop f0.offset).take (P.cellsOf f0.type)) = some y0 ∧ DataW.trod enc P w base spare held n f1.type ((cs.drop f1.offset).take (P.cellsOf f1.type)) = some y1 := by
  obtain ⟨xs, n, _, rfl, hl, hlen, hf⟩ := DataW.trod_struct ht h
  match xs, hlen with
  | [y0, y1], _ => exact ⟨y0, y1, n, hl, by simpa using hf 0 f0 rfl, by simpa using hf 1 f1 rfl⟩

set_option maxRecDepth 100000 in
/-- A slice of cells that came in. -/
theorem open_cellsAt {H : Type} {enc : TypeId × Value → H} {W : World} {fuel : Nat} {v : Value} {d : DataW H × List MemPlace} (hf : DataW.trod enc Tryz.prog W 0 (fun _ => true) true fuel 22 [v] = some d) :
    ∃ (a : Option Addr) (cap : Nat) (L : List Ce), v = .slice a L.length cap ∧ CsAt W a L ∧ L.length ≤ 9223372036854775807 ∧ ∀ A ∈ L, (-9223372036854775808 ≤ A.m ∧ A.m ≤ 9223372036854775807) := by
  rcases Go.Deep.open_slice Tryz.underlying22 hf with ⟨hcs, _⟩ | ⟨x, l, c, m, n, D, Pl, hcs, _, hl, hm, hmm, _, hx⟩
  · simp at hcs
    subst hcs
    exact ⟨none, 0, [], rfl, .inl rfl, by simp, by simp⟩
  · simp at hcs
    subst hcs
    have hmc : m = c := by simpa using hmm
    subst hmc
    unfold maxLen at hm
    have k0 : Tryz.prog.cellsOf 4 = 1 := by kernel_rfl
    have k1 : Tryz.prog.cellsOf 3 = 1 := by kernel_rfl
    have each : ∀ i, i < m → ∃ A : Ce, (W.cell? (x.add (i * 2)) = some (.bool A.h) ∧ W.cell? (x.add (i * 2 + 1)) = some (.int .i64 A.m)) ∧ (-9223372036854775808 ≤ A.m ∧ A.m ≤ 9223372036854775807) := by
      intro i hi
      obtain ⟨cs', h1, h2⟩ := hx i hi
      rw [Tryz.cellsCell] at h1
      obtain ⟨_, hlen, hcell⟩ := World.cells?_some h1
      obtain ⟨c0, c1, rfl⟩ := list2z (cs := cs') (by simpa using hlen)
      obtain ⟨y0, y1, n', _, g0, g1⟩ := trod_struct2z Tryz.underlying56 h2
      obtain ⟨b0, e0, _⟩ := DataW.trod_bool Tryz.underlying4 g0
      obtain ⟨n1, e1, _, w1⟩ := DataW.trod_int Tryz.underlying3 g1
      simp [k0, k1] at e0 e1
      subst e0 e1
      have f0 := hcell 0 (by omega)
      have f1 := hcell 1 (by omega)
      rw [Go.Deep.add_add] at f0 f1
      exact ⟨⟨b0, n1⟩, ⟨by simpa using f0, by simpa using f1⟩, wf_i64 w1⟩
    obtain ⟨q, hq⟩ : ∃ q : Nat → Ce, ∀ i, i < m → (W.cell? (x.add (i * 2)) = some (.bool (q i).h) ∧ W.cell? (x.add (i * 2 + 1)) = some (.int .i64 (q i).m)) ∧ (-9223372036854775808 ≤ (q i).m ∧ (q i).m ≤ 9223372036854775807) := by
      refine ⟨fun i => if h : i < m then Classical.choose (each i h) else ceZ, fun i hi => ?_⟩
      simp only [hi, dif_pos]
      exact Classical.choose_spec (each i hi)
    by_cases h0 : l = 0
    · subst h0; exact ⟨some x, m, [], rfl, .inl rfl, by simp, by simp⟩
    · refine ⟨some x, m, (List.range l).map q, by simp, .inr ?_, by simp; omega, ?_⟩
      · obtain ⟨b, off, spot⟩ := x
        have hc := (hq 0 (by omega)).1.1
        have hspot : spot = none := by simpa [Addr.add] using World.cell?_spot hc
        subst hspot
        have hb : b < W.heap.size := by
          have hc0 : W.cell? ⟨b, off, none⟩ = some (.bool (q 0).h) := by simpa [Addr.add] using hc
          exact World.block_lt_of_cell? W _ hc0
        have ea : ∀ j, (⟨b, off, none⟩ : Addr).add j = ⟨b, off + j, none⟩ := by
          intro j; unfold Addr.add; split
          · rename_i h0; subst h0; simp
          · rfl
        have e : ∀ i, i < l → ((List.range l).map q).getD i ceZ = q i := by intro i hi; simp [hi]
        refine ⟨b, off, rfl, hb, fun i hi => ?_, fun i hi => ?_⟩
        · have hi' : i < l := by simpa using hi
          have hv := (hq i (by omega)).1.1
          rw [ea] at hv
          rw [e i hi']; exact hv
        · have hi' : i < l := by simpa using hi
          have hv := (hq i (by omega)).1.2
          rw [ea] at hv
          rw [e i hi']; exact hv
      · intro A hA
        obtain ⟨i, hi, rfl⟩ := List.mem_map.1 hA
        have := List.mem_range.1 hi
        exact (hq i (by omega)).2

set_option maxRecDepth 100000 in
/-- A zone that came in. -/
theorem open_zone {H : Type} {enc : TypeId × Value → H} {W : World} {base : Nat} {v : Value} {d : DataW H} {p : List MemPlace} (hval : Value.okWide Tryz.prog W .any base 24 v) (h : DataW.Trod enc Tryz.prog W 0 (fun _ => true) true 24 v d p) :
    ∃ (n : Int) (a : Option Addr) (cap : Nat) (L : List Ce), v = .agg #[.int .i64 n, .slice a L.length cap] ∧ (-9223372036854775808 ≤ n ∧ n ≤ 9223372036854775807) ∧ CsAt W a L ∧ L.length ≤ 9223372036854775807 ∧ ∀ A ∈ L, (-9223372036854775808 ≤ A.m ∧ A.m ≤ 9223372036854775807) := by
  obtain ⟨cs, rfl, hs⟩ := okWide_struct Tryz.underlying24 hval
  rw [Tryz.cellsZone] at hs
  obtain ⟨fuel, hf⟩ := h
  obtain ⟨y0, y1, n, _, h0, h1⟩ := trod_struct2z Tryz.underlying24 hf
  obtain ⟨cl⟩ := cs
  obtain ⟨c0, c1, rfl⟩ := list2z (cs := cl) (by simpa using hs)
  obtain ⟨n0, e0, _, w0⟩ := DataW.trod_int Tryz.underlying3 h0
  have k1 : Tryz.prog.cellsOf 3 = 1 := by kernel_rfl
  have k2 : Tryz.prog.cellsOf 22 = 1 := by kernel_rfl
  simp [Value.cells, k1] at e0
  subst e0
  simp [Value.cells, k2] at h1
  obtain ⟨a, cap, L, rfl, q1, q2, q3⟩ := open_cellsAt h1
  exact ⟨n0, a, cap, L, rfl, wf_i64 w0, q1, q2, q3⟩

end Go.Proofs.YtbafkjhlogkllaaGreatDoor

/- Lists of zones among a row's arguments. -/
namespace Go.Proofs.YtbafkjhlogkllaaGreatDoor
open Go.ChangeShapes Go.WideShapes Go.ChangeAt Go.RowKit
set_option linter.unusedVariables false

/-- A zone, as it lies in memory: how many variables, where its cells lie, and the cells. -/
structure ZnM where
  n : Int
  a : Option Addr
  cap : Nat
  l : List Ce
def znZ : ZnM := ⟨0, none, 0, []⟩
/-- One zone of a list can be read. -/
def ZnAt (W : World) (b o : Nat) (z : ZnM) : Prop := W.cell? ⟨b, o, none⟩ = some (.int .i64 z.n) ∧ W.cell? ⟨b, o + 1, none⟩ = some (.slice z.a z.l.length z.cap) ∧ CsAt W z.a z.l
def ZnsAt (W : World) (x : Option Addr) (L : List ZnM) : Prop := L = [] ∨ ∃ b off, x = some ⟨b, off, none⟩ ∧ b < W.heap.size ∧ ∀ i, i < L.length → ZnAt W b (off + i * 2) (L.getD i znZ)

theorem ZnAt.stays {w W1 W2 : World} {b o : Nat} {z : ZnM} (hb : b < w.heap.size) (h : ZnAt w b o z) (k : ZnAt W1 b o z) (hB : Below w.heap.size W1 W2) : ZnAt W2 b o z :=
  ⟨(hB.cell (p := ⟨b, o, none⟩) hb).trans k.1, (hB.cell (p := ⟨b, o + 1, none⟩) hb).trans k.2.1, h.2.2.stays k.2.2 hB⟩
theorem ZnsAt.stays {w W1 W2 : World} {x : Option Addr} {L : List ZnM} (h : ZnsAt w x L) (k : ZnsAt W1 x L) (hB : Below w.heap.size W1 W2) : ZnsAt W2 x L := by
  rcases h with h | ⟨b, off, e, hb, h⟩
  · exact .inl h
  · rcases k with k | ⟨b', off', e', hb', k⟩
    · exact .inl k
    · obtain ⟨rfl, rfl⟩ : b = b' ∧ off = off' := by rw [e] at e'; simpa using e'
      exact .inr ⟨b, off, e, Nat.lt_of_lt_of_le hb' hB.size, fun i hi => (h i hi).stays hb (k i hi) hB⟩

end Go.Proofs.YtbafkjhlogkllaaGreatDoor
