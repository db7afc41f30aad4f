/- Slices of intervals among a row's arguments. -/
import Derived.Test.YtijbjahedfmfgaaDoorRi
import Derived.Test.YtijbjahedfmfgaaDoorIo
import Derived.Deep.Slices
import Derived.Deep.SlicePairs
namespace Go.Proofs.YtijbjahedfmfgaaDoor
open Go.ChangeShapes Go.WideShapes Go.ChangeAt Go.RowKit

set_option maxRecDepth 100000 in
/-- A slice of intervals that came in. -/
theorem open_ivsAt {H : Type} {enc : TypeId × Value → H} {W : World} {a : Option Addr} {len cap : Nat} {d : DataW H} {p : List MemPlace} (h : DataW.Trod enc Tryd.prog W 0 (fun _ => true) true 52 (.slice a len cap) d p) :
    ∃ L : List Iv, len = L.length ∧ IvsAt W a L ∧ len ≤ 9223372036854775807 ∧ ∀ A ∈ L, (-9223372036854775808 ≤ A.lo ∧ A.lo ≤ 9223372036854775807) ∧ (-9223372036854775808 ≤ A.hi ∧ A.hi ≤ 9223372036854775807) := by
  obtain ⟨fuel, hf⟩ := h
  rcases Go.Deep.open_slice Tryd.underlying52 hf with ⟨hcs, _⟩ | ⟨x, l, c, m, n, D, Pl, hcs, _, hl, hm, hmm, _, hx⟩
  · simp [Value.cells] at hcs
    obtain ⟨rfl, rfl, rfl⟩ := hcs
    exact ⟨[], rfl, .inl rfl, by omega, by simp⟩
  · simp [Value.cells] at hcs
    obtain ⟨rfl, rfl, rfl⟩ := hcs
    have hmc : m = cap := by simpa using hmm
    subst hmc
    unfold maxLen at hm
    have k0 : Tryd.prog.cellsOf 4 = 1 := by kernel_rfl
    have k1 : Tryd.prog.cellsOf 3 = 1 := by kernel_rfl
    have each : ∀ i, i < m → ∃ A : Iv, (W.cell? (x.add (i * 4)) = some (.bool A.d) ∧ W.cell? (x.add (i * 4 + 1)) = some (.bool A.u) ∧ W.cell? (x.add (i * 4 + 2)) = some (.int .i64 A.lo) ∧ W.cell? (x.add (i * 4 + 3)) = some (.int .i64 A.hi)) ∧ (-9223372036854775808 ≤ A.lo ∧ A.lo ≤ 9223372036854775807) ∧ (-9223372036854775808 ≤ A.hi ∧ A.hi ≤ 9223372036854775807) := by
      intro i hi
      obtain ⟨cs', h1, h2⟩ := hx i hi
      rw [Tryd.cellsIv] at h1
      obtain ⟨_, hlen, hcell⟩ := World.cells?_some h1
      obtain ⟨c0, c1, c2, c3, rfl⟩ := list4 (cs := cs') (by simpa using hlen)
      obtain ⟨y0, y1, y2, y3, n', _, g0, g1, g2, g3⟩ := trod_struct4 Tryd.underlying23 h2
      obtain ⟨b0, e0, _⟩ := DataW.trod_bool Tryd.underlying4 g0
      obtain ⟨b1, e1, _⟩ := DataW.trod_bool Tryd.underlying4 g1
      obtain ⟨n2, e2, _, w2⟩ := DataW.trod_int Tryd.underlying3 g2
      obtain ⟨n3, e3, _, w3⟩ := DataW.trod_int Tryd.underlying3 g3
      simp [k0, k1] at e0 e1 e2 e3
      subst e0 e1 e2 e3
      have f0 := hcell 0 (by omega)
      have f1 := hcell 1 (by omega)
      have f2 := hcell 2 (by omega)
      have f3 := hcell 3 (by omega)
      rw [Go.Deep.add_add] at f0 f1 f2 f3
      exact ⟨⟨b0, b1, n2, n3⟩, ⟨by simpa using f0, by simpa using f1, by simpa using f2, by simpa using f3⟩, wf_i64 w2, wf_i64 w3⟩
    obtain ⟨q, hq⟩ : ∃ q : Nat → Iv, ∀ i, i < m → (W.cell? (x.add (i * 4)) = some (.bool (q i).d) ∧ W.cell? (x.add (i * 4 + 1)) = some (.bool (q i).u) ∧ W.cell? (x.add (i * 4 + 2)) = some (.int .i64 (q i).lo) ∧ W.cell? (x.add (i * 4 + 3)) = some (.int .i64 (q i).hi)) ∧ (-9223372036854775808 ≤ (q i).lo ∧ (q i).lo ≤ 9223372036854775807) ∧ (-9223372036854775808 ≤ (q i).hi ∧ (q i).hi ≤ 9223372036854775807) := by
      refine ⟨fun i => if h : i < m then Classical.choose (each i h) else ivZ, fun i hi => ?_⟩
      simp only [hi, dif_pos]
      exact Classical.choose_spec (each i hi)
    by_cases h0 : len = 0
    · subst h0; exact ⟨[], rfl, .inl rfl, by omega, by simp⟩
    · refine ⟨(List.range len).map q, by simp, .inr ?_, by omega, ?_⟩
      · obtain ⟨b, off, spot⟩ := x
        have hc := (hq 0 (by omega)).1.1
        have hspot : spot = none := by simpa [Addr.add] using World.cell?_spot hc
        subst hspot
        have hb : b < W.heap.size := by
          have hc0 : W.cell? ⟨b, off, none⟩ = some (.bool (q 0).d) := by simpa [Addr.add] using hc
          exact World.block_lt_of_cell? W _ hc0
        have ea : ∀ j, (⟨b, off, none⟩ : Addr).add j = ⟨b, off + j, none⟩ := by
          intro j; unfold Addr.add; split
          · rename_i h0; subst h0; simp
          · rfl
        refine ⟨b, off, rfl, hb, fun i hi => ?_⟩
        have hi' : i < len := by simpa using hi
        have hv := (hq i (by omega)).1
        rw [ea, ea, ea, ea] at hv
        have e : ((List.range len).map q).getD i ivZ = q i := by simp [hi']
        rw [e]
        exact hv
      · intro A hA
        obtain ⟨i, hi, rfl⟩ := List.mem_map.1 hA
        have := List.mem_range.1 hi
        exact (hq i (by omega)).2

end Go.Proofs.YtijbjahedfmfgaaDoor
