/- Intervals among a row's arguments. -/
import Derived.Test.YtegibkjopkakhaaDoorRq
namespace Go.Proofs.YtegibkjopkakhaaDoor
open Go.ChangeShapes Go.WideShapes Go.ChangeAt Go.RowKit

theorem Tryd.cellsIv : Tryd.prog.cellsOf 23 = 4 := by kernel_rfl

theorem list4 {cs : List Value} (h : cs.length = 4) : ∃ c0 c1 c2 c3, cs = [c0, c1, c2, c3] := by
  match cs, h with
  | [a, b, c, d], _ => exact ⟨a, b, c, d, rfl⟩

set_option maxRecDepth 100000 in
theorem open_iv {H : Type} {enc : TypeId × Value → H} {W : World} {base : Nat} {v : Value} {d : DataW H} {p : List MemPlace} (hval : Value.okWide Tryd.prog W .any base 23 v) (h : DataW.Trod enc Tryd.prog W 0 (fun _ => true) true 23 v d p) :
    ∃ (dn up : Bool) (lo hi : Int), v = .agg #[.bool dn, .bool up, .int .i64 lo, .int .i64 hi] ∧ (-9223372036854775808 ≤ lo ∧ lo ≤ 9223372036854775807) ∧ (-9223372036854775808 ≤ hi ∧ hi ≤ 9223372036854775807) := by
  obtain ⟨cs, rfl, hs⟩ := okWide_struct Tryd.underlying23 hval
  rw [Tryd.cellsIv] at hs
  obtain ⟨fuel, hf⟩ := h
  obtain ⟨y0, y1, y2, y3, n, _, h0, h1, h2, h3⟩ := trod_struct4 Tryd.underlying23 hf
  obtain ⟨cl⟩ := cs
  obtain ⟨c0, c1, c2, c3, rfl⟩ := list4 (cs := cl) (by simpa using hs)
  obtain ⟨b0, e0, _⟩ := DataW.trod_bool Tryd.underlying4 h0
  obtain ⟨b1, e1, _⟩ := DataW.trod_bool Tryd.underlying4 h1
  obtain ⟨n2, e2, _, w2⟩ := DataW.trod_int Tryd.underlying3 h2
  obtain ⟨n3, e3, _, w3⟩ := DataW.trod_int Tryd.underlying3 h3
  have k0 : Tryd.prog.cellsOf 4 = 1 := by kernel_rfl
  have k1 : Tryd.prog.cellsOf 3 = 1 := by kernel_rfl
  simp [Value.cells, k0, k1] at e0 e1 e2 e3
  subst e0 e1 e2 e3
  exact ⟨b0, b1, n2, n3, rfl, wf_i64 w2, wf_i64 w3⟩

end Go.Proofs.YtegibkjopkakhaaDoor
