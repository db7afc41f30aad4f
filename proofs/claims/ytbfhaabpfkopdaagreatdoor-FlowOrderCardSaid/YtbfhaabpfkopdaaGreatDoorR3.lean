/- Graphs among a row's arguments; FlowOrder, for them. -/
import Derived.Test.YtbfhaabpfkopdaaGreatDoorR2
import Derived.Test.YtbfhaabpfkopdaaGreatDoorFl
namespace Go.Proofs.YtbfhaabpfkopdaaGreatDoor
open Go.ChangeShapes Go.WideShapes Go.ChangeAt Go.RowKit
set_option linter.unusedVariables false

structure Gh where
  vars : List Bs
  arrays : List Ar
  points : Int
  edges : List Eg
  heads : List Int
/-- A graph's value. -/
def GhV (W : World) (v : Value) (g : Gh) : Prop := ∃ xv cv xa ca xe ce xh ch, v = .agg #[.slice xv g.vars.length cv, .slice xa g.arrays.length ca, .int .i64 g.points, .slice xe g.edges.length ce, .slice xh g.heads.length ch] ∧ RowAt strVals 1 W Any xv g.vars ∧ RowAt arVals 2 W Any xa g.arrays ∧ RowAt egVals 6 W Any xe g.edges ∧ IntsAt W xh g.heads
structure GhFit (g : Gh) : Prop where
  vars : g.vars.length * 16 ≤ 140737488355328
  arrays : g.arrays.length * 24 ≤ 140737488355328
  edges : LsFit 96 EgFit g.edges
  heads : g.heads.length * 8 ≤ 140737488355328
set_option maxRecDepth 20000 in
set_option maxHeartbeats 4000000 in
theorem flowOrder_many (xv xa xe xh : Option Addr) (nv cv na ca ne ce nh ch : Nat) (P : Int) (a : Nat → Addr) (w : World) (hS : Sents w a) (hL : LgW w) (h4 : 200 < nh) :
    Calls Tryz.prog 6 #[.agg #[.slice xv nv cv, .slice xa na ca, .int .i64 P, .slice xe ne ce, .slice xh nh ch]] w fun e w' => e = .returned (.bool true) ∧ Below w.heap.size w w' := by
  have hb0 := (Below.refl w.heap.size w).alloc (Nat.le_refl _) (.cells #[.slice xv nv cv, .slice xa na ca, .int .i64 P, .slice xe ne ce, .slice xh nh ch] 46)
  have G0 := BoxN.new w 46 [.slice xv nv cv, .slice xa na ca, .int .i64 P, .slice xe ne ce, .slice xh nh ch]
  obtain ⟨W0, hW0⟩ : ∃ X, X = w.alloc (.cells #[.slice xv nv cv, .slice xa na ca, .int .i64 P, .slice xe ne ce, .slice xh nh ch] 46) := ⟨_, rfl⟩
  have G0 : BoxN W0 w.heap.size [.slice xv nv cv, .slice xa na ca, .int .i64 P, .slice xe ne ce, .slice xh nh ch] := by rw [hW0]; exact G0
  have hb0 : Below w.heap.size w W0 := by rw [hW0]; exact hb0
  have S0 := hS.below hb0
  have L0 := hL.below hb0
  have H1 := hide (one_any a W0 S0 L0)
  go_enter Tryz.func6, Tryz.ntmps6
  go_upto_region 1 with fail
  change Code.wp _ _ _ _ (w.alloc (.cells #[.slice xv nv cv, .slice xa na ca, .int .i64 P, .slice xe ne ce, .slice xh nh ch] 46))
  rw [← hW0]
  clear hW0
  obtain ⟨g1, hg1⟩ : ∃ g, g = w.heap.size := ⟨_, rfl⟩
  rw [← hg1] at G0 ⊢
  clear hg1
  go_wp2_with fail
  refine H1.out.mono ?_
  rintro e' w1 ⟨rfl, hc1⟩
  have hb1 := hb0.trans (hc1.mono hb0.size)
  have G1 := G0.bel hc1
  clear H1 G0 S0 L0 hb0 hc1
  have m2 := G1.cell 2 _ rfl
  have m3 := G1.cell 3 _ rfl
  have m4 := G1.cell 4 _ rfl
  by_cases h3 : 200 < ne
  · have h3' : (200 : Int) < (ne : Int) := by omega
    go_wp2_with fail
    go_ret
    exact ⟨rfl, hb1⟩
  have h3' : ¬ (200 : Int) < (ne : Int) := by omega
  have h4' : (200 : Int) < (nh : Int) := by omega
  go_wp2_with fail
  go_ret
  exact ⟨rfl, hb1⟩
theorem flowOrder_true (g : Gh) (v : Value) (a : Nat → Addr) (w : World) (hS : Sents w a) (hL : LgW w) (h : GhFit g) (hV : GhV w v g) : Calls Tryz.prog 6 #[v] w fun e w' => e = .returned (.bool true) ∧ Below w.heap.size w w' := by
  obtain ⟨xv, cv, xa, ca, xe, ce, xh, ch, rfl, hv, ha, he, hh⟩ := hV
  by_cases hm : 200 < g.heads.length
  · exact flowOrder_many _ _ _ _ _ _ _ _ _ _ _ _ _ a w hS hL hm
  exact flowOrder_walk xv xa xe xh cv _ ca _ ce _ ch g.points g.vars g.arrays g.edges g.heads a w hS hL hv ha he hh (hide rfl) (hide rfl) (hide rfl) h.vars h.arrays h.edges.len (by omega) (hide h.edges.el)
theorem trod_st5 {H : Type} {enc : TypeId × Value → H} {W : World} {t : TypeId} {f0 f1 f2 f3 f4 : Field} {fuel : Nat} {cs : List Value} {x : DataW H × List MemPlace} (ht : Tryz.prog.underlying t = some (.struct #[f0, f1, f2, f3, f4])) (h : DataW.trod enc Tryz.prog W 0 (fun _ => true) true fuel t cs = some x) (hw : Lgt (x.1.weights Tryz.prog t)) :
    ∃ n y0 y1 y2 y3 y4, fuel = n + 1 ∧ cs.length = Tryz.prog.cellsOf t ∧ DataW.trod enc Tryz.prog W 0 (fun _ => true) true n f0.type ((cs.drop f0.offset).take (Tryz.prog.cellsOf f0.type)) = some y0 ∧ Lgt (y0.1.weights Tryz.prog f0.type) ∧ DataW.trod enc Tryz.prog W 0 (fun _ => true) true n f1.type ((cs.drop f1.offset).take (Tryz.prog.cellsOf f1.type)) = some y1 ∧ Lgt (y1.1.weights Tryz.prog f1.type) ∧ DataW.trod enc Tryz.prog W 0 (fun _ => true) true n f2.type ((cs.drop f2.offset).take (Tryz.prog.cellsOf f2.type)) = some y2 ∧ Lgt (y2.1.weights Tryz.prog f2.type) ∧ DataW.trod enc Tryz.prog W 0 (fun _ => true) true n f3.type ((cs.drop f3.offset).take (Tryz.prog.cellsOf f3.type)) = some y3 ∧ Lgt (y3.1.weights Tryz.prog f3.type) ∧ DataW.trod enc Tryz.prog W 0 (fun _ => true) true n f4.type ((cs.drop f4.offset).take (Tryz.prog.cellsOf f4.type)) = some y4 ∧ Lgt (y4.1.weights Tryz.prog f4.type) := by
  obtain ⟨xs, n, hn, rfl, hl, hlen, hf⟩ := DataW.trod_struct ht h
  simp only [DataW.weights, ht] at hw
  match xs, hlen with
  | [y0, y1, y2, y3, y4], _ =>
    simp only [List.map_cons, List.map_nil, DataW.weightsEach] at hw
    have w0 := hw.left
    have w1 := hw.right.left
    have w2 := hw.right.right.left
    have w3 := hw.right.right.right.left
    have w4 := hw.right.right.right.right.left
    exact ⟨n, y0, y1, y2, y3, y4, hn, hl, by simpa using hf 0 f0 rfl, w0, by simpa using hf 1 f1 rfl, w1, by simpa using hf 2 f2 rfl, w2, by simpa using hf 3 f3 rfl, w3, by simpa using hf 4 f4 rfl, w4⟩
theorem list5t {cs : List Value} (h : cs.length = 5) : ∃ c0 c1 c2 c3 c4, cs = [c0, c1, c2, c3, c4] := by match cs, h with | [a, b, c, d, e], _ => exact ⟨a, b, c, d, e, rfl⟩
theorem list6t {cs : List Value} (h : cs.length = 6) : ∃ c0 c1 c2 c3 c4 c5, cs = [c0, c1, c2, c3, c4, c5] := by match cs, h with | [a, b, c, d, e, f], _ => exact ⟨a, b, c, d, e, f, rfl⟩
theorem Tryz.cEg : Tryz.prog.cellsOf 92 = 6 := by kernel_rfl
theorem Tryz.cEgs : Tryz.prog.cellsOf 44 = 1 := by kernel_rfl
theorem Tryz.cAc : Tryz.prog.cellsOf 90 = 4 := by kernel_rfl
theorem Tryz.cIs : Tryz.prog.cellsOf 32 = 1 := by kernel_rfl
theorem Tryz.bEg : Tryz.prog.bytesOf 92 = 96 := by kernel_rfl
theorem Tryz.bI : Tryz.prog.bytesOf 3 = 8 := by kernel_rfl
section
variable {H : Type} {enc : TypeId × Value → H} {W : World}
theorem open_heads {fuel : Nat} {v : Value} {x : DataW H × List MemPlace} (h : DataW.trod enc Tryz.prog W 0 (fun _ => true) true fuel 32 [v] = some x) (hw : Lgt (x.1.weights Tryz.prog 32)) : ∃ (a : Option Addr) (cap : Nat) (L : List Int), v = .slice a L.length cap ∧ L.length * 8 ≤ 140737488355328 ∧ IntsAt W a L := by
  obtain ⟨a, cap, L, rfl, _, hb, hr⟩ := open_rows Tryz.underlying32 Tryz.cI (by omega) h hw (fun vs t => vs = [.int .i64 t]) (fun n cs d hn hd _ => by
    obtain ⟨n1, e1, _, w1⟩ := DataW.trod_int Tryz.underlying3 hd
    exact ⟨n1, e1⟩)
  rw [Tryz.bI] at hb
  exact ⟨a, cap, L, rfl, Nat.le_trans hb reach_le, row_ints (ok := Any) hr⟩
theorem open_edges {n : Nat} {v : Value} {x : DataW H × List MemPlace} (h : DataW.trod enc Tryz.prog W 0 (fun _ => true) true n 44 [v] = some x) (hw : Lgt (x.1.weights Tryz.prog 44)) : ∃ (a : Option Addr) (cap : Nat) (L : List Eg), v = .slice a L.length cap ∧ LsFit 96 EgFit L ∧ RowAt egVals 6 W Any a L := by
  obtain ⟨a, cap, L, rfl, _, hb, hr⟩ := open_rows Tryz.underlying44 Tryz.cEg (by omega) h hw (fun vs t => egVals W Any vs t ∧ EgFit t) (fun n cs d hn hd hwd => by
    obtain ⟨m, y0, y1, y2, rfl, hl, h0, _, h1, _, h2, w2⟩ := trod_st3 Tryz.underlying92 hd hwd
    rw [Tryz.cEg] at hl
    obtain ⟨c0, c1, c2, c3, c4, c5, rfl⟩ := list6t hl
    simp [Tryz.cI, Tryz.cAc] at h0 h1 h2
    obtain ⟨z0, rfl, hz0⟩ := open_int h0
    obtain ⟨z1, rfl, hz1⟩ := open_int h1
    obtain ⟨m2, u0, u1, u2, u3, rfl, hl2, k0, _, k1, _, k2, v2, k3, v3⟩ := trod_st4 Tryz.underlying90 h2 w2
    simp [Tryz.cS, Tryz.cEs, Tryz.cTs] at k0 k1 k2 k3
    obtain ⟨kd, rfl, _⟩ := open_str k0
    obtain ⟨nm, rfl, _⟩ := open_str k1
    obtain ⟨xa, ca, la, rfl, fa, hxa⟩ := open_exprs _ _ _ k2 v2
    obtain ⟨xt, ct, lt, rfl, ft, hxt⟩ := open_tests k3 v3
    exact ⟨⟨z0, z1, kd, nm, la, lt⟩, ⟨xa, ca, xt, ct, rfl, hxa, hxt⟩, hz0, hz1, fa, ft⟩)
  rw [Tryz.bEg] at hb
  exact ⟨a, cap, L, rfl, ⟨Nat.le_trans hb reach_le, hr.all (fun vs e k => k.2)⟩, hr.imp (V' := egVals) (fun vs e k => k.1)⟩
end
set_option maxRecDepth 100000 in
/-- A graph that came in. -/
theorem open_graph {H : Type} {enc : TypeId × Value → H} {W : World} {base : Nat} {v : Value} {d : DataW H} {p : List MemPlace} (hval : Value.okWide Tryz.prog W .any base 46 v) (h : DataW.Trod enc Tryz.prog W 0 (fun _ => true) true 46 v d p) (hw : Lgt (d.weights Tryz.prog 46)) : ∃ x : Gh, GhV W v x ∧ GhFit x := by
  obtain ⟨cs, rfl, hs⟩ := okWide_struct Tryz.underlying46 hval
  have cG : Tryz.prog.cellsOf 46 = 5 := by kernel_rfl
  rw [cG] at hs
  obtain ⟨fuel, hf⟩ := h
  obtain ⟨m, y0, y1, y2, y3, y4, rfl, hl, h0, w0, h1, w1, h2, w2, h3, w3, h4, w4⟩ := trod_st5 Tryz.underlying46 hf hw
  obtain ⟨cl⟩ := cs
  obtain ⟨c0, c1, c2, c3, c4, rfl⟩ := list5t (cs := cl) (by simpa using hs)
  simp [Value.cells, Tryz.cSs, Tryz.cAs, Tryz.cI, Tryz.cEgs, Tryz.cIs] at h0 h1 h2 h3 h4
  obtain ⟨xv, cv, lv, rfl, fv, hv⟩ := open_strs h0 w0
  obtain ⟨xa, ca, la, rfl, fa, ha⟩ := open_arrays h1 w1
  obtain ⟨z, rfl, hz⟩ := open_int h2
  obtain ⟨xe, ce, le, rfl, fe, he⟩ := open_edges h3 w3
  obtain ⟨xh, ch, lh, rfl, fh, hh⟩ := open_heads h4 w4
  exact ⟨⟨lv, la, z, le, lh⟩, ⟨xv, cv, xa, ca, xe, ce, xh, ch, rfl, hv, ha, he, hh⟩, fv, fa.len, fe, fh⟩
end Go.Proofs.YtbfhaabpfkopdaaGreatDoor
