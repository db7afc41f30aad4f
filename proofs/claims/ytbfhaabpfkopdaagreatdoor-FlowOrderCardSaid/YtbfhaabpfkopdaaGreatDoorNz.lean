/- The language: reading and writing, each way; the closed fact. -/
import Derived.Test.YtbfhaabpfkopdaaGreatDoorVf
namespace Go.Proofs.YtbfhaabpfkopdaaGreatDoor
open Go.RowKit
set_option linter.unusedVariables false

theorem read_ok (a : Nat → Addr) (s : Bs) (x : Pg) (d : Wd) (W : World) (hS : Sents W a) (hL : LgW W) (hs : s.length ≤ 4000) (hr : readF s = .ok x d) : Calls Tryz.prog 28 #[.string (bs s)] W fun e W' => Below W.heap.size W W' ∧ ∃ v, e = .returned (.tuple #[v, .nilIface]) ∧ PgV W' Any v x :=
  (read_any a s W hS hL hs).mono fun e W' ⟨h1, h2⟩ => by
    rw [hr] at h2
    obtain ⟨v, he, hv⟩ := h2
    exact ⟨h1, v, he, hv.any⟩
theorem text_some (a : Nat → Addr) (p : Pg) (t : Bs) (v : Value) (W : World) (hS : Sents W a) (hL : LgW W) (hs : PgSm p) (hV : PgV W Any v p) (ht : textF p = some t) : Calls Tryz.prog 29 #[v] W fun e W' => e = .returned (.tuple #[.string (bs t), .nilIface]) ∧ Below W.heap.size W W' :=
  (text_any a p v W hS hL hs hV).mono fun e W' ⟨h1, h2⟩ => ⟨by rw [h1, ht]; rfl, h2⟩
set_option maxRecDepth 20000 in
set_option maxHeartbeats 4000000 in
theorem one_any (a : Nat → Addr) (w : World) (hS : Sents w a) (hL : LgW w) : Calls Tryz.prog 7 #[] w fun e w' => e = .returned (.bool true) ∧ Below w.heap.size w w' := by
  have hb0 := Below.refl w.heap.size w
  go_enter Tryz.func7, Tryz.ntmps7
  have HR1 := hide (read_ok a oneS oneP _ w hS hL (by decide) one_read)
  go_wp2_with fail
  refine HR1.out.mono ?_
  rintro e' r1 ⟨hc1, v1, rfl, hV1⟩
  have hV1' := hV1
  obtain ⟨yv1, dv1, ya1, da1, yp1, dp1, ym1, dm1, rfl, _, _, _, _⟩ := hV1'
  have hx1 := (Below.refl r1.heap.size r1).alloc (Nat.le_refl _) (.cells #[.slice yv1 oneP.vars.length dv1, .slice ya1 oneP.arrays.length da1, .slice yp1 oneP.procs.length dp1, .slice ym1 oneP.main.length dm1] 42)
  have G1 := BoxN.new r1 42 [.slice yv1 oneP.vars.length dv1, .slice ya1 oneP.arrays.length da1, .slice yp1 oneP.procs.length dp1, .slice ym1 oneP.main.length dm1]
  obtain ⟨X1, hX1⟩ : ∃ X, X = r1.alloc (.cells #[.slice yv1 oneP.vars.length dv1, .slice ya1 oneP.arrays.length da1, .slice yp1 oneP.procs.length dp1, .slice ym1 oneP.main.length dm1] 42) := ⟨_, rfl⟩
  have G1 : BoxN X1 r1.heap.size [.slice yv1 oneP.vars.length dv1, .slice ya1 oneP.arrays.length da1, .slice yp1 oneP.procs.length dp1, .slice ym1 oneP.main.length dm1] := by rw [hX1]; exact G1
  have hx1 : Below r1.heap.size r1 X1 := by rw [hX1]; exact hx1
  go_upto_region 2 with fail
  change Code.wp _ _ _ _ (r1.alloc (.cells #[.slice yv1 oneP.vars.length dv1, .slice ya1 oneP.arrays.length da1, .slice yp1 oneP.procs.length dp1, .slice ym1 oneP.main.length dm1] 42))
  rw [← hX1]
  clear hX1 HR1
  obtain ⟨g1, hg1⟩ : ∃ g, g = r1.heap.size := ⟨_, rfl⟩
  rw [← hg1] at G1 ⊢
  clear hg1
  have hb1 := hb0.trans ((hc1.trans (hx1.mono hc1.size)).mono hb0.size)
  have S1 := ((hS).below hc1).below hx1
  have L1 := ((hL).below hc1).below hx1
  have hV1 := hV1.bel hx1
  have u0 := G1.cell 0 _ rfl
  have u1 := G1.cell 1 _ rfl
  have u2 := G1.cell 2 _ rfl
  have u3 := G1.cell 3 _ rfl
  have hok := readF_ok (show oneS.length ≤ 4000 by decide) one_read
  have HT := hide (text_some a oneP oneT _ X1 S1 L1 hok.sm hV1 one_text)
  go_wp2_with fail
  refine HT.out.mono ?_
  rintro e' r2 ⟨rfl, hc2⟩
  have hb2 := hb1.trans (hc2.mono hb1.size)
  clear u0 u1 u2 u3 HT
  have hE : (oneT == [118, 97, 114, 32, 120, 59, 10, 109, 97, 105, 110, 32, 123, 10, 32, 32, 120, 32, 61, 32, 49, 32, 43, 32, 50, 59, 10, 125, 10]) = true := by decide
  go_wp2_with fail
  go_ret
  exact ⟨rfl, hb2⟩
end Go.Proofs.YtbfhaabpfkopdaaGreatDoor
