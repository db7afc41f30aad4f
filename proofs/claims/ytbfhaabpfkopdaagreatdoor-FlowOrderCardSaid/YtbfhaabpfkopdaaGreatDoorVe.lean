/- The language: are two programs the same? -/
import Derived.Test.YtbfhaabpfkopdaaGreatDoorVd
namespace Go.Proofs.YtbfhaabpfkopdaaGreatDoor
open Go.RowKit
set_option linter.unusedVariables false
theorem exs_row {W : World} {ok : Nat → Prop} {x : Option Addr} {l : List Ex} (h : ExsAt W ok x l) : RowAt exVals 4 W ok x l := by
  cases h with
  | nil => exact .inl rfl
  | row b off l A ca hB hlt c0 c1 c2 c3 hr =>
    refine .inr ⟨b, off, rfl, hB, hlt, fun i e hi => ⟨[.string (bs e.op), .int .i64 e.n, .string (bs e.name), .slice (A i) e.l.length (ca i)], rfl, ?_, A i, ca i, rfl, hr i e hi⟩⟩
    intro j u hj
    match j, hj with
    | 0, hj => cases hj; exact c0 i e hi
    | 1, hj => cases hj; exact c1 i e hi
    | 2, hj => cases hj; exact c2 i e hi
    | 3, hj => cases hj; exact c3 i e hi
    | j + 4, hj => simp at hj
theorem sts_row {W : World} {ok : Nat → Prop} {x : Option Addr} {l : List Stm} (h : StmsAt W ok x l) : RowAt stVals 7 W ok x l := by
  cases h with
  | nil => exact .inl rfl
  | row b off l A C B E ca cc cb ce hB hlt c0 c1 c2 c3 c4 c5 c6 ha hc hb he =>
    refine .inr ⟨b, off, rfl, hB, hlt, fun i e hi => ⟨[.string (bs e.kind), .string (bs e.name), .string (bs e.proc), .slice (A i) e.args.length (ca i), .slice (C i) e.cond.length (cc i), .slice (B i) e.body.length (cb i), .slice (E i) e.els.length (ce i)], rfl, ?_, A i, ca i, C i, cc i, B i, cb i, E i, ce i, rfl, ha i e hi, hc i e hi, hb i e hi, he i e hi⟩⟩
    intro j u hj
    match j, hj with
    | 0, hj => cases hj; exact c0 i e hi
    | 1, hj => cases hj; exact c1 i e hi
    | 2, hj => cases hj; exact c2 i e hi
    | 3, hj => cases hj; exact c3 i e hi
    | 4, hj => cases hj; exact c4 i e hi
    | 5, hj => cases hj; exact c5 i e hi
    | 6, hj => cases hj; exact c6 i e hi
    | j + 7, hj => simp at hj
theorem enters_sameTerms : Enters 171 := enters_of Tryz.func171 (by kernel_rfl) rfl
theorem enters_sameTests : Enters 256 := enters_of Tryz.func256 (by kernel_rfl) rfl
theorem enters_sameRows : Enters 217 := enters_of Tryz.func217 (by kernel_rfl) rfl
theorem enters_sameStatements : Enters 173 := enters_of Tryz.func173 (by kernel_rfl) rfl
theorem enters_sameProcs : Enters 118 := enters_of Tryz.func118 (by kernel_rfl) rfl

theorem Ex.ext4 {a b : Ex} (h1 : a.op = b.op) (h2 : a.n = b.n) (h3 : a.name = b.name) (h4 : a.l = b.l) : a = b := by cases a; cases b; simp_all
theorem Te.ext3 {a b : Te} (h1 : a.rel = b.rel) (h2 : a.a = b.a) (h3 : a.b = b.b) : a = b := by cases a; cases b; simp_all
theorem Stm.ext7 {a b : Stm} (h1 : a.kind = b.kind) (h2 : a.name = b.name) (h3 : a.proc = b.proc) (h4 : a.args = b.args) (h5 : a.cond = b.cond) (h6 : a.body = b.body) (h7 : a.els = b.els) : a = b := by cases a; cases b; simp_all
theorem Pc.ext4 {a b : Pc} (h1 : a.name = b.name) (h2 : a.params = b.params) (h3 : a.body = b.body) (h4 : a.ret = b.ret) : a = b := by cases a; cases b; simp_all
theorem Pg.ext4 {a b : Pg} (h1 : a.vars = b.vars) (h2 : a.arrays = b.arrays) (h3 : a.procs = b.procs) (h4 : a.main = b.main) : a = b := by cases a; cases b; simp_all

set_option maxRecDepth 20000 in
set_option maxHeartbeats 4000000 in
theorem same_ex (w0 : World) : ∀ a : Ex, ExSm a → EqE w0 171 exVals a := by
  intro a h
  induction h with
  | mk a ho hn hl h ih =>
    rintro W vs1 vs2 b hb ⟨x1, c1, rfl, hX1⟩ ⟨x2, c2, rfl, hX2⟩
    have IH := hide ih
    clear ih
    have hb0 : Below W.heap.size W ((W.alloc (.cells #[.string (bs a.op), .int .i64 a.n, .string (bs a.name), .slice x1 a.l.length c1] 121)).alloc (.cells #[.string (bs b.op), .int .i64 b.n, .string (bs b.name), .slice x2 b.l.length c2] 121)) := ((Below.refl _ _).alloc (Nat.le_refl _) _).alloc (by simp) _
    have A0 : BoxN ((W.alloc (.cells #[.string (bs a.op), .int .i64 a.n, .string (bs a.name), .slice x1 a.l.length c1] 121)).alloc (.cells #[.string (bs b.op), .int .i64 b.n, .string (bs b.name), .slice x2 b.l.length c2] 121)) W.heap.size [.string (bs a.op), .int .i64 a.n, .string (bs a.name), .slice x1 a.l.length c1] := (BoxN.new W 121 [.string (bs a.op), .int .i64 a.n, .string (bs a.name), .slice x1 a.l.length c1]).bel ((Below.refl _ _).alloc (Nat.le_refl _) _)
    have B0 : BoxN ((W.alloc (.cells #[.string (bs a.op), .int .i64 a.n, .string (bs a.name), .slice x1 a.l.length c1] 121)).alloc (.cells #[.string (bs b.op), .int .i64 b.n, .string (bs b.name), .slice x2 b.l.length c2] 121)) (W.heap.size + 1) [.string (bs b.op), .int .i64 b.n, .string (bs b.name), .slice x2 b.l.length c2] := by
      have := BoxN.new (W.alloc (.cells #[.string (bs a.op), .int .i64 a.n, .string (bs a.name), .slice x1 a.l.length c1] 121)) 121 [.string (bs b.op), .int .i64 b.n, .string (bs b.name), .slice x2 b.l.length c2]; rw [World.size_alloc] at this; exact this
    obtain ⟨W0, hW0⟩ : ∃ X, X = (W.alloc (.cells #[.string (bs a.op), .int .i64 a.n, .string (bs a.name), .slice x1 a.l.length c1] 121)).alloc (.cells #[.string (bs b.op), .int .i64 b.n, .string (bs b.name), .slice x2 b.l.length c2] 121) := ⟨_, rfl⟩
    rw [← hW0] at hb0 A0 B0
    go_enter Tryz.func171, Tryz.ntmps171
    go_upto_region 1 with fail
    change Code.wp _ _ _ _ ((W.alloc (.cells #[.string (bs a.op), .int .i64 a.n, .string (bs a.name), .slice x1 a.l.length c1] 121)).alloc (.cells #[.string (bs b.op), .int .i64 b.n, .string (bs b.name), .slice x2 b.l.length c2] 121))
    rw [← hW0]
    clear hW0
    obtain ⟨g1, hg1⟩ : ∃ g, g = W.heap.size := ⟨_, rfl⟩
    obtain ⟨g2, hg2⟩ : ∃ g, g = W.heap.size + 1 := ⟨_, rfl⟩
    rw [← hg1] at A0
    rw [← hg2] at B0
    rw [← hg2, ← hg1]
    clear hg1 hg2
    have be0 := hb.trans (hb0.mono hb.size)
    have a0 := A0.cell 0 _ rfl
    have b0 := B0.cell 0 _ rfl
    have a1 := A0.cell 1 _ rfl
    have b1 := B0.cell 1 _ rfl
    have a2 := A0.cell 2 _ rfl
    have b2 := B0.cell 2 _ rfl
    have a3 := A0.cell 3 _ rfl
    have b3 := B0.cell 3 _ rfl
    by_cases k0 : a.op = b.op
    case neg =>
      have Hr : Hid (eqB a b = false) := eqB_ne (fun e => k0 (by rw [e]))
      have k0' : (a.op == b.op) = false := by simp; exact k0
      clear k0
      go_wp2_with fail
      go_ret
      exact ⟨by rw [Hr.out]; rfl, hb0⟩
    have k0' : (a.op == b.op) = true := by simp; exact k0
    have K0 := hide k0
    clear k0
    by_cases k1 : a.n = b.n
    case neg =>
      have Hr : Hid (eqB a b = false) := eqB_ne (fun e => k1 (by rw [e]))
      have k1' : (a.n == b.n) = false := by simp; exact k1
      clear k1
      go_wp2_with fail
      go_ret
      exact ⟨by rw [Hr.out]; rfl, hb0⟩
    have k1' : (a.n == b.n) = true := by simp; exact k1
    have K1 := hide k1
    clear k1
    by_cases k2 : a.name = b.name
    case neg =>
      have Hr : Hid (eqB a b = false) := eqB_ne (fun e => k2 (by rw [e]))
      have k2' : (a.name == b.name) = false := by simp; exact k2
      clear k2
      go_wp2_with fail
      go_ret
      exact ⟨by rw [Hr.out]; rfl, hb0⟩
    have k2' : (a.name == b.name) = true := by simp; exact k2
    have K2 := hide k2
    clear k2
    have H0 := hide (eqf_ex w0 171 x1 x2 _ _ c1 c2 a.l b.l W0 (hide enters_sameTerms) be0 (exs_row hX1) (exs_row hX2) rfl rfl hl IH)
    go_wp2_with fail
    refine H0.out.mono ?_
    rintro e w1 ⟨rfl, hc1⟩
    have A1 := A0.bel hc1
    have B1 := B0.bel hc1
    have be1 := be0.trans (hc1.mono be0.size)
    have hb1 := hb0.trans (hc1.mono hb0.size)
    clear a0 b0 a1 b1 a2 b2 a3 b3
    cases ev0 : eqB a.l b.l with
    | false =>
      have Hr : Hid (eqB a b = false) := eqB_ne (fun e => by rw [e, eqB_self] at ev0; cases ev0)
      go_wp2_with fail
      go_ret
      exact ⟨by rw [Hr.out]; rfl, hb1⟩
    | true =>
      have V0 := hide ((eqB_iff _ _).1 ev0)
      clear ev0 H0
      have Hr : Hid (eqB a b = true) := (eqB_iff _ _).2 (Ex.ext4 (K0.out) (K1.out) (K2.out) (V0.out))
      go_wp2_with fail
      go_ret
      exact ⟨by rw [Hr.out]; rfl, hb1⟩

set_option maxRecDepth 20000 in
set_option maxHeartbeats 4000000 in
theorem same_te (w0 : World) (a : Te) (h : TeSm a) : EqE w0 256 teVals a := by
  rintro W vs1 vs2 b hb ⟨x1, c1, y1, d1, rfl, hX1, hY1⟩ ⟨x2, c2, y2, d2, rfl, hX2, hY2⟩
  have hb0 : Below W.heap.size W ((W.alloc (.cells #[.string (bs a.a.op), .int .i64 a.a.n, .string (bs a.a.name), .slice x1 a.a.l.length c1, .string (bs a.rel), .string (bs a.b.op), .int .i64 a.b.n, .string (bs a.b.name), .slice y1 a.b.l.length d1] 206)).alloc (.cells #[.string (bs b.a.op), .int .i64 b.a.n, .string (bs b.a.name), .slice x2 b.a.l.length c2, .string (bs b.rel), .string (bs b.b.op), .int .i64 b.b.n, .string (bs b.b.name), .slice y2 b.b.l.length d2] 206)) := ((Below.refl _ _).alloc (Nat.le_refl _) _).alloc (by simp) _
  have A0 : BoxN ((W.alloc (.cells #[.string (bs a.a.op), .int .i64 a.a.n, .string (bs a.a.name), .slice x1 a.a.l.length c1, .string (bs a.rel), .string (bs a.b.op), .int .i64 a.b.n, .string (bs a.b.name), .slice y1 a.b.l.length d1] 206)).alloc (.cells #[.string (bs b.a.op), .int .i64 b.a.n, .string (bs b.a.name), .slice x2 b.a.l.length c2, .string (bs b.rel), .string (bs b.b.op), .int .i64 b.b.n, .string (bs b.b.name), .slice y2 b.b.l.length d2] 206)) W.heap.size [.string (bs a.a.op), .int .i64 a.a.n, .string (bs a.a.name), .slice x1 a.a.l.length c1, .string (bs a.rel), .string (bs a.b.op), .int .i64 a.b.n, .string (bs a.b.name), .slice y1 a.b.l.length d1] := (BoxN.new W 206 [.string (bs a.a.op), .int .i64 a.a.n, .string (bs a.a.name), .slice x1 a.a.l.length c1, .string (bs a.rel), .string (bs a.b.op), .int .i64 a.b.n, .string (bs a.b.name), .slice y1 a.b.l.length d1]).bel ((Below.refl _ _).alloc (Nat.le_refl _) _)
  have B0 : BoxN ((W.alloc (.cells #[.string (bs a.a.op), .int .i64 a.a.n, .string (bs a.a.name), .slice x1 a.a.l.length c1, .string (bs a.rel), .string (bs a.b.op), .int .i64 a.b.n, .string (bs a.b.name), .slice y1 a.b.l.length d1] 206)).alloc (.cells #[.string (bs b.a.op), .int .i64 b.a.n, .string (bs b.a.name), .slice x2 b.a.l.length c2, .string (bs b.rel), .string (bs b.b.op), .int .i64 b.b.n, .string (bs b.b.name), .slice y2 b.b.l.length d2] 206)) (W.heap.size + 1) [.string (bs b.a.op), .int .i64 b.a.n, .string (bs b.a.name), .slice x2 b.a.l.length c2, .string (bs b.rel), .string (bs b.b.op), .int .i64 b.b.n, .string (bs b.b.name), .slice y2 b.b.l.length d2] := by
    have := BoxN.new (W.alloc (.cells #[.string (bs a.a.op), .int .i64 a.a.n, .string (bs a.a.name), .slice x1 a.a.l.length c1, .string (bs a.rel), .string (bs a.b.op), .int .i64 a.b.n, .string (bs a.b.name), .slice y1 a.b.l.length d1] 206)) 206 [.string (bs b.a.op), .int .i64 b.a.n, .string (bs b.a.name), .slice x2 b.a.l.length c2, .string (bs b.rel), .string (bs b.b.op), .int .i64 b.b.n, .string (bs b.b.name), .slice y2 b.b.l.length d2]; rw [World.size_alloc] at this; exact this
  obtain ⟨W0, hW0⟩ : ∃ X, X = (W.alloc (.cells #[.string (bs a.a.op), .int .i64 a.a.n, .string (bs a.a.name), .slice x1 a.a.l.length c1, .string (bs a.rel), .string (bs a.b.op), .int .i64 a.b.n, .string (bs a.b.name), .slice y1 a.b.l.length d1] 206)).alloc (.cells #[.string (bs b.a.op), .int .i64 b.a.n, .string (bs b.a.name), .slice x2 b.a.l.length c2, .string (bs b.rel), .string (bs b.b.op), .int .i64 b.b.n, .string (bs b.b.name), .slice y2 b.b.l.length d2] 206) := ⟨_, rfl⟩
  rw [← hW0] at hb0 A0 B0
  go_enter Tryz.func256, Tryz.ntmps256
  go_upto_region 1 with fail
  change Code.wp _ _ _ _ ((W.alloc (.cells #[.string (bs a.a.op), .int .i64 a.a.n, .string (bs a.a.name), .slice x1 a.a.l.length c1, .string (bs a.rel), .string (bs a.b.op), .int .i64 a.b.n, .string (bs a.b.name), .slice y1 a.b.l.length d1] 206)).alloc (.cells #[.string (bs b.a.op), .int .i64 b.a.n, .string (bs b.a.name), .slice x2 b.a.l.length c2, .string (bs b.rel), .string (bs b.b.op), .int .i64 b.b.n, .string (bs b.b.name), .slice y2 b.b.l.length d2] 206))
  rw [← hW0]
  clear hW0
  obtain ⟨g1, hg1⟩ : ∃ g, g = W.heap.size := ⟨_, rfl⟩
  obtain ⟨g2, hg2⟩ : ∃ g, g = W.heap.size + 1 := ⟨_, rfl⟩
  rw [← hg1] at A0
  rw [← hg2] at B0
  rw [← hg2, ← hg1]
  clear hg1 hg2
  have be0 := hb.trans (hb0.mono hb.size)
  have a0 := A0.cell 0 _ rfl
  have b0 := B0.cell 0 _ rfl
  have a1 := A0.cell 1 _ rfl
  have b1 := B0.cell 1 _ rfl
  have a2 := A0.cell 2 _ rfl
  have b2 := B0.cell 2 _ rfl
  have a3 := A0.cell 3 _ rfl
  have b3 := B0.cell 3 _ rfl
  have a4 := A0.cell 4 _ rfl
  have b4 := B0.cell 4 _ rfl
  have a5 := A0.cell 5 _ rfl
  have b5 := B0.cell 5 _ rfl
  have a6 := A0.cell 6 _ rfl
  have b6 := B0.cell 6 _ rfl
  have a7 := A0.cell 7 _ rfl
  have b7 := B0.cell 7 _ rfl
  have a8 := A0.cell 8 _ rfl
  have b8 := B0.cell 8 _ rfl
  by_cases k0 : a.rel = b.rel
  case neg =>
    have Hr : Hid (eqB a b = false) := eqB_ne (fun e => k0 (by rw [e]))
    have k0' : (a.rel == b.rel) = false := by simp; exact k0
    clear k0
    go_wp2_with fail
    go_ret
    exact ⟨by rw [Hr.out]; rfl, hb0⟩
  have k0' : (a.rel == b.rel) = true := by simp; exact k0
  have K0 := hide k0
  clear k0
  have H0 := hide (same_ex w0 a.a h.a W0 [.string (bs a.a.op), .int .i64 a.a.n, .string (bs a.a.name), .slice x1 a.a.l.length c1] [.string (bs b.a.op), .int .i64 b.a.n, .string (bs b.a.name), .slice x2 b.a.l.length c2] b.a be0 ⟨x1, c1, rfl, hX1⟩ ⟨x2, c2, rfl, hX2⟩)
  go_wp2_with fail
  refine H0.out.mono ?_
  rintro e w1 ⟨rfl, hc1⟩
  have A1 := A0.bel hc1
  have B1 := B0.bel hc1
  have be1 := be0.trans (hc1.mono be0.size)
  have hb1 := hb0.trans (hc1.mono hb0.size)
  clear a0 b0 a1 b1 a2 b2 a3 b3 a4 b4 a5 b5 a6 b6 a7 b7 a8 b8
  cases ev0 : eqB a.a b.a with
  | false =>
    have Hr : Hid (eqB a b = false) := eqB_ne (fun e => by rw [e, eqB_self] at ev0; cases ev0)
    go_wp2_with fail
    go_ret
    exact ⟨by rw [Hr.out]; rfl, hb1⟩
  | true =>
    have V0 := hide ((eqB_iff _ _).1 ev0)
    clear ev0 H0
    have a0 := A1.cell 0 _ rfl
    have b0 := B1.cell 0 _ rfl
    have a1 := A1.cell 1 _ rfl
    have b1 := B1.cell 1 _ rfl
    have a2 := A1.cell 2 _ rfl
    have b2 := B1.cell 2 _ rfl
    have a3 := A1.cell 3 _ rfl
    have b3 := B1.cell 3 _ rfl
    have a4 := A1.cell 4 _ rfl
    have b4 := B1.cell 4 _ rfl
    have a5 := A1.cell 5 _ rfl
    have b5 := B1.cell 5 _ rfl
    have a6 := A1.cell 6 _ rfl
    have b6 := B1.cell 6 _ rfl
    have a7 := A1.cell 7 _ rfl
    have b7 := B1.cell 7 _ rfl
    have a8 := A1.cell 8 _ rfl
    have b8 := B1.cell 8 _ rfl
    have H1 := hide (same_ex w0 a.b h.b w1 [.string (bs a.b.op), .int .i64 a.b.n, .string (bs a.b.name), .slice y1 a.b.l.length d1] [.string (bs b.b.op), .int .i64 b.b.n, .string (bs b.b.name), .slice y2 b.b.l.length d2] b.b be1 ⟨y1, d1, rfl, hY1⟩ ⟨y2, d2, rfl, hY2⟩)
    go_wp2_with fail
    refine H1.out.mono ?_
    rintro e w2 ⟨rfl, hc2⟩
    have A2 := A1.bel hc2
    have B2 := B1.bel hc2
    have be2 := be1.trans (hc2.mono be1.size)
    have hb2 := hb1.trans (hc2.mono hb1.size)
    clear a0 b0 a1 b1 a2 b2 a3 b3 a4 b4 a5 b5 a6 b6 a7 b7 a8 b8
    cases ev1 : eqB a.b b.b with
    | false =>
      have Hr : Hid (eqB a b = false) := eqB_ne (fun e => by rw [e, eqB_self] at ev1; cases ev1)
      go_wp2_with fail
      go_ret
      exact ⟨by rw [Hr.out]; rfl, hb2⟩
    | true =>
      have V1 := hide ((eqB_iff _ _).1 ev1)
      clear ev1 H1
      have Hr : Hid (eqB a b = true) := (eqB_iff _ _).2 (Te.ext3 (K0.out) (V0.out) (V1.out))
      go_wp2_with fail
      go_ret
      exact ⟨by rw [Hr.out]; rfl, hb2⟩

set_option maxRecDepth 20000 in
set_option maxHeartbeats 4000000 in
theorem same_rw (w0 : World) (a : List Te) (h : RwSm a) : EqR w0 217 a := by
  intro W x1 x2 c1 c2 b hb hX1 hX2
  have H0 := hide (eqf_te w0 256 x1 x2 _ _ c1 c2 a b W (hide enters_sameTests) hb hX1 hX2 rfl rfl h.len (hide (fun i t ht => same_te w0 t (h.el i t ht))))
  go_enter Tryz.func217, Tryz.ntmps217
  go_wp2_with fail
  refine H0.out.mono ?_
  rintro e w1 ⟨rfl, hc1⟩
  go_wp2_with fail
  go_ret
  exact ⟨rfl, hc1⟩

set_option maxRecDepth 20000 in
set_option maxHeartbeats 4000000 in
theorem same_bl (w0 : World) (a b : List Stm) (x1 x2 : Option Addr) (c1 c2 : Nat) (W : World) (hl : a.length ≤ maxLen) (HE : Hid (∀ (i : Nat) (t : Stm), a[i]? = some t → EqE w0 173 stVals t)) (hb : Below w0.heap.size w0 W) (hX1 : StmsAt w0 Any x1 a) (hX2 : StmsAt w0 Any x2 b) :
    Calls Tryz.prog 119 #[.slice x1 a.length c1, .slice x2 b.length c2] W fun e W' => e = .returned (.bool (eqB a b)) ∧ Below W.heap.size W W' := by
  have H0 := hide (eqf_st w0 173 x1 x2 _ _ c1 c2 a b W (hide enters_sameStatements) hb (sts_row hX1) (sts_row hX2) rfl rfl hl HE)
  go_enter Tryz.func119, Tryz.ntmps119
  go_wp2_with fail
  refine H0.out.mono ?_
  rintro e w1 ⟨rfl, hc1⟩
  go_wp2_with fail
  go_ret
  exact ⟨rfl, hc1⟩

set_option maxRecDepth 20000 in
set_option maxHeartbeats 4000000 in
theorem same_st (w0 : World) : ∀ a : Stm, StSm a → EqE w0 173 stVals a := by
  intro a h
  induction h with
  | mk a h0 h1 h2 h3 h4 h5 h6 h7 ih5 ih7 =>
    rintro W vs1 vs2 b hb ⟨xa1, ca1, xc1, cc1, xb1, cb1, xe1, ce1, rfl, hA1, hC1, hB1, hE1⟩ ⟨xa2, ca2, xc2, cc2, xb2, cb2, xe2, ce2, rfl, hA2, hC2, hB2, hE2⟩
    have IB := hide ih5
    have IE := hide ih7
    clear ih5 ih7
    have hb0 : Below W.heap.size W ((W.alloc (.cells #[.string (bs a.kind), .string (bs a.name), .string (bs a.proc), .slice xa1 a.args.length ca1, .slice xc1 a.cond.length cc1, .slice xb1 a.body.length cb1, .slice xe1 a.els.length ce1] 185)).alloc (.cells #[.string (bs b.kind), .string (bs b.name), .string (bs b.proc), .slice xa2 b.args.length ca2, .slice xc2 b.cond.length cc2, .slice xb2 b.body.length cb2, .slice xe2 b.els.length ce2] 185)) := ((Below.refl _ _).alloc (Nat.le_refl _) _).alloc (by simp) _
    have A0 : BoxN ((W.alloc (.cells #[.string (bs a.kind), .string (bs a.name), .string (bs a.proc), .slice xa1 a.args.length ca1, .slice xc1 a.cond.length cc1, .slice xb1 a.body.length cb1, .slice xe1 a.els.length ce1] 185)).alloc (.cells #[.string (bs b.kind), .string (bs b.name), .string (bs b.proc), .slice xa2 b.args.length ca2, .slice xc2 b.cond.length cc2, .slice xb2 b.body.length cb2, .slice xe2 b.els.length ce2] 185)) W.heap.size [.string (bs a.kind), .string (bs a.name), .string (bs a.proc), .slice xa1 a.args.length ca1, .slice xc1 a.cond.length cc1, .slice xb1 a.body.length cb1, .slice xe1 a.els.length ce1] := (BoxN.new W 185 [.string (bs a.kind), .string (bs a.name), .string (bs a.proc), .slice xa1 a.args.length ca1, .slice xc1 a.cond.length cc1, .slice xb1 a.body.length cb1, .slice xe1 a.els.length ce1]).bel ((Below.refl _ _).alloc (Nat.le_refl _) _)
    have B0 : BoxN ((W.alloc (.cells #[.string (bs a.kind), .string (bs a.name), .string (bs a.proc), .slice xa1 a.args.length ca1, .slice xc1 a.cond.length cc1, .slice xb1 a.body.length cb1, .slice xe1 a.els.length ce1] 185)).alloc (.cells #[.string (bs b.kind), .string (bs b.name), .string (bs b.proc), .slice xa2 b.args.length ca2, .slice xc2 b.cond.length cc2, .slice xb2 b.body.length cb2, .slice xe2 b.els.length ce2] 185)) (W.heap.size + 1) [.string (bs b.kind), .string (bs b.name), .string (bs b.proc), .slice xa2 b.args.length ca2, .slice xc2 b.cond.length cc2, .slice xb2 b.body.length cb2, .slice xe2 b.els.length ce2] := by
      have := BoxN.new (W.alloc (.cells #[.string (bs a.kind), .string (bs a.name), .string (bs a.proc), .slice xa1 a.args.length ca1, .slice xc1 a.cond.length cc1, .slice xb1 a.body.length cb1, .slice xe1 a.els.length ce1] 185)) 185 [.string (bs b.kind), .string (bs b.name), .string (bs b.proc), .slice xa2 b.args.length ca2, .slice xc2 b.cond.length cc2, .slice xb2 b.body.length cb2, .slice xe2 b.els.length ce2]; rw [World.size_alloc] at this; exact this
    obtain ⟨W0, hW0⟩ : ∃ X, X = (W.alloc (.cells #[.string (bs a.kind), .string (bs a.name), .string (bs a.proc), .slice xa1 a.args.length ca1, .slice xc1 a.cond.length cc1, .slice xb1 a.body.length cb1, .slice xe1 a.els.length ce1] 185)).alloc (.cells #[.string (bs b.kind), .string (bs b.name), .string (bs b.proc), .slice xa2 b.args.length ca2, .slice xc2 b.cond.length cc2, .slice xb2 b.body.length cb2, .slice xe2 b.els.length ce2] 185) := ⟨_, rfl⟩
    rw [← hW0] at hb0 A0 B0
    go_enter Tryz.func173, Tryz.ntmps173
    go_upto_region 1 with fail
    change Code.wp _ _ _ _ ((W.alloc (.cells #[.string (bs a.kind), .string (bs a.name), .string (bs a.proc), .slice xa1 a.args.length ca1, .slice xc1 a.cond.length cc1, .slice xb1 a.body.length cb1, .slice xe1 a.els.length ce1] 185)).alloc (.cells #[.string (bs b.kind), .string (bs b.name), .string (bs b.proc), .slice xa2 b.args.length ca2, .slice xc2 b.cond.length cc2, .slice xb2 b.body.length cb2, .slice xe2 b.els.length ce2] 185))
    rw [← hW0]
    clear hW0
    obtain ⟨g1, hg1⟩ : ∃ g, g = W.heap.size := ⟨_, rfl⟩
    obtain ⟨g2, hg2⟩ : ∃ g, g = W.heap.size + 1 := ⟨_, rfl⟩
    rw [← hg1] at A0
    rw [← hg2] at B0
    rw [← hg2, ← hg1]
    clear hg1 hg2
    have be0 := hb.trans (hb0.mono hb.size)
    have a0 := A0.cell 0 _ rfl
    have b0 := B0.cell 0 _ rfl
    have a1 := A0.cell 1 _ rfl
    have b1 := B0.cell 1 _ rfl
    have a2 := A0.cell 2 _ rfl
    have b2 := B0.cell 2 _ rfl
    have a3 := A0.cell 3 _ rfl
    have b3 := B0.cell 3 _ rfl
    have a4 := A0.cell 4 _ rfl
    have b4 := B0.cell 4 _ rfl
    have a5 := A0.cell 5 _ rfl
    have b5 := B0.cell 5 _ rfl
    have a6 := A0.cell 6 _ rfl
    have b6 := B0.cell 6 _ rfl
    by_cases k0 : a.kind = b.kind
    case neg =>
      have Hr : Hid (eqB a b = false) := eqB_ne (fun e => k0 (by rw [e]))
      have k0' : (a.kind == b.kind) = false := by simp; exact k0
      clear k0
      go_wp2_with fail
      go_ret
      exact ⟨by rw [Hr.out]; rfl, hb0⟩
    have k0' : (a.kind == b.kind) = true := by simp; exact k0
    have K0 := hide k0
    clear k0
    by_cases k1 : a.name = b.name
    case neg =>
      have Hr : Hid (eqB a b = false) := eqB_ne (fun e => k1 (by rw [e]))
      have k1' : (a.name == b.name) = false := by simp; exact k1
      clear k1
      go_wp2_with fail
      go_ret
      exact ⟨by rw [Hr.out]; rfl, hb0⟩
    have k1' : (a.name == b.name) = true := by simp; exact k1
    have K1 := hide k1
    clear k1
    by_cases k2 : a.proc = b.proc
    case neg =>
      have Hr : Hid (eqB a b = false) := eqB_ne (fun e => k2 (by rw [e]))
      have k2' : (a.proc == b.proc) = false := by simp; exact k2
      clear k2
      go_wp2_with fail
      go_ret
      exact ⟨by rw [Hr.out]; rfl, hb0⟩
    have k2' : (a.proc == b.proc) = true := by simp; exact k2
    have K2 := hide k2
    clear k2
    have H0 := hide (eqf_ex w0 171 xa1 xa2 _ _ ca1 ca2 a.args b.args W0 (hide enters_sameTerms) be0 (exs_row hA1) (exs_row hA2) rfl rfl h0 (hide (fun i t ht => same_ex w0 t (h1 i t ht))))
    go_wp2_with fail
    refine H0.out.mono ?_
    rintro e w1 ⟨rfl, hc1⟩
    have A1 := A0.bel hc1
    have B1 := B0.bel hc1
    have be1 := be0.trans (hc1.mono be0.size)
    have hb1 := hb0.trans (hc1.mono hb0.size)
    clear a0 b0 a1 b1 a2 b2 a3 b3 a4 b4 a5 b5 a6 b6
    cases ev0 : eqB a.args b.args with
    | false =>
      have Hr : Hid (eqB a b = false) := eqB_ne (fun e => by rw [e, eqB_self] at ev0; cases ev0)
      go_wp2_with fail
      go_ret
      exact ⟨by rw [Hr.out]; rfl, hb1⟩
    | true =>
      have V0 := hide ((eqB_iff _ _).1 ev0)
      clear ev0 H0
      have a0 := A1.cell 0 _ rfl
      have b0 := B1.cell 0 _ rfl
      have a1 := A1.cell 1 _ rfl
      have b1 := B1.cell 1 _ rfl
      have a2 := A1.cell 2 _ rfl
      have b2 := B1.cell 2 _ rfl
      have a3 := A1.cell 3 _ rfl
      have b3 := B1.cell 3 _ rfl
      have a4 := A1.cell 4 _ rfl
      have b4 := B1.cell 4 _ rfl
      have a5 := A1.cell 5 _ rfl
      have b5 := B1.cell 5 _ rfl
      have a6 := A1.cell 6 _ rfl
      have b6 := B1.cell 6 _ rfl
      have H1 := hide (eqf_co w0 217 xc1 xc2 _ _ cc1 cc2 a.cond b.cond w1 (hide enters_sameRows) be1 hC1 hC2 rfl rfl h2 (hide (fun i t ht => same_rw w0 t (h3 i t ht))))
      go_wp2_with fail
      refine H1.out.mono ?_
      rintro e w2 ⟨rfl, hc2⟩
      have A2 := A1.bel hc2
      have B2 := B1.bel hc2
      have be2 := be1.trans (hc2.mono be1.size)
      have hb2 := hb1.trans (hc2.mono hb1.size)
      clear a0 b0 a1 b1 a2 b2 a3 b3 a4 b4 a5 b5 a6 b6
      cases ev1 : eqB a.cond b.cond with
      | false =>
        have Hr : Hid (eqB a b = false) := eqB_ne (fun e => by rw [e, eqB_self] at ev1; cases ev1)
        go_wp2_with fail
        go_ret
        exact ⟨by rw [Hr.out]; rfl, hb2⟩
      | true =>
        have V1 := hide ((eqB_iff _ _).1 ev1)
        clear ev1 H1
        have a0 := A2.cell 0 _ rfl
        have b0 := B2.cell 0 _ rfl
        have a1 := A2.cell 1 _ rfl
        have b1 := B2.cell 1 _ rfl
        have a2 := A2.cell 2 _ rfl
        have b2 := B2.cell 2 _ rfl
        have a3 := A2.cell 3 _ rfl
        have b3 := B2.cell 3 _ rfl
        have a4 := A2.cell 4 _ rfl
        have b4 := B2.cell 4 _ rfl
        have a5 := A2.cell 5 _ rfl
        have b5 := B2.cell 5 _ rfl
        have a6 := A2.cell 6 _ rfl
        have b6 := B2.cell 6 _ rfl
        have H2 := hide (same_bl w0 a.body b.body xb1 xb2 cb1 cb2 w2 h4 IB be2 hB1 hB2)
        go_wp2_with fail
        refine H2.out.mono ?_
        rintro e w3 ⟨rfl, hc3⟩
        have A3 := A2.bel hc3
        have B3 := B2.bel hc3
        have be3 := be2.trans (hc3.mono be2.size)
        have hb3 := hb2.trans (hc3.mono hb2.size)
        clear a0 b0 a1 b1 a2 b2 a3 b3 a4 b4 a5 b5 a6 b6
        cases ev2 : eqB a.body b.body with
        | false =>
          have Hr : Hid (eqB a b = false) := eqB_ne (fun e => by rw [e, eqB_self] at ev2; cases ev2)
          go_wp2_with fail
          go_ret
          exact ⟨by rw [Hr.out]; rfl, hb3⟩
        | true =>
          have V2 := hide ((eqB_iff _ _).1 ev2)
          clear ev2 H2
          have a0 := A3.cell 0 _ rfl
          have b0 := B3.cell 0 _ rfl
          have a1 := A3.cell 1 _ rfl
          have b1 := B3.cell 1 _ rfl
          have a2 := A3.cell 2 _ rfl
          have b2 := B3.cell 2 _ rfl
          have a3 := A3.cell 3 _ rfl
          have b3 := B3.cell 3 _ rfl
          have a4 := A3.cell 4 _ rfl
          have b4 := B3.cell 4 _ rfl
          have a5 := A3.cell 5 _ rfl
          have b5 := B3.cell 5 _ rfl
          have a6 := A3.cell 6 _ rfl
          have b6 := B3.cell 6 _ rfl
          have H3 := hide (same_bl w0 a.els b.els xe1 xe2 ce1 ce2 w3 h6 IE be3 hE1 hE2)
          go_wp2_with fail
          refine H3.out.mono ?_
          rintro e w4 ⟨rfl, hc4⟩
          have A4 := A3.bel hc4
          have B4 := B3.bel hc4
          have be4 := be3.trans (hc4.mono be3.size)
          have hb4 := hb3.trans (hc4.mono hb3.size)
          clear a0 b0 a1 b1 a2 b2 a3 b3 a4 b4 a5 b5 a6 b6
          cases ev3 : eqB a.els b.els with
          | false =>
            have Hr : Hid (eqB a b = false) := eqB_ne (fun e => by rw [e, eqB_self] at ev3; cases ev3)
            go_wp2_with fail
            go_ret
            exact ⟨by rw [Hr.out]; rfl, hb4⟩
          | true =>
            have V3 := hide ((eqB_iff _ _).1 ev3)
            clear ev3 H3
            have Hr : Hid (eqB a b = true) := (eqB_iff _ _).2 (Stm.ext7 (K0.out) (K1.out) (K2.out) (V0.out) (V1.out) (V2.out) (V3.out))
            go_wp2_with fail
            go_ret
            exact ⟨by rw [Hr.out]; rfl, hb4⟩

set_option maxRecDepth 20000 in
set_option maxHeartbeats 4000000 in
theorem same_pc (w0 : World) (a : Pc) (h : PcSm a) : EqE w0 118 pcVals a := by
  rintro W vs1 vs2 b hb ⟨xp1, cp1, xb1, cb1, xe1, ce1, rfl, hP1, hB1, hE1⟩ ⟨xp2, cp2, xb2, cb2, xe2, ce2, rfl, hP2, hB2, hE2⟩
  have hb0 : Below W.heap.size W ((W.alloc (.cells #[.string (bs a.name), .slice xp1 a.params.length cp1, .slice xb1 a.body.length cb1, .string (bs a.ret.op), .int .i64 a.ret.n, .string (bs a.ret.name), .slice xe1 a.ret.l.length ce1] 124)).alloc (.cells #[.string (bs b.name), .slice xp2 b.params.length cp2, .slice xb2 b.body.length cb2, .string (bs b.ret.op), .int .i64 b.ret.n, .string (bs b.ret.name), .slice xe2 b.ret.l.length ce2] 124)) := ((Below.refl _ _).alloc (Nat.le_refl _) _).alloc (by simp) _
  have A0 : BoxN ((W.alloc (.cells #[.string (bs a.name), .slice xp1 a.params.length cp1, .slice xb1 a.body.length cb1, .string (bs a.ret.op), .int .i64 a.ret.n, .string (bs a.ret.name), .slice xe1 a.ret.l.length ce1] 124)).alloc (.cells #[.string (bs b.name), .slice xp2 b.params.length cp2, .slice xb2 b.body.length cb2, .string (bs b.ret.op), .int .i64 b.ret.n, .string (bs b.ret.name), .slice xe2 b.ret.l.length ce2] 124)) W.heap.size [.string (bs a.name), .slice xp1 a.params.length cp1, .slice xb1 a.body.length cb1, .string (bs a.ret.op), .int .i64 a.ret.n, .string (bs a.ret.name), .slice xe1 a.ret.l.length ce1] := (BoxN.new W 124 [.string (bs a.name), .slice xp1 a.params.length cp1, .slice xb1 a.body.length cb1, .string (bs a.ret.op), .int .i64 a.ret.n, .string (bs a.ret.name), .slice xe1 a.ret.l.length ce1]).bel ((Below.refl _ _).alloc (Nat.le_refl _) _)
  have B0 : BoxN ((W.alloc (.cells #[.string (bs a.name), .slice xp1 a.params.length cp1, .slice xb1 a.body.length cb1, .string (bs a.ret.op), .int .i64 a.ret.n, .string (bs a.ret.name), .slice xe1 a.ret.l.length ce1] 124)).alloc (.cells #[.string (bs b.name), .slice xp2 b.params.length cp2, .slice xb2 b.body.length cb2, .string (bs b.ret.op), .int .i64 b.ret.n, .string (bs b.ret.name), .slice xe2 b.ret.l.length ce2] 124)) (W.heap.size + 1) [.string (bs b.name), .slice xp2 b.params.length cp2, .slice xb2 b.body.length cb2, .string (bs b.ret.op), .int .i64 b.ret.n, .string (bs b.ret.name), .slice xe2 b.ret.l.length ce2] := by
    have := BoxN.new (W.alloc (.cells #[.string (bs a.name), .slice xp1 a.params.length cp1, .slice xb1 a.body.length cb1, .string (bs a.ret.op), .int .i64 a.ret.n, .string (bs a.ret.name), .slice xe1 a.ret.l.length ce1] 124)) 124 [.string (bs b.name), .slice xp2 b.params.length cp2, .slice xb2 b.body.length cb2, .string (bs b.ret.op), .int .i64 b.ret.n, .string (bs b.ret.name), .slice xe2 b.ret.l.length ce2]; rw [World.size_alloc] at this; exact this
  obtain ⟨W0, hW0⟩ : ∃ X, X = (W.alloc (.cells #[.string (bs a.name), .slice xp1 a.params.length cp1, .slice xb1 a.body.length cb1, .string (bs a.ret.op), .int .i64 a.ret.n, .string (bs a.ret.name), .slice xe1 a.ret.l.length ce1] 124)).alloc (.cells #[.string (bs b.name), .slice xp2 b.params.length cp2, .slice xb2 b.body.length cb2, .string (bs b.ret.op), .int .i64 b.ret.n, .string (bs b.ret.name), .slice xe2 b.ret.l.length ce2] 124) := ⟨_, rfl⟩
  rw [← hW0] at hb0 A0 B0
  go_enter Tryz.func118, Tryz.ntmps118
  go_upto_region 1 with fail
  change Code.wp _ _ _ _ ((W.alloc (.cells #[.string (bs a.name), .slice xp1 a.params.length cp1, .slice xb1 a.body.length cb1, .string (bs a.ret.op), .int .i64 a.ret.n, .string (bs a.ret.name), .slice xe1 a.ret.l.length ce1] 124)).alloc (.cells #[.string (bs b.name), .slice xp2 b.params.length cp2, .slice xb2 b.body.length cb2, .string (bs b.ret.op), .int .i64 b.ret.n, .string (bs b.ret.name), .slice xe2 b.ret.l.length ce2] 124))
  rw [← hW0]
  clear hW0
  obtain ⟨g1, hg1⟩ : ∃ g, g = W.heap.size := ⟨_, rfl⟩
  obtain ⟨g2, hg2⟩ : ∃ g, g = W.heap.size + 1 := ⟨_, rfl⟩
  rw [← hg1] at A0
  rw [← hg2] at B0
  rw [← hg2, ← hg1]
  clear hg1 hg2
  have be0 := hb.trans (hb0.mono hb.size)
  have a0 := A0.cell 0 _ rfl
  have b0 := B0.cell 0 _ rfl
  have a1 := A0.cell 1 _ rfl
  have b1 := B0.cell 1 _ rfl
  have a2 := A0.cell 2 _ rfl
  have b2 := B0.cell 2 _ rfl
  have a3 := A0.cell 3 _ rfl
  have b3 := B0.cell 3 _ rfl
  have a4 := A0.cell 4 _ rfl
  have b4 := B0.cell 4 _ rfl
  have a5 := A0.cell 5 _ rfl
  have b5 := B0.cell 5 _ rfl
  have a6 := A0.cell 6 _ rfl
  have b6 := B0.cell 6 _ rfl
  by_cases k0 : a.name = b.name
  case neg =>
    have Hr : Hid (eqB a b = false) := eqB_ne (fun e => k0 (by rw [e]))
    have k0' : (a.name == b.name) = false := by simp; exact k0
    clear k0
    go_wp2_with fail
    go_ret
    exact ⟨by rw [Hr.out]; rfl, hb0⟩
  have k0' : (a.name == b.name) = true := by simp; exact k0
  have K0 := hide k0
  clear k0
  have H0 := hide (eqs_str w0 xp1 xp2 _ _ cp1 cp2 a.params b.params W0 be0 hP1 hP2 rfl rfl h.params)
  go_wp2_with fail
  refine H0.out.mono ?_
  rintro e w1 ⟨rfl, hc1⟩
  have A1 := A0.bel hc1
  have B1 := B0.bel hc1
  have be1 := be0.trans (hc1.mono be0.size)
  have hb1 := hb0.trans (hc1.mono hb0.size)
  clear a0 b0 a1 b1 a2 b2 a3 b3 a4 b4 a5 b5 a6 b6
  cases ev0 : eqB a.params b.params with
  | false =>
    have Hr : Hid (eqB a b = false) := eqB_ne (fun e => by rw [e, eqB_self] at ev0; cases ev0)
    go_wp2_with fail
    go_ret
    exact ⟨by rw [Hr.out]; rfl, hb1⟩
  | true =>
    have V0 := hide ((eqB_iff _ _).1 ev0)
    clear ev0 H0
    have a0 := A1.cell 0 _ rfl
    have b0 := B1.cell 0 _ rfl
    have a1 := A1.cell 1 _ rfl
    have b1 := B1.cell 1 _ rfl
    have a2 := A1.cell 2 _ rfl
    have b2 := B1.cell 2 _ rfl
    have a3 := A1.cell 3 _ rfl
    have b3 := B1.cell 3 _ rfl
    have a4 := A1.cell 4 _ rfl
    have b4 := B1.cell 4 _ rfl
    have a5 := A1.cell 5 _ rfl
    have b5 := B1.cell 5 _ rfl
    have a6 := A1.cell 6 _ rfl
    have b6 := B1.cell 6 _ rfl
    have H1 := hide (same_bl w0 a.body b.body xb1 xb2 cb1 cb2 w1 h.body.len (hide (fun i t ht => same_st w0 t (h.body.el i t ht))) be1 hB1 hB2)
    go_wp2_with fail
    refine H1.out.mono ?_
    rintro e w2 ⟨rfl, hc2⟩
    have A2 := A1.bel hc2
    have B2 := B1.bel hc2
    have be2 := be1.trans (hc2.mono be1.size)
    have hb2 := hb1.trans (hc2.mono hb1.size)
    clear a0 b0 a1 b1 a2 b2 a3 b3 a4 b4 a5 b5 a6 b6
    cases ev1 : eqB a.body b.body with
    | false =>
      have Hr : Hid (eqB a b = false) := eqB_ne (fun e => by rw [e, eqB_self] at ev1; cases ev1)
      go_wp2_with fail
      go_ret
      exact ⟨by rw [Hr.out]; rfl, hb2⟩
    | true =>
      have V1 := hide ((eqB_iff _ _).1 ev1)
      clear ev1 H1
      have a0 := A2.cell 0 _ rfl
      have b0 := B2.cell 0 _ rfl
      have a1 := A2.cell 1 _ rfl
      have b1 := B2.cell 1 _ rfl
      have a2 := A2.cell 2 _ rfl
      have b2 := B2.cell 2 _ rfl
      have a3 := A2.cell 3 _ rfl
      have b3 := B2.cell 3 _ rfl
      have a4 := A2.cell 4 _ rfl
      have b4 := B2.cell 4 _ rfl
      have a5 := A2.cell 5 _ rfl
      have b5 := B2.cell 5 _ rfl
      have a6 := A2.cell 6 _ rfl
      have b6 := B2.cell 6 _ rfl
      have H2 := hide (same_ex w0 a.ret h.ret w2 [.string (bs a.ret.op), .int .i64 a.ret.n, .string (bs a.ret.name), .slice xe1 a.ret.l.length ce1] [.string (bs b.ret.op), .int .i64 b.ret.n, .string (bs b.ret.name), .slice xe2 b.ret.l.length ce2] b.ret be2 ⟨xe1, ce1, rfl, hE1⟩ ⟨xe2, ce2, rfl, hE2⟩)
      go_wp2_with fail
      refine H2.out.mono ?_
      rintro e w3 ⟨rfl, hc3⟩
      have A3 := A2.bel hc3
      have B3 := B2.bel hc3
      have be3 := be2.trans (hc3.mono be2.size)
      have hb3 := hb2.trans (hc3.mono hb2.size)
      clear a0 b0 a1 b1 a2 b2 a3 b3 a4 b4 a5 b5 a6 b6
      cases ev2 : eqB a.ret b.ret with
      | false =>
        have Hr : Hid (eqB a b = false) := eqB_ne (fun e => by rw [e, eqB_self] at ev2; cases ev2)
        go_wp2_with fail
        go_ret
        exact ⟨by rw [Hr.out]; rfl, hb3⟩
      | true =>
        have V2 := hide ((eqB_iff _ _).1 ev2)
        clear ev2 H2
        have Hr : Hid (eqB a b = true) := (eqB_iff _ _).2 (Pc.ext4 (K0.out) (V0.out) (V1.out) (V2.out))
        go_wp2_with fail
        go_ret
        exact ⟨by rw [Hr.out]; rfl, hb3⟩

set_option maxRecDepth 20000 in
set_option maxHeartbeats 4000000 in
theorem same_pg (w0 : World) (a b : Pg) (h : PgSm a) (W : World) (v1 v2 : Value) (hb : Below w0.heap.size w0 W) (hV1 : PgV w0 Any v1 a) (hV2 : PgV w0 Any v2 b) : Calls Tryz.prog 69 #[v1, v2] W fun e W' => e = .returned (.bool (eqB a b)) ∧ Below W.heap.size W W' := by
  obtain ⟨xv1, cv1, xa1, ca1, xp1, cp1, xm1, cm1, rfl, hv1, ha1, hp1, hm1⟩ := hV1
  obtain ⟨xv2, cv2, xa2, ca2, xp2, cp2, xm2, cm2, rfl, hv2, ha2, hp2, hm2⟩ := hV2
  have hb0 : Below W.heap.size W ((W.alloc (.cells #[.slice xv1 a.vars.length cv1, .slice xa1 a.arrays.length ca1, .slice xp1 a.procs.length cp1, .slice xm1 a.main.length cm1] 42)).alloc (.cells #[.slice xv2 b.vars.length cv2, .slice xa2 b.arrays.length ca2, .slice xp2 b.procs.length cp2, .slice xm2 b.main.length cm2] 42)) := ((Below.refl _ _).alloc (Nat.le_refl _) _).alloc (by simp) _
  have A0 : BoxN ((W.alloc (.cells #[.slice xv1 a.vars.length cv1, .slice xa1 a.arrays.length ca1, .slice xp1 a.procs.length cp1, .slice xm1 a.main.length cm1] 42)).alloc (.cells #[.slice xv2 b.vars.length cv2, .slice xa2 b.arrays.length ca2, .slice xp2 b.procs.length cp2, .slice xm2 b.main.length cm2] 42)) W.heap.size [.slice xv1 a.vars.length cv1, .slice xa1 a.arrays.length ca1, .slice xp1 a.procs.length cp1, .slice xm1 a.main.length cm1] := (BoxN.new W 42 [.slice xv1 a.vars.length cv1, .slice xa1 a.arrays.length ca1, .slice xp1 a.procs.length cp1, .slice xm1 a.main.length cm1]).bel ((Below.refl _ _).alloc (Nat.le_refl _) _)
  have B0 : BoxN ((W.alloc (.cells #[.slice xv1 a.vars.length cv1, .slice xa1 a.arrays.length ca1, .slice xp1 a.procs.length cp1, .slice xm1 a.main.length cm1] 42)).alloc (.cells #[.slice xv2 b.vars.length cv2, .slice xa2 b.arrays.length ca2, .slice xp2 b.procs.length cp2, .slice xm2 b.main.length cm2] 42)) (W.heap.size + 1) [.slice xv2 b.vars.length cv2, .slice xa2 b.arrays.length ca2, .slice xp2 b.procs.length cp2, .slice xm2 b.main.length cm2] := by
    have := BoxN.new (W.alloc (.cells #[.slice xv1 a.vars.length cv1, .slice xa1 a.arrays.length ca1, .slice xp1 a.procs.length cp1, .slice xm1 a.main.length cm1] 42)) 42 [.slice xv2 b.vars.length cv2, .slice xa2 b.arrays.length ca2, .slice xp2 b.procs.length cp2, .slice xm2 b.main.length cm2]; rw [World.size_alloc] at this; exact this
  obtain ⟨W0, hW0⟩ : ∃ X, X = (W.alloc (.cells #[.slice xv1 a.vars.length cv1, .slice xa1 a.arrays.length ca1, .slice xp1 a.procs.length cp1, .slice xm1 a.main.length cm1] 42)).alloc (.cells #[.slice xv2 b.vars.length cv2, .slice xa2 b.arrays.length ca2, .slice xp2 b.procs.length cp2, .slice xm2 b.main.length cm2] 42) := ⟨_, rfl⟩
  rw [← hW0] at hb0 A0 B0
  go_enter Tryz.func69, Tryz.ntmps69
  go_upto_region 1 with fail
  change Code.wp _ _ _ _ ((W.alloc (.cells #[.slice xv1 a.vars.length cv1, .slice xa1 a.arrays.length ca1, .slice xp1 a.procs.length cp1, .slice xm1 a.main.length cm1] 42)).alloc (.cells #[.slice xv2 b.vars.length cv2, .slice xa2 b.arrays.length ca2, .slice xp2 b.procs.length cp2, .slice xm2 b.main.length cm2] 42))
  rw [← hW0]
  clear hW0
  obtain ⟨g1, hg1⟩ : ∃ g, g = W.heap.size := ⟨_, rfl⟩
  obtain ⟨g2, hg2⟩ : ∃ g, g = W.heap.size + 1 := ⟨_, rfl⟩
  rw [← hg1] at A0
  rw [← hg2] at B0
  rw [← hg2, ← hg1]
  clear hg1 hg2
  have be0 := hb.trans (hb0.mono hb.size)
  have a0 := A0.cell 0 _ rfl
  have b0 := B0.cell 0 _ rfl
  have a1 := A0.cell 1 _ rfl
  have b1 := B0.cell 1 _ rfl
  have a2 := A0.cell 2 _ rfl
  have b2 := B0.cell 2 _ rfl
  have a3 := A0.cell 3 _ rfl
  have b3 := B0.cell 3 _ rfl
  have H0 := hide (eqs_str w0 xv1 xv2 _ _ cv1 cv2 a.vars b.vars W0 be0 hv1 hv2 rfl rfl h.vars)
  go_wp2_with fail
  refine H0.out.mono ?_
  rintro e w1 ⟨rfl, hc1⟩
  have A1 := A0.bel hc1
  have B1 := B0.bel hc1
  have be1 := be0.trans (hc1.mono be0.size)
  have hb1 := hb0.trans (hc1.mono hb0.size)
  clear a0 b0 a1 b1 a2 b2 a3 b3
  cases ev0 : eqB a.vars b.vars with
  | false =>
    have Hr : Hid (eqB a b = false) := eqB_ne (fun e => by rw [e, eqB_self] at ev0; cases ev0)
    go_wp2_with fail
    go_ret
    exact ⟨by rw [Hr.out]; rfl, hb1⟩
  | true =>
    have V0 := hide ((eqB_iff _ _).1 ev0)
    clear ev0 H0
    have a0 := A1.cell 0 _ rfl
    have b0 := B1.cell 0 _ rfl
    have a1 := A1.cell 1 _ rfl
    have b1 := B1.cell 1 _ rfl
    have a2 := A1.cell 2 _ rfl
    have b2 := B1.cell 2 _ rfl
    have a3 := A1.cell 3 _ rfl
    have b3 := B1.cell 3 _ rfl
    have H1 := hide (eqs_ar w0 xa1 xa2 _ _ ca1 ca2 a.arrays b.arrays w1 be1 ha1 ha2 rfl rfl h.arrl)
    go_wp2_with fail
    refine H1.out.mono ?_
    rintro e w2 ⟨rfl, hc2⟩
    have A2 := A1.bel hc2
    have B2 := B1.bel hc2
    have be2 := be1.trans (hc2.mono be1.size)
    have hb2 := hb1.trans (hc2.mono hb1.size)
    clear a0 b0 a1 b1 a2 b2 a3 b3
    cases ev1 : eqB a.arrays b.arrays with
    | false =>
      have Hr : Hid (eqB a b = false) := eqB_ne (fun e => by rw [e, eqB_self] at ev1; cases ev1)
      go_wp2_with fail
      go_ret
      exact ⟨by rw [Hr.out]; rfl, hb2⟩
    | true =>
      have V1 := hide ((eqB_iff _ _).1 ev1)
      clear ev1 H1
      have a0 := A2.cell 0 _ rfl
      have b0 := B2.cell 0 _ rfl
      have a1 := A2.cell 1 _ rfl
      have b1 := B2.cell 1 _ rfl
      have a2 := A2.cell 2 _ rfl
      have b2 := B2.cell 2 _ rfl
      have a3 := A2.cell 3 _ rfl
      have b3 := B2.cell 3 _ rfl
      have H2 := hide (eqf_pc w0 118 xp1 xp2 _ _ cp1 cp2 a.procs b.procs w2 (hide enters_sameProcs) be2 hp1 hp2 rfl rfl h.procl (hide (fun i t ht => same_pc w0 t (h.proc i t ht))))
      go_wp2_with fail
      refine H2.out.mono ?_
      rintro e w3 ⟨rfl, hc3⟩
      have A3 := A2.bel hc3
      have B3 := B2.bel hc3
      have be3 := be2.trans (hc3.mono be2.size)
      have hb3 := hb2.trans (hc3.mono hb2.size)
      clear a0 b0 a1 b1 a2 b2 a3 b3
      cases ev2 : eqB a.procs b.procs with
      | false =>
        have Hr : Hid (eqB a b = false) := eqB_ne (fun e => by rw [e, eqB_self] at ev2; cases ev2)
        go_wp2_with fail
        go_ret
        exact ⟨by rw [Hr.out]; rfl, hb3⟩
      | true =>
        have V2 := hide ((eqB_iff _ _).1 ev2)
        clear ev2 H2
        have a0 := A3.cell 0 _ rfl
        have b0 := B3.cell 0 _ rfl
        have a1 := A3.cell 1 _ rfl
        have b1 := B3.cell 1 _ rfl
        have a2 := A3.cell 2 _ rfl
        have b2 := B3.cell 2 _ rfl
        have a3 := A3.cell 3 _ rfl
        have b3 := B3.cell 3 _ rfl
        have H3 := hide (same_bl w0 a.main b.main xm1 xm2 cm1 cm2 w3 h.main.len (hide (fun i t ht => same_st w0 t (h.main.el i t ht))) be3 hm1 hm2)
        go_wp2_with fail
        refine H3.out.mono ?_
        rintro e w4 ⟨rfl, hc4⟩
        have A4 := A3.bel hc4
        have B4 := B3.bel hc4
        have be4 := be3.trans (hc4.mono be3.size)
        have hb4 := hb3.trans (hc4.mono hb3.size)
        clear a0 b0 a1 b1 a2 b2 a3 b3
        cases ev3 : eqB a.main b.main with
        | false =>
          have Hr : Hid (eqB a b = false) := eqB_ne (fun e => by rw [e, eqB_self] at ev3; cases ev3)
          go_wp2_with fail
          go_ret
          exact ⟨by rw [Hr.out]; rfl, hb4⟩
        | true =>
          have V3 := hide ((eqB_iff _ _).1 ev3)
          clear ev3 H3
          have Hr : Hid (eqB a b = true) := (eqB_iff _ _).2 (Pg.ext4 (V0.out) (V1.out) (V2.out) (V3.out))
          go_wp2_with fail
          go_ret
          exact ⟨by rw [Hr.out]; rfl, hb4⟩
end Go.Proofs.YtbfhaabpfkopdaaGreatDoor
