/- The language: a statement read, given how a change and how a block is. -/
import Derived.Test.YtbfhaabpfkopdaaGreatDoorLr
namespace Go.Proofs.YtbfhaabpfkopdaaGreatDoor
open Go.RowKit
set_option linter.unusedVariables false

def stmtF (s : Bs) (k n : Nat) (chg : Wd → Res Stm) (blk : Nat → Wd → Res (List Stm)) (deep : Nat) (d : Wd) : Res Stm :=
  if d.role = 2 then chg d
  else if d.text = [105, 102] then
    (condF s k n (nextW s d)).bind fun c d1 => (blk (deep + 1) d1).bind fun b d1 =>
      if d1.text = [101, 108, 115, 101] then (blk (deep + 1) (nextW s d1)).bind fun e d1 => .ok ⟨d.text, [], [], [], c, b, e⟩ d1
      else .ok ⟨d.text, [], [], [], c, b, []⟩ d1
  else if d.text = [119, 104, 105, 108, 101] then
    (condF s k n (nextW s d)).bind fun c d1 => (blk (deep + 1) d1).bind fun b d1 => .ok ⟨d.text, [], [], [], c, b, []⟩ d1
  else if d.text = [97, 115, 115, 101, 114, 116] ∨ d.text = [97, 115, 115, 117, 109, 101] then
    (condF s k n (nextW s d)).bind fun c d1 => (wantW s [59] d1).bind fun _ d1 => .ok ⟨d.text, [], [], [], c, [], []⟩ d1
  else if d.text = [114, 101, 97, 100] then
    (wantR s 2 (nextW s d)).bind fun nm d1 => (wantW s [59] d1).bind fun _ d1 => .ok ⟨d.text, nm, [], [], [], [], []⟩ d1
  else .ok ⟨d.text, [], [], [], [], [], []⟩ (nextW s d)

/-- How a change is read. -/
def ChgC (w0 : World) (a : Nat → Addr) (p r : Nat) (s : Bs) (F : Wd → Res Stm) : Prop :=
  ∀ (W : World) (d : Wd), Rd w0 W a p r s d → F d ≠ .out → Calls Tryz.prog 244 #[.pointer (some ⟨p, 0, none⟩)] W fun e W' => RPost w0 a p r s (F d) (fun W' v x => StV W' (fun b => W.heap.size ≤ b) v x) W e W'

set_option maxRecDepth 20000 in
set_option maxHeartbeats 4000000 in
theorem statement_any (w0 : World) (a : Nat → Addr) (p r deep k n : Nat) (s : Bs) (chg : Wd → Res Stm) (blk : Nat → Wd → Res (List Stm)) (hd : deep ≤ 12) (hk : k ≤ 1000000) (hn : n ≤ 1000000) (HC : Hid (ChgC w0 a p r s chg)) (HB : Hid (StmtsC w0 a p r s 110 (deep + 1) (blk (deep + 1)))) : StmtC w0 a p r s deep (stmtF s k n chg blk deep) := by
  intro w d h hro hne0
  obtain ⟨res, hres⟩ : ∃ res, res = stmtF s k n chg blk deep d := ⟨_, rfl⟩
  have He := hide hres
  rw [← hres] at hne0 ⊢
  have hne := hide hne0
  clear hne0 hres
  have hpw := h.lt
  have hR0 := h.alloc (Obj.cells #[.string ⟨#[]⟩, .string ⟨#[]⟩, .string ⟨#[]⟩, .slice none 0 0, .slice none 0 0, .slice none 0 0, .slice none 0 0] 185)
  have hG0 : Gr p w (w.alloc (Obj.cells #[.string ⟨#[]⟩, .string ⟨#[]⟩, .string ⟨#[]⟩, .slice none 0 0, .slice none 0 0, .slice none 0 0, .slice none 0 0] 185)) := (Gr.refl _ _).alloc _
  have Z0 : BoxN (w.alloc (Obj.cells #[.string ⟨#[]⟩, .string ⟨#[]⟩, .string ⟨#[]⟩, .slice none 0 0, .slice none 0 0, .slice none 0 0, .slice none 0 0] 185)) w.heap.size [.string ⟨#[]⟩, .string ⟨#[]⟩, .string ⟨#[]⟩, .slice none 0 0, .slice none 0 0, .slice none 0 0, .slice none 0 0] := BoxN.new w 185 [.string ⟨#[]⟩, .string ⟨#[]⟩, .string ⟨#[]⟩, .slice none 0 0, .slice none 0 0, .slice none 0 0, .slice none 0 0]
  obtain ⟨W0, hW0⟩ : ∃ W, W = w.alloc (Obj.cells #[.string ⟨#[]⟩, .string ⟨#[]⟩, .string ⟨#[]⟩, .slice none 0 0, .slice none 0 0, .slice none 0 0, .slice none 0 0] 185) := ⟨_, rfl⟩
  rw [← hW0] at hR0 hG0 Z0
  unfold stmtF at He
  by_cases h2 : d.role = 2
  · rw [if_pos h2] at He
    have h2' : (d.role == 2) = true := by simp [h2]
    have HF : Hid (chg d ≠ .out) := fun k => hne.out (by rw [He.out, k])
    have H1 := hide (HC.out W0 d hR0 HF.out)
    obtain ⟨_, _, hge, hlt, c0, c1, c2, c3, c4, fr, _, _⟩ := id hR0
    have szw : W0.heap.size = w.heap.size + 1 := by rw [hW0]; simp
    have hszW := hide szw
    clear h2 hro HB HC szw
    go_enter Tryz.func204, Tryz.ntmps204
    go_upto_region 1 with fail
    change Code.wp _ _ _ _ (w.alloc (Obj.cells #[.string ⟨#[]⟩, .string ⟨#[]⟩, .string ⟨#[]⟩, .slice none 0 0, .slice none 0 0, .slice none 0 0, .slice none 0 0] 185))
    rw [← hW0]
    clear hW0
    go_wp2_with fail
    refine H1.out.mono ?_
    intro e w1 hP
    cases e1 : chg d with
    | out => exact absurd e1 HF.out
    | err c pos =>
      rw [e1] at hP He
      obtain ⟨hGx, N, rfl, hF, hltx⟩ := hP
      go_wp2_with fail
      refine ⟨rfl, ?_⟩
      rw [He.out]
      exact ⟨hG0.trans hGx, N, rfl, hF, hltx⟩
    | ok t d1 =>
      rw [e1] at hP He
      obtain ⟨hG1, v1, rfl, hR1, vs, rfl, hV⟩ := hP
      have Z1 := Z0.gr hG1 (by omega)
      obtain ⟨xa, ca, xc, cc, xb, cb, xe, ce, rfl, q1, q2, q3, q4⟩ := hV
      have hok : ¬ (fun b => W0.heap.size ≤ b) w.heap.size := fun k => by have := hszW.out; have : W0.heap.size ≤ w.heap.size := k; omega
      have j0 := Z1.cell 0 _ rfl
      have j1 := Z1.cell 1 _ rfl
      have j2 := Z1.cell 2 _ rfl
      have j3 := Z1.cell 3 _ rfl
      have j4 := Z1.cell 4 _ rfl
      have j5 := Z1.cell 5 _ rfl
      have j6 := Z1.cell 6 _ rfl
      have f0 := Z1.fr 0
      have f1 := Z1.fr 1
      have f2 := Z1.fr 2
      have f3 := Z1.fr 3
      have f4 := Z1.fr 4
      have f5 := Z1.fr 5
      have f6 := Z1.fr 6
      obtain ⟨fR, fG, fV⟩ := SB.fin hpw (Nat.le_refl _) hok [(0, .string (bs t.kind)), (1, .string (bs t.name)), (2, .string (bs t.proc)), (3, .slice xa t.args.length ca), (4, .slice xc t.cond.length cc), (5, .slice xb t.body.length cb), (6, .slice xe t.els.length ce)] _ hR1 (hG0.trans hG1) ⟨xa, ca, xc, cc, xb, cb, xe, ce, rfl, q1, q2, q3, q4⟩
      go_wp2_with fail
      refine bodyPost_ret (v := .agg #[.string (bs t.kind), .string (bs t.name), .string (bs t.proc), .slice xa t.args.length ca, .slice xc t.cond.length cc, .slice xb t.body.length cb, .slice xe t.els.length ce]) (by simp [results, Tryz.results204, go_sem, j0, j1, j2, j3, j4, j5, j6]) rfl ?_
      rw [He.out]
      exact ⟨fG, _, rfl, fR, _, rfl, stVals_keeps _ _ _ _ _ _ fV (Nat.le_refl _) (fun _ _ _ => rfl) (fun b k _ => by have := hszW.out; have : W0.heap.size ≤ b := k; omega)⟩
  · rw [if_neg h2] at He
    have h2' : (d.role == 2) = false := by simp [h2]
    clear h2 hro HC
    obtain ⟨_, _, hge, hlt, c0, c1, c2, c3, c4, fr, _, _⟩ := id hR0
    have HP := hide (pass_any w0 a p r s d W0 hR0)
    go_enter Tryz.func204, Tryz.ntmps204
    go_upto_region 1 with fail
    change Code.wp _ _ _ _ (w.alloc (Obj.cells #[.string ⟨#[]⟩, .string ⟨#[]⟩, .string ⟨#[]⟩, .slice none 0 0, .slice none 0 0, .slice none 0 0, .slice none 0 0] 185))
    rw [← hW0]
    clear hW0
    go_wp2_with fail
    refine HP.out.mono ?_
    rintro e w1 ⟨rfl, hR1, hG1⟩
    have S := SB.new hpw hR1 (hG0.trans hG1) (Nat.le_refl _) (Z0.gr hG1 (by omega)) d.text []
    obtain ⟨qb, hqb⟩ : ∃ q, q = w1.heap.size := ⟨_, rfl⟩
    obtain ⟨W1, hW1⟩ : ∃ W, W = w1.alloc (.cells #[.string (bs d.text), .string (bs []), .string ⟨#[]⟩, .slice none 0 0, .slice none 0 0, .slice none 0 0, .slice none 0 0] 185) := ⟨_, rfl⟩
    rw [← hqb, ← hW1] at S
    go_upto_region 4 with fail
    change Code.wp _ _ _ _ (w1.alloc (.cells #[.string (bs d.text), .string (bs []), .string ⟨#[]⟩, .slice none 0 0, .slice none 0 0, .slice none 0 0, .slice none 0 0] 185))
    rw [← hW1, ← hqb]
    clear hW1 hqb hR0 hG0 Z0 HP hge hlt c0 c1 c2 c3 c4 fr hR1 hG1 h
    have kd : W1.cell? ⟨qb, 0, none⟩ = some (.string (bs d.text)) := S.kind
    have ap := S.apart
    by_cases kI : d.text = [105, 102]
    · rw [if_pos kI] at He
      have kI' : (d.text == [105, 102]) = true := by simp [kI]
      clear kI
      have HF11 : Hid (condF s k n (nextW s d) ≠ .out) := fun k => hne.out (by rw [He.out, k]; rfl)
      have H11 := hide (cond_any w0 a p r k n s (nextW s d) W1 S.hR hn hk HF11)
      go_wp2_with fail
      refine H11.out.mono ?_
      intro e w11 hP
      cases e11 : condF s k n (nextW s d) with
      | out => exact absurd (by rw [He.out, e11]; rfl) hne.out
      | err c pos =>
        rw [e11] at hP He
        obtain ⟨hGx, N, rfl, hF, hltx⟩ := hP
        go_wp2_with fail
        refine ⟨rfl, ?_⟩
        rw [He.out]
        exact ⟨S.hG.trans hGx, N, rfl, hF, hltx⟩
      | ok x11 d11 =>
        rw [e11] at hP He
        obtain ⟨hG11, v11, rfl, hR11, y11, cap11, rfl, hX11⟩ := hP
        clear e11 H11
        have T11 := S.call hG11 hR11
        have He : Hid (res = (blk (deep + 1) d11).bind fun b d1 => if d1.text = [101, 108, 115, 101] then (blk (deep + 1) (nextW s d1)).bind fun e d1 => .ok ⟨d.text, [], [], [], x11, b, e⟩ d1 else .ok ⟨d.text, [], [], [], x11, b, []⟩ d1) := He.out
        obtain ⟨u11, k11⟩ := T11.cell 4 (by omega)
        have f11 := T11.fr 4
        have S11 := T11.setCond cap11 (RowAt.mono coVals_keeps hX11 ap)
        obtain ⟨W11, hW11⟩ : ∃ W, W = w11.setCell ⟨qb, 4, none⟩ (.slice y11 x11.length cap11) := ⟨_, rfl⟩
        rw [← hW11] at S11
        go_upto_region 7 with fail
        change Code.wp _ _ _ _ (w11.setCell ⟨qb, 4, none⟩ (.slice y11 x11.length cap11))
        rw [← hW11]
        clear hW11 k11 f11 T11
        have ap11 := S11.apart
        have HF12 : Hid (blk (deep + 1) d11 ≠ .out) := fun k => hne.out (by rw [He.out, k]; rfl)
        have H12 := hide (HB.out W11 d11 S11.hR HF12.out)
        go_wp2_with fail
        refine H12.out.mono ?_
        intro e w12 hP
        cases e12 : blk (deep + 1) d11 with
        | out => exact absurd (by rw [He.out, e12]; rfl) hne.out
        | err c pos =>
          rw [e12] at hP He
          obtain ⟨hGx, N, rfl, hF, hltx⟩ := hP
          go_wp2_with fail
          refine ⟨rfl, ?_⟩
          rw [He.out]
          exact ⟨S11.hG.trans hGx, N, rfl, hF, hltx⟩
        | ok x12 d12 =>
          rw [e12] at hP He
          obtain ⟨hG12, v12, rfl, hR12, y12, cap12, rfl, hX12⟩ := hP
          clear e12 H12
          have T12 := S11.call hG12 hR12
          have He : Hid (res = if d12.text = [101, 108, 115, 101] then (blk (deep + 1) (nextW s d12)).bind fun e d1 => .ok ⟨d.text, [], [], [], x11, x12, e⟩ d1 else .ok ⟨d.text, [], [], [], x11, x12, []⟩ d12) := He.out
          obtain ⟨u12, k12⟩ := T12.cell 5 (by omega)
          have f12 := T12.fr 5
          have S12 := T12.setBody cap12 (StmsAt.mono hX12 ap11)
          obtain ⟨W12, hW12⟩ : ∃ W, W = w12.setCell ⟨qb, 5, none⟩ (.slice y12 x12.length cap12) := ⟨_, rfl⟩
          rw [← hW12] at S12
          go_upto_region 8 with fail
          change Code.wp _ _ _ _ (w12.setCell ⟨qb, 5, none⟩ (.slice y12 x12.length cap12))
          rw [← hW12]
          clear hW12 k12 f12 T12
          have ap12 := S12.apart
          have HT := hide (take_any w0 a p r s [101, 108, 115, 101] d12 W12 S12.hR)
          by_cases hE : d12.text = [101, 108, 115, 101]
          · rw [if_pos hE] at He
            simp only [if_pos hE] at HT
            clear hE
            go_wp2_with fail
            refine HT.out.mono ?_
            rintro e w9 ⟨⟨rfl, hR9⟩, hG9⟩
            have S9 := S12.call hG9 hR9
            have ap9 := S9.apart
            clear HT
            have HF13 : Hid (blk (deep + 1) (nextW s d12) ≠ .out) := fun k => hne.out (by rw [He.out, k]; rfl)
            have H13 := hide (HB.out w9 (nextW s d12) S9.hR HF13.out)
            go_wp2_with fail
            refine H13.out.mono ?_
            intro e w13 hP
            cases e13 : blk (deep + 1) (nextW s d12) with
            | out => exact absurd (by rw [He.out, e13]; rfl) hne.out
            | err c pos =>
              rw [e13] at hP He
              obtain ⟨hGx, N, rfl, hF, hltx⟩ := hP
              go_wp2_with fail
              refine ⟨rfl, ?_⟩
              rw [He.out]
              exact ⟨S9.hG.trans hGx, N, rfl, hF, hltx⟩
            | ok x13 d13 =>
              rw [e13] at hP He
              obtain ⟨hG13, v13, rfl, hR13, y13, cap13, rfl, hX13⟩ := hP
              clear e13 H13
              have T13 := S9.call hG13 hR13
              have He : Hid (res = .ok ⟨d.text, [], [], [], x11, x12, x13⟩ d13) := He.out
              obtain ⟨u13, k13⟩ := T13.cell 6 (by omega)
              have f13 := T13.fr 6
              have S13 := T13.setEls cap13 (StmsAt.mono hX13 ap9)
              obtain ⟨W13, hW13⟩ : ∃ W, W = w13.setCell ⟨qb, 6, none⟩ (.slice y13 x13.length cap13) := ⟨_, rfl⟩
              rw [← hW13] at S13
              go_upto_region 20 with fail
              change Code.wp _ _ _ _ (w13.setCell ⟨qb, 6, none⟩ (.slice y13 x13.length cap13))
              rw [← hW13]
              clear hW13 k13 f13 T13
              have hrbk : ¬ (fun b => w.heap.size ≤ b ∧ b ≠ w.heap.size ∧ b ≠ qb) w.heap.size := fun k => k.2.1 rfl
              (obtain ⟨vs, ⟨xa, ca, xc, cc, xb, cb, xe, ce, rfl, q1, q2, q3, q4⟩, hB⟩ := S13.B); have k0 := hB.cell 0 _ rfl; have k1 := hB.cell 1 _ rfl; have k2 := hB.cell 2 _ rfl; have k3 := hB.cell 3 _ rfl; have k4 := hB.cell 4 _ rfl; have k5 := hB.cell 5 _ rfl; have k6 := hB.cell 6 _ rfl; have j0 := S13.Z.cell 0 _ rfl; have j1 := S13.Z.cell 1 _ rfl; have j2 := S13.Z.cell 2 _ rfl; have j3 := S13.Z.cell 3 _ rfl; have j4 := S13.Z.cell 4 _ rfl; have j5 := S13.Z.cell 5 _ rfl; have j6 := S13.Z.cell 6 _ rfl; have f0 := S13.Z.fr 0; have f1 := S13.Z.fr 1; have f2 := S13.Z.fr 2; have f3 := S13.Z.fr 3; have f4 := S13.Z.fr 4; have f5 := S13.Z.fr 5; have f6 := S13.Z.fr 6
              obtain ⟨fR, fG, fV⟩ := SB.fin hpw (Nat.le_refl _) hrbk [(0, .string (bs d.text)), (1, .string (bs [])), (2, .string (bs [])), (3, .slice xa 0 ca), (4, .slice xc x11.length cc), (5, .slice xb x12.length cb), (6, .slice xe x13.length ce)] _ S13.hR S13.hG ⟨xa, ca, xc, cc, xb, cb, xe, ce, rfl, q1, q2, q3, q4⟩
              go_wp2_with fail
              refine bodyPost_ret (v := .agg #[.string (bs d.text), .string (bs []), .string (bs []), .slice xa 0 ca, .slice xc x11.length cc, .slice xb x12.length cb, .slice xe x13.length ce]) (by simp [results, Tryz.results204, go_sem, j0, j1, j2, j3, j4, j5, j6]) rfl ?_
              rw [He.out]
              exact ⟨fG, _, rfl, fR, _, rfl, stVals_keeps _ _ _ _ _ _ fV (Nat.le_refl _) (fun _ _ _ => rfl) (fun b k _ => k.1)⟩
          · rw [if_neg hE] at He
            simp only [if_neg hE] at HT
            clear hE
            go_wp2_with fail
            refine HT.out.mono ?_
            rintro e w9 ⟨⟨rfl, hw9⟩, hx9⟩
            rw [hw9]
            clear hx9 hw9 w9 HT
            go_upto_region 20 with fail
            have hrbk : ¬ (fun b => w.heap.size ≤ b ∧ b ≠ w.heap.size ∧ b ≠ qb) w.heap.size := fun k => k.2.1 rfl
            (obtain ⟨vs, ⟨xa, ca, xc, cc, xb, cb, xe, ce, rfl, q1, q2, q3, q4⟩, hB⟩ := S12.B); have k0 := hB.cell 0 _ rfl; have k1 := hB.cell 1 _ rfl; have k2 := hB.cell 2 _ rfl; have k3 := hB.cell 3 _ rfl; have k4 := hB.cell 4 _ rfl; have k5 := hB.cell 5 _ rfl; have k6 := hB.cell 6 _ rfl; have j0 := S12.Z.cell 0 _ rfl; have j1 := S12.Z.cell 1 _ rfl; have j2 := S12.Z.cell 2 _ rfl; have j3 := S12.Z.cell 3 _ rfl; have j4 := S12.Z.cell 4 _ rfl; have j5 := S12.Z.cell 5 _ rfl; have j6 := S12.Z.cell 6 _ rfl; have f0 := S12.Z.fr 0; have f1 := S12.Z.fr 1; have f2 := S12.Z.fr 2; have f3 := S12.Z.fr 3; have f4 := S12.Z.fr 4; have f5 := S12.Z.fr 5; have f6 := S12.Z.fr 6
            obtain ⟨fR, fG, fV⟩ := SB.fin hpw (Nat.le_refl _) hrbk [(0, .string (bs d.text)), (1, .string (bs [])), (2, .string (bs [])), (3, .slice xa 0 ca), (4, .slice xc x11.length cc), (5, .slice xb x12.length cb), (6, .slice xe 0 ce)] _ S12.hR S12.hG ⟨xa, ca, xc, cc, xb, cb, xe, ce, rfl, q1, q2, q3, q4⟩
            go_wp2_with fail
            refine bodyPost_ret (v := .agg #[.string (bs d.text), .string (bs []), .string (bs []), .slice xa 0 ca, .slice xc x11.length cc, .slice xb x12.length cb, .slice xe 0 ce]) (by simp [results, Tryz.results204, go_sem, j0, j1, j2, j3, j4, j5, j6]) rfl ?_
            rw [He.out]
            exact ⟨fG, _, rfl, fR, _, rfl, stVals_keeps _ _ _ _ _ _ fV (Nat.le_refl _) (fun _ _ _ => rfl) (fun b k _ => k.1)⟩
    · rw [if_neg kI] at He
      have kI' : (d.text == [105, 102]) = false := by simp [kI]
      clear kI
      by_cases kW : d.text = [119, 104, 105, 108, 101]
      · rw [if_pos kW] at He
        have kW' : (d.text == [119, 104, 105, 108, 101]) = true := by simp [kW]
        clear kW
        have HF14 : Hid (condF s k n (nextW s d) ≠ .out) := fun k => hne.out (by rw [He.out, k]; rfl)
        have H14 := hide (cond_any w0 a p r k n s (nextW s d) W1 S.hR hn hk HF14)
        go_wp2_with fail
        refine H14.out.mono ?_
        intro e w14 hP
        cases e14 : condF s k n (nextW s d) with
        | out => exact absurd (by rw [He.out, e14]; rfl) hne.out
        | err c pos =>
          rw [e14] at hP He
          obtain ⟨hGx, N, rfl, hF, hltx⟩ := hP
          go_wp2_with fail
          refine ⟨rfl, ?_⟩
          rw [He.out]
          exact ⟨S.hG.trans hGx, N, rfl, hF, hltx⟩
        | ok x14 d14 =>
          rw [e14] at hP He
          obtain ⟨hG14, v14, rfl, hR14, y14, cap14, rfl, hX14⟩ := hP
          clear e14 H14
          have T14 := S.call hG14 hR14
          have He : Hid (res = (blk (deep + 1) d14).bind fun b d1 => .ok ⟨d.text, [], [], [], x14, b, []⟩ d1) := He.out
          obtain ⟨u14, k14⟩ := T14.cell 4 (by omega)
          have f14 := T14.fr 4
          have S14 := T14.setCond cap14 (RowAt.mono coVals_keeps hX14 ap)
          obtain ⟨W14, hW14⟩ : ∃ W, W = w14.setCell ⟨qb, 4, none⟩ (.slice y14 x14.length cap14) := ⟨_, rfl⟩
          rw [← hW14] at S14
          go_upto_region 12 with fail
          change Code.wp _ _ _ _ (w14.setCell ⟨qb, 4, none⟩ (.slice y14 x14.length cap14))
          rw [← hW14]
          clear hW14 k14 f14 T14
          have ap14 := S14.apart
          have HF15 : Hid (blk (deep + 1) d14 ≠ .out) := fun k => hne.out (by rw [He.out, k]; rfl)
          have H15 := hide (HB.out W14 d14 S14.hR HF15.out)
          go_wp2_with fail
          refine H15.out.mono ?_
          intro e w15 hP
          cases e15 : blk (deep + 1) d14 with
          | out => exact absurd (by rw [He.out, e15]; rfl) hne.out
          | err c pos =>
            rw [e15] at hP He
            obtain ⟨hGx, N, rfl, hF, hltx⟩ := hP
            go_wp2_with fail
            refine ⟨rfl, ?_⟩
            rw [He.out]
            exact ⟨S14.hG.trans hGx, N, rfl, hF, hltx⟩
          | ok x15 d15 =>
            rw [e15] at hP He
            obtain ⟨hG15, v15, rfl, hR15, y15, cap15, rfl, hX15⟩ := hP
            clear e15 H15
            have T15 := S14.call hG15 hR15
            have He : Hid (res = .ok ⟨d.text, [], [], [], x14, x15, []⟩ d15) := He.out
            obtain ⟨u15, k15⟩ := T15.cell 5 (by omega)
            have f15 := T15.fr 5
            have S15 := T15.setBody cap15 (StmsAt.mono hX15 ap14)
            obtain ⟨W15, hW15⟩ : ∃ W, W = w15.setCell ⟨qb, 5, none⟩ (.slice y15 x15.length cap15) := ⟨_, rfl⟩
            rw [← hW15] at S15
            go_upto_region 20 with fail
            change Code.wp _ _ _ _ (w15.setCell ⟨qb, 5, none⟩ (.slice y15 x15.length cap15))
            rw [← hW15]
            clear hW15 k15 f15 T15
            have hrbk : ¬ (fun b => w.heap.size ≤ b ∧ b ≠ w.heap.size ∧ b ≠ qb) w.heap.size := fun k => k.2.1 rfl
            (obtain ⟨vs, ⟨xa, ca, xc, cc, xb, cb, xe, ce, rfl, q1, q2, q3, q4⟩, hB⟩ := S15.B); have k0 := hB.cell 0 _ rfl; have k1 := hB.cell 1 _ rfl; have k2 := hB.cell 2 _ rfl; have k3 := hB.cell 3 _ rfl; have k4 := hB.cell 4 _ rfl; have k5 := hB.cell 5 _ rfl; have k6 := hB.cell 6 _ rfl; have j0 := S15.Z.cell 0 _ rfl; have j1 := S15.Z.cell 1 _ rfl; have j2 := S15.Z.cell 2 _ rfl; have j3 := S15.Z.cell 3 _ rfl; have j4 := S15.Z.cell 4 _ rfl; have j5 := S15.Z.cell 5 _ rfl; have j6 := S15.Z.cell 6 _ rfl; have f0 := S15.Z.fr 0; have f1 := S15.Z.fr 1; have f2 := S15.Z.fr 2; have f3 := S15.Z.fr 3; have f4 := S15.Z.fr 4; have f5 := S15.Z.fr 5; have f6 := S15.Z.fr 6
            obtain ⟨fR, fG, fV⟩ := SB.fin hpw (Nat.le_refl _) hrbk [(0, .string (bs d.text)), (1, .string (bs [])), (2, .string (bs [])), (3, .slice xa 0 ca), (4, .slice xc x14.length cc), (5, .slice xb x15.length cb), (6, .slice xe 0 ce)] _ S15.hR S15.hG ⟨xa, ca, xc, cc, xb, cb, xe, ce, rfl, q1, q2, q3, q4⟩
            go_wp2_with fail
            refine bodyPost_ret (v := .agg #[.string (bs d.text), .string (bs []), .string (bs []), .slice xa 0 ca, .slice xc x14.length cc, .slice xb x15.length cb, .slice xe 0 ce]) (by simp [results, Tryz.results204, go_sem, j0, j1, j2, j3, j4, j5, j6]) rfl ?_
            rw [He.out]
            exact ⟨fG, _, rfl, fR, _, rfl, stVals_keeps _ _ _ _ _ _ fV (Nat.le_refl _) (fun _ _ _ => rfl) (fun b k _ => k.1)⟩
      · rw [if_neg kW] at He
        have kW' : (d.text == [119, 104, 105, 108, 101]) = false := by simp [kW]
        clear kW HB
        by_cases kA : d.text = [97, 115, 115, 101, 114, 116] ∨ d.text = [97, 115, 115, 117, 109, 101]
        · rw [if_pos kA] at He
          by_cases kB : d.text = [97, 115, 115, 101, 114, 116]
          · have kB' : (d.text == [97, 115, 115, 101, 114, 116]) = true := by simp [kB]
            clear kA kB
            have HF16 : Hid (condF s k n (nextW s d) ≠ .out) := fun k => hne.out (by rw [He.out, k]; rfl)
            have H16 := hide (cond_any w0 a p r k n s (nextW s d) W1 S.hR hn hk HF16)
            go_wp2_with fail
            refine H16.out.mono ?_
            intro e w16 hP
            cases e16 : condF s k n (nextW s d) with
            | out => exact absurd (by rw [He.out, e16]; rfl) hne.out
            | err c pos =>
              rw [e16] at hP He
              obtain ⟨hGx, N, rfl, hF, hltx⟩ := hP
              go_wp2_with fail
              refine ⟨rfl, ?_⟩
              rw [He.out]
              exact ⟨S.hG.trans hGx, N, rfl, hF, hltx⟩
            | ok x16 d16 =>
              rw [e16] at hP He
              obtain ⟨hG16, v16, rfl, hR16, y16, cap16, rfl, hX16⟩ := hP
              clear e16 H16
              have T16 := S.call hG16 hR16
              have He : Hid (res = (wantW s [59] d16).bind fun _ d1 => .ok ⟨d.text, [], [], [], x16, [], []⟩ d1) := He.out
              obtain ⟨u16, k16⟩ := T16.cell 4 (by omega)
              have f16 := T16.fr 4
              have S16 := T16.setCond cap16 (RowAt.mono coVals_keeps hX16 ap)
              obtain ⟨W16, hW16⟩ : ∃ W, W = w16.setCell ⟨qb, 4, none⟩ (.slice y16 x16.length cap16) := ⟨_, rfl⟩
              rw [← hW16] at S16
              go_upto_region 16 with fail
              change Code.wp _ _ _ _ (w16.setCell ⟨qb, 4, none⟩ (.slice y16 x16.length cap16))
              rw [← hW16]
              clear hW16 k16 f16 T16
              have H17 := hide (want1 w0 a p r s [59] d16 W16 S16.hR)
              go_wp2_with fail
              refine H17.out.mono ?_
              intro e w17 hP
              cases e17 : wantW s [59] d16 with
              | out => exact absurd (by rw [He.out, e17]; rfl) hne.out
              | err c pos =>
                rw [e17] at hP He
                obtain ⟨hGx, N, rfl, hF, hltx⟩ := hP
                go_wp2_with fail
                refine ⟨rfl, ?_⟩
                rw [He.out]
                exact ⟨S16.hG.trans hGx, N, rfl, hF, hltx⟩
              | ok x17 d17 =>
                rw [e17] at hP He
                obtain ⟨hG17, v17, rfl, hR17, rfl⟩ := hP
                clear e17 H17
                have T17 := S16.call hG17 hR17
                have He : Hid (res = .ok ⟨d.text, [], [], [], x16, [], []⟩ d17) := He.out
                go_upto_region 20 with fail
                have hrbk : ¬ (fun b => w.heap.size ≤ b ∧ b ≠ w.heap.size ∧ b ≠ qb) w.heap.size := fun k => k.2.1 rfl
                (obtain ⟨vs, ⟨xa, ca, xc, cc, xb, cb, xe, ce, rfl, q1, q2, q3, q4⟩, hB⟩ := T17.B); have k0 := hB.cell 0 _ rfl; have k1 := hB.cell 1 _ rfl; have k2 := hB.cell 2 _ rfl; have k3 := hB.cell 3 _ rfl; have k4 := hB.cell 4 _ rfl; have k5 := hB.cell 5 _ rfl; have k6 := hB.cell 6 _ rfl; have j0 := T17.Z.cell 0 _ rfl; have j1 := T17.Z.cell 1 _ rfl; have j2 := T17.Z.cell 2 _ rfl; have j3 := T17.Z.cell 3 _ rfl; have j4 := T17.Z.cell 4 _ rfl; have j5 := T17.Z.cell 5 _ rfl; have j6 := T17.Z.cell 6 _ rfl; have f0 := T17.Z.fr 0; have f1 := T17.Z.fr 1; have f2 := T17.Z.fr 2; have f3 := T17.Z.fr 3; have f4 := T17.Z.fr 4; have f5 := T17.Z.fr 5; have f6 := T17.Z.fr 6
                obtain ⟨fR, fG, fV⟩ := SB.fin hpw (Nat.le_refl _) hrbk [(0, .string (bs d.text)), (1, .string (bs [])), (2, .string (bs [])), (3, .slice xa 0 ca), (4, .slice xc x16.length cc), (5, .slice xb 0 cb), (6, .slice xe 0 ce)] _ T17.hR T17.hG ⟨xa, ca, xc, cc, xb, cb, xe, ce, rfl, q1, q2, q3, q4⟩
                go_wp2_with fail
                refine bodyPost_ret (v := .agg #[.string (bs d.text), .string (bs []), .string (bs []), .slice xa 0 ca, .slice xc x16.length cc, .slice xb 0 cb, .slice xe 0 ce]) (by simp [results, Tryz.results204, go_sem, j0, j1, j2, j3, j4, j5, j6]) rfl ?_
                rw [He.out]
                exact ⟨fG, _, rfl, fR, _, rfl, stVals_keeps _ _ _ _ _ _ fV (Nat.le_refl _) (fun _ _ _ => rfl) (fun b k _ => k.1)⟩
          · have kB' : (d.text == [97, 115, 115, 101, 114, 116]) = false := by simp [kB]
            have kC' : (d.text == [97, 115, 115, 117, 109, 101]) = true := by simp; exact kA.resolve_left kB
            clear kA kB
            have HF18 : Hid (condF s k n (nextW s d) ≠ .out) := fun k => hne.out (by rw [He.out, k]; rfl)
            have H18 := hide (cond_any w0 a p r k n s (nextW s d) W1 S.hR hn hk HF18)
            go_wp2_with fail
            refine H18.out.mono ?_
            intro e w18 hP
            cases e18 : condF s k n (nextW s d) with
            | out => exact absurd (by rw [He.out, e18]; rfl) hne.out
            | err c pos =>
              rw [e18] at hP He
              obtain ⟨hGx, N, rfl, hF, hltx⟩ := hP
              go_wp2_with fail
              refine ⟨rfl, ?_⟩
              rw [He.out]
              exact ⟨S.hG.trans hGx, N, rfl, hF, hltx⟩
            | ok x18 d18 =>
              rw [e18] at hP He
              obtain ⟨hG18, v18, rfl, hR18, y18, cap18, rfl, hX18⟩ := hP
              clear e18 H18
              have T18 := S.call hG18 hR18
              have He : Hid (res = (wantW s [59] d18).bind fun _ d1 => .ok ⟨d.text, [], [], [], x18, [], []⟩ d1) := He.out
              obtain ⟨u18, k18⟩ := T18.cell 4 (by omega)
              have f18 := T18.fr 4
              have S18 := T18.setCond cap18 (RowAt.mono coVals_keeps hX18 ap)
              obtain ⟨W18, hW18⟩ : ∃ W, W = w18.setCell ⟨qb, 4, none⟩ (.slice y18 x18.length cap18) := ⟨_, rfl⟩
              rw [← hW18] at S18
              go_upto_region 16 with fail
              change Code.wp _ _ _ _ (w18.setCell ⟨qb, 4, none⟩ (.slice y18 x18.length cap18))
              rw [← hW18]
              clear hW18 k18 f18 T18
              have H19 := hide (want1 w0 a p r s [59] d18 W18 S18.hR)
              go_wp2_with fail
              refine H19.out.mono ?_
              intro e w19 hP
              cases e19 : wantW s [59] d18 with
              | out => exact absurd (by rw [He.out, e19]; rfl) hne.out
              | err c pos =>
                rw [e19] at hP He
                obtain ⟨hGx, N, rfl, hF, hltx⟩ := hP
                go_wp2_with fail
                refine ⟨rfl, ?_⟩
                rw [He.out]
                exact ⟨S18.hG.trans hGx, N, rfl, hF, hltx⟩
              | ok x19 d19 =>
                rw [e19] at hP He
                obtain ⟨hG19, v19, rfl, hR19, rfl⟩ := hP
                clear e19 H19
                have T19 := S18.call hG19 hR19
                have He : Hid (res = .ok ⟨d.text, [], [], [], x18, [], []⟩ d19) := He.out
                go_upto_region 20 with fail
                have hrbk : ¬ (fun b => w.heap.size ≤ b ∧ b ≠ w.heap.size ∧ b ≠ qb) w.heap.size := fun k => k.2.1 rfl
                (obtain ⟨vs, ⟨xa, ca, xc, cc, xb, cb, xe, ce, rfl, q1, q2, q3, q4⟩, hB⟩ := T19.B); have k0 := hB.cell 0 _ rfl; have k1 := hB.cell 1 _ rfl; have k2 := hB.cell 2 _ rfl; have k3 := hB.cell 3 _ rfl; have k4 := hB.cell 4 _ rfl; have k5 := hB.cell 5 _ rfl; have k6 := hB.cell 6 _ rfl; have j0 := T19.Z.cell 0 _ rfl; have j1 := T19.Z.cell 1 _ rfl; have j2 := T19.Z.cell 2 _ rfl; have j3 := T19.Z.cell 3 _ rfl; have j4 := T19.Z.cell 4 _ rfl; have j5 := T19.Z.cell 5 _ rfl; have j6 := T19.Z.cell 6 _ rfl; have f0 := T19.Z.fr 0; have f1 := T19.Z.fr 1; have f2 := T19.Z.fr 2; have f3 := T19.Z.fr 3; have f4 := T19.Z.fr 4; have f5 := T19.Z.fr 5; have f6 := T19.Z.fr 6
                obtain ⟨fR, fG, fV⟩ := SB.fin hpw (Nat.le_refl _) hrbk [(0, .string (bs d.text)), (1, .string (bs [])), (2, .string (bs [])), (3, .slice xa 0 ca), (4, .slice xc x18.length cc), (5, .slice xb 0 cb), (6, .slice xe 0 ce)] _ T19.hR T19.hG ⟨xa, ca, xc, cc, xb, cb, xe, ce, rfl, q1, q2, q3, q4⟩
                go_wp2_with fail
                refine bodyPost_ret (v := .agg #[.string (bs d.text), .string (bs []), .string (bs []), .slice xa 0 ca, .slice xc x18.length cc, .slice xb 0 cb, .slice xe 0 ce]) (by simp [results, Tryz.results204, go_sem, j0, j1, j2, j3, j4, j5, j6]) rfl ?_
                rw [He.out]
                exact ⟨fG, _, rfl, fR, _, rfl, stVals_keeps _ _ _ _ _ _ fV (Nat.le_refl _) (fun _ _ _ => rfl) (fun b k _ => k.1)⟩
        · rw [if_neg kA] at He
          have kB' : (d.text == [97, 115, 115, 101, 114, 116]) = false := by simp; exact fun k => kA (.inl k)
          have kC' : (d.text == [97, 115, 115, 117, 109, 101]) = false := by simp; exact fun k => kA (.inr k)
          clear kA
          by_cases kR : d.text = [114, 101, 97, 100]
          · rw [if_pos kR] at He
            have kR' : (d.text == [114, 101, 97, 100]) = true := by simp [kR]
            clear kR
            have H20 := hide (name_any w0 a p r s (nextW s d) W1 S.hR)
            go_wp2_with fail
            refine H20.out.mono ?_
            intro e w20 hP
            cases e20 : wantR s 2 (nextW s d) with
            | out => exact absurd (by rw [He.out, e20]; rfl) hne.out
            | err c pos =>
              rw [e20] at hP He
              obtain ⟨hGx, N, rfl, hF, hltx⟩ := hP
              go_wp2_with fail
              refine ⟨rfl, ?_⟩
              rw [He.out]
              exact ⟨S.hG.trans hGx, N, rfl, hF, hltx⟩
            | ok x20 d20 =>
              rw [e20] at hP He
              obtain ⟨hG20, v20, rfl, hR20, rfl⟩ := hP
              clear e20 H20
              have T20 := S.call hG20 hR20
              have He : Hid (res = (wantW s [59] d20).bind fun _ d1 => .ok ⟨d.text, x20, [], [], [], [], []⟩ d1) := He.out
              obtain ⟨u20, k20⟩ := T20.cell 1 (by omega)
              have f20 := T20.fr 1
              have S20 := T20.setName x20
              obtain ⟨W20, hW20⟩ : ∃ W, W = w20.setCell ⟨qb, 1, none⟩ (.string (bs x20)) := ⟨_, rfl⟩
              rw [← hW20] at S20
              go_upto_region 19 with fail
              change Code.wp _ _ _ _ (w20.setCell ⟨qb, 1, none⟩ (.string (bs x20)))
              rw [← hW20]
              clear hW20 k20 f20 T20
              have H21 := hide (want1 w0 a p r s [59] d20 W20 S20.hR)
              go_wp2_with fail
              refine H21.out.mono ?_
              intro e w21 hP
              cases e21 : wantW s [59] d20 with
              | out => exact absurd (by rw [He.out, e21]; rfl) hne.out
              | err c pos =>
                rw [e21] at hP He
                obtain ⟨hGx, N, rfl, hF, hltx⟩ := hP
                go_wp2_with fail
                refine ⟨rfl, ?_⟩
                rw [He.out]
                exact ⟨S20.hG.trans hGx, N, rfl, hF, hltx⟩
              | ok x21 d21 =>
                rw [e21] at hP He
                obtain ⟨hG21, v21, rfl, hR21, rfl⟩ := hP
                clear e21 H21
                have T21 := S20.call hG21 hR21
                have He : Hid (res = .ok ⟨d.text, x20, [], [], [], [], []⟩ d21) := He.out
                go_upto_region 20 with fail
                have hrbk : ¬ (fun b => w.heap.size ≤ b ∧ b ≠ w.heap.size ∧ b ≠ qb) w.heap.size := fun k => k.2.1 rfl
                (obtain ⟨vs, ⟨xa, ca, xc, cc, xb, cb, xe, ce, rfl, q1, q2, q3, q4⟩, hB⟩ := T21.B); have k0 := hB.cell 0 _ rfl; have k1 := hB.cell 1 _ rfl; have k2 := hB.cell 2 _ rfl; have k3 := hB.cell 3 _ rfl; have k4 := hB.cell 4 _ rfl; have k5 := hB.cell 5 _ rfl; have k6 := hB.cell 6 _ rfl; have j0 := T21.Z.cell 0 _ rfl; have j1 := T21.Z.cell 1 _ rfl; have j2 := T21.Z.cell 2 _ rfl; have j3 := T21.Z.cell 3 _ rfl; have j4 := T21.Z.cell 4 _ rfl; have j5 := T21.Z.cell 5 _ rfl; have j6 := T21.Z.cell 6 _ rfl; have f0 := T21.Z.fr 0; have f1 := T21.Z.fr 1; have f2 := T21.Z.fr 2; have f3 := T21.Z.fr 3; have f4 := T21.Z.fr 4; have f5 := T21.Z.fr 5; have f6 := T21.Z.fr 6
                obtain ⟨fR, fG, fV⟩ := SB.fin hpw (Nat.le_refl _) hrbk [(0, .string (bs d.text)), (1, .string (bs x20)), (2, .string (bs [])), (3, .slice xa 0 ca), (4, .slice xc 0 cc), (5, .slice xb 0 cb), (6, .slice xe 0 ce)] _ T21.hR T21.hG ⟨xa, ca, xc, cc, xb, cb, xe, ce, rfl, q1, q2, q3, q4⟩
                go_wp2_with fail
                refine bodyPost_ret (v := .agg #[.string (bs d.text), .string (bs x20), .string (bs []), .slice xa 0 ca, .slice xc 0 cc, .slice xb 0 cb, .slice xe 0 ce]) (by simp [results, Tryz.results204, go_sem, j0, j1, j2, j3, j4, j5, j6]) rfl ?_
                rw [He.out]
                exact ⟨fG, _, rfl, fR, _, rfl, stVals_keeps _ _ _ _ _ _ fV (Nat.le_refl _) (fun _ _ _ => rfl) (fun b k _ => k.1)⟩
          · rw [if_neg kR] at He
            have kR' : (d.text == [114, 101, 97, 100]) = false := by simp [kR]
            clear kR
            go_upto_region 20 with fail
            have hrbk : ¬ (fun b => w.heap.size ≤ b ∧ b ≠ w.heap.size ∧ b ≠ qb) w.heap.size := fun k => k.2.1 rfl
            (obtain ⟨vs, ⟨xa, ca, xc, cc, xb, cb, xe, ce, rfl, q1, q2, q3, q4⟩, hB⟩ := S.B); have k0 := hB.cell 0 _ rfl; have k1 := hB.cell 1 _ rfl; have k2 := hB.cell 2 _ rfl; have k3 := hB.cell 3 _ rfl; have k4 := hB.cell 4 _ rfl; have k5 := hB.cell 5 _ rfl; have k6 := hB.cell 6 _ rfl; have j0 := S.Z.cell 0 _ rfl; have j1 := S.Z.cell 1 _ rfl; have j2 := S.Z.cell 2 _ rfl; have j3 := S.Z.cell 3 _ rfl; have j4 := S.Z.cell 4 _ rfl; have j5 := S.Z.cell 5 _ rfl; have j6 := S.Z.cell 6 _ rfl; have f0 := S.Z.fr 0; have f1 := S.Z.fr 1; have f2 := S.Z.fr 2; have f3 := S.Z.fr 3; have f4 := S.Z.fr 4; have f5 := S.Z.fr 5; have f6 := S.Z.fr 6
            obtain ⟨fR, fG, fV⟩ := SB.fin hpw (Nat.le_refl _) hrbk [(0, .string (bs d.text)), (1, .string (bs [])), (2, .string (bs [])), (3, .slice xa 0 ca), (4, .slice xc 0 cc), (5, .slice xb 0 cb), (6, .slice xe 0 ce)] _ S.hR S.hG ⟨xa, ca, xc, cc, xb, cb, xe, ce, rfl, q1, q2, q3, q4⟩
            go_wp2_with fail
            refine bodyPost_ret (v := .agg #[.string (bs d.text), .string (bs []), .string (bs []), .slice xa 0 ca, .slice xc 0 cc, .slice xb 0 cb, .slice xe 0 ce]) (by simp [results, Tryz.results204, go_sem, j0, j1, j2, j3, j4, j5, j6]) rfl ?_
            rw [He.out]
            exact ⟨fG, _, rfl, fR, _, rfl, stVals_keeps _ _ _ _ _ _ fV (Nat.le_refl _) (fun _ _ _ => rfl) (fun b k _ => k.1)⟩
end Go.Proofs.YtbfhaabpfkopdaaGreatDoor
