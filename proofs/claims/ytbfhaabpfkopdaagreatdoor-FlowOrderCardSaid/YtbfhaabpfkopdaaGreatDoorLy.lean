/- The language: a change read. -/
import Derived.Test.YtbfhaabpfkopdaaGreatDoorLw
import Derived.Deep.Cut
import Derived.Deep.DeepCutAuto
namespace Go.Proofs.YtbfhaabpfkopdaaGreatDoor
open Go.RowKit
set_option linter.unusedVariables false

def chgF (s : Bs) (k n : Nat) (d : Wd) : Res Stm :=
  (wantR s 2 d).bind fun nm d =>
    if d.text = [91] then
      (argF s k [] (nextW s d)).bind fun l d => (wantW s [93] d).bind fun _ d => (wantW s [61] d).bind fun _ d => (argF s k l d).bind fun l d => (wantW s [59] d).bind fun _ d => .ok ⟨[112, 117, 116], nm, [], l, [], [], []⟩ d
    else (wantW s [61] d).bind fun _ d =>
      if d.text = [99, 97, 108, 108] then
        (wantR s 2 (nextW s d)).bind fun pr d => (wantW s [40] d).bind fun _ d => (listF s (argF s k) n [] d).bind fun l d => (wantW s [59] d).bind fun _ d => .ok ⟨[99, 97, 108, 108], nm, pr, l, [], [], []⟩ d
      else (argF s k [] d).bind fun l d => (wantW s [59] d).bind fun _ d => .ok ⟨[115, 101, 116], nm, [], l, [], [], []⟩ d

structure CS (w0 w W : World) (a : Nat → Addr) (p r : Nat) (s : Bs) (d : Wd) (rb bx qb : Nat) (k nm pr : Bs) (l : List Ex) : Prop where
  hR : Rd w0 W a p r s d
  hG : Gr p w W
  hb : w.heap.size ≤ rb ∧ w.heap.size ≤ bx ∧ w.heap.size ≤ qb
  C : CB p rb bx qb k nm pr W l
theorem CS.call {w0 w W W' : World} {a : Nat → Addr} {p r : Nat} {s : Bs} {d d' : Wd} {rb bx qb : Nat} {k nm pr : Bs} {l : List Ex} (h : CS w0 w W a p r s d rb bx qb k nm pr l) (hg : Gr p W W') (hR : Rd w0 W' a p r s d') : CS w0 w W' a p r s d' rb bx qb k nm pr l :=
  ⟨hR, h.hG.trans hg, h.hb, h.C.call hg⟩
theorem CS.ptr {w0 w W : World} {a : Nat → Addr} {p r : Nat} {s : Bs} {d : Wd} {rb bx qb : Nat} {k nm pr : Bs} {l : List Ex} (h : CS w0 w W a p r s d rb bx qb k nm pr l) : W.cell? ⟨bx, 0, none⟩ = some (.pointer (some ⟨p, 0, none⟩)) := h.C.X.cell 0 _ rfl
theorem CS.set {w0 w W : World} {a : Nat → Addr} {p r : Nat} {s : Bs} {d : Wd} {rb bx qb : Nat} {k nm pr k' nm' pr' : Bs} {l : List Ex} (h : CS w0 w W a p r s d rb bx qb k nm pr l) (j : Nat) (v : Value) (hj : j < 7) (e : ∀ x, [Value.string (bs k), .string (bs nm), .string (bs pr), x, .slice none 0 0, .slice none 0 0, .slice none 0 0].set j v = [Value.string (bs k'), .string (bs nm'), .string (bs pr'), x, .slice none 0 0, .slice none 0 0, .slice none 0 0]) : CS w0 w (W.setCell ⟨qb, j, none⟩ v) a p r s d rb bx qb k' nm' pr' l := by
  obtain ⟨l1, l2, l3, l4, l5⟩ := h.C.lay
  obtain ⟨x, xss, g, B⟩ := h.C.B
  exact ⟨h.hR.setO (q := ⟨qb, j, none⟩) (by show p < qb; omega) v, h.hG.setN (q := ⟨qb, j, none⟩) h.hb.2.2 v, h.hb, h.C.lay, h.C.Z.other (q := ⟨qb, j, none⟩) (by show qb ≠ rb; omega) v, h.C.X.other (q := ⟨qb, j, none⟩) (by show qb ≠ bx; omega) v, x, xss, g.set exVals_keeps (q := ⟨qb, j, none⟩) (by show qb < qb + 1; omega) v, by have := B.put j (by simpa using hj) v; rw [e] at this; exact this⟩
theorem CS.new {w0 w W : World} {a : Nat → Addr} {p r : Nat} {s : Bs} {d : Wd} {rb bx : Nat} (hR : Rd w0 W a p r s d) (hG : Gr p w W) (hb : w.heap.size ≤ rb ∧ w.heap.size ≤ bx) (hp : p < w.heap.size) (hne : rb ≠ bx) (hZ : BoxN W rb [.string ⟨#[]⟩, .string ⟨#[]⟩, .string ⟨#[]⟩, .slice none 0 0, .slice none 0 0, .slice none 0 0, .slice none 0 0]) (hX : BoxN W bx [.pointer (some ⟨p, 0, none⟩)]) (k nm : Bs) :
    CS w0 w (W.alloc (.cells #[.string (bs k), .string (bs nm), .string ⟨#[]⟩, .slice none 0 0, .slice none 0 0, .slice none 0 0, .slice none 0 0] 185)) a p r s d rb bx W.heap.size k nm [] [] := by
  have h1 := hZ.lt
  have h2 := hX.lt
  have h3 := hG.size
  have hbl := (Below.refl W.heap.size W).alloc (Nat.le_refl _) (.cells #[.string (bs k), .string (bs nm), .string ⟨#[]⟩, .slice none 0 0, .slice none 0 0, .slice none 0 0, .slice none 0 0] 185)
  exact ⟨hR.below hbl, hG.below hbl, ⟨hb.1, hb.2, h3⟩, ⟨by omega, by omega, h1, h2, hne⟩, hZ.bel hbl, hX.bel hbl, _, _, GRow.nil _ _ _ _ _, BoxN.new W 185 [.string (bs k), .string (bs nm), .string ⟨#[]⟩, .slice none 0 0, .slice none 0 0, .slice none 0 0, .slice none 0 0]⟩

set_option maxRecDepth 20000 in
set_option maxHeartbeats 8000000 in
theorem change_any (w0 : World) (a : Nat → Addr) (p r k n : Nat) (s : Bs) : ChgC w0 a p r s (chgF s k n) := by
  intro w d h hne0
  obtain ⟨res, hres⟩ : ∃ res, res = chgF s k n d := ⟨_, rfl⟩
  have He := hide hres
  rw [← hres] at hne0 ⊢
  have hne := hide hne0
  clear hne0 hres
  have hpw := h.lt
  have HC := hide (ex_any w0 a p r s k 2 (by omega) 1 (by omega))
  obtain ⟨i0, hi0, hz0, hz1, hz2⟩ := info_parts Tryz.infoExpr
  have hb0 : Below w.heap.size w ((w.alloc (Obj.cells #[.pointer (some ⟨p, 0, none⟩)] 160)).alloc (Obj.cells #[.string ⟨#[]⟩, .string ⟨#[]⟩, .string ⟨#[]⟩, .slice none 0 0, .slice none 0 0, .slice none 0 0, .slice none 0 0] 185)) := ((Below.refl _ _).alloc (Nat.le_refl _) _).alloc (by simp) _
  have hG0 : Gr p w ((w.alloc (Obj.cells #[.pointer (some ⟨p, 0, none⟩)] 160)).alloc (Obj.cells #[.string ⟨#[]⟩, .string ⟨#[]⟩, .string ⟨#[]⟩, .slice none 0 0, .slice none 0 0, .slice none 0 0, .slice none 0 0] 185)) := Gr.of hb0
  have hR0 := h.below hb0
  have X0 : BoxN ((w.alloc (Obj.cells #[.pointer (some ⟨p, 0, none⟩)] 160)).alloc (Obj.cells #[.string ⟨#[]⟩, .string ⟨#[]⟩, .string ⟨#[]⟩, .slice none 0 0, .slice none 0 0, .slice none 0 0, .slice none 0 0] 185)) w.heap.size [.pointer (some ⟨p, 0, none⟩)] := (BoxN.new w 160 [.pointer (some ⟨p, 0, none⟩)]).bel ((Below.refl _ _).alloc (Nat.le_refl _) _)
  have Z0 : BoxN ((w.alloc (Obj.cells #[.pointer (some ⟨p, 0, none⟩)] 160)).alloc (Obj.cells #[.string ⟨#[]⟩, .string ⟨#[]⟩, .string ⟨#[]⟩, .slice none 0 0, .slice none 0 0, .slice none 0 0, .slice none 0 0] 185)) (w.heap.size + 1) [.string ⟨#[]⟩, .string ⟨#[]⟩, .string ⟨#[]⟩, .slice none 0 0, .slice none 0 0, .slice none 0 0, .slice none 0 0] := by have := BoxN.new (w.alloc (Obj.cells #[.pointer (some ⟨p, 0, none⟩)] 160)) 185 [.string ⟨#[]⟩, .string ⟨#[]⟩, .string ⟨#[]⟩, .slice none 0 0, .slice none 0 0, .slice none 0 0, .slice none 0 0]; rw [World.size_alloc] at this; exact this
  obtain ⟨bx, hbx⟩ : ∃ b, b = w.heap.size := ⟨_, rfl⟩
  obtain ⟨rb, hrb⟩ : ∃ b, b = w.heap.size + 1 := ⟨_, rfl⟩
  obtain ⟨W0, hW0⟩ : ∃ W, W = (w.alloc (Obj.cells #[.pointer (some ⟨p, 0, none⟩)] 160)).alloc (Obj.cells #[.string ⟨#[]⟩, .string ⟨#[]⟩, .string ⟨#[]⟩, .slice none 0 0, .slice none 0 0, .slice none 0 0, .slice none 0 0] 185) := ⟨_, rfl⟩
  rw [← hW0] at hR0 hG0 X0 Z0
  have x0 := X0.cell 0 _ rfl
  unfold chgF at He
  have H1 := hide (name_any w0 a p r s d W0 hR0)
  go_enter Tryz.func244, Tryz.ntmps244
  go_upto_region 1 with fail
  change Code.wp _ _ _ _ ((w.alloc (Obj.cells #[.pointer (some ⟨p, 0, none⟩)] 160)).alloc (Obj.cells #[.string ⟨#[]⟩, .string ⟨#[]⟩, .string ⟨#[]⟩, .slice none 0 0, .slice none 0 0, .slice none 0 0, .slice none 0 0] 185))
  rw [← hW0]
  clear hW0 hb0 h
  go_wp2_with fail
  refine H1.out.mono ?_
  intro e w1 hP
  cases e1 : wantR s 2 d with
  | out => exact absurd (by rw [He.out, e1]; rfl) hne.out
  | err c pos =>
    rw [e1] at hP He
    obtain ⟨hGx, N, rfl, hF, hltx⟩ := hP
    go_wp2_with fail
    refine ⟨rfl, ?_⟩
    rw [He.out]
    exact ⟨hG0.trans hGx, N, rfl, hF, hltx⟩
  | ok nm d1 =>
    rw [e1] at hP He
    obtain ⟨hG1, v1, rfl, hR1, rfl⟩ := hP
    have He : Hid (res = if d1.text = [91] then (argF s k [] (nextW s d1)).bind fun l d => (wantW s [93] d).bind fun _ d => (wantW s [61] d).bind fun _ d => (argF s k l d).bind fun l d => (wantW s [59] d).bind fun _ d => .ok ⟨[112, 117, 116], nm, [], l, [], [], []⟩ d else (wantW s [61] d1).bind fun _ d => if d.text = [99, 97, 108, 108] then (wantR s 2 (nextW s d)).bind fun pr d => (wantW s [40] d).bind fun _ d => (listF s (argF s k) n [] d).bind fun l d => (wantW s [59] d).bind fun _ d => .ok ⟨[99, 97, 108, 108], nm, pr, l, [], [], []⟩ d else (argF s k [] d).bind fun l d => (wantW s [59] d).bind fun _ d => .ok ⟨[115, 101, 116], nm, [], l, [], [], []⟩ d) := He.out
    have S := CS.new (rb := w.heap.size + 1) (bx := w.heap.size) hR1 (hG0.trans hG1) ⟨by omega, Nat.le_refl _⟩ hpw (by omega) (Z0.gr hG1 (by omega)) (X0.gr hG1 (by omega)) [115, 101, 116] nm
    obtain ⟨qb, hqb⟩ : ∃ q, q = w1.heap.size := ⟨_, rfl⟩
    obtain ⟨W1, hW1⟩ : ∃ W, W = w1.alloc (.cells #[.string (bs [115, 101, 116]), .string (bs nm), .string ⟨#[]⟩, .slice none 0 0, .slice none 0 0, .slice none 0 0, .slice none 0 0] 185) := ⟨_, rfl⟩
    rw [← hqb, ← hW1] at S
    go_upto_region 2 with fail
    change Code.wp _ _ _ _ (w1.alloc (.cells #[.string (bs [115, 101, 116]), .string (bs nm), .string ⟨#[]⟩, .slice none 0 0, .slice none 0 0, .slice none 0 0, .slice none 0 0] 185))
    rw [← hW1, ← hqb, ← hrb, ← hbx]
    rw [← hrb, ← hbx] at S
    clear hW1 hqb hR0 hG0 Z0 X0 H1 hR1 hG1 x0 e1 hrb hbx
    have ptr := S.ptr
    have HT := hide (take_any w0 a p r s [91] d1 W1 S.hR)
    by_cases hB : d1.text = [91]
    · rw [if_pos hB] at He
      simp only [if_pos hB] at HT
      clear hB
      go_wp2_with fail
      refine HT.out.mono ?_
      rintro e w17 ⟨⟨rfl, hR17⟩, hG17⟩
      have T17 := S.call hG17 hR17
      clear HT S ptr
      obtain ⟨vv17, xss17, gg17, BB17⟩ := T17.C.B
      have k17 := BB17.cell 0 _ rfl
      have f17 := BB17.fr 0
      have S17 : CS w0 w (w17.setCell ⟨qb, 0, none⟩ (.string (bs [112, 117, 116]))) a p r s (nextW s d1) rb bx qb [112, 117, 116] nm [] [] := T17.set 0 _ (by omega) (fun _ => rfl)
      obtain ⟨W17, hW17⟩ : ∃ W, W = w17.setCell ⟨qb, 0, none⟩ (.string (bs [112, 117, 116])) := ⟨_, rfl⟩
      rw [← hW17] at S17
      go_upto_region 4 with fail
      change Code.wp _ _ _ _ (w17.setCell ⟨qb, 0, none⟩ (.string (bs [112, 117, 116])))
      rw [← hW17]
      clear hW17 k17 f17 gg17 BB17 T17
      obtain ⟨lq27, hlq27⟩ : ∃ q, Hid (q = ([] : List Ex)) := ⟨_, rfl⟩
      have S27 := S17
      rw [← hlq27.out] at S27 He
      clear S17
      go_upto_region 4 with fail
      obtain ⟨vv27, xss27, g27, B27⟩ := S27.C.B
      obtain ⟨l1, l2, l3, l4, l5⟩ := S27.C.lay
      obtain ⟨vx27, vc27, rfl⟩ := g27.form
      have x0 := S27.ptr
      have b3 := B27.cell 3 _ rfl
      have HA : Hid (argF s k lq27 (nextW s d1) ≠ .out) := fun q => hne.out (by rw [He.out, q]; rfl)
      have hA : argF s k lq27 (nextW s d1) = (exF s k 2 1 (nextW s d1)).bind fun e d => .ok (lq27 ++ [e]) d := by
        unfold argF
        by_cases hl : 5000 < (lq27 : List Ex).length
        · exact absurd (by unfold argF; rw [if_pos hl]) HA.out
        · rw [if_neg hl]
      have hl5 : (lq27 : List Ex).length ≤ 5000 := by
        rcases Nat.lt_or_ge 5000 (lq27 : List Ex).length with q | q
        · exact absurd (by unfold argF; rw [if_pos q]) HA.out
        · exact q
      rw [hA] at He HA
      have HF27 : Hid (exF s k 2 1 (nextW s d1) ≠ .out) := bind_ne HA.out
      clear hA HA
      cases e27 : exF s k 2 1 (nextW s d1) with
      | out => exact absurd e27 HF27.out
      | err c pos =>
        rw [e27] at He
        have HE : Hid (∀ W : World, Rd w0 W a p r s (nextW s d1) → Calls Tryz.prog 166 #[.pointer (some ⟨p, 0, none⟩), .int .i64 1] W fun e W' => RPost w0 a p r s (.err c pos) (fun W' v x => ExV W' (fun b => W.heap.size ≤ b) v x) W e W') := fun W hW => by
          have := HC.out W (nextW s d1) hW HF27.out
          rw [e27] at this; exact this
        clear e27
        refine wp_region_held (S := fun w' => w'.cell? ⟨qb, 3, none⟩ = some (.slice vx27 (lq27 : List Ex).length vc27) ∧ w'.cell? ⟨bx, 0, none⟩ = some (.pointer (some ⟨p, 0, none⟩))) (by kernel_rfl) ?_
        have hS9 : W17.drew.cell? ⟨qb, 3, none⟩ = some (.slice vx27 (lq27 : List Ex).length vc27) ∧ W17.drew.cell? ⟨bx, 0, none⟩ = some (.pointer (some ⟨p, 0, none⟩)) := ⟨b3, x0⟩
        (refine wpAnyH_take (i := 0) (v := ?_) rfl (by kernel_rfl) (by kernel_rfl) (by kernel_rfl) (fun _ _ _ h => h) (Or.inl ⟨by rfl, ?_⟩) hS9 ?_; rotate_left 1; (intro w' hSw; (try dsimp only at hSw); go_simp); (try rfl); (try dsimp only [Act.put]))
        (refine wpAnyH_take (i := 1) (v := ?_) rfl (by kernel_rfl) (by kernel_rfl) (by kernel_rfl) (fun _ _ _ h => h) (Or.inl ⟨by rfl, ?_⟩) hS9 ?_; rotate_left 1; (intro w' hSw; (try dsimp only at hSw); go_simp); (try rfl); (try dsimp only [Act.put]))
        (refine wpAnyH_take (i := 2) (v := ?_) rfl (by kernel_rfl) (by kernel_rfl) (by kernel_rfl) (fun _ _ _ h => h) (Or.inl ⟨by rfl, ?_⟩) hS9 ?_; rotate_left 1; (intro w' hSw; (try dsimp only at hSw); go_simp); (try rfl); (try dsimp only [Act.put]))
        (refine wpAnyH_take (i := 4) (v := ?_) rfl (by kernel_rfl) (by kernel_rfl) (by kernel_rfl) (fun _ _ _ h => h) (Or.inl ⟨by rfl, ?_⟩) hS9 ?_; rotate_left 1; (intro w' hSw; (try dsimp only at hSw); go_simp); (try rfl); (try dsimp only [Act.put]))
        refine wpAnyH_all (rs := [3, 5]) (by kernel_rfl) (by simp) ?_
        intro i hi
        obtain rfl | rfl : i = 3 ∨ i = 5 := by simpa using hi
        · unfold wpOp
          go_simp
          refine Or.inl ((HE.out _ (S27.hR.below (Below.refl _ _).drew)).mono ?_)
          rintro e w3 ⟨hG3, N, rfl, hFa, hlt3⟩
          refine ⟨rfl, ?_⟩
          rw [He.out]
          exact ⟨S27.hG.trans ((Gr.of (Below.refl _ _).drew).trans hG3), N, rfl, hFa, hlt3⟩
        · unfold wpOp
          go_simp
          have hbA := (Below.refl W17.heap.size W17).alloc (Nat.le_refl _) (.cells #[.string ⟨#[]⟩, .int .i64 0, .string ⟨#[]⟩, .slice none 0 0] 121)
          refine Or.inl ⟨⟨(hbA.cell B27.lt).trans b3, (hbA.cell S27.C.X.lt).trans x0⟩, ?_⟩
          refine wpAnyH_all (rs := [3]) (by kernel_rfl) (by simp) ?_
          intro i hi
          obtain rfl : i = 3 := by simpa using hi
          unfold wpOp
          go_simp
          refine Or.inl ((HE.out _ (S27.hR.below hbA.drew)).mono ?_)
          rintro e w3 ⟨hG3, N, rfl, hFa, hlt3⟩
          refine ⟨rfl, ?_⟩
          rw [He.out]
          exact ⟨S27.hG.trans ((Gr.of hbA.drew).trans hG3), N, rfl, hFa, hlt3⟩
      | ok y27 d27 =>
        rw [e27] at He
        have HE : Hid (∀ W : World, Rd w0 W a p r s (nextW s d1) → Calls Tryz.prog 166 #[.pointer (some ⟨p, 0, none⟩), .int .i64 1] W fun e W' => RPost w0 a p r s (.ok y27 d27) (fun W' v x => ExV W' (fun b => W.heap.size ≤ b) v x) W e W') := fun W hW => by
          have := HC.out W (nextW s d1) hW HF27.out
          rw [e27] at this; exact this
        have He : Hid (res = (wantW s [93] d27).bind fun _ d => (wantW s [61] d).bind fun _ d => (argF s k (lq27 ++ [y27]) d).bind fun l d => (wantW s [59] d).bind fun _ d => .ok ⟨[112, 117, 116], nm, [], l, [], [], []⟩ d) := He.out
        clear e27 HF27
        go_cut [] (fun wx => CS w0 w wx a p r s d27 rb bx qb [112, 117, 116] nm [] (lq27 ++ [y27]))
        case first J K1 hRJ hMK =>
          have hbA := (Below.refl W17.heap.size W17).alloc (Nat.le_refl _) (.cells #[.string ⟨#[]⟩, .int .i64 0, .string ⟨#[]⟩, .slice none 0 0] 121)
          refine wp_region_any (by kernel_rfl) (wpTill_any (S := fun w' => w'.cell? ⟨qb, 3, none⟩ = some (.slice vx27 lq27.length vc27) ∧ w'.cell? ⟨bx, 0, none⟩ = some (.pointer (some ⟨p, 0, none⟩))) (E := 6) _ _ _ _ ?_)
          have hS9 : W17.drew.cell? ⟨qb, 3, none⟩ = some (.slice vx27 lq27.length vc27) ∧ W17.drew.cell? ⟨bx, 0, none⟩ = some (.pointer (some ⟨p, 0, none⟩)) := ⟨b3, x0⟩
          (refine wpTill_take (i := 0) (v := ?_) rfl rfl (by decide) (by kernel_rfl) (by kernel_rfl) (by kernel_rfl) (by kernel_rfl) (by kernel_rfl) (fun _ _ _ h => h) (Or.inl ⟨by rfl, ?_⟩) hS9 ?_; rotate_left 1; (intro w' hSw; (try dsimp only at hSw); go_simp); (try rfl); (try dsimp only [Act.put]))
          (refine wpTill_take (i := 1) (v := ?_) rfl rfl (by decide) (by kernel_rfl) (by kernel_rfl) (by kernel_rfl) (by kernel_rfl) (by kernel_rfl) (fun _ _ _ h => h) (Or.inl ⟨by rfl, ?_⟩) hS9 ?_; rotate_left 1; (intro w' hSw; (try dsimp only at hSw); go_simp); (try rfl); (try dsimp only [Act.put]))
          (refine wpTill_take (i := 2) (v := ?_) rfl rfl (by decide) (by kernel_rfl) (by kernel_rfl) (by kernel_rfl) (by kernel_rfl) (by kernel_rfl) (fun _ _ _ h => h) (Or.inl ⟨by rfl, ?_⟩) hS9 ?_; rotate_left 1; (intro w' hSw; (try dsimp only at hSw); go_simp); (try rfl); (try dsimp only [Act.put]))
          (refine wpTill_take (i := 4) (v := ?_) rfl rfl (by decide) (by kernel_rfl) (by kernel_rfl) (by kernel_rfl) (by kernel_rfl) (by kernel_rfl) (fun _ _ _ h => h) (Or.inl ⟨by rfl, ?_⟩) hS9 ?_; rotate_left 1; (intro w' hSw; (try dsimp only at hSw); go_simp); (try rfl); (try dsimp only [Act.put]))
          refine wpTill_all (rs := [3, 5]) (by kernel_rfl) (by simp) ?_
          intro i hi
          obtain rfl | rfl : i = 3 ∨ i = 5 := by simpa using hi
          · unfold wpOp
            go_simp
            refine Or.inl ((HE.out _ (S27.hR.below (Below.refl _ _).drew)).mono ?_)
            rintro e w3 ⟨hG3, v3, rfl, hR3, x3, cap3, rfl, hX3⟩
            have hG3' := (Gr.of (p := p) (Below.refl W17.heap.size W17).drew).trans hG3
            have g3 := g27.keep exVals_keeps hG3' (fun q e => by cases e; omega)
            have C3 := S27.C.call hG3'
            have b3' := (B27.gr hG3' (by omega)).cell 3 _ rfl
            have x3' := (S27.C.X.gr hG3' (by omega)).cell 0 _ rfl
            refine ⟨⟨b3', x3'⟩, ?_⟩
            refine wpTill_all (rs := [5]) (by kernel_rfl) (by simp) ?_
            intro i hi
            obtain rfl : i = 5 := by simpa using hi
            unfold wpOp
            go_simp
            have hbB := (Below.refl w3.heap.size w3).alloc (Nat.le_refl _) (.cells #[.string ⟨#[]⟩, .int .i64 0, .string ⟨#[]⟩, .slice none 0 0] 121)
            refine Or.inl ⟨⟨(hbB.cell (B27.gr hG3' (by omega)).lt).trans b3', (hbB.cell (S27.C.X.gr hG3' (by omega)).lt).trans x3'⟩, ?_⟩
            refine wpTill_all (rs := [6]) (by kernel_rfl) (by simp) ?_
            intro i hi
            obtain rfl : i = 6 := by simpa using hi
            have g4 := g3.bel exVals_keeps hbB
            refine wpOp_step rfl (fun K' hK => ?_)
            refine step_append_lies _ (by rfl) _ _ 64 (by rfl) (qb + 1) 121 i0 _ 4 64 Tryz.underlying64 hi0 hz0 hz1 hz2 rfl (by decide) (.slice vx27 lq27.length vc27) lq27.length xss27.flatten (by first | rfl | simp [Act.eval, Act.put]) g4.own.drew ⟨w3.heap.size, 0, none⟩ 1 1 [.string ⟨#[]⟩, .int .i64 0, .string ⟨#[]⟩, .slice none 0 0] (by first | rfl | simp [Act.eval, Act.put]) rfl (cells_new _ _ _) (by intro u hu; simp at hu; rcases hu with rfl | rfl | rfl | rfl <;> rfl) (by omega) (by unfold maxLen; omega) (by omega) (by simp; have := (B27.gr hG3' (by omega)).lt; omega) (w3.heap.size + 1) (by simp) ?_
            have hszB := (B27.gr hG3' (by omega)).lt
            have C4 := C3.call (Gr.of (p := p) hbB)
            have B4 := (B27.gr hG3' (by omega)).bel hbB
            have hR4 := hR3.below hbB
            have hG4 := (S27.hG.trans hG3').below hbB
            have hX4 : ExsAt (w3.alloc (.cells #[.string ⟨#[]⟩, .int .i64 0, .string ⟨#[]⟩, .slice none 0 0] 121)) (fun b => qb + 1 ≤ b ∧ (Value.slice vx27 lq27.length vc27).ownBlock ≠ some b) x3 y27.l := (hX3.mono (fun b q _ => ⟨by have : W17.heap.size ≤ b := q; have := B27.lt; omega, fun e => by have : W17.heap.size ≤ b := q; have := (g27.own.lt b e).2; omega⟩)).bel hbB
            intro gB cap6 w6 own6 hg6 hat6 hlt6
            refine hK _ _ ⟨(fun q => by cases q), ?_⟩
            refine wpTill_of_any _ _ _ _ (by kernel_rfl) ?_
            change wpAny _ _ _ _ _ _ (Act.put _ (some 16) _) _
            dsimp only [Act.put]
            have hfl : xss27.flatten.length = lq27.length * 4 := g27.own.1
            have hgq : qb + 1 ≤ gB := (own6.lt gB rfl).1
            have hqg : qb ≠ gB := by omega
            have hgq' : gB ≠ qb := by omega
            have fin := arg_fin (wb := w) y27 x3 cap3 S27.hb C4 g4 B4 hR4 hG4 hX4 own6 hg6 (hat6.imp id (fun e => by rw [e]; simp))
            have z0 : w6.cell? ⟨gB, lq27.length * 4, none⟩ = some (.string ⟨#[]⟩) := by rw [own6.cellAt _ (by omega), List.getElem?_append_right (by omega)]; simp [hfl]
            have z1 : w6.cell? ⟨gB, lq27.length * 4 + 1, none⟩ = some (.int .i64 0) := by rw [own6.cellAt _ (by omega), List.getElem?_append_right (by omega)]; simp [hfl]
            have z2 : w6.cell? ⟨gB, lq27.length * 4 + 2, none⟩ = some (.string ⟨#[]⟩) := by rw [own6.cellAt _ (by omega), List.getElem?_append_right (by omega)]; simp [hfl]
            have z3 : w6.cell? ⟨gB, lq27.length * 4 + 3, none⟩ = some (.slice none 0 0) := by rw [own6.cellAt _ (by omega), List.getElem?_append_right (by omega)]; simp [hfl]
            have y0 := own6.frozenAt (lq27.length * 4)
            have y1 := own6.frozenAt (lq27.length * 4 + 1)
            have y2 := own6.frozenAt (lq27.length * 4 + 2)
            have y3 := own6.frozenAt (lq27.length * 4 + 3)
            have B6 := B4.grown hg6 (fun e => by have := (g4.own.lt _ e).1; omega)
            have b6 := B6.cell 3 _ rfl
            have f6 := B6.fr 3
            have hlen : (lq27.length : Int) < (lq27.length : Int) + 1 := by omega
            (refine wpAny_take (i := 7) (v := ?_) rfl (by kernel_rfl) (by kernel_rfl) (by kernel_rfl) (fun _ _ _ h => h) (Or.inl ⟨by rfl, ?_⟩) ?_; rotate_left 1; (intro w'; go_simp; (try rw [if_pos (by omega)])); (try rfl); (try dsimp only [Act.put]))
            (refine wpAny_take (i := 9) (v := ?_) rfl (by kernel_rfl) (by kernel_rfl) (by kernel_rfl) (fun _ _ _ h => h) (Or.inl ⟨by rfl, ?_⟩) ?_; rotate_left 1; (intro w'; go_simp; (try rw [if_pos (by omega)])); (try rfl); (try dsimp only [Act.put]))
            refine wpAny_all (rs := [8, 10]) (by kernel_rfl) (by simp) ?_
            intro i hi
            obtain rfl | rfl : i = 8 ∨ i = 10 := by simpa using hi
            · unfold wpOp
              go_simp
              refine Or.inl ?_
              refine wpAny_all (rs := [10]) (by kernel_rfl) (by simp) ?_
              intro i hi
              obtain rfl : i = 10 := by simpa using hi
              unfold wpOp
              go_simp
              refine Or.inl ?_
              refine wpAny_done (by kernel_rfl) ?_ _
              refine hMK _ _ (Met.intro (hRJ _ _ ?_))
              (repeat apply Exists.intro)
              refine ⟨?rel, rfl⟩
              case rel => exact ⟨fin.1, fin.2.1, S27.hb, fin.2.2⟩
            · unfold wpOp
              go_simp
              refine Or.inl ?_
              refine wpAny_all (rs := [8]) (by kernel_rfl) (by simp) ?_
              intro i hi
              obtain rfl : i = 8 := by simpa using hi
              unfold wpOp
              go_simp
              refine Or.inl ?_
              refine wpAny_done (by kernel_rfl) ?_ _
              rw [swap4 _ _ _ _ _ _ _ _ _ hqg]
              refine hMK _ _ (Met.intro (hRJ _ _ ?_))
              (repeat apply Exists.intro)
              refine ⟨?rel, rfl⟩
              case rel => exact ⟨fin.1, fin.2.1, S27.hb, fin.2.2⟩
          · unfold wpOp
            go_simp
            refine Or.inl ⟨⟨(hbA.cell B27.lt).trans b3, (hbA.cell S27.C.X.lt).trans x0⟩, ?_⟩
            refine wpTill_all (rs := [3]) (by kernel_rfl) (by simp) ?_
            intro i hi
            obtain rfl : i = 3 := by simpa using hi
            unfold wpOp
            go_simp
            refine Or.inl ((HE.out _ (S27.hR.below hbA.drew)).mono ?_)
            rintro e w3 ⟨hG3, v3, rfl, hR4, x3, cap3, rfl, hX3⟩
            have hG3' := (Gr.of (p := p) hbA.drew).trans hG3
            have g4 := g27.keep exVals_keeps hG3' (fun q e => by cases e; omega)
            have C4 := S27.C.call hG3'
            have B4 := B27.gr hG3' (by omega)
            have b3' := B4.cell 3 _ rfl
            have x3' := C4.X.cell 0 _ rfl
            have hG4 := S27.hG.trans hG3'
            have hszB := B4.lt
            have hX4 : ExsAt w3 (fun b => qb + 1 ≤ b ∧ (Value.slice vx27 lq27.length vc27).ownBlock ≠ some b) x3 y27.l := hX3.mono (fun b q _ => by
              have q : (W17.alloc (.cells #[.string ⟨#[]⟩, .int .i64 0, .string ⟨#[]⟩, .slice none 0 0] 121)).heap.size ≤ b := q
              rw [World.size_alloc] at q
              exact ⟨by have := B27.lt; omega, fun e => by have := (g27.own.lt b e).2; omega⟩)
            have hnw : ∀ j u, [Value.string ⟨#[]⟩, .int .i64 0, .string ⟨#[]⟩, .slice none 0 0][j]? = some u → w3.cell? ((⟨W17.heap.size, 0, none⟩ : Addr).add j) = some u := fun j u hj => by
              have k1 := cells_new W17 121 [.string ⟨#[]⟩, .int .i64 0, .string ⟨#[]⟩, .slice none 0 0] j u hj
              have e1 : ((⟨W17.heap.size, 0, none⟩ : Addr).add j).block = W17.heap.size := by unfold Addr.add; split <;> rfl
              exact (World.grownBy.cell_far hG3 _ (by rw [e1]; show W17.heap.size < (W17.alloc _).heap.size; simp) (fun e => by rw [e1] at e; cases e; have := S27.hR.lt; omega)).trans k1
            refine ⟨⟨b3', x3'⟩, ?_⟩
            refine wpTill_all (rs := [6]) (by kernel_rfl) (by simp) ?_
            intro i hi
            obtain rfl : i = 6 := by simpa using hi
            refine wpOp_step rfl (fun K' hK => ?_)
            refine step_append_lies _ (by rfl) _ _ 64 (by rfl) (qb + 1) 121 i0 _ 4 64 Tryz.underlying64 hi0 hz0 hz1 hz2 rfl (by decide) (.slice vx27 lq27.length vc27) lq27.length xss27.flatten (by first | rfl | simp [Act.eval, Act.put]) g4.own ⟨W17.heap.size, 0, none⟩ 1 1 [.string ⟨#[]⟩, .int .i64 0, .string ⟨#[]⟩, .slice none 0 0] (by first | rfl | simp [Act.eval, Act.put]) rfl hnw (by intro u hu; simp at hu; rcases hu with rfl | rfl | rfl | rfl <;> rfl) (by omega) (by unfold maxLen; omega) (by omega) (by omega) w3.heap.size rfl ?_
            intro gB cap6 w6 own6 hg6 hat6 hlt6
            refine hK _ _ ⟨(fun q => by cases q), ?_⟩
            refine wpTill_of_any _ _ _ _ (by kernel_rfl) ?_
            change wpAny _ _ _ _ _ _ (Act.put _ (some 16) _) _
            dsimp only [Act.put]
            have hfl : xss27.flatten.length = lq27.length * 4 := g27.own.1
            have hgq : qb + 1 ≤ gB := (own6.lt gB rfl).1
            have hqg : qb ≠ gB := by omega
            have hgq' : gB ≠ qb := by omega
            have fin := arg_fin (wb := w) y27 x3 cap3 S27.hb C4 g4 B4 hR4 hG4 hX4 own6 hg6 (hat6.imp id (fun e => by rw [e]; exact Nat.le_refl _))
            have z0 : w6.cell? ⟨gB, lq27.length * 4, none⟩ = some (.string ⟨#[]⟩) := by rw [own6.cellAt _ (by omega), List.getElem?_append_right (by omega)]; simp [hfl]
            have z1 : w6.cell? ⟨gB, lq27.length * 4 + 1, none⟩ = some (.int .i64 0) := by rw [own6.cellAt _ (by omega), List.getElem?_append_right (by omega)]; simp [hfl]
            have z2 : w6.cell? ⟨gB, lq27.length * 4 + 2, none⟩ = some (.string ⟨#[]⟩) := by rw [own6.cellAt _ (by omega), List.getElem?_append_right (by omega)]; simp [hfl]
            have z3 : w6.cell? ⟨gB, lq27.length * 4 + 3, none⟩ = some (.slice none 0 0) := by rw [own6.cellAt _ (by omega), List.getElem?_append_right (by omega)]; simp [hfl]
            have y0 := own6.frozenAt (lq27.length * 4)
            have y1 := own6.frozenAt (lq27.length * 4 + 1)
            have y2 := own6.frozenAt (lq27.length * 4 + 2)
            have y3 := own6.frozenAt (lq27.length * 4 + 3)
            have B6 := B4.grown hg6 (fun e => by have := (g4.own.lt _ e).1; omega)
            have b6 := B6.cell 3 _ rfl
            have f6 := B6.fr 3
            have hlen : (lq27.length : Int) < (lq27.length : Int) + 1 := by omega
            (refine wpAny_take (i := 7) (v := ?_) rfl (by kernel_rfl) (by kernel_rfl) (by kernel_rfl) (fun _ _ _ h => h) (Or.inl ⟨by rfl, ?_⟩) ?_; rotate_left 1; (intro w'; go_simp; (try rw [if_pos (by omega)])); (try rfl); (try dsimp only [Act.put]))
            (refine wpAny_take (i := 9) (v := ?_) rfl (by kernel_rfl) (by kernel_rfl) (by kernel_rfl) (fun _ _ _ h => h) (Or.inl ⟨by rfl, ?_⟩) ?_; rotate_left 1; (intro w'; go_simp; (try rw [if_pos (by omega)])); (try rfl); (try dsimp only [Act.put]))
            refine wpAny_all (rs := [8, 10]) (by kernel_rfl) (by simp) ?_
            intro i hi
            obtain rfl | rfl : i = 8 ∨ i = 10 := by simpa using hi
            · unfold wpOp
              go_simp
              refine Or.inl ?_
              refine wpAny_all (rs := [10]) (by kernel_rfl) (by simp) ?_
              intro i hi
              obtain rfl : i = 10 := by simpa using hi
              unfold wpOp
              go_simp
              refine Or.inl ?_
              refine wpAny_done (by kernel_rfl) ?_ _
              refine hMK _ _ (Met.intro (hRJ _ _ ?_))
              (repeat apply Exists.intro)
              refine ⟨?rel, rfl⟩
              case rel => exact ⟨fin.1, fin.2.1, S27.hb, fin.2.2⟩
            · unfold wpOp
              go_simp
              refine Or.inl ?_
              refine wpAny_all (rs := [8]) (by kernel_rfl) (by simp) ?_
              intro i hi
              obtain rfl : i = 8 := by simpa using hi
              unfold wpOp
              go_simp
              refine Or.inl ?_
              refine wpAny_done (by kernel_rfl) ?_ _
              rw [swap4 _ _ _ _ _ _ _ _ _ hqg]
              refine hMK _ _ (Met.intro (hRJ _ _ ?_))
              (repeat apply Exists.intro)
              refine ⟨?rel, rfl⟩
              case rel => exact ⟨fin.1, fin.2.1, S27.hb, fin.2.2⟩
        case rest =>
        clear HE g27 B27 b3 x0 S27
        have R27 := hcut
        clear hcut
        obtain ⟨lf27, hlf27⟩ : ∃ q, Hid (q = lq27 ++ [y27]) := ⟨_, rfl⟩
        rw [← hlf27.out] at R27 He
        have x28' := R27.ptr
        have H28 := hide (want1 w0 a p r s [93] d27 wc R27.hR)
        go_wp2_with fail
        refine H28.out.mono ?_
        intro e w28 hP
        cases e28 : wantW s [93] d27 with
        | out => exact absurd (by rw [He.out, e28]; rfl) hne.out
        | err c pos =>
          rw [e28] at hP He
          obtain ⟨hGx, N, rfl, hF, hltx⟩ := hP
          go_wp2_with fail
          refine ⟨rfl, ?_⟩
          rw [He.out]
          exact ⟨R27.hG.trans hGx, N, rfl, hF, hltx⟩
        | ok y28 d28 =>
          rw [e28] at hP He
          obtain ⟨hG28, v28, rfl, hR28, rfl⟩ := hP
          clear e28 H28 x28'
          have T28 := R27.call hG28 hR28
          have He : Hid (res = (wantW s [61] d28).bind fun _ d => (argF s k lf27 d).bind fun l d => (wantW s [59] d).bind fun _ d => .ok ⟨[112, 117, 116], nm, [], l, [], [], []⟩ d) := He.out
          go_upto_region 6 with fail
          have x29' := T28.ptr
          have H29 := hide (want1 w0 a p r s [61] d28 w28 T28.hR)
          go_wp2_with fail
          refine H29.out.mono ?_
          intro e w29 hP
          cases e29 : wantW s [61] d28 with
          | out => exact absurd (by rw [He.out, e29]; rfl) hne.out
          | err c pos =>
            rw [e29] at hP He
            obtain ⟨hGx, N, rfl, hF, hltx⟩ := hP
            go_wp2_with fail
            refine ⟨rfl, ?_⟩
            rw [He.out]
            exact ⟨T28.hG.trans hGx, N, rfl, hF, hltx⟩
          | ok y29 d29 =>
            rw [e29] at hP He
            obtain ⟨hG29, v29, rfl, hR29, rfl⟩ := hP
            clear e29 H29 x29'
            have T29 := T28.call hG29 hR29
            have He : Hid (res = (argF s k lf27 d29).bind fun l d => (wantW s [59] d).bind fun _ d => .ok ⟨[112, 117, 116], nm, [], l, [], [], []⟩ d) := He.out
            obtain ⟨vv, xss, gg, BB⟩ := T29.C.B
            have kd := BB.cell 0 _ rfl
            clear gg BB
            obtain ⟨lq30, hlq30⟩ : ∃ q, Hid (q = (lf27 : List Ex)) := ⟨_, rfl⟩
            have S30 := T29
            rw [← hlq30.out] at S30 He
            clear T29
            go_upto_region 12 with fail
            obtain ⟨vv30, xss30, g30, B30⟩ := S30.C.B
            obtain ⟨l1, l2, l3, l4, l5⟩ := S30.C.lay
            obtain ⟨vx30, vc30, rfl⟩ := g30.form
            have x0 := S30.ptr
            have b3 := B30.cell 3 _ rfl
            have HA : Hid (argF s k lq30 d29 ≠ .out) := fun q => hne.out (by rw [He.out, q]; rfl)
            have hA : argF s k lq30 d29 = (exF s k 2 1 d29).bind fun e d => .ok (lq30 ++ [e]) d := by
              unfold argF
              by_cases hl : 5000 < (lq30 : List Ex).length
              · exact absurd (by unfold argF; rw [if_pos hl]) HA.out
              · rw [if_neg hl]
            have hl5 : (lq30 : List Ex).length ≤ 5000 := by
              rcases Nat.lt_or_ge 5000 (lq30 : List Ex).length with q | q
              · exact absurd (by unfold argF; rw [if_pos q]) HA.out
              · exact q
            rw [hA] at He HA
            have HF30 : Hid (exF s k 2 1 d29 ≠ .out) := bind_ne HA.out
            clear hA HA
            cases e30 : exF s k 2 1 d29 with
            | out => exact absurd e30 HF30.out
            | err c pos =>
              rw [e30] at He
              have HE : Hid (∀ W : World, Rd w0 W a p r s d29 → Calls Tryz.prog 166 #[.pointer (some ⟨p, 0, none⟩), .int .i64 1] W fun e W' => RPost w0 a p r s (.err c pos) (fun W' v x => ExV W' (fun b => W.heap.size ≤ b) v x) W e W') := fun W hW => by
                have := HC.out W d29 hW HF30.out
                rw [e30] at this; exact this
              clear e30
              refine wp_region_held (S := fun w' => w'.cell? ⟨qb, 3, none⟩ = some (.slice vx30 (lq30 : List Ex).length vc30) ∧ w'.cell? ⟨bx, 0, none⟩ = some (.pointer (some ⟨p, 0, none⟩))) (by kernel_rfl) ?_
              have hS9 : w29.drew.cell? ⟨qb, 3, none⟩ = some (.slice vx30 (lq30 : List Ex).length vc30) ∧ w29.drew.cell? ⟨bx, 0, none⟩ = some (.pointer (some ⟨p, 0, none⟩)) := ⟨b3, x0⟩
              (refine wpAnyH_take (i := 0) (v := ?_) rfl (by kernel_rfl) (by kernel_rfl) (by kernel_rfl) (fun _ _ _ h => h) (Or.inl ⟨by rfl, ?_⟩) hS9 ?_; rotate_left 1; (intro w' hSw; (try dsimp only at hSw); go_simp); (try rfl); (try dsimp only [Act.put]))
              (refine wpAnyH_take (i := 1) (v := ?_) rfl (by kernel_rfl) (by kernel_rfl) (by kernel_rfl) (fun _ _ _ h => h) (Or.inl ⟨by rfl, ?_⟩) hS9 ?_; rotate_left 1; (intro w' hSw; (try dsimp only at hSw); go_simp); (try rfl); (try dsimp only [Act.put]))
              (refine wpAnyH_take (i := 2) (v := ?_) rfl (by kernel_rfl) (by kernel_rfl) (by kernel_rfl) (fun _ _ _ h => h) (Or.inl ⟨by rfl, ?_⟩) hS9 ?_; rotate_left 1; (intro w' hSw; (try dsimp only at hSw); go_simp); (try rfl); (try dsimp only [Act.put]))
              (refine wpAnyH_take (i := 4) (v := ?_) rfl (by kernel_rfl) (by kernel_rfl) (by kernel_rfl) (fun _ _ _ h => h) (Or.inl ⟨by rfl, ?_⟩) hS9 ?_; rotate_left 1; (intro w' hSw; (try dsimp only at hSw); go_simp); (try rfl); (try dsimp only [Act.put]))
              refine wpAnyH_all (rs := [3, 5]) (by kernel_rfl) (by simp) ?_
              intro i hi
              obtain rfl | rfl : i = 3 ∨ i = 5 := by simpa using hi
              · unfold wpOp
                go_simp
                refine Or.inl ((HE.out _ (S30.hR.below (Below.refl _ _).drew)).mono ?_)
                rintro e w3 ⟨hG3, N, rfl, hFa, hlt3⟩
                refine ⟨rfl, ?_⟩
                rw [He.out]
                exact ⟨S30.hG.trans ((Gr.of (Below.refl _ _).drew).trans hG3), N, rfl, hFa, hlt3⟩
              · unfold wpOp
                go_simp
                have hbA := (Below.refl w29.heap.size w29).alloc (Nat.le_refl _) (.cells #[.string ⟨#[]⟩, .int .i64 0, .string ⟨#[]⟩, .slice none 0 0] 121)
                refine Or.inl ⟨⟨(hbA.cell B30.lt).trans b3, (hbA.cell S30.C.X.lt).trans x0⟩, ?_⟩
                refine wpAnyH_all (rs := [3]) (by kernel_rfl) (by simp) ?_
                intro i hi
                obtain rfl : i = 3 := by simpa using hi
                unfold wpOp
                go_simp
                refine Or.inl ((HE.out _ (S30.hR.below hbA.drew)).mono ?_)
                rintro e w3 ⟨hG3, N, rfl, hFa, hlt3⟩
                refine ⟨rfl, ?_⟩
                rw [He.out]
                exact ⟨S30.hG.trans ((Gr.of hbA.drew).trans hG3), N, rfl, hFa, hlt3⟩
            | ok y30 d30 =>
              rw [e30] at He
              have HE : Hid (∀ W : World, Rd w0 W a p r s d29 → Calls Tryz.prog 166 #[.pointer (some ⟨p, 0, none⟩), .int .i64 1] W fun e W' => RPost w0 a p r s (.ok y30 d30) (fun W' v x => ExV W' (fun b => W.heap.size ≤ b) v x) W e W') := fun W hW => by
                have := HC.out W d29 hW HF30.out
                rw [e30] at this; exact this
              have He : Hid (res = (wantW s [59] d30).bind fun _ d => .ok ⟨[112, 117, 116], nm, [], lq30 ++ [y30], [], [], []⟩ d) := He.out
              clear e30 HF30
              go_cut [] (fun wx => CS w0 w wx a p r s d30 rb bx qb [112, 117, 116] nm [] (lq30 ++ [y30]))
              case first J K1 hRJ hMK =>
                have hbA := (Below.refl w29.heap.size w29).alloc (Nat.le_refl _) (.cells #[.string ⟨#[]⟩, .int .i64 0, .string ⟨#[]⟩, .slice none 0 0] 121)
                refine wp_region_any (by kernel_rfl) (wpTill_any (S := fun w' => w'.cell? ⟨qb, 3, none⟩ = some (.slice vx30 lq30.length vc30) ∧ w'.cell? ⟨bx, 0, none⟩ = some (.pointer (some ⟨p, 0, none⟩))) (E := 6) _ _ _ _ ?_)
                have hS9 : w29.drew.cell? ⟨qb, 3, none⟩ = some (.slice vx30 lq30.length vc30) ∧ w29.drew.cell? ⟨bx, 0, none⟩ = some (.pointer (some ⟨p, 0, none⟩)) := ⟨b3, x0⟩
                (refine wpTill_take (i := 0) (v := ?_) rfl rfl (by decide) (by kernel_rfl) (by kernel_rfl) (by kernel_rfl) (by kernel_rfl) (by kernel_rfl) (fun _ _ _ h => h) (Or.inl ⟨by rfl, ?_⟩) hS9 ?_; rotate_left 1; (intro w' hSw; (try dsimp only at hSw); go_simp); (try rfl); (try dsimp only [Act.put]))
                (refine wpTill_take (i := 1) (v := ?_) rfl rfl (by decide) (by kernel_rfl) (by kernel_rfl) (by kernel_rfl) (by kernel_rfl) (by kernel_rfl) (fun _ _ _ h => h) (Or.inl ⟨by rfl, ?_⟩) hS9 ?_; rotate_left 1; (intro w' hSw; (try dsimp only at hSw); go_simp); (try rfl); (try dsimp only [Act.put]))
                (refine wpTill_take (i := 2) (v := ?_) rfl rfl (by decide) (by kernel_rfl) (by kernel_rfl) (by kernel_rfl) (by kernel_rfl) (by kernel_rfl) (fun _ _ _ h => h) (Or.inl ⟨by rfl, ?_⟩) hS9 ?_; rotate_left 1; (intro w' hSw; (try dsimp only at hSw); go_simp); (try rfl); (try dsimp only [Act.put]))
                (refine wpTill_take (i := 4) (v := ?_) rfl rfl (by decide) (by kernel_rfl) (by kernel_rfl) (by kernel_rfl) (by kernel_rfl) (by kernel_rfl) (fun _ _ _ h => h) (Or.inl ⟨by rfl, ?_⟩) hS9 ?_; rotate_left 1; (intro w' hSw; (try dsimp only at hSw); go_simp); (try rfl); (try dsimp only [Act.put]))
                refine wpTill_all (rs := [3, 5]) (by kernel_rfl) (by simp) ?_
                intro i hi
                obtain rfl | rfl : i = 3 ∨ i = 5 := by simpa using hi
                · unfold wpOp
                  go_simp
                  refine Or.inl ((HE.out _ (S30.hR.below (Below.refl _ _).drew)).mono ?_)
                  rintro e w3 ⟨hG3, v3, rfl, hR3, x3, cap3, rfl, hX3⟩
                  have hG3' := (Gr.of (p := p) (Below.refl w29.heap.size w29).drew).trans hG3
                  have g3 := g30.keep exVals_keeps hG3' (fun q e => by cases e; omega)
                  have C3 := S30.C.call hG3'
                  have b3' := (B30.gr hG3' (by omega)).cell 3 _ rfl
                  have x3' := (S30.C.X.gr hG3' (by omega)).cell 0 _ rfl
                  refine ⟨⟨b3', x3'⟩, ?_⟩
                  refine wpTill_all (rs := [5]) (by kernel_rfl) (by simp) ?_
                  intro i hi
                  obtain rfl : i = 5 := by simpa using hi
                  unfold wpOp
                  go_simp
                  have hbB := (Below.refl w3.heap.size w3).alloc (Nat.le_refl _) (.cells #[.string ⟨#[]⟩, .int .i64 0, .string ⟨#[]⟩, .slice none 0 0] 121)
                  refine Or.inl ⟨⟨(hbB.cell (B30.gr hG3' (by omega)).lt).trans b3', (hbB.cell (S30.C.X.gr hG3' (by omega)).lt).trans x3'⟩, ?_⟩
                  refine wpTill_all (rs := [6]) (by kernel_rfl) (by simp) ?_
                  intro i hi
                  obtain rfl : i = 6 := by simpa using hi
                  have g4 := g3.bel exVals_keeps hbB
                  refine wpOp_step rfl (fun K' hK => ?_)
                  refine step_append_lies _ (by rfl) _ _ 64 (by rfl) (qb + 1) 121 i0 _ 4 64 Tryz.underlying64 hi0 hz0 hz1 hz2 rfl (by decide) (.slice vx30 lq30.length vc30) lq30.length xss30.flatten (by first | rfl | simp [Act.eval, Act.put]) g4.own.drew ⟨w3.heap.size, 0, none⟩ 1 1 [.string ⟨#[]⟩, .int .i64 0, .string ⟨#[]⟩, .slice none 0 0] (by first | rfl | simp [Act.eval, Act.put]) rfl (cells_new _ _ _) (by intro u hu; simp at hu; rcases hu with rfl | rfl | rfl | rfl <;> rfl) (by omega) (by unfold maxLen; omega) (by omega) (by simp; have := (B30.gr hG3' (by omega)).lt; omega) (w3.heap.size + 1) (by simp) ?_
                  have hszB := (B30.gr hG3' (by omega)).lt
                  have C4 := C3.call (Gr.of (p := p) hbB)
                  have B4 := (B30.gr hG3' (by omega)).bel hbB
                  have hR4 := hR3.below hbB
                  have hG4 := (S30.hG.trans hG3').below hbB
                  have hX4 : ExsAt (w3.alloc (.cells #[.string ⟨#[]⟩, .int .i64 0, .string ⟨#[]⟩, .slice none 0 0] 121)) (fun b => qb + 1 ≤ b ∧ (Value.slice vx30 lq30.length vc30).ownBlock ≠ some b) x3 y30.l := (hX3.mono (fun b q _ => ⟨by have : w29.heap.size ≤ b := q; have := B30.lt; omega, fun e => by have : w29.heap.size ≤ b := q; have := (g30.own.lt b e).2; omega⟩)).bel hbB
                  intro gB cap6 w6 own6 hg6 hat6 hlt6
                  refine hK _ _ ⟨(fun q => by cases q), ?_⟩
                  refine wpTill_of_any _ _ _ _ (by kernel_rfl) ?_
                  change wpAny _ _ _ _ _ _ (Act.put _ (some 48) _) _
                  dsimp only [Act.put]
                  have hfl : xss30.flatten.length = lq30.length * 4 := g30.own.1
                  have hgq : qb + 1 ≤ gB := (own6.lt gB rfl).1
                  have hqg : qb ≠ gB := by omega
                  have hgq' : gB ≠ qb := by omega
                  have fin := arg_fin (wb := w) y30 x3 cap3 S30.hb C4 g4 B4 hR4 hG4 hX4 own6 hg6 (hat6.imp id (fun e => by rw [e]; simp))
                  have z0 : w6.cell? ⟨gB, lq30.length * 4, none⟩ = some (.string ⟨#[]⟩) := by rw [own6.cellAt _ (by omega), List.getElem?_append_right (by omega)]; simp [hfl]
                  have z1 : w6.cell? ⟨gB, lq30.length * 4 + 1, none⟩ = some (.int .i64 0) := by rw [own6.cellAt _ (by omega), List.getElem?_append_right (by omega)]; simp [hfl]
                  have z2 : w6.cell? ⟨gB, lq30.length * 4 + 2, none⟩ = some (.string ⟨#[]⟩) := by rw [own6.cellAt _ (by omega), List.getElem?_append_right (by omega)]; simp [hfl]
                  have z3 : w6.cell? ⟨gB, lq30.length * 4 + 3, none⟩ = some (.slice none 0 0) := by rw [own6.cellAt _ (by omega), List.getElem?_append_right (by omega)]; simp [hfl]
                  have y0 := own6.frozenAt (lq30.length * 4)
                  have y1 := own6.frozenAt (lq30.length * 4 + 1)
                  have y2 := own6.frozenAt (lq30.length * 4 + 2)
                  have y3 := own6.frozenAt (lq30.length * 4 + 3)
                  have B6 := B4.grown hg6 (fun e => by have := (g4.own.lt _ e).1; omega)
                  have b6 := B6.cell 3 _ rfl
                  have f6 := B6.fr 3
                  have hlen : (lq30.length : Int) < (lq30.length : Int) + 1 := by omega
                  (refine wpAny_take (i := 7) (v := ?_) rfl (by kernel_rfl) (by kernel_rfl) (by kernel_rfl) (fun _ _ _ h => h) (Or.inl ⟨by rfl, ?_⟩) ?_; rotate_left 1; (intro w'; go_simp; (try rw [if_pos (by omega)])); (try rfl); (try dsimp only [Act.put]))
                  (refine wpAny_take (i := 9) (v := ?_) rfl (by kernel_rfl) (by kernel_rfl) (by kernel_rfl) (fun _ _ _ h => h) (Or.inl ⟨by rfl, ?_⟩) ?_; rotate_left 1; (intro w'; go_simp; (try rw [if_pos (by omega)])); (try rfl); (try dsimp only [Act.put]))
                  refine wpAny_all (rs := [8, 10]) (by kernel_rfl) (by simp) ?_
                  intro i hi
                  obtain rfl | rfl : i = 8 ∨ i = 10 := by simpa using hi
                  · unfold wpOp
                    go_simp
                    refine Or.inl ?_
                    refine wpAny_all (rs := [10]) (by kernel_rfl) (by simp) ?_
                    intro i hi
                    obtain rfl : i = 10 := by simpa using hi
                    unfold wpOp
                    go_simp
                    refine Or.inl ?_
                    refine wpAny_done (by kernel_rfl) ?_ _
                    refine hMK _ _ (Met.intro (hRJ _ _ ?_))
                    (repeat apply Exists.intro)
                    refine ⟨?rel, rfl⟩
                    case rel => exact ⟨fin.1, fin.2.1, S30.hb, fin.2.2⟩
                  · unfold wpOp
                    go_simp
                    refine Or.inl ?_
                    refine wpAny_all (rs := [8]) (by kernel_rfl) (by simp) ?_
                    intro i hi
                    obtain rfl : i = 8 := by simpa using hi
                    unfold wpOp
                    go_simp
                    refine Or.inl ?_
                    refine wpAny_done (by kernel_rfl) ?_ _
                    rw [swap4 _ _ _ _ _ _ _ _ _ hqg]
                    refine hMK _ _ (Met.intro (hRJ _ _ ?_))
                    (repeat apply Exists.intro)
                    refine ⟨?rel, rfl⟩
                    case rel => exact ⟨fin.1, fin.2.1, S30.hb, fin.2.2⟩
                · unfold wpOp
                  go_simp
                  refine Or.inl ⟨⟨(hbA.cell B30.lt).trans b3, (hbA.cell S30.C.X.lt).trans x0⟩, ?_⟩
                  refine wpTill_all (rs := [3]) (by kernel_rfl) (by simp) ?_
                  intro i hi
                  obtain rfl : i = 3 := by simpa using hi
                  unfold wpOp
                  go_simp
                  refine Or.inl ((HE.out _ (S30.hR.below hbA.drew)).mono ?_)
                  rintro e w3 ⟨hG3, v3, rfl, hR4, x3, cap3, rfl, hX3⟩
                  have hG3' := (Gr.of (p := p) hbA.drew).trans hG3
                  have g4 := g30.keep exVals_keeps hG3' (fun q e => by cases e; omega)
                  have C4 := S30.C.call hG3'
                  have B4 := B30.gr hG3' (by omega)
                  have b3' := B4.cell 3 _ rfl
                  have x3' := C4.X.cell 0 _ rfl
                  have hG4 := S30.hG.trans hG3'
                  have hszB := B4.lt
                  have hX4 : ExsAt w3 (fun b => qb + 1 ≤ b ∧ (Value.slice vx30 lq30.length vc30).ownBlock ≠ some b) x3 y30.l := hX3.mono (fun b q _ => by
                    have q : (w29.alloc (.cells #[.string ⟨#[]⟩, .int .i64 0, .string ⟨#[]⟩, .slice none 0 0] 121)).heap.size ≤ b := q
                    rw [World.size_alloc] at q
                    exact ⟨by have := B30.lt; omega, fun e => by have := (g30.own.lt b e).2; omega⟩)
                  have hnw : ∀ j u, [Value.string ⟨#[]⟩, .int .i64 0, .string ⟨#[]⟩, .slice none 0 0][j]? = some u → w3.cell? ((⟨w29.heap.size, 0, none⟩ : Addr).add j) = some u := fun j u hj => by
                    have k1 := cells_new w29 121 [.string ⟨#[]⟩, .int .i64 0, .string ⟨#[]⟩, .slice none 0 0] j u hj
                    have e1 : ((⟨w29.heap.size, 0, none⟩ : Addr).add j).block = w29.heap.size := by unfold Addr.add; split <;> rfl
                    exact (World.grownBy.cell_far hG3 _ (by rw [e1]; show w29.heap.size < (w29.alloc _).heap.size; simp) (fun e => by rw [e1] at e; cases e; have := S30.hR.lt; omega)).trans k1
                  refine ⟨⟨b3', x3'⟩, ?_⟩
                  refine wpTill_all (rs := [6]) (by kernel_rfl) (by simp) ?_
                  intro i hi
                  obtain rfl : i = 6 := by simpa using hi
                  refine wpOp_step rfl (fun K' hK => ?_)
                  refine step_append_lies _ (by rfl) _ _ 64 (by rfl) (qb + 1) 121 i0 _ 4 64 Tryz.underlying64 hi0 hz0 hz1 hz2 rfl (by decide) (.slice vx30 lq30.length vc30) lq30.length xss30.flatten (by first | rfl | simp [Act.eval, Act.put]) g4.own ⟨w29.heap.size, 0, none⟩ 1 1 [.string ⟨#[]⟩, .int .i64 0, .string ⟨#[]⟩, .slice none 0 0] (by first | rfl | simp [Act.eval, Act.put]) rfl hnw (by intro u hu; simp at hu; rcases hu with rfl | rfl | rfl | rfl <;> rfl) (by omega) (by unfold maxLen; omega) (by omega) (by omega) w3.heap.size rfl ?_
                  intro gB cap6 w6 own6 hg6 hat6 hlt6
                  refine hK _ _ ⟨(fun q => by cases q), ?_⟩
                  refine wpTill_of_any _ _ _ _ (by kernel_rfl) ?_
                  change wpAny _ _ _ _ _ _ (Act.put _ (some 48) _) _
                  dsimp only [Act.put]
                  have hfl : xss30.flatten.length = lq30.length * 4 := g30.own.1
                  have hgq : qb + 1 ≤ gB := (own6.lt gB rfl).1
                  have hqg : qb ≠ gB := by omega
                  have hgq' : gB ≠ qb := by omega
                  have fin := arg_fin (wb := w) y30 x3 cap3 S30.hb C4 g4 B4 hR4 hG4 hX4 own6 hg6 (hat6.imp id (fun e => by rw [e]; exact Nat.le_refl _))
                  have z0 : w6.cell? ⟨gB, lq30.length * 4, none⟩ = some (.string ⟨#[]⟩) := by rw [own6.cellAt _ (by omega), List.getElem?_append_right (by omega)]; simp [hfl]
                  have z1 : w6.cell? ⟨gB, lq30.length * 4 + 1, none⟩ = some (.int .i64 0) := by rw [own6.cellAt _ (by omega), List.getElem?_append_right (by omega)]; simp [hfl]
                  have z2 : w6.cell? ⟨gB, lq30.length * 4 + 2, none⟩ = some (.string ⟨#[]⟩) := by rw [own6.cellAt _ (by omega), List.getElem?_append_right (by omega)]; simp [hfl]
                  have z3 : w6.cell? ⟨gB, lq30.length * 4 + 3, none⟩ = some (.slice none 0 0) := by rw [own6.cellAt _ (by omega), List.getElem?_append_right (by omega)]; simp [hfl]
                  have y0 := own6.frozenAt (lq30.length * 4)
                  have y1 := own6.frozenAt (lq30.length * 4 + 1)
                  have y2 := own6.frozenAt (lq30.length * 4 + 2)
                  have y3 := own6.frozenAt (lq30.length * 4 + 3)
                  have B6 := B4.grown hg6 (fun e => by have := (g4.own.lt _ e).1; omega)
                  have b6 := B6.cell 3 _ rfl
                  have f6 := B6.fr 3
                  have hlen : (lq30.length : Int) < (lq30.length : Int) + 1 := by omega
                  (refine wpAny_take (i := 7) (v := ?_) rfl (by kernel_rfl) (by kernel_rfl) (by kernel_rfl) (fun _ _ _ h => h) (Or.inl ⟨by rfl, ?_⟩) ?_; rotate_left 1; (intro w'; go_simp; (try rw [if_pos (by omega)])); (try rfl); (try dsimp only [Act.put]))
                  (refine wpAny_take (i := 9) (v := ?_) rfl (by kernel_rfl) (by kernel_rfl) (by kernel_rfl) (fun _ _ _ h => h) (Or.inl ⟨by rfl, ?_⟩) ?_; rotate_left 1; (intro w'; go_simp; (try rw [if_pos (by omega)])); (try rfl); (try dsimp only [Act.put]))
                  refine wpAny_all (rs := [8, 10]) (by kernel_rfl) (by simp) ?_
                  intro i hi
                  obtain rfl | rfl : i = 8 ∨ i = 10 := by simpa using hi
                  · unfold wpOp
                    go_simp
                    refine Or.inl ?_
                    refine wpAny_all (rs := [10]) (by kernel_rfl) (by simp) ?_
                    intro i hi
                    obtain rfl : i = 10 := by simpa using hi
                    unfold wpOp
                    go_simp
                    refine Or.inl ?_
                    refine wpAny_done (by kernel_rfl) ?_ _
                    refine hMK _ _ (Met.intro (hRJ _ _ ?_))
                    (repeat apply Exists.intro)
                    refine ⟨?rel, rfl⟩
                    case rel => exact ⟨fin.1, fin.2.1, S30.hb, fin.2.2⟩
                  · unfold wpOp
                    go_simp
                    refine Or.inl ?_
                    refine wpAny_all (rs := [8]) (by kernel_rfl) (by simp) ?_
                    intro i hi
                    obtain rfl : i = 8 := by simpa using hi
                    unfold wpOp
                    go_simp
                    refine Or.inl ?_
                    refine wpAny_done (by kernel_rfl) ?_ _
                    rw [swap4 _ _ _ _ _ _ _ _ _ hqg]
                    refine hMK _ _ (Met.intro (hRJ _ _ ?_))
                    (repeat apply Exists.intro)
                    refine ⟨?rel, rfl⟩
                    case rel => exact ⟨fin.1, fin.2.1, S30.hb, fin.2.2⟩
              case rest =>
              clear HE g30 B30 b3 x0 S30
              have R30 := hcut
              clear hcut
              obtain ⟨lf30, hlf30⟩ : ∃ q, Hid (q = lq30 ++ [y30]) := ⟨_, rfl⟩
              rw [← hlf30.out] at R30 He
              have x31' := R30.ptr
              have H31 := hide (want1 w0 a p r s [59] d30 wc R30.hR)
              go_wp2_with fail
              refine H31.out.mono ?_
              intro e w31 hP
              cases e31 : wantW s [59] d30 with
              | out => exact absurd (by rw [He.out, e31]; rfl) hne.out
              | err c pos =>
                rw [e31] at hP He
                obtain ⟨hGx, N, rfl, hF, hltx⟩ := hP
                go_wp2_with fail
                refine ⟨rfl, ?_⟩
                rw [He.out]
                exact ⟨R30.hG.trans hGx, N, rfl, hF, hltx⟩
              | ok y31 d31 =>
                rw [e31] at hP He
                obtain ⟨hG31, v31, rfl, hR31, rfl⟩ := hP
                clear e31 H31 x31'
                have T31 := R30.call hG31 hR31
                have He : Hid (res = .ok ⟨[112, 117, 116], nm, [], lf30, [], [], []⟩ d31) := He.out
                go_upto_region 14 with fail
                obtain ⟨vv9, xss9, gg9, BB9⟩ := T31.C.B
                obtain ⟨x9, c9, rfl, hrow9⟩ := gg9.row exVals_keeps (by omega)
                have hE9 := exs_of_row hrow9
                have k0 := BB9.cell 0 _ rfl
                have j0 := T31.C.Z.cell 0 _ rfl
                have f0 := T31.C.Z.fr 0
                have k1 := BB9.cell 1 _ rfl
                have j1 := T31.C.Z.cell 1 _ rfl
                have f1 := T31.C.Z.fr 1
                have k2 := BB9.cell 2 _ rfl
                have j2 := T31.C.Z.cell 2 _ rfl
                have f2 := T31.C.Z.fr 2
                have k3 := BB9.cell 3 _ rfl
                have j3 := T31.C.Z.cell 3 _ rfl
                have f3 := T31.C.Z.fr 3
                have k4 := BB9.cell 4 _ rfl
                have j4 := T31.C.Z.cell 4 _ rfl
                have f4 := T31.C.Z.fr 4
                have k5 := BB9.cell 5 _ rfl
                have j5 := T31.C.Z.cell 5 _ rfl
                have f5 := T31.C.Z.fr 5
                have k6 := BB9.cell 6 _ rfl
                have j6 := T31.C.Z.cell 6 _ rfl
                have f6 := T31.C.Z.fr 6
                have hrbk : ¬ (fun b => qb + 1 ≤ b) rb := fun q => by have h9 := T31.C.lay; have : qb + 1 ≤ rb := q; omega
                obtain ⟨fR, fG, fV⟩ := SB.fin (t := ⟨[112, 117, 116], nm, [], lf30, [], [], []⟩) hpw T31.hb.1 hrbk [(0, .string (bs [112, 117, 116])), (1, .string (bs nm)), (2, .string (bs [])), (3, .slice x9 lf30.length c9), (4, .slice none 0 0), (5, .slice none 0 0), (6, .slice none 0 0)] _ T31.hR T31.hG ⟨x9, c9, none, 0, none, 0, none, 0, rfl, hE9, .inl rfl, .nil _, .nil _⟩
                have hqb9 := T31.hb.2.2
                clear gg9 BB9 hrow9 hE9
                go_wp2_with fail
                refine bodyPost_ret (v := .agg #[.string (bs [112, 117, 116]), .string (bs nm), .string (bs []), .slice x9 lf30.length c9, .slice none 0 0, .slice none 0 0, .slice none 0 0]) (by simp [results, Tryz.results244, go_sem, j0, j1, j2, j3, j4, j5, j6]) rfl ?_
                rw [He.out]
                exact ⟨fG, _, rfl, fR, _, rfl, stVals_keeps _ _ _ _ _ _ fV (Nat.le_refl _) (fun _ _ _ => rfl) (fun b q _ => by have : qb + 1 ≤ b := q; omega)⟩
    · rw [if_neg hB] at He
      simp only [if_neg hB] at HT
      clear hB
      go_wp2_with fail
      refine HT.out.mono ?_
      rintro e w2 ⟨⟨rfl, hw2⟩, hx2⟩
      rw [hw2]
      clear hx2 hw2 w2 HT
      have x21' := S.ptr
      have H21 := hide (want1 w0 a p r s [61] d1 W1 S.hR)
      go_wp2_with fail
      refine H21.out.mono ?_
      intro e w21 hP
      cases e21 : wantW s [61] d1 with
      | out => exact absurd (by rw [He.out, e21]; rfl) hne.out
      | err c pos =>
        rw [e21] at hP He
        obtain ⟨hGx, N, rfl, hF, hltx⟩ := hP
        go_wp2_with fail
        refine ⟨rfl, ?_⟩
        rw [He.out]
        exact ⟨S.hG.trans hGx, N, rfl, hF, hltx⟩
      | ok y21 d21 =>
        rw [e21] at hP He
        obtain ⟨hG21, v21, rfl, hR21, rfl⟩ := hP
        clear e21 H21 x21'
        have T21 := S.call hG21 hR21
        have He : Hid (res = if d21.text = [99, 97, 108, 108] then (wantR s 2 (nextW s d21)).bind fun pr d => (wantW s [40] d).bind fun _ d => (listF s (argF s k) n [] d).bind fun l d => (wantW s [59] d).bind fun _ d => .ok ⟨[99, 97, 108, 108], nm, pr, l, [], [], []⟩ d else (argF s k [] d21).bind fun l d => (wantW s [59] d).bind fun _ d => .ok ⟨[115, 101, 116], nm, [], l, [], [], []⟩ d) := He.out
        have ptr2 := T21.ptr
        obtain ⟨vv, xss, gg, BB⟩ := T21.C.B
        have kd := BB.cell 0 _ rfl
        clear gg BB
        have HT := hide (take_any w0 a p r s [99, 97, 108, 108] d21 w21 T21.hR)
        by_cases hK : d21.text = [99, 97, 108, 108]
        · rw [if_pos hK] at He
          simp only [if_pos hK] at HT
          clear hK
          go_wp2_with fail
          refine HT.out.mono ?_
          rintro e w19 ⟨⟨rfl, hR19⟩, hG19⟩
          have T19 := T21.call hG19 hR19
          clear HT kd T21 ptr2 S ptr
          obtain ⟨vv19, xss19, gg19, BB19⟩ := T19.C.B
          have k19 := BB19.cell 0 _ rfl
          have f19 := BB19.fr 0
          have S19 : CS w0 w (w19.setCell ⟨qb, 0, none⟩ (.string (bs [99, 97, 108, 108]))) a p r s (nextW s d21) rb bx qb [99, 97, 108, 108] nm [] [] := T19.set 0 _ (by omega) (fun _ => rfl)
          obtain ⟨W19, hW19⟩ : ∃ W, W = w19.setCell ⟨qb, 0, none⟩ (.string (bs [99, 97, 108, 108])) := ⟨_, rfl⟩
          rw [← hW19] at S19
          go_upto_region 9 with fail
          change Code.wp _ _ _ _ (w19.setCell ⟨qb, 0, none⟩ (.string (bs [99, 97, 108, 108])))
          rw [← hW19]
          clear hW19 k19 f19 gg19 BB19 T19
          have x24' := S19.ptr
          have H24 := hide (name_any w0 a p r s (nextW s d21) W19 S19.hR)
          go_wp2_with fail
          refine H24.out.mono ?_
          intro e w24 hP
          cases e24 : wantR s 2 (nextW s d21) with
          | out => exact absurd (by rw [He.out, e24]; rfl) hne.out
          | err c pos =>
            rw [e24] at hP He
            obtain ⟨hGx, N, rfl, hF, hltx⟩ := hP
            go_wp2_with fail
            refine ⟨rfl, ?_⟩
            rw [He.out]
            exact ⟨S19.hG.trans hGx, N, rfl, hF, hltx⟩
          | ok y24 d24 =>
            rw [e24] at hP He
            obtain ⟨hG24, v24, rfl, hR24, rfl⟩ := hP
            clear e24 H24 x24'
            have T24 := S19.call hG24 hR24
            have He : Hid (res = (wantW s [40] d24).bind fun _ d => (listF s (argF s k) n [] d).bind fun l d => (wantW s [59] d).bind fun _ d => .ok ⟨[99, 97, 108, 108], nm, y24, l, [], [], []⟩ d) := He.out
            obtain ⟨vv24, xss24, gg24, BB24⟩ := T24.C.B
            have k24 := BB24.cell 2 _ rfl
            have f24 := BB24.fr 2
            have S24 : CS w0 w (w24.setCell ⟨qb, 2, none⟩ (.string (bs y24))) a p r s d24 rb bx qb [99, 97, 108, 108] nm y24 [] := T24.set 2 _ (by omega) (fun _ => rfl)
            obtain ⟨W24, hW24⟩ : ∃ W, W = w24.setCell ⟨qb, 2, none⟩ (.string (bs y24)) := ⟨_, rfl⟩
            rw [← hW24] at S24
            go_upto_region 10 with fail
            change Code.wp _ _ _ _ (w24.setCell ⟨qb, 2, none⟩ (.string (bs y24)))
            rw [← hW24]
            clear hW24 k24 f24 gg24 BB24 T24
            have x25' := S24.ptr
            have H25 := hide (want1 w0 a p r s [40] d24 W24 S24.hR)
            go_wp2_with fail
            refine H25.out.mono ?_
            intro e w25 hP
            cases e25 : wantW s [40] d24 with
            | out => exact absurd (by rw [He.out, e25]; rfl) hne.out
            | err c pos =>
              rw [e25] at hP He
              obtain ⟨hGx, N, rfl, hF, hltx⟩ := hP
              go_wp2_with fail
              refine ⟨rfl, ?_⟩
              rw [He.out]
              exact ⟨S24.hG.trans hGx, N, rfl, hF, hltx⟩
            | ok y25 d25 =>
              rw [e25] at hP He
              obtain ⟨hG25, v25, rfl, hR25, rfl⟩ := hP
              clear e25 H25 x25'
              have T25 := S24.call hG25 hR25
              have He : Hid (res = (listF s (argF s k) n [] d25).bind fun l d => (wantW s [59] d).bind fun _ d => .ok ⟨[99, 97, 108, 108], nm, y24, l, [], [], []⟩ d) := He.out
              have ptr3 := T25.ptr
              have HFL : Hid (listF s (argF s k) n [] d25 ≠ .out) := fun q => hne.out (by rw [He.out, q]; rfl)
              have HL := hide (list_any w0 w a p r 272 n #[.pointer (some ⟨qb, 0, none⟩), .pointer (some ⟨bx, 0, none⟩)] s (CB p rb bx qb [99, 97, 108, 108] nm y24) (argF s k) [] d25 w25 (hide enters_ch1) (hide (change1_any w0 w a p r k rb bx qb s [99, 97, 108, 108] nm y24 T25.hb)) (hide (fun W W' x h hg => h.call hg)) T25.hR T25.hG (hide T25.C) HFL)
              have hb25 := T25.hb
              clear T25
              go_wp2_with fail
              refine HL.out.mono ?_
              intro e w18 hP
              cases e18 : listF s (argF s k) n [] d25 with
              | out => exact absurd e18 HFL.out
              | err c pos =>
                rw [e18] at hP He
                obtain ⟨hGx, N, rfl, hF, hltx⟩ := hP
                go_wp2_with fail
                refine ⟨rfl, ?_⟩
                rw [He.out]
                exact ⟨hGx, N, rfl, hF, hltx⟩
              | ok y18 d18 =>
                rw [e18] at hP He
                obtain ⟨hG18, v18, rfl, hR18, rfl, hC18⟩ := hP
                have He : Hid (res = (wantW s [59] d18).bind fun _ d => .ok ⟨[99, 97, 108, 108], nm, y24, y18, [], [], []⟩ d) := He.out
                clear e18 HL HFL
                have R18 : CS w0 w w18 a p r s d18 rb bx qb [99, 97, 108, 108] nm y24 y18 := ⟨hR18, hG18, hb25, hC18⟩
                have x26' := R18.ptr
                have H26 := hide (want1 w0 a p r s [59] d18 w18 R18.hR)
                go_wp2_with fail
                refine H26.out.mono ?_
                intro e w26 hP
                cases e26 : wantW s [59] d18 with
                | out => exact absurd (by rw [He.out, e26]; rfl) hne.out
                | err c pos =>
                  rw [e26] at hP He
                  obtain ⟨hGx, N, rfl, hF, hltx⟩ := hP
                  go_wp2_with fail
                  refine ⟨rfl, ?_⟩
                  rw [He.out]
                  exact ⟨R18.hG.trans hGx, N, rfl, hF, hltx⟩
                | ok y26 d26 =>
                  rw [e26] at hP He
                  obtain ⟨hG26, v26, rfl, hR26, rfl⟩ := hP
                  clear e26 H26 x26'
                  have T26 := R18.call hG26 hR26
                  have He : Hid (res = .ok ⟨[99, 97, 108, 108], nm, y24, y18, [], [], []⟩ d26) := He.out
                  go_upto_region 14 with fail
                  obtain ⟨vv9, xss9, gg9, BB9⟩ := T26.C.B
                  obtain ⟨x9, c9, rfl, hrow9⟩ := gg9.row exVals_keeps (by omega)
                  have hE9 := exs_of_row hrow9
                  have k0 := BB9.cell 0 _ rfl
                  have j0 := T26.C.Z.cell 0 _ rfl
                  have f0 := T26.C.Z.fr 0
                  have k1 := BB9.cell 1 _ rfl
                  have j1 := T26.C.Z.cell 1 _ rfl
                  have f1 := T26.C.Z.fr 1
                  have k2 := BB9.cell 2 _ rfl
                  have j2 := T26.C.Z.cell 2 _ rfl
                  have f2 := T26.C.Z.fr 2
                  have k3 := BB9.cell 3 _ rfl
                  have j3 := T26.C.Z.cell 3 _ rfl
                  have f3 := T26.C.Z.fr 3
                  have k4 := BB9.cell 4 _ rfl
                  have j4 := T26.C.Z.cell 4 _ rfl
                  have f4 := T26.C.Z.fr 4
                  have k5 := BB9.cell 5 _ rfl
                  have j5 := T26.C.Z.cell 5 _ rfl
                  have f5 := T26.C.Z.fr 5
                  have k6 := BB9.cell 6 _ rfl
                  have j6 := T26.C.Z.cell 6 _ rfl
                  have f6 := T26.C.Z.fr 6
                  have hrbk : ¬ (fun b => qb + 1 ≤ b) rb := fun q => by have h9 := T26.C.lay; have : qb + 1 ≤ rb := q; omega
                  obtain ⟨fR, fG, fV⟩ := SB.fin (t := ⟨[99, 97, 108, 108], nm, y24, y18, [], [], []⟩) hpw T26.hb.1 hrbk [(0, .string (bs [99, 97, 108, 108])), (1, .string (bs nm)), (2, .string (bs y24)), (3, .slice x9 y18.length c9), (4, .slice none 0 0), (5, .slice none 0 0), (6, .slice none 0 0)] _ T26.hR T26.hG ⟨x9, c9, none, 0, none, 0, none, 0, rfl, hE9, .inl rfl, .nil _, .nil _⟩
                  have hqb9 := T26.hb.2.2
                  clear gg9 BB9 hrow9 hE9
                  go_wp2_with fail
                  refine bodyPost_ret (v := .agg #[.string (bs [99, 97, 108, 108]), .string (bs nm), .string (bs y24), .slice x9 y18.length c9, .slice none 0 0, .slice none 0 0, .slice none 0 0]) (by simp [results, Tryz.results244, go_sem, j0, j1, j2, j3, j4, j5, j6]) rfl ?_
                  rw [He.out]
                  exact ⟨fG, _, rfl, fR, _, rfl, stVals_keeps _ _ _ _ _ _ fV (Nat.le_refl _) (fun _ _ _ => rfl) (fun b q _ => by have : qb + 1 ≤ b := q; omega)⟩
        · rw [if_neg hK] at He
          simp only [if_neg hK] at HT
          clear hK
          go_wp2_with fail
          refine HT.out.mono ?_
          rintro e w2 ⟨⟨rfl, hw2⟩, hx2⟩
          rw [hw2]
          clear hx2 hw2 w2 HT kd
          obtain ⟨lq22, hlq22⟩ : ∃ q, Hid (q = ([] : List Ex)) := ⟨_, rfl⟩
          have S22 := T21
          rw [← hlq22.out] at S22 He
          clear T21
          go_upto_region 12 with fail
          obtain ⟨vv22, xss22, g22, B22⟩ := S22.C.B
          obtain ⟨l1, l2, l3, l4, l5⟩ := S22.C.lay
          obtain ⟨vx22, vc22, rfl⟩ := g22.form
          have x0 := S22.ptr
          have b3 := B22.cell 3 _ rfl
          have HA : Hid (argF s k lq22 d21 ≠ .out) := fun q => hne.out (by rw [He.out, q]; rfl)
          have hA : argF s k lq22 d21 = (exF s k 2 1 d21).bind fun e d => .ok (lq22 ++ [e]) d := by
            unfold argF
            by_cases hl : 5000 < (lq22 : List Ex).length
            · exact absurd (by unfold argF; rw [if_pos hl]) HA.out
            · rw [if_neg hl]
          have hl5 : (lq22 : List Ex).length ≤ 5000 := by
            rcases Nat.lt_or_ge 5000 (lq22 : List Ex).length with q | q
            · exact absurd (by unfold argF; rw [if_pos q]) HA.out
            · exact q
          rw [hA] at He HA
          have HF22 : Hid (exF s k 2 1 d21 ≠ .out) := bind_ne HA.out
          clear hA HA
          cases e22 : exF s k 2 1 d21 with
          | out => exact absurd e22 HF22.out
          | err c pos =>
            rw [e22] at He
            have HE : Hid (∀ W : World, Rd w0 W a p r s d21 → Calls Tryz.prog 166 #[.pointer (some ⟨p, 0, none⟩), .int .i64 1] W fun e W' => RPost w0 a p r s (.err c pos) (fun W' v x => ExV W' (fun b => W.heap.size ≤ b) v x) W e W') := fun W hW => by
              have := HC.out W d21 hW HF22.out
              rw [e22] at this; exact this
            clear e22
            refine wp_region_held (S := fun w' => w'.cell? ⟨qb, 3, none⟩ = some (.slice vx22 (lq22 : List Ex).length vc22) ∧ w'.cell? ⟨bx, 0, none⟩ = some (.pointer (some ⟨p, 0, none⟩))) (by kernel_rfl) ?_
            have hS9 : w21.drew.cell? ⟨qb, 3, none⟩ = some (.slice vx22 (lq22 : List Ex).length vc22) ∧ w21.drew.cell? ⟨bx, 0, none⟩ = some (.pointer (some ⟨p, 0, none⟩)) := ⟨b3, x0⟩
            (refine wpAnyH_take (i := 0) (v := ?_) rfl (by kernel_rfl) (by kernel_rfl) (by kernel_rfl) (fun _ _ _ h => h) (Or.inl ⟨by rfl, ?_⟩) hS9 ?_; rotate_left 1; (intro w' hSw; (try dsimp only at hSw); go_simp); (try rfl); (try dsimp only [Act.put]))
            (refine wpAnyH_take (i := 1) (v := ?_) rfl (by kernel_rfl) (by kernel_rfl) (by kernel_rfl) (fun _ _ _ h => h) (Or.inl ⟨by rfl, ?_⟩) hS9 ?_; rotate_left 1; (intro w' hSw; (try dsimp only at hSw); go_simp); (try rfl); (try dsimp only [Act.put]))
            (refine wpAnyH_take (i := 2) (v := ?_) rfl (by kernel_rfl) (by kernel_rfl) (by kernel_rfl) (fun _ _ _ h => h) (Or.inl ⟨by rfl, ?_⟩) hS9 ?_; rotate_left 1; (intro w' hSw; (try dsimp only at hSw); go_simp); (try rfl); (try dsimp only [Act.put]))
            (refine wpAnyH_take (i := 4) (v := ?_) rfl (by kernel_rfl) (by kernel_rfl) (by kernel_rfl) (fun _ _ _ h => h) (Or.inl ⟨by rfl, ?_⟩) hS9 ?_; rotate_left 1; (intro w' hSw; (try dsimp only at hSw); go_simp); (try rfl); (try dsimp only [Act.put]))
            refine wpAnyH_all (rs := [3, 5]) (by kernel_rfl) (by simp) ?_
            intro i hi
            obtain rfl | rfl : i = 3 ∨ i = 5 := by simpa using hi
            · unfold wpOp
              go_simp
              refine Or.inl ((HE.out _ (S22.hR.below (Below.refl _ _).drew)).mono ?_)
              rintro e w3 ⟨hG3, N, rfl, hFa, hlt3⟩
              refine ⟨rfl, ?_⟩
              rw [He.out]
              exact ⟨S22.hG.trans ((Gr.of (Below.refl _ _).drew).trans hG3), N, rfl, hFa, hlt3⟩
            · unfold wpOp
              go_simp
              have hbA := (Below.refl w21.heap.size w21).alloc (Nat.le_refl _) (.cells #[.string ⟨#[]⟩, .int .i64 0, .string ⟨#[]⟩, .slice none 0 0] 121)
              refine Or.inl ⟨⟨(hbA.cell B22.lt).trans b3, (hbA.cell S22.C.X.lt).trans x0⟩, ?_⟩
              refine wpAnyH_all (rs := [3]) (by kernel_rfl) (by simp) ?_
              intro i hi
              obtain rfl : i = 3 := by simpa using hi
              unfold wpOp
              go_simp
              refine Or.inl ((HE.out _ (S22.hR.below hbA.drew)).mono ?_)
              rintro e w3 ⟨hG3, N, rfl, hFa, hlt3⟩
              refine ⟨rfl, ?_⟩
              rw [He.out]
              exact ⟨S22.hG.trans ((Gr.of hbA.drew).trans hG3), N, rfl, hFa, hlt3⟩
          | ok y22 d22 =>
            rw [e22] at He
            have HE : Hid (∀ W : World, Rd w0 W a p r s d21 → Calls Tryz.prog 166 #[.pointer (some ⟨p, 0, none⟩), .int .i64 1] W fun e W' => RPost w0 a p r s (.ok y22 d22) (fun W' v x => ExV W' (fun b => W.heap.size ≤ b) v x) W e W') := fun W hW => by
              have := HC.out W d21 hW HF22.out
              rw [e22] at this; exact this
            have He : Hid (res = (wantW s [59] d22).bind fun _ d => .ok ⟨[115, 101, 116], nm, [], lq22 ++ [y22], [], [], []⟩ d) := He.out
            clear e22 HF22
            go_cut [] (fun wx => CS w0 w wx a p r s d22 rb bx qb [115, 101, 116] nm [] (lq22 ++ [y22]))
            case first J K1 hRJ hMK =>
              have hbA := (Below.refl w21.heap.size w21).alloc (Nat.le_refl _) (.cells #[.string ⟨#[]⟩, .int .i64 0, .string ⟨#[]⟩, .slice none 0 0] 121)
              refine wp_region_any (by kernel_rfl) (wpTill_any (S := fun w' => w'.cell? ⟨qb, 3, none⟩ = some (.slice vx22 lq22.length vc22) ∧ w'.cell? ⟨bx, 0, none⟩ = some (.pointer (some ⟨p, 0, none⟩))) (E := 6) _ _ _ _ ?_)
              have hS9 : w21.drew.cell? ⟨qb, 3, none⟩ = some (.slice vx22 lq22.length vc22) ∧ w21.drew.cell? ⟨bx, 0, none⟩ = some (.pointer (some ⟨p, 0, none⟩)) := ⟨b3, x0⟩
              (refine wpTill_take (i := 0) (v := ?_) rfl rfl (by decide) (by kernel_rfl) (by kernel_rfl) (by kernel_rfl) (by kernel_rfl) (by kernel_rfl) (fun _ _ _ h => h) (Or.inl ⟨by rfl, ?_⟩) hS9 ?_; rotate_left 1; (intro w' hSw; (try dsimp only at hSw); go_simp); (try rfl); (try dsimp only [Act.put]))
              (refine wpTill_take (i := 1) (v := ?_) rfl rfl (by decide) (by kernel_rfl) (by kernel_rfl) (by kernel_rfl) (by kernel_rfl) (by kernel_rfl) (fun _ _ _ h => h) (Or.inl ⟨by rfl, ?_⟩) hS9 ?_; rotate_left 1; (intro w' hSw; (try dsimp only at hSw); go_simp); (try rfl); (try dsimp only [Act.put]))
              (refine wpTill_take (i := 2) (v := ?_) rfl rfl (by decide) (by kernel_rfl) (by kernel_rfl) (by kernel_rfl) (by kernel_rfl) (by kernel_rfl) (fun _ _ _ h => h) (Or.inl ⟨by rfl, ?_⟩) hS9 ?_; rotate_left 1; (intro w' hSw; (try dsimp only at hSw); go_simp); (try rfl); (try dsimp only [Act.put]))
              (refine wpTill_take (i := 4) (v := ?_) rfl rfl (by decide) (by kernel_rfl) (by kernel_rfl) (by kernel_rfl) (by kernel_rfl) (by kernel_rfl) (fun _ _ _ h => h) (Or.inl ⟨by rfl, ?_⟩) hS9 ?_; rotate_left 1; (intro w' hSw; (try dsimp only at hSw); go_simp); (try rfl); (try dsimp only [Act.put]))
              refine wpTill_all (rs := [3, 5]) (by kernel_rfl) (by simp) ?_
              intro i hi
              obtain rfl | rfl : i = 3 ∨ i = 5 := by simpa using hi
              · unfold wpOp
                go_simp
                refine Or.inl ((HE.out _ (S22.hR.below (Below.refl _ _).drew)).mono ?_)
                rintro e w3 ⟨hG3, v3, rfl, hR3, x3, cap3, rfl, hX3⟩
                have hG3' := (Gr.of (p := p) (Below.refl w21.heap.size w21).drew).trans hG3
                have g3 := g22.keep exVals_keeps hG3' (fun q e => by cases e; omega)
                have C3 := S22.C.call hG3'
                have b3' := (B22.gr hG3' (by omega)).cell 3 _ rfl
                have x3' := (S22.C.X.gr hG3' (by omega)).cell 0 _ rfl
                refine ⟨⟨b3', x3'⟩, ?_⟩
                refine wpTill_all (rs := [5]) (by kernel_rfl) (by simp) ?_
                intro i hi
                obtain rfl : i = 5 := by simpa using hi
                unfold wpOp
                go_simp
                have hbB := (Below.refl w3.heap.size w3).alloc (Nat.le_refl _) (.cells #[.string ⟨#[]⟩, .int .i64 0, .string ⟨#[]⟩, .slice none 0 0] 121)
                refine Or.inl ⟨⟨(hbB.cell (B22.gr hG3' (by omega)).lt).trans b3', (hbB.cell (S22.C.X.gr hG3' (by omega)).lt).trans x3'⟩, ?_⟩
                refine wpTill_all (rs := [6]) (by kernel_rfl) (by simp) ?_
                intro i hi
                obtain rfl : i = 6 := by simpa using hi
                have g4 := g3.bel exVals_keeps hbB
                refine wpOp_step rfl (fun K' hK => ?_)
                refine step_append_lies _ (by rfl) _ _ 64 (by rfl) (qb + 1) 121 i0 _ 4 64 Tryz.underlying64 hi0 hz0 hz1 hz2 rfl (by decide) (.slice vx22 lq22.length vc22) lq22.length xss22.flatten (by first | rfl | simp [Act.eval, Act.put]) g4.own.drew ⟨w3.heap.size, 0, none⟩ 1 1 [.string ⟨#[]⟩, .int .i64 0, .string ⟨#[]⟩, .slice none 0 0] (by first | rfl | simp [Act.eval, Act.put]) rfl (cells_new _ _ _) (by intro u hu; simp at hu; rcases hu with rfl | rfl | rfl | rfl <;> rfl) (by omega) (by unfold maxLen; omega) (by omega) (by simp; have := (B22.gr hG3' (by omega)).lt; omega) (w3.heap.size + 1) (by simp) ?_
                have hszB := (B22.gr hG3' (by omega)).lt
                have C4 := C3.call (Gr.of (p := p) hbB)
                have B4 := (B22.gr hG3' (by omega)).bel hbB
                have hR4 := hR3.below hbB
                have hG4 := (S22.hG.trans hG3').below hbB
                have hX4 : ExsAt (w3.alloc (.cells #[.string ⟨#[]⟩, .int .i64 0, .string ⟨#[]⟩, .slice none 0 0] 121)) (fun b => qb + 1 ≤ b ∧ (Value.slice vx22 lq22.length vc22).ownBlock ≠ some b) x3 y22.l := (hX3.mono (fun b q _ => ⟨by have : w21.heap.size ≤ b := q; have := B22.lt; omega, fun e => by have : w21.heap.size ≤ b := q; have := (g22.own.lt b e).2; omega⟩)).bel hbB
                intro gB cap6 w6 own6 hg6 hat6 hlt6
                refine hK _ _ ⟨(fun q => by cases q), ?_⟩
                refine wpTill_of_any _ _ _ _ (by kernel_rfl) ?_
                change wpAny _ _ _ _ _ _ (Act.put _ (some 48) _) _
                dsimp only [Act.put]
                have hfl : xss22.flatten.length = lq22.length * 4 := g22.own.1
                have hgq : qb + 1 ≤ gB := (own6.lt gB rfl).1
                have hqg : qb ≠ gB := by omega
                have hgq' : gB ≠ qb := by omega
                have fin := arg_fin (wb := w) y22 x3 cap3 S22.hb C4 g4 B4 hR4 hG4 hX4 own6 hg6 (hat6.imp id (fun e => by rw [e]; simp))
                have z0 : w6.cell? ⟨gB, lq22.length * 4, none⟩ = some (.string ⟨#[]⟩) := by rw [own6.cellAt _ (by omega), List.getElem?_append_right (by omega)]; simp [hfl]
                have z1 : w6.cell? ⟨gB, lq22.length * 4 + 1, none⟩ = some (.int .i64 0) := by rw [own6.cellAt _ (by omega), List.getElem?_append_right (by omega)]; simp [hfl]
                have z2 : w6.cell? ⟨gB, lq22.length * 4 + 2, none⟩ = some (.string ⟨#[]⟩) := by rw [own6.cellAt _ (by omega), List.getElem?_append_right (by omega)]; simp [hfl]
                have z3 : w6.cell? ⟨gB, lq22.length * 4 + 3, none⟩ = some (.slice none 0 0) := by rw [own6.cellAt _ (by omega), List.getElem?_append_right (by omega)]; simp [hfl]
                have y0 := own6.frozenAt (lq22.length * 4)
                have y1 := own6.frozenAt (lq22.length * 4 + 1)
                have y2 := own6.frozenAt (lq22.length * 4 + 2)
                have y3 := own6.frozenAt (lq22.length * 4 + 3)
                have B6 := B4.grown hg6 (fun e => by have := (g4.own.lt _ e).1; omega)
                have b6 := B6.cell 3 _ rfl
                have f6 := B6.fr 3
                have hlen : (lq22.length : Int) < (lq22.length : Int) + 1 := by omega
                (refine wpAny_take (i := 7) (v := ?_) rfl (by kernel_rfl) (by kernel_rfl) (by kernel_rfl) (fun _ _ _ h => h) (Or.inl ⟨by rfl, ?_⟩) ?_; rotate_left 1; (intro w'; go_simp; (try rw [if_pos (by omega)])); (try rfl); (try dsimp only [Act.put]))
                (refine wpAny_take (i := 9) (v := ?_) rfl (by kernel_rfl) (by kernel_rfl) (by kernel_rfl) (fun _ _ _ h => h) (Or.inl ⟨by rfl, ?_⟩) ?_; rotate_left 1; (intro w'; go_simp; (try rw [if_pos (by omega)])); (try rfl); (try dsimp only [Act.put]))
                refine wpAny_all (rs := [8, 10]) (by kernel_rfl) (by simp) ?_
                intro i hi
                obtain rfl | rfl : i = 8 ∨ i = 10 := by simpa using hi
                · unfold wpOp
                  go_simp
                  refine Or.inl ?_
                  refine wpAny_all (rs := [10]) (by kernel_rfl) (by simp) ?_
                  intro i hi
                  obtain rfl : i = 10 := by simpa using hi
                  unfold wpOp
                  go_simp
                  refine Or.inl ?_
                  refine wpAny_done (by kernel_rfl) ?_ _
                  refine hMK _ _ (Met.intro (hRJ _ _ ?_))
                  (repeat apply Exists.intro)
                  refine ⟨?rel, rfl⟩
                  case rel => exact ⟨fin.1, fin.2.1, S22.hb, fin.2.2⟩
                · unfold wpOp
                  go_simp
                  refine Or.inl ?_
                  refine wpAny_all (rs := [8]) (by kernel_rfl) (by simp) ?_
                  intro i hi
                  obtain rfl : i = 8 := by simpa using hi
                  unfold wpOp
                  go_simp
                  refine Or.inl ?_
                  refine wpAny_done (by kernel_rfl) ?_ _
                  rw [swap4 _ _ _ _ _ _ _ _ _ hqg]
                  refine hMK _ _ (Met.intro (hRJ _ _ ?_))
                  (repeat apply Exists.intro)
                  refine ⟨?rel, rfl⟩
                  case rel => exact ⟨fin.1, fin.2.1, S22.hb, fin.2.2⟩
              · unfold wpOp
                go_simp
                refine Or.inl ⟨⟨(hbA.cell B22.lt).trans b3, (hbA.cell S22.C.X.lt).trans x0⟩, ?_⟩
                refine wpTill_all (rs := [3]) (by kernel_rfl) (by simp) ?_
                intro i hi
                obtain rfl : i = 3 := by simpa using hi
                unfold wpOp
                go_simp
                refine Or.inl ((HE.out _ (S22.hR.below hbA.drew)).mono ?_)
                rintro e w3 ⟨hG3, v3, rfl, hR4, x3, cap3, rfl, hX3⟩
                have hG3' := (Gr.of (p := p) hbA.drew).trans hG3
                have g4 := g22.keep exVals_keeps hG3' (fun q e => by cases e; omega)
                have C4 := S22.C.call hG3'
                have B4 := B22.gr hG3' (by omega)
                have b3' := B4.cell 3 _ rfl
                have x3' := C4.X.cell 0 _ rfl
                have hG4 := S22.hG.trans hG3'
                have hszB := B4.lt
                have hX4 : ExsAt w3 (fun b => qb + 1 ≤ b ∧ (Value.slice vx22 lq22.length vc22).ownBlock ≠ some b) x3 y22.l := hX3.mono (fun b q _ => by
                  have q : (w21.alloc (.cells #[.string ⟨#[]⟩, .int .i64 0, .string ⟨#[]⟩, .slice none 0 0] 121)).heap.size ≤ b := q
                  rw [World.size_alloc] at q
                  exact ⟨by have := B22.lt; omega, fun e => by have := (g22.own.lt b e).2; omega⟩)
                have hnw : ∀ j u, [Value.string ⟨#[]⟩, .int .i64 0, .string ⟨#[]⟩, .slice none 0 0][j]? = some u → w3.cell? ((⟨w21.heap.size, 0, none⟩ : Addr).add j) = some u := fun j u hj => by
                  have k1 := cells_new w21 121 [.string ⟨#[]⟩, .int .i64 0, .string ⟨#[]⟩, .slice none 0 0] j u hj
                  have e1 : ((⟨w21.heap.size, 0, none⟩ : Addr).add j).block = w21.heap.size := by unfold Addr.add; split <;> rfl
                  exact (World.grownBy.cell_far hG3 _ (by rw [e1]; show w21.heap.size < (w21.alloc _).heap.size; simp) (fun e => by rw [e1] at e; cases e; have := S22.hR.lt; omega)).trans k1
                refine ⟨⟨b3', x3'⟩, ?_⟩
                refine wpTill_all (rs := [6]) (by kernel_rfl) (by simp) ?_
                intro i hi
                obtain rfl : i = 6 := by simpa using hi
                refine wpOp_step rfl (fun K' hK => ?_)
                refine step_append_lies _ (by rfl) _ _ 64 (by rfl) (qb + 1) 121 i0 _ 4 64 Tryz.underlying64 hi0 hz0 hz1 hz2 rfl (by decide) (.slice vx22 lq22.length vc22) lq22.length xss22.flatten (by first | rfl | simp [Act.eval, Act.put]) g4.own ⟨w21.heap.size, 0, none⟩ 1 1 [.string ⟨#[]⟩, .int .i64 0, .string ⟨#[]⟩, .slice none 0 0] (by first | rfl | simp [Act.eval, Act.put]) rfl hnw (by intro u hu; simp at hu; rcases hu with rfl | rfl | rfl | rfl <;> rfl) (by omega) (by unfold maxLen; omega) (by omega) (by omega) w3.heap.size rfl ?_
                intro gB cap6 w6 own6 hg6 hat6 hlt6
                refine hK _ _ ⟨(fun q => by cases q), ?_⟩
                refine wpTill_of_any _ _ _ _ (by kernel_rfl) ?_
                change wpAny _ _ _ _ _ _ (Act.put _ (some 48) _) _
                dsimp only [Act.put]
                have hfl : xss22.flatten.length = lq22.length * 4 := g22.own.1
                have hgq : qb + 1 ≤ gB := (own6.lt gB rfl).1
                have hqg : qb ≠ gB := by omega
                have hgq' : gB ≠ qb := by omega
                have fin := arg_fin (wb := w) y22 x3 cap3 S22.hb C4 g4 B4 hR4 hG4 hX4 own6 hg6 (hat6.imp id (fun e => by rw [e]; exact Nat.le_refl _))
                have z0 : w6.cell? ⟨gB, lq22.length * 4, none⟩ = some (.string ⟨#[]⟩) := by rw [own6.cellAt _ (by omega), List.getElem?_append_right (by omega)]; simp [hfl]
                have z1 : w6.cell? ⟨gB, lq22.length * 4 + 1, none⟩ = some (.int .i64 0) := by rw [own6.cellAt _ (by omega), List.getElem?_append_right (by omega)]; simp [hfl]
                have z2 : w6.cell? ⟨gB, lq22.length * 4 + 2, none⟩ = some (.string ⟨#[]⟩) := by rw [own6.cellAt _ (by omega), List.getElem?_append_right (by omega)]; simp [hfl]
                have z3 : w6.cell? ⟨gB, lq22.length * 4 + 3, none⟩ = some (.slice none 0 0) := by rw [own6.cellAt _ (by omega), List.getElem?_append_right (by omega)]; simp [hfl]
                have y0 := own6.frozenAt (lq22.length * 4)
                have y1 := own6.frozenAt (lq22.length * 4 + 1)
                have y2 := own6.frozenAt (lq22.length * 4 + 2)
                have y3 := own6.frozenAt (lq22.length * 4 + 3)
                have B6 := B4.grown hg6 (fun e => by have := (g4.own.lt _ e).1; omega)
                have b6 := B6.cell 3 _ rfl
                have f6 := B6.fr 3
                have hlen : (lq22.length : Int) < (lq22.length : Int) + 1 := by omega
                (refine wpAny_take (i := 7) (v := ?_) rfl (by kernel_rfl) (by kernel_rfl) (by kernel_rfl) (fun _ _ _ h => h) (Or.inl ⟨by rfl, ?_⟩) ?_; rotate_left 1; (intro w'; go_simp; (try rw [if_pos (by omega)])); (try rfl); (try dsimp only [Act.put]))
                (refine wpAny_take (i := 9) (v := ?_) rfl (by kernel_rfl) (by kernel_rfl) (by kernel_rfl) (fun _ _ _ h => h) (Or.inl ⟨by rfl, ?_⟩) ?_; rotate_left 1; (intro w'; go_simp; (try rw [if_pos (by omega)])); (try rfl); (try dsimp only [Act.put]))
                refine wpAny_all (rs := [8, 10]) (by kernel_rfl) (by simp) ?_
                intro i hi
                obtain rfl | rfl : i = 8 ∨ i = 10 := by simpa using hi
                · unfold wpOp
                  go_simp
                  refine Or.inl ?_
                  refine wpAny_all (rs := [10]) (by kernel_rfl) (by simp) ?_
                  intro i hi
                  obtain rfl : i = 10 := by simpa using hi
                  unfold wpOp
                  go_simp
                  refine Or.inl ?_
                  refine wpAny_done (by kernel_rfl) ?_ _
                  refine hMK _ _ (Met.intro (hRJ _ _ ?_))
                  (repeat apply Exists.intro)
                  refine ⟨?rel, rfl⟩
                  case rel => exact ⟨fin.1, fin.2.1, S22.hb, fin.2.2⟩
                · unfold wpOp
                  go_simp
                  refine Or.inl ?_
                  refine wpAny_all (rs := [8]) (by kernel_rfl) (by simp) ?_
                  intro i hi
                  obtain rfl : i = 8 := by simpa using hi
                  unfold wpOp
                  go_simp
                  refine Or.inl ?_
                  refine wpAny_done (by kernel_rfl) ?_ _
                  rw [swap4 _ _ _ _ _ _ _ _ _ hqg]
                  refine hMK _ _ (Met.intro (hRJ _ _ ?_))
                  (repeat apply Exists.intro)
                  refine ⟨?rel, rfl⟩
                  case rel => exact ⟨fin.1, fin.2.1, S22.hb, fin.2.2⟩
            case rest =>
            clear HE g22 B22 b3 x0 S22
            have R22 := hcut
            clear hcut
            obtain ⟨lf22, hlf22⟩ : ∃ q, Hid (q = lq22 ++ [y22]) := ⟨_, rfl⟩
            rw [← hlf22.out] at R22 He
            have x23' := R22.ptr
            have H23 := hide (want1 w0 a p r s [59] d22 wc R22.hR)
            go_wp2_with fail
            refine H23.out.mono ?_
            intro e w23 hP
            cases e23 : wantW s [59] d22 with
            | out => exact absurd (by rw [He.out, e23]; rfl) hne.out
            | err c pos =>
              rw [e23] at hP He
              obtain ⟨hGx, N, rfl, hF, hltx⟩ := hP
              go_wp2_with fail
              refine ⟨rfl, ?_⟩
              rw [He.out]
              exact ⟨R22.hG.trans hGx, N, rfl, hF, hltx⟩
            | ok y23 d23 =>
              rw [e23] at hP He
              obtain ⟨hG23, v23, rfl, hR23, rfl⟩ := hP
              clear e23 H23 x23'
              have T23 := R22.call hG23 hR23
              have He : Hid (res = .ok ⟨[115, 101, 116], nm, [], lf22, [], [], []⟩ d23) := He.out
              go_upto_region 14 with fail
              obtain ⟨vv9, xss9, gg9, BB9⟩ := T23.C.B
              obtain ⟨x9, c9, rfl, hrow9⟩ := gg9.row exVals_keeps (by omega)
              have hE9 := exs_of_row hrow9
              have k0 := BB9.cell 0 _ rfl
              have j0 := T23.C.Z.cell 0 _ rfl
              have f0 := T23.C.Z.fr 0
              have k1 := BB9.cell 1 _ rfl
              have j1 := T23.C.Z.cell 1 _ rfl
              have f1 := T23.C.Z.fr 1
              have k2 := BB9.cell 2 _ rfl
              have j2 := T23.C.Z.cell 2 _ rfl
              have f2 := T23.C.Z.fr 2
              have k3 := BB9.cell 3 _ rfl
              have j3 := T23.C.Z.cell 3 _ rfl
              have f3 := T23.C.Z.fr 3
              have k4 := BB9.cell 4 _ rfl
              have j4 := T23.C.Z.cell 4 _ rfl
              have f4 := T23.C.Z.fr 4
              have k5 := BB9.cell 5 _ rfl
              have j5 := T23.C.Z.cell 5 _ rfl
              have f5 := T23.C.Z.fr 5
              have k6 := BB9.cell 6 _ rfl
              have j6 := T23.C.Z.cell 6 _ rfl
              have f6 := T23.C.Z.fr 6
              have hrbk : ¬ (fun b => qb + 1 ≤ b) rb := fun q => by have h9 := T23.C.lay; have : qb + 1 ≤ rb := q; omega
              obtain ⟨fR, fG, fV⟩ := SB.fin (t := ⟨[115, 101, 116], nm, [], lf22, [], [], []⟩) hpw T23.hb.1 hrbk [(0, .string (bs [115, 101, 116])), (1, .string (bs nm)), (2, .string (bs [])), (3, .slice x9 lf22.length c9), (4, .slice none 0 0), (5, .slice none 0 0), (6, .slice none 0 0)] _ T23.hR T23.hG ⟨x9, c9, none, 0, none, 0, none, 0, rfl, hE9, .inl rfl, .nil _, .nil _⟩
              have hqb9 := T23.hb.2.2
              clear gg9 BB9 hrow9 hE9
              go_wp2_with fail
              refine bodyPost_ret (v := .agg #[.string (bs [115, 101, 116]), .string (bs nm), .string (bs []), .slice x9 lf22.length c9, .slice none 0 0, .slice none 0 0, .slice none 0 0]) (by simp [results, Tryz.results244, go_sem, j0, j1, j2, j3, j4, j5, j6]) rfl ?_
              rw [He.out]
              exact ⟨fG, _, rfl, fR, _, rfl, stVals_keeps _ _ _ _ _ _ fV (Nat.le_refl _) (fun _ _ _ => rfl) (fun b q _ => by have : qb + 1 ≤ b := q; omega)⟩
end Go.Proofs.YtbfhaabpfkopdaaGreatDoor
