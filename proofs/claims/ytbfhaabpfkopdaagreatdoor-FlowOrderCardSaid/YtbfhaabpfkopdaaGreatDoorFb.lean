/- Graphs: are they laid (flow.isLaid)? -/
import Derived.Test.YtbfhaabpfkopdaaGreatDoorFm
import Derived.Test.YtbfhaabpfkopdaaGreatDoorN5
import Derived.BigQuiet
namespace Go.Proofs.YtbfhaabpfkopdaaGreatDoor
open Go.RowKit
set_option linter.unusedVariables false

/-- Is a point there? -/
def inP (P q : Int) : Bool := decide (0 ≤ q) && decide (q < P)
def egIn (P : Int) (e : Eg) : Bool := inP P e.fr && inP P e.tt
/-- An edge's cells. -/
def egVals : Rds Eg := fun W ok vs e => ∃ ya da yt dt, vs = [.int .i64 e.fr, .int .i64 e.tt, .string (bs e.kind), .string (bs e.name), .slice ya e.args.length da, .slice yt e.tests.length dt] ∧ ExsAt W ok ya e.args ∧ RowAt teVals 9 W ok yt e.tests
def laidB (P : Int) (E : List Eg) (H : List Int) : Bool := decide (0 ≤ P) && (decide (P ≤ 120) && (decide (E.length ≤ 400) && (E.all (egIn P) && H.all (inP P))))
set_option maxRecDepth 20000 in
set_option maxHeartbeats 2000000 in
theorem hasPoint_any (xv xa xe xh : Option Addr) (nv cv na ca ne ce nh ch : Nat) (P q : Int) (w : World) :
    Calls Tryz.prog 57 #[.agg #[.slice xv nv cv, .slice xa na ca, .int .i64 P, .slice xe ne ce, .slice xh nh ch], .int .i64 q] w fun e w' => e = .returned (.bool (inP P q)) ∧ Below w.heap.size w w' := by
  have hb := (Below.refl w.heap.size w).alloc (Nat.le_refl _) (.cells #[.slice xv nv cv, .slice xa na ca, .int .i64 P, .slice xe ne ce, .slice xh nh ch] 34)
  unfold inP
  by_cases h0 : 0 ≤ q
  · rw [decide_eq_true h0]
    go_enter Tryz.func57, Tryz.ntmps57
    go_wp2_with fail
    go_ret
    exact ⟨ret_bool (by simp), hb⟩
  · rw [decide_eq_false h0]
    go_enter Tryz.func57, Tryz.ntmps57
    go_wp2_with fail
    go_ret
    exact ⟨ret_bool (by simp), hb⟩
/-- What a closure of one number answers. -/
def AskI (fn : Nat) (caps : Array Value) (w : World) (f : Int → Bool) : Prop :=
  ∀ (W : World) (q : Int), Below w.heap.size w W → Calls Tryz.prog fn (#[.int .i64 q] ++ caps) W fun e w' => e = .returned (.bool (f q)) ∧ Below W.heap.size W w'
def IxP (w : World) (b : Bool) (e : Ending) (w' : World) : Prop := ∃ r : Int, e = .returned (.int .i64 r) ∧ Below w.heap.size w w' ∧ ((r = -1 ∧ b = false) ∨ (0 ≤ r ∧ b = true))
theorem anyJ_snoc {l : List Int} {k : Nat} (h : k < l.length) (p : Int → Bool) : (l.take (k + 1)).any p = ((l.take k).any p || p (l.getD k 0)) := by
  rw [List.take_add_one, List.any_append]; simp [h]
theorem anyJ_yes {l : List Int} {k : Nat} (h : k < l.length) {p : Int → Bool} (hp : p (l.getD k 0) = true) : l.any p = true := by
  rw [List.any_eq_true]
  exact ⟨l.getD k 0, by rw [show l.getD k 0 = l[k] by simp [h]]; exact List.getElem_mem h, hp⟩
set_option maxHeartbeats 1000000 in
theorem indexJ_nil (x : Option Addr) (c fn : Nat) (caps : Array Value) (w : World) :
    Calls Tryz.prog 146 #[.slice x 0 c, .func (.func fn) #[] caps] w fun e w' => IxP w false e w' := by
  go_enter Tryz.func146, Tryz.ntmps146
  go_wp2_with fail
  refine wp_loop_rounds 1 ?_
  rw [rounds_succ]
  go_wp2_with fail
  go_ret
  exact ⟨-1, rfl, Below.refl _ _, .inl ⟨rfl, rfl⟩⟩
set_option maxRecDepth 20000 in
set_option maxHeartbeats 2000000 in
theorem indexJ_any (x : Option Addr) (c n fn : Nat) (cap : Value) (f : Int → Bool) (l : List Int) (w : World) (hE : Hid (Enters fn)) (hf : Hid (AskI fn #[cap] w f)) (hI : IntsAt w x l) (hl : Hid (n = l.length)) (hn : n ≤ 1000000000000) :
    Calls Tryz.prog 146 #[.slice x n c, .func (.func fn) #[] #[cap]] w fun e w' => IxP w (l.any f) e w' := by
  rcases hI with rfl | ⟨b, off, rfl, hlt, hcell⟩
  · have : n = 0 := hl.out
    subst this
    exact indexJ_nil x c _ _ w
  have hEn := hE.out
  unfold Enters at hEn
  have hcell' := hide hcell
  clear hcell
  go_enter Tryz.func146, Tryz.ntmps146
  go_wp2_with fail
  go_loopg [8] n (fun gh iv wr => ∃ k : Nat, k + gh = n ∧ iv = .int .i64 k ∧ Hid ((l.take k).any f = false) ∧ Below w.heap.size w wr)
  case atStart => exact ⟨0, by omega, rfl, rfl, Below.refl _ _⟩
  case round =>
    obtain ⟨k, hkg, rfl, HL, hbr⟩ := hrel
    by_cases hk : k < n
    · have hkl : k < l.length := by rw [← hl.out]; exact hk
      have hkn : (k : Int) < (n : Int) := by omega
      obtain ⟨v, hv⟩ : ∃ v, v = l.getD k 0 := ⟨_, rfl⟩
      have c1 := (hbr.cell (p := ⟨b, off + k, none⟩) hlt).trans (hcell'.out k hkl)
      rw [← hv] at c1
      have Hv := hide hv
      obtain ⟨q, hq⟩ : ∃ q, q = f v := ⟨_, rfl⟩
      have HT := hide (hf.out wr v hbr)
      rw [← hq] at HT
      have Hq := hide hq
      clear hq hv
      go_wp2_with fail
      refine HT.out.mono ?_
      rintro e w2 ⟨rfl, hw2⟩
      have hb2 := hbr.trans (hw2.mono hbr.size)
      cases q
      · go_wp2_with fail
        go_roundg (n - (k + 1))
        case measure => omega
        case rel => exact ⟨k + 1, by omega, by go_num, (by show _ = _; rw [anyJ_snoc hkl, HL.out, ← Hv.out, ← Hq.out]; rfl), hb2⟩
      · go_wp2_with fail
        go_ret
        exact ⟨k, rfl, hb2, .inr ⟨by omega, anyJ_yes hkl (by rw [← Hv.out, ← Hq.out])⟩⟩
    · have hkn : ¬ (k : Int) < (n : Int) := by omega
      have ee : Hid (l.any f = false) := by
        show _ = _
        have := HL.out
        rwa [List.take_of_length_le (by rw [← hl.out]; omega)] at this
      go_wp2_with fail
      go_ret
      exact ⟨-1, rfl, hbr, .inl ⟨rfl, ee.out⟩⟩
set_option maxHeartbeats 1000000 in
theorem containsJ_any (x : Option Addr) (c n fn : Nat) (cap : Value) (f : Int → Bool) (l : List Int) (w : World) (hE : Hid (Enters fn)) (hf : Hid (AskI fn #[cap] w f)) (hI : IntsAt w x l) (hl : Hid (n = l.length)) (hn : n ≤ 1000000000000) :
    Calls Tryz.prog 93 #[.slice x n c, .func (.func fn) #[] #[cap]] w fun e w' => e = .returned (.bool (l.any f)) ∧ Below w.heap.size w w' := by
  have HI := hide (indexJ_any x c n fn cap f l w hE hf hI hl hn)
  obtain ⟨q, hq⟩ : ∃ q, q = l.any f := ⟨_, rfl⟩
  rw [← hq] at HI ⊢
  clear hq
  go_enter Tryz.func93, Tryz.ntmps93
  go_wp2_with fail
  refine HI.out.mono ?_
  rintro e w2 ⟨r, rfl, hb2, hr⟩
  rcases hr with ⟨rfl, rfl⟩ | ⟨hr, rfl⟩
  · go_wp2_with fail
    go_ret
    exact ⟨rfl, hb2⟩
  · go_wp2_with fail
    go_ret
    exact ⟨ret_bool (by simp), hb2⟩
theorem enters_laid1 : Enters 94 := enters_of Tryz.func94 (by kernel_rfl) rfl
set_option maxRecDepth 20000 in
set_option maxHeartbeats 2000000 in
theorem laid1_any (xv xa xe xh : Option Addr) (nv cv na ca ne ce nh ch gb : Nat) (P : Int) (w : World) (hB : BoxN w gb [.slice xv nv cv, .slice xa na ca, .int .i64 P, .slice xe ne ce, .slice xh nh ch]) : AskI 94 #[.pointer (some ⟨gb, 0, none⟩)] w (fun q => !inP P q) := by
  intro W q hb
  have B := hB.bel hb
  have c0 := B.cell 0 _ rfl
  have c1 := B.cell 1 _ rfl
  have c2 := B.cell 2 _ rfl
  have c3 := B.cell 3 _ rfl
  have c4 := B.cell 4 _ rfl
  have HP := hide (hasPoint_any xv xa xe xh nv cv na ca ne ce nh ch P q W)
  show Calls Tryz.prog 94 #[.int .i64 q, .pointer (some ⟨gb, 0, none⟩)] W _
  obtain ⟨r, hr⟩ : ∃ r, r = inP P q := ⟨_, rfl⟩
  rw [← hr] at HP
  simp only [← hr]
  clear hr
  go_enter Tryz.func94, Tryz.ntmps94
  go_wp2_with fail
  refine HP.out.mono ?_
  rintro e w2 ⟨rfl, hb2⟩
  go_wp2_with fail
  go_ret
  exact ⟨ret_bool (by cases r <;> rfl), hb2⟩
end Go.Proofs.YtbfhaabpfkopdaaGreatDoor

/- Graphs: are they laid (flow.isLaid)? -/
namespace Go.Proofs.YtbfhaabpfkopdaaGreatDoor
open Go.RowKit
set_option linter.unusedVariables false

theorem egIn_snoc {E : List Eg} {P : Int} {k : Nat} {e : Eg} (he : E[k]? = some e) : (E.take (k + 1)).all (egIn P) = ((E.take k).all (egIn P) && egIn P e) := by
  rw [List.take_add_one, he, Option.toList_some, List.all_append]
  simp
theorem egIn_no {E : List Eg} {P : Int} {k : Nat} {e : Eg} (he : E[k]? = some e) (h : egIn P e = false) : E.all (egIn P) = false := by
  rw [List.all_eq_false]
  exact ⟨e, List.mem_of_getElem? he, by rw [h]; simp⟩
theorem any_not (H : List Int) (P : Int) : (!H.any fun q => !inP P q) = H.all (inP P) := by
  induction H with
  | nil => rfl
  | cons a l ih => simp only [List.any_cons, List.all_cons, Bool.not_or, Bool.not_not, ih]
set_option maxRecDepth 20000 in
set_option maxHeartbeats 4000000 in
theorem isLaid_any (xv xa xe xh : Option Addr) (nv cv na ca ne ce nh ch : Nat) (P : Int) (E : List Eg) (H : List Int) (w : World) (hE : RowAt egVals 6 w Any xe E) (hH : IntsAt w xh H) (hne : Hid (ne = E.length)) (hnh : Hid (nh = H.length)) (hn1 : ne ≤ 1000000000000000) (hn2 : nh ≤ 1000000000000) :
    Calls Tryz.prog 51 #[.agg #[.slice xv nv cv, .slice xa na ca, .int .i64 P, .slice xe ne ce, .slice xh nh ch]] w fun e w' => e = .returned (.bool (laidB P E H)) ∧ Below w.heap.size w w' := by
  have hb0 := (Below.refl w.heap.size w).alloc (Nat.le_refl _) (.cells #[.slice xv nv cv, .slice xa na ca, .int .i64 P, .slice xe ne ce, .slice xh nh ch] 34)
  have B0 := BoxN.new w 34 [.slice xv nv cv, .slice xa na ca, .int .i64 P, .slice xe ne ce, .slice xh nh ch]
  obtain ⟨W0, hW0⟩ : ∃ X, X = w.alloc (.cells #[.slice xv nv cv, .slice xa na ca, .int .i64 P, .slice xe ne ce, .slice xh nh ch] 34) := ⟨_, rfl⟩
  have B0 : BoxN W0 w.heap.size [.slice xv nv cv, .slice xa na ca, .int .i64 P, .slice xe ne ce, .slice xh nh ch] := by rw [hW0]; exact B0
  have hb0 : Below w.heap.size w W0 := by rw [hW0]; exact hb0
  obtain ⟨r, hr⟩ : ∃ r, r = laidB P E H := ⟨_, rfl⟩
  rw [← hr]
  unfold laidB at hr
  rw [← hne.out] at hr
  go_enter Tryz.func51, Tryz.ntmps51
  go_upto_region 1 with fail
  change Code.wp _ _ _ _ (w.alloc (.cells #[.slice xv nv cv, .slice xa na ca, .int .i64 P, .slice xe ne ce, .slice xh nh ch] 34))
  rw [← hW0]
  clear hW0
  obtain ⟨gb, hgb⟩ : ∃ g, g = w.heap.size := ⟨_, rfl⟩
  rw [← hgb] at B0 ⊢
  clear hgb
  have c2 := B0.cell 2 _ rfl
  have c3 := B0.cell 3 _ rfl
  have c4 := B0.cell 4 _ rfl
  by_cases p0 : P < 0
  · have e0 : r = false := by rw [hr, decide_eq_false (by omega)]; rfl
    clear hr
    subst e0
    go_wp2_with fail
    go_ret
    exact ⟨rfl, hb0⟩
  by_cases p1 : 120 < P
  · have e0 : r = false := by rw [hr, decide_eq_false (p := P ≤ 120) (by omega)]; simp
    clear hr
    subst e0
    go_wp2_with fail
    go_ret
    exact ⟨rfl, hb0⟩
  by_cases p2 : 400 < ne
  · have e0 : r = false := by rw [hr, decide_eq_false (p := ne ≤ 400) (by omega)]; simp
    have p2' : (400 : Int) < (ne : Int) := by omega
    clear hr
    subst e0
    go_wp2_with fail
    go_ret
    exact ⟨rfl, hb0⟩
  have p2' : ¬ (400 : Int) < (ne : Int) := by omega
  have Hr : Hid (r = (E.all (egIn P) && H.all (inP P))) := by
    show _ = _
    rw [hr, decide_eq_true (by omega), decide_eq_true (by omega), decide_eq_true (by omega)]
    simp
  clear hr
  go_wp2_with fail
  go_loopg [22] ne (fun gh iv wx => ∃ k : Nat, k + gh = ne ∧ iv = .int .i64 k ∧ Hid ((E.take k).all (egIn P) = true) ∧ Below w.heap.size w wx ∧ BoxN wx gb [.slice xv nv cv, .slice xa na ca, .int .i64 P, .slice xe ne ce, .slice xh nh ch])
  case atStart => exact ⟨0, by omega, rfl, rfl, hb0, B0⟩
  case round =>
    clear c2 c3 c4 B0 hb0
    obtain ⟨k, hkg, rfl, HL, hb, B⟩ := hrel
    have c0 := B.cell 0 _ rfl
    have c1 := B.cell 1 _ rfl
    have c2 := B.cell 2 _ rfl
    have c3 := B.cell 3 _ rfl
    have c4 := B.cell 4 _ rfl
    by_cases hk : k < ne
    · have hk' : (k : Int) < (ne : Int) := by omega
      obtain ⟨e, he⟩ : ∃ e, E[k]? = some e := ⟨_, List.getElem?_eq_getElem (by rw [← hne.out]; exact hk)⟩
      obtain ⟨b, off, rfl, hlt, vs, hvl, vk, ya, da, yt, dt, rfl, _, _⟩ := hE.elem he
      have k0 := (hb.cell (p := ⟨b, off + k * 6 + 0, none⟩) hlt).trans (vk 0 _ rfl)
      have k1 := (hb.cell (p := ⟨b, off + k * 6 + 1, none⟩) hlt).trans (vk 1 _ rfl)
      have k2 := (hb.cell (p := ⟨b, off + k * 6 + 2, none⟩) hlt).trans (vk 2 _ rfl)
      have k3 := (hb.cell (p := ⟨b, off + k * 6 + 3, none⟩) hlt).trans (vk 3 _ rfl)
      have k4 := (hb.cell (p := ⟨b, off + k * 6 + 4, none⟩) hlt).trans (vk 4 _ rfl)
      have k5 := (hb.cell (p := ⟨b, off + k * 6 + 5, none⟩) hlt).trans (vk 5 _ rfl)
      simp only [Nat.add_zero] at k0
      have Hsn := hide (egIn_snoc (P := P) he)
      have Hno := hide (fun h => egIn_no (P := P) he h)
      clear vk he
      have hbA := (Below.refl wr.heap.size wr).alloc (Nat.le_refl _) (.cells #[.int .i64 e.fr, .int .i64 e.tt, .string (bs e.kind), .string (bs e.name), .slice ya e.args.length da, .slice yt e.tests.length dt] 69)
      have EB := BoxN.new wr 69 [.int .i64 e.fr, .int .i64 e.tt, .string (bs e.kind), .string (bs e.name), .slice ya e.args.length da, .slice yt e.tests.length dt]
      obtain ⟨W1, hW1⟩ : ∃ X, X = wr.alloc (.cells #[.int .i64 e.fr, .int .i64 e.tt, .string (bs e.kind), .string (bs e.name), .slice ya e.args.length da, .slice yt e.tests.length dt] 69) := ⟨_, rfl⟩
      have EB : BoxN W1 wr.heap.size [.int .i64 e.fr, .int .i64 e.tt, .string (bs e.kind), .string (bs e.name), .slice ya e.args.length da, .slice yt e.tests.length dt] := by rw [hW1]; exact EB
      have hbA : Below wr.heap.size wr W1 := by rw [hW1]; exact hbA
      go_upto_region 6 with fail
      change Code.wp _ _ _ _ (wr.alloc (.cells #[.int .i64 e.fr, .int .i64 e.tt, .string (bs e.kind), .string (bs e.name), .slice ya e.args.length da, .slice yt e.tests.length dt] 69))
      rw [← hW1]
      clear hW1
      obtain ⟨q, hq⟩ : ∃ g, g = wr.heap.size := ⟨_, rfl⟩
      rw [← hq] at EB ⊢
      clear hq k0 k1 k2 k3 k4 k5 c0 c1 c2 c3 c4
      have B1 := B.bel hbA
      have hb1 := hb.trans (hbA.mono hb.size)
      have c0 := B1.cell 0 _ rfl
      have c1 := B1.cell 1 _ rfl
      have c2 := B1.cell 2 _ rfl
      have c3 := B1.cell 3 _ rfl
      have c4 := B1.cell 4 _ rfl
      have d0 := EB.cell 0 _ rfl
      have d1 := EB.cell 1 _ rfl
      have HP := hide (hasPoint_any xv xa (some ⟨b, off, none⟩) xh nv cv na ca ne ce nh ch P e.fr W1)
      obtain ⟨u, hu⟩ : ∃ u, u = inP P e.fr := ⟨_, rfl⟩
      rw [← hu] at HP
      have Hu := hide hu
      clear hu
      cases u
      · have hF : Hid (egIn P e = false) := by show _ = _; unfold egIn; rw [← Hu.out]; rfl
        go_wp2_with fail
        refine HP.out.mono ?_
        rintro e' w2 ⟨rfl, hb2⟩
        go_wp2_with fail
        go_ret
        exact ⟨by rw [Hr.out, Hno.out hF.out]; rfl, hb1.trans (hb2.mono hb1.size)⟩
      · go_wp2_with fail
        refine HP.out.mono ?_
        rintro e' w2 ⟨rfl, hb2⟩
        have B2 := B1.bel hb2
        have EB2 := EB.bel hb2
        have hbx := hb1.trans (hb2.mono hb1.size)
        clear c0 c1 c2 c3 c4 d0 d1 HP
        have c0 := B2.cell 0 _ rfl
        have c1 := B2.cell 1 _ rfl
        have c2 := B2.cell 2 _ rfl
        have c3 := B2.cell 3 _ rfl
        have c4 := B2.cell 4 _ rfl
        have d1 := EB2.cell 1 _ rfl
        have HP := hide (hasPoint_any xv xa (some ⟨b, off, none⟩) xh nv cv na ca ne ce nh ch P e.tt w2)
        obtain ⟨u, hu⟩ : ∃ u, u = inP P e.tt := ⟨_, rfl⟩
        rw [← hu] at HP
        have Hv := hide hu
        clear hu
        go_wp2_with fail
        refine HP.out.mono ?_
        rintro e' w3 ⟨rfl, hb3⟩
        have hb4 := hbx.trans (hb3.mono hbx.size)
        have B3 := B2.bel hb3
        cases u
        · have hF : Hid (egIn P e = false) := by show _ = _; unfold egIn; rw [← Hv.out]; simp
          go_wp2_with fail
          go_ret
          exact ⟨by rw [Hr.out, Hno.out hF.out]; rfl, hb4⟩
        · have hF : Hid (egIn P e = true) := by show _ = _; unfold egIn; rw [← Hv.out, ← Hu.out]; rfl
          go_wp2_with fail
          go_roundg (ne - (k + 1))
          case measure => omega
          case rel => exact ⟨k + 1, by omega, by go_num, (by show _ = _; rw [Hsn.out, HL.out, hF.out]; rfl), hb4, B3⟩
    · have hk' : ¬ (k : Int) < (ne : Int) := by omega
      have Hall : Hid (E.all (egIn P) = true) := by
        show _ = _
        have := HL.out
        rwa [List.take_of_length_le (by rw [← hne.out]; omega)] at this
      have HC := hide (containsJ_any xh ch nh 94 (.pointer (some ⟨gb, 0, none⟩)) (fun q => !inP P q) H wr (hide enters_laid1) (hide (laid1_any xv xa xe xh nv cv na ca ne ce nh ch gb P wr B)) (hH.below hb) hnh hn2)
      obtain ⟨u, hu⟩ : ∃ u, u = H.any (fun q => !inP P q) := ⟨_, rfl⟩
      rw [← hu] at HC
      have Hu := hide hu
      clear hu
      go_wp2_with fail
      refine HC.out.mono ?_
      rintro e' w2 ⟨rfl, hb2⟩
      go_wp2_with fail
      go_ret
      exact ⟨by rw [Hr.out, Hall.out, ← any_not, ← Hu.out]; cases u <;> rfl, hb.trans (hb2.mono hb.size)⟩
end Go.Proofs.YtbfhaabpfkopdaaGreatDoor
