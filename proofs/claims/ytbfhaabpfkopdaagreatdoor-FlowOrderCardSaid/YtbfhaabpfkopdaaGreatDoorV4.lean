/- The language: a writer: a term, given how its parts are written. -/
import Derived.Test.YtbfhaabpfkopdaaGreatDoorV2
namespace Go.Proofs.YtbfhaabpfkopdaaGreatDoor
open Go.RowKit Go.Maps Go.WideMaps
set_option linter.unusedVariables false

theorem RolesAt.look2 {W : World} {r : Nat} (h : RolesAt W r) (t : Bs) (ht : t.length ≤ maxLen) : (Instr.lookup 220 (.map (some r)) (.string (bs t)) false).run Tryz.prog W = .ok (.int .i64 (roleTab t)) W := by
  have hkey : keyOf Tryz.prog 9 (.string (bs t)) = some (.string t) := by
    have := keyOf_string_mk (P := Tryz.prog) Tryz.underlying9 (s := bs t) (by rw [bs_size]; exact ht)
    rw [bs_list] at this; exact this
  obtain ⟨c, hrun, hat, _⟩ := World.ownsMap.lookup_int h Tryz.lawStr Tryz.underlying220 Tryz.underlying222 (Tryz.zeroRole _) hkey
  rw [tab_at] at hat
  rw [hrun]
  simp only [DataW.lit.injEq, Lit.int.injEq, true_and] at hat
  rw [hat]
theorem roleTab_le (t : Bs) : 0 ≤ roleTab t ∧ roleTab t ≤ 8 := by
  have tabs : ∀ p ∈ tab.reverse, 0 ≤ p.2 ∧ p.2 ≤ 8 := by decide
  unfold roleTab
  cases hf : tab.reverse.find? (fun p => p.1 == t) with
  | none => simp
  | some q => exact tabs q (List.mem_of_find?_eq_some hf)

set_option maxRecDepth 20000 in
set_option maxHeartbeats 8000000 in
theorem term_step (w0 : World) (q r k : Nat) (HT : Hid (TermC w0 q r k)) : TermC w0 q r (k + 1) := by
  intro w e x cap least st h hk hs hx hl0 hl9
  obtain ⟨res, hres⟩ : ∃ res, res = exW (k + 1) e least st := ⟨_, rfl⟩
  have He := hide hres
  rw [← hres]
  clear hres
  unfold exW at He
  have hlen := hs.len
  have B := BoxT.new w 121 [.string (bs e.op), .int .i64 e.n, .string (bs e.name), .slice x e.l.length cap]
  have hW0 := h.alloc (.cells [.string (bs e.op), .int .i64 e.n, .string (bs e.name), .slice x e.l.length cap].toArray 121)
  have F0 : Fr q w (w.alloc (.cells [.string (bs e.op), .int .i64 e.n, .string (bs e.name), .slice x e.l.length cap].toArray 121)) := (Fr.refl _ _).alloc _
  have hbq : w.heap.size ≠ q := by have := h.lt; omega
  obtain ⟨W0, hW0e⟩ : ∃ W, W = w.alloc (.cells [.string (bs e.op), .int .i64 e.n, .string (bs e.name), .slice x e.l.length cap].toArray 121) := ⟨_, rfl⟩
  rw [← hW0e] at B hW0 F0
  have H1 := hide (count_any w0 q r st W0 hW0)
  go_enter Tryz.func213, Tryz.ntmps213
  go_upto_region 1 with fail
  change Code.wp _ _ _ _ (w.alloc (.cells [.string (bs e.op), .int .i64 e.n, .string (bs e.name), .slice x e.l.length cap].toArray 121))
  rw [← hW0e]
  obtain ⟨g, hg⟩ : ∃ g, g = w.heap.size := ⟨_, rfl⟩
  rw [← hg] at B hbq ⊢
  clear hg hW0e h
  go_wp2_with fail
  refine H1.out.mono ?_
  intro e' w1 hP
  by_cases hc : 4000 < st.2 + 1
  · rw [if_pos hc] at hP He
    obtain ⟨hF1, rfl, hb1⟩ := hP
    go_wp2_with fail
    refine ⟨rfl, ?_⟩
    show WPost _ _ _ _ _ _ _
    rw [He.out]
    exact ⟨F0.trans hF1, rfl, hb1⟩
  rw [if_neg hc] at hP He
  obtain ⟨hF1, rfl, hW1⟩ := hP
  have B1 := B.fr hF1 hbq (by decide)
  have F1 := F0.trans hF1
  have hbd : Below w1.heap.size w1 w1.drew := (Below.refl _ _).drew
  have hlk := (hW1.rolesAt.below hbd).look2 e.op hs.op
  have c2 : w1.drew.cell? ⟨q, 2, none⟩ = some (.map (some r)) := by
    obtain ⟨ad, v, hq, _⟩ := hW1.blk
    have hq' : w1.drew.heap[q]? = _ := hq
    rw [Lib.cell_of_heap hq']; rfl
  have hW1 := hW1.below hbd
  have B1 := B1.bel hbd
  have F1 := F1.trans (Fr.of hbd)
  have k0 := B1.cell 0 _ rfl
  obtain ⟨sg, hsg⟩ : ∃ z, z = roleTab e.op := ⟨_, rfl⟩
  have hsl := roleTab_le e.op
  rw [← hsg] at hlk hsl He
  clear hsg H1 hc hbd
  go_upto_region 2 with fail
  go_region
  obtain ⟨W2, hW2⟩ : ∃ W, W = w1.drew := ⟨_, rfl⟩
  obtain ⟨s1, hs1⟩ : ∃ s : Wst, Hid (s = (st.1, st.2 + 1)) := ⟨_, rfl⟩
  have hk1 : 4001 ≤ s1.2 + k := by rw [hs1.out]; simp; omega
  rw [← hs1.out] at He hW1
  rw [← hW2] at hW1 B1 F1 k0 ⊢
  clear hW2 hs1 hk
  have n1 := B1.cell 1 _ rfl
  have n2 := B1.cell 2 _ rfl
  have n3 := B1.cell 3 _ rfl
  clear c2 hlk
  by_cases kN : e.op = [110, 117, 109]
  · rw [if_pos kN] at He
    have kN' : (e.op == [110, 117, 109]) = true := by simp [kN]
    clear kN
    have H9 := hide (itoa_any e.n hs.num W2 hW1.lgW)
    go_wp2_with fail
    refine H9.out.mono ?_
    rintro e' w9 ⟨rfl, hb9⟩
    have hW9 := hW1.below hb9
    have B9 := B1.bel hb9
    have F9 := F1.trans (Fr.of hb9)
    have H3 := hide (put1 w0 q r s1 (Lib.itoa e.n) w9 hW9)
    go_wp2_with fail
    refine H3.out.mono ?_
    intro e' w3 hP
    cases e3 : putW [Lib.itoa e.n] s1 with
    | none =>
      rw [e3] at hP He
      obtain ⟨hFx, rfl, hbx⟩ := hP
      go_wp2_with fail
      refine ⟨rfl, ?_⟩
      show WPost _ _ _ _ _ _ _
      rw [He.out]
      exact ⟨F9.trans hFx, rfl, hbx⟩
    | some s3 =>
      rw [e3] at hP He
      obtain ⟨hFx, rfl, hW3⟩ := hP
      have He : Hid (res = some s3) := He.out
      clear H3
      have B3 := B9.fr hFx hbq (by decide)
      have F3 := F9.trans hFx
      have n3 := B3.cell 3 _ rfl
      go_wp2_with fail
      go_end0
      show WPost _ _ _ _ _ _ _
      rw [He.out]
      exact ⟨F3, rfl, hW3⟩
  rw [if_neg kN] at He
  have kN' : (e.op == [110, 117, 109]) = false := by simp [kN]
  clear kN
  by_cases kV : e.op = [118, 97, 114]
  · rw [if_pos kV] at He
    have kV' : (e.op == [118, 97, 114]) = true := by simp [kV]
    clear kV
    have H4 := hide (put1 w0 q r s1 e.name W2 hW1)
    go_wp2_with fail
    refine H4.out.mono ?_
    intro e' w4 hP
    cases e4 : putW [e.name] s1 with
    | none =>
      rw [e4] at hP He
      obtain ⟨hFx, rfl, hbx⟩ := hP
      go_wp2_with fail
      refine ⟨rfl, ?_⟩
      show WPost _ _ _ _ _ _ _
      rw [He.out]
      exact ⟨F1.trans hFx, rfl, hbx⟩
    | some s4 =>
      rw [e4] at hP He
      obtain ⟨hFx, rfl, hW4⟩ := hP
      have He : Hid (res = some s4) := He.out
      clear H4
      have B4 := B1.fr hFx hbq (by decide)
      have F4 := F1.trans hFx
      have n3 := B4.cell 3 _ rfl
      go_wp2_with fail
      go_end0
      show WPost _ _ _ _ _ _ _
      rw [He.out]
      exact ⟨F4, rfl, hW4⟩
  rw [if_neg kV] at He
  have kV' : (e.op == [118, 97, 114]) = false := by simp [kV]
  clear kV
  by_cases kA : e.op = [97, 116]
  · rw [if_pos kA] at He
    have kA' : (e.op == [97, 116]) = true := by simp [kA]
    clear kA
    have H5 := hide (put2 w0 q r s1 e.name [91] W2 hW1)
    go_wp2_with fail
    refine H5.out.mono ?_
    intro e' w5 hP
    cases e5 : putW [e.name, [91]] s1 with
    | none =>
      rw [e5] at hP He
      obtain ⟨hFx, rfl, hbx⟩ := hP
      go_wp2_with fail
      refine ⟨rfl, ?_⟩
      show WPost _ _ _ _ _ _ _
      rw [He.out]
      exact ⟨F1.trans hFx, rfl, hbx⟩
    | some s5 =>
      rw [e5] at hP He
      obtain ⟨hFx, rfl, hW5⟩ := hP
      have He : Hid (res = (pickW e.l 0 fun a => exW k a 7 s5).bind fun st => putW [[93]] st) := He.out
      clear H5
      have B5 := B1.fr hFx hbq (by decide)
      have F5 := F1.trans hFx
      have n3 := B5.cell 3 _ rfl
      have u5 := putW_up _ _ _ e5
      cases p6 : e.l[0]? with
      | none =>
        have H6 := hide (pick_none e.l 0 x cap w5 hlen (none_le p6) (by omega))
        have He : Hid (res = none) := by show _ = _; rw [He.out, pickW_none p6]; rfl
        have hbel := hW5.bel
        go_wp2_with fail
        refine H6.out.mono ?_
        rintro e' w6 ⟨rfl, hbx⟩
        go_wp2_with fail
        refine ⟨rfl, ?_⟩
        show WPost _ _ _ _ _ _ _
        rw [He.out]
        exact ⟨F5.trans (Fr.of hbx), rfl, hbel.trans (hbx.mono hbel.size)⟩
      | some a6 =>
        have H6 := hide (pick_some w0 e.l 0 a6 x cap w5 hW5.bel hx hlen p6 (by omega))
        have He : Hid (res = (exW k a6 7 s5).bind fun st => putW [[93]] st) := by show _ = _; rw [He.out, pickW_some p6]
        go_wp2_with fail
        refine H6.out.mono ?_
        rintro e' w6 ⟨⟨xa6, ca6, rfl, hxa6⟩, hbx⟩
        have hW6 := hW5.below hbx
        have B6 := B5.bel hbx
        have F6 := F5.trans (Fr.of hbx)
        have H7 := hide (HT.out w6 a6 xa6 ca6 7 s5 hW6 (by have := u5.2; omega) (hs.at p6) hxa6 (by omega) (by omega))
        go_wp2_with fail
        refine H7.out.mono ?_
        intro e' w7 hP
        cases e7 : exW k a6 7 s5 with
        | none =>
          rw [e7] at hP He
          obtain ⟨hFx, rfl, hbx⟩ := hP
          go_wp2_with fail
          refine ⟨rfl, ?_⟩
          show WPost _ _ _ _ _ _ _
          rw [He.out]
          exact ⟨F6.trans hFx, rfl, hbx⟩
        | some s7 =>
          rw [e7] at hP He
          obtain ⟨hFx, rfl, hW7⟩ := hP
          have He : Hid (res = putW [[93]] s7) := He.out
          clear H7
          have B7 := B6.fr hFx hbq (by decide)
          have F7 := F6.trans hFx
          have n3 := B7.cell 3 _ rfl
          have H8 := hide (put1 w0 q r s7 [93] w7 hW7)
          go_wp2_with fail
          refine H8.out.mono ?_
          intro e' w8 hP
          cases e8 : putW [[93]] s7 with
          | none =>
            rw [e8] at hP He
            obtain ⟨hFx, rfl, hbx⟩ := hP
            go_wp2_with fail
            refine ⟨rfl, ?_⟩
            show WPost _ _ _ _ _ _ _
            rw [He.out]
            exact ⟨F7.trans hFx, rfl, hbx⟩
          | some s8 =>
            rw [e8] at hP He
            obtain ⟨hFx, rfl, hW8⟩ := hP
            have He : Hid (res = some s8) := He.out
            clear H8
            have B8 := B7.fr hFx hbq (by decide)
            have F8 := F7.trans hFx
            have n3 := B8.cell 3 _ rfl
            go_wp2_with fail
            go_end0
            show WPost _ _ _ _ _ _ _
            rw [He.out]
            exact ⟨F8, rfl, hW8⟩
  rw [if_neg kA] at He
  have kA' : (e.op == [97, 116]) = false := by simp [kA]
  clear kA
  by_cases kG : e.op = [110, 101, 103]
  · rw [if_pos kG] at He
    have kG' : (e.op == [110, 101, 103]) = true := by simp [kG]
    clear kG
    have H9 := hide (put1 w0 q r s1 [45] W2 hW1)
    go_wp2_with fail
    refine H9.out.mono ?_
    intro e' w9 hP
    cases e9 : putW [[45]] s1 with
    | none =>
      rw [e9] at hP He
      obtain ⟨hFx, rfl, hbx⟩ := hP
      go_wp2_with fail
      refine ⟨rfl, ?_⟩
      show WPost _ _ _ _ _ _ _
      rw [He.out]
      exact ⟨F1.trans hFx, rfl, hbx⟩
    | some s9 =>
      rw [e9] at hP He
      obtain ⟨hFx, rfl, hW9⟩ := hP
      have He : Hid (res = pickW e.l 0 fun a => exW k a 9 s9) := He.out
      clear H9
      have B9 := B1.fr hFx hbq (by decide)
      have F9 := F1.trans hFx
      have n3 := B9.cell 3 _ rfl
      have u9 := putW_up _ _ _ e9
      cases p10 : e.l[0]? with
      | none =>
        have H10 := hide (pick_none e.l 0 x cap w9 hlen (none_le p10) (by omega))
        have He : Hid (res = none) := by show _ = _; rw [He.out, pickW_none p10]
        have hbel := hW9.bel
        go_wp2_with fail
        refine H10.out.mono ?_
        rintro e' w10 ⟨rfl, hbx⟩
        go_wp2_with fail
        refine ⟨rfl, ?_⟩
        show WPost _ _ _ _ _ _ _
        rw [He.out]
        exact ⟨F9.trans (Fr.of hbx), rfl, hbel.trans (hbx.mono hbel.size)⟩
      | some a10 =>
        have H10 := hide (pick_some w0 e.l 0 a10 x cap w9 hW9.bel hx hlen p10 (by omega))
        have He : Hid (res = exW k a10 9 s9) := by show _ = _; rw [He.out, pickW_some p10]
        go_wp2_with fail
        refine H10.out.mono ?_
        rintro e' w10 ⟨⟨xa10, ca10, rfl, hxa10⟩, hbx⟩
        have hW10 := hW9.below hbx
        have B10 := B9.bel hbx
        have F10 := F9.trans (Fr.of hbx)
        have H11 := hide (HT.out w10 a10 xa10 ca10 9 s9 hW10 (by have := u9.2; omega) (hs.at p10) hxa10 (by omega) (by omega))
        go_wp2_with fail
        refine H11.out.mono ?_
        intro e' w11 hP
        cases e11 : exW k a10 9 s9 with
        | none =>
          rw [e11] at hP He
          obtain ⟨hFx, rfl, hbx⟩ := hP
          go_wp2_with fail
          refine ⟨rfl, ?_⟩
          show WPost _ _ _ _ _ _ _
          rw [He.out]
          exact ⟨F10.trans hFx, rfl, hbx⟩
        | some s11 =>
          rw [e11] at hP He
          obtain ⟨hFx, rfl, hW11⟩ := hP
          have He : Hid (res = some s11) := He.out
          clear H11
          have B11 := B10.fr hFx hbq (by decide)
          have F11 := F10.trans hFx
          have n3 := B11.cell 3 _ rfl
          go_wp2_with fail
          go_end0
          show WPost _ _ _ _ _ _ _
          rw [He.out]
          exact ⟨F11, rfl, hW11⟩
  rw [if_neg kG] at He
  have kG' : (e.op == [110, 101, 103]) = false := by simp [kG]
  clear kG
  by_cases k7 : sg < 7
  · rw [if_pos k7] at He
    have hbel := hW1.bel
    go_wp2_with fail
    refine ⟨rfl, ?_⟩
    show WPost _ _ _ _ _ _ _
    rw [He.out]
    exact ⟨F1, rfl, hbel⟩
  rw [if_neg k7] at He
  have n0 := B1.cell 0 _ rfl
  by_cases kL : sg < least
  · rw [if_pos kL] at He
    have H12 := hide (put1 w0 q r s1 [40] W2 hW1)
    go_wp2_with fail
    refine H12.out.mono ?_
    intro e' w12 hP
    cases e12 : putW [[40]] s1 with
    | none =>
      rw [e12] at hP He
      obtain ⟨hFx, rfl, hbx⟩ := hP
      go_wp2_with fail
      refine ⟨rfl, ?_⟩
      show WPost _ _ _ _ _ _ _
      rw [He.out]
      exact ⟨F1.trans hFx, rfl, hbx⟩
    | some s12 =>
      rw [e12] at hP He
      obtain ⟨hFx, rfl, hW12⟩ := hP
      have He : Hid (res = (pairW (exW k) e sg s12).bind fun st => putW [[41]] st) := He.out
      clear H12
      have B12 := B1.fr hFx hbq (by decide)
      have F12 := F1.trans hFx
      have n3 := B12.cell 3 _ rfl
      have u12 := putW_up _ _ _ e12
      have m0 := B12.cell 0 _ rfl
      have m1 := B12.cell 1 _ rfl
      have m2 := B12.cell 2 _ rfl
      have H13 := hide (pair_any w0 q r k HT w12 e x cap sg s12 hW12 (by have := u12.2; omega) hs hx (by omega) (by omega))
      go_wp2_with fail
      refine H13.out.mono ?_
      intro e' w13 hP
      cases e13 : pairW (exW k) e sg s12 with
      | none =>
        rw [e13] at hP He
        obtain ⟨hFx, rfl, hbx⟩ := hP
        go_wp2_with fail
        refine ⟨rfl, ?_⟩
        show WPost _ _ _ _ _ _ _
        rw [He.out]
        exact ⟨F12.trans hFx, rfl, hbx⟩
      | some s13 =>
        rw [e13] at hP He
        obtain ⟨hFx, rfl, hW13⟩ := hP
        have He : Hid (res = putW [[41]] s13) := He.out
        clear H13
        have B13 := B12.fr hFx hbq (by decide)
        have F13 := F12.trans hFx
        have n3 := B13.cell 3 _ rfl
        have H14 := hide (put1 w0 q r s13 [41] w13 hW13)
        go_wp2_with fail
        refine H14.out.mono ?_
        intro e' w14 hP
        cases e14 : putW [[41]] s13 with
        | none =>
          rw [e14] at hP He
          obtain ⟨hFx, rfl, hbx⟩ := hP
          go_wp2_with fail
          refine ⟨rfl, ?_⟩
          show WPost _ _ _ _ _ _ _
          rw [He.out]
          exact ⟨F13.trans hFx, rfl, hbx⟩
        | some s14 =>
          rw [e14] at hP He
          obtain ⟨hFx, rfl, hW14⟩ := hP
          have He : Hid (res = some s14) := He.out
          clear H14
          have B14 := B13.fr hFx hbq (by decide)
          have F14 := F13.trans hFx
          have n3 := B14.cell 3 _ rfl
          go_wp2_with fail
          go_end0
          show WPost _ _ _ _ _ _ _
          rw [He.out]
          exact ⟨F14, rfl, hW14⟩
  rw [if_neg kL] at He
  have H15 := hide (pair_any w0 q r k HT W2 e x cap sg s1 hW1 hk1 hs hx (by omega) (by omega))
  go_wp2_with fail
  refine H15.out.mono ?_
  intro e' w15 hP
  cases e15 : pairW (exW k) e sg s1 with
  | none =>
    rw [e15] at hP He
    obtain ⟨hFx, rfl, hbx⟩ := hP
    go_wp2_with fail
    refine ⟨rfl, ?_⟩
    show WPost _ _ _ _ _ _ _
    rw [He.out]
    exact ⟨F1.trans hFx, rfl, hbx⟩
  | some s15 =>
    rw [e15] at hP He
    obtain ⟨hFx, rfl, hW15⟩ := hP
    have He : Hid (res = some s15) := He.out
    clear H15
    have B15 := B1.fr hFx hbq (by decide)
    have F15 := F1.trans hFx
    have n3 := B15.cell 3 _ rfl
    go_wp2_with fail
    go_end0
    show WPost _ _ _ _ _ _ _
    rw [He.out]
    exact ⟨F15, rfl, hW15⟩
theorem term_any (w0 : World) (q r : Nat) : ∀ k, TermC w0 q r k
  | 0 => fun W e x cap least st h hk _ _ _ _ => by have := h.cnt; omega
  | k + 1 => term_step w0 q r k (hide (term_any w0 q r k))
/-- A term of its own. -/
theorem tm_any (w0 : World) (q r : Nat) (W : World) (e : Ex) (x : Option Addr) (cap : Nat) (st : Wst) (h : Wr w0 W q r st) (hs : ExSm e) (hx : ExsAt w0 Any x e.l) :
    Calls Tryz.prog 213 #[.pointer (some ⟨q, 0, none⟩), .agg #[.string (bs e.op), .int .i64 e.n, .string (bs e.name), .slice x e.l.length cap], .int .i64 7] W fun e' W' => WPost w0 q r (tmW e st) W e' W' := term_any w0 q r 4001 W e x cap 7 st h (by omega) hs hx (by omega) (by omega)
theorem tmW_up {e : Ex} {st st' : Wst} (h : tmW e st = some st') : Up st st' := exW_up _ _ _ _ _ h
end Go.Proofs.YtbfhaabpfkopdaaGreatDoor

/- The language: a writer: between, for any closure; rows of tests, conditions. -/
namespace Go.Proofs.YtbfhaabpfkopdaaGreatDoor
open Go.RowKit
set_option linter.unusedVariables false

/-- How a closure writes thing number i. -/
def OneW (w0 : World) (q r G m c1 c2 : Nat) (P : World → Prop) (F : Nat → Wst → Option Wst) : Prop :=
  ∀ (W : World) (st : Wst) (i : Nat), i < m → Wr w0 W q r st → P W → Calls Tryz.prog G #[.int .i64 i, .pointer (some ⟨c1, 0, none⟩), .pointer (some ⟨c2, 0, none⟩)] W fun e W' => WPost w0 q r (F i st) W e W'
set_option maxRecDepth 20000 in
set_option maxHeartbeats 4000000 in
theorem between_any (w0 : World) (q r G n c1 c2 : Nat) (t : Bs) (P : World → Prop) (F : Nat → Wst → Option Wst) (st : Wst) (w : World) (hE : Hid (Enters G)) (HO : Hid (OneW w0 q r G n c1 c2 P F)) (hK : Hid (∀ W W', P W → Fr q W W' → P W')) (h : Wr w0 w q r st) (hP : Hid (P w)) (hn : n ≤ maxLen) :
    Calls Tryz.prog 210 #[.pointer (some ⟨q, 0, none⟩), .string (bs t), .int .i64 n, .func (.func G) #[] #[.pointer (some ⟨c1, 0, none⟩), .pointer (some ⟨c2, 0, none⟩)]] w fun e w' => WPost w0 q r (betW t F n 0 st) w e w' := by
  have hEn := hE.out
  unfold Enters at hEn
  unfold maxLen at hn
  obtain ⟨res, hres⟩ : ∃ res, res = betW t F n 0 st := ⟨_, rfl⟩
  have He := hide hres
  rw [← hres]
  clear hres
  go_enter Tryz.func210, Tryz.ntmps210
  go_wp2_with fail
  go_loopg [10] n (fun gh iv wx => ∃ (i : Nat) (st' : Wst), i + gh = n ∧ iv = .int .i64 i ∧ Wr w0 wx q r st' ∧ Fr q w wx ∧ Hid (res = betW t F gh i st'))
  case atStart => exact ⟨0, st, by omega, rfl, h, Fr.refl _ _, He⟩
  case round =>
    clear h He
    obtain ⟨i, st', hig, rfl, h, hF, He⟩ := hrel
    have hPr := hide (hK.out _ _ hP.out hF)
    cases gk with
    | zero =>
      have hi' : ¬ (i : Int) < (n : Int) := by omega
      have Hst : Hid (res = some st') := He.out
      clear He
      go_wp2_with fail
      go_end0
      show WPost _ _ _ _ _ _ _
      rw [Hst.out]
      exact ⟨hF, rfl, h⟩
    | succ gg =>
      have hi' : (i : Int) < (n : Int) := by omega
      have He1 : Hid (res = (if i = 0 then some st' else putW [t] st').bind fun st => (F i st).bind fun st => betW t F gg (i + 1) st) := He.out
      clear He
      by_cases h0 : i = 0
      · have h0' : ¬ (0 : Int) < (i : Int) := by omega
        rw [if_pos h0] at He1
        have He2 : Hid (res = (F i st').bind fun st => betW t F gg (i + 1) st) := He1.out
        have H2 := hide (HO.out wr st' i (by omega) h hPr.out)
        clear He1 h0
        go_wp2_with fail
        refine H2.out.mono ?_
        intro e w2 hQ
        cases e2 : F i st' with
        | none =>
          rw [e2] at hQ He2
          obtain ⟨hF2, rfl, hb2⟩ := hQ
          go_wp2_with fail
          refine ⟨rfl, ?_⟩
          show WPost _ _ _ _ _ _ _
          rw [He2.out]
          exact ⟨hF.trans hF2, rfl, hb2⟩
        | some s2 =>
          rw [e2] at hQ He2
          obtain ⟨hF2, rfl, hW2⟩ := hQ
          go_wp2_with fail
          go_roundg gg
          case measure => omega
          case rel => exact ⟨i + 1, s2, by omega, by go_num, hW2, hF.trans hF2, He2.out⟩
      · have h0' : (0 : Int) < (i : Int) := by omega
        rw [if_neg h0] at He1
        have H1 := hide (put1 w0 q r st' t wr h)
        go_wp2_with fail
        refine H1.out.mono ?_
        intro e w1 hQ
        cases e1 : putW [t] st' with
        | none =>
          rw [e1] at hQ He1
          obtain ⟨hF1, rfl, hb1⟩ := hQ
          go_wp2_with fail
          refine ⟨rfl, ?_⟩
          show WPost _ _ _ _ _ _ _
          rw [He1.out]
          exact ⟨hF.trans hF1, rfl, hb1⟩
        | some s1 =>
          rw [e1] at hQ He1
          obtain ⟨hF1, rfl, hW1⟩ := hQ
          have He2 : Hid (res = (F i s1).bind fun st => betW t F gg (i + 1) st) := He1.out
          have H2 := hide (HO.out w1 s1 i (by omega) hW1 (hK.out _ _ hPr.out hF1))
          clear He1 h0 H1
          go_wp2_with fail
          refine H2.out.mono ?_
          intro e w2 hQ
          cases e2 : F i s1 with
          | none =>
            rw [e2] at hQ He2
            obtain ⟨hF2, rfl, hb2⟩ := hQ
            go_wp2_with fail
            refine ⟨rfl, ?_⟩
            show WPost _ _ _ _ _ _ _
            rw [He2.out]
            exact ⟨(hF.trans hF1).trans hF2, rfl, hb2⟩
          | some s2 =>
            rw [e2] at hQ He2
            obtain ⟨hF2, rfl, hW2⟩ := hQ
            go_wp2_with fail
            go_roundg gg
            case measure => omega
            case rel => exact ⟨i + 1, s2, by omega, by go_num, hW2, (hF.trans hF1).trans hF2, He2.out⟩
end Go.Proofs.YtbfhaabpfkopdaaGreatDoor
