/- The language: a writer: statements. -/
import Derived.Test.YtbfhaabpfkopdaaGreatDoorV6
namespace Go.Proofs.YtbfhaabpfkopdaaGreatDoor
open Go.RowKit
set_option linter.unusedVariables false

/-- A statement's lists lie in memory. -/
structure StIn (w0 : World) (s : Stm) (xa xc xb xe : Option Addr) : Prop where
  a : ExsAt w0 Any xa s.args
  c : RowAt coVals 1 w0 Any xc s.cond
  b : StmsAt w0 Any xb s.body
  e : StmsAt w0 Any xe s.els
/-- How a statement, statements are written. -/
def StC (w0 : World) (q r k : Nat) : Prop := ∀ (W : World) (s : Stm) (b : Nat) (st : Wst) (xa xc xb xe : Option Addr) (ca cc cb ce : Nat), Wr w0 W q r st → 4001 ≤ st.1.length + k → b + k ≤ 10000 → StSm s → StIn w0 s xa xc xb xe →
  Calls Tryz.prog 214 #[.pointer (some ⟨q, 0, none⟩), .agg #[.string (bs s.kind), .string (bs s.name), .string (bs s.proc), .slice xa s.args.length ca, .slice xc s.cond.length cc, .slice xb s.body.length cb, .slice xe s.els.length ce], .int .i64 b] W fun e W' => WPost w0 q r (stW k s b st) W e W'
def StsC (w0 : World) (q r k : Nat) : Prop := ∀ (W : World) (l : List Stm) (b : Nat) (st : Wst) (x : Option Addr) (cap : Nat), Wr w0 W q r st → 4001 ≤ st.1.length + k → b + k ≤ 10000 → StsSm l → StmsAt w0 Any x l →
  Calls Tryz.prog 170 #[.pointer (some ⟨q, 0, none⟩), .slice x l.length cap, .int .i64 b] W fun e W' => WPost w0 q r (stsW (stW k) b l st) W e W'
theorem stsW_step (f : Stm → Nat → Wst → Option Wst) (b : Nat) (l : List Stm) (i : Nat) (s : Stm) (h : l[i]? = some s) (st : Wst) : stsW f b (l.drop i) st = (indW b st).bind fun st => (f s b st).bind fun st => stsW f b (l.drop (i + 1)) st := by
  have : l.drop i = s :: l.drop (i + 1) := by
    have hi := some_lt h
    rw [List.drop_eq_getElem_cons hi]
    rw [List.getElem?_eq_getElem hi] at h
    cases h
    rfl
  rw [this]; rfl
set_option maxRecDepth 20000 in
set_option maxHeartbeats 4000000 in
theorem sts_step (w0 : World) (q r k : Nat) (HS : Hid (StC w0 q r k)) : StsC w0 q r k := by
  intro w l b st x cap h hk hb hsm hx
  have hlen := hsm.len
  unfold maxLen at hlen
  obtain ⟨n, hn⟩ : ∃ n, Hid (n = l.length) := ⟨_, rfl⟩
  rw [← hn.out] at hlen ⊢
  go_enter Tryz.func170, Tryz.ntmps170
  go_wp2_with fail
  go_loopg [10] n (fun gh iv wx => ∃ (i : Nat) (st' : Wst), i + gh = n ∧ iv = .int .i64 i ∧ Wr w0 wx q r st' ∧ Fr q w wx ∧ 4001 ≤ st'.1.length + k ∧ Hid (stsW (stW k) b l st = stsW (stW k) b (l.drop i) st'))
  case atStart => exact ⟨0, st, by omega, rfl, h, Fr.refl _ _, hk, rfl⟩
  case round =>
    clear h hk
    obtain ⟨i, st', hig, rfl, h, hF, hk, He⟩ := hrel
    by_cases hi : i < n
    · have hi' : (i : Int) < (n : Int) := by omega
      obtain ⟨s, hs⟩ : ∃ s, l[i]? = some s := ⟨_, List.getElem?_eq_getElem (by rw [← hn.out]; exact hi)⟩
      obtain ⟨bb, off, xa, ca, xc, cc, xb, cb, xe, ce, rfl, hlt, k0, k1, k2, k3, k4, k5, k6, ha, hc, hbd, hel⟩ := hx.elem hs
      have hst := stsW_step (stW k) b l i s hs st'
      rw [hst] at He
      have hS1 := hsm.el i s hs
      have be := h.bel
      have c0 := (be.cell hlt).trans k0
      have c1 := (be.cell hlt).trans k1
      have c2 := (be.cell hlt).trans k2
      have c3 := (be.cell hlt).trans k3
      have c4 := (be.cell hlt).trans k4
      have c5 := (be.cell hlt).trans k5
      have c6 := (be.cell hlt).trans k6
      clear hst hs k0 k1 k2 k3 k4 k5 k6
      have hbq : wr.heap.size ≠ q := by have := h.lt; omega
      have hW1 : Wr w0 (wr.alloc (.cells #[.string (bs s.kind), .string (bs s.name), .string (bs s.proc), .slice xa s.args.length ca, .slice xc s.cond.length cc, .slice xb s.body.length cb, .slice xe s.els.length ce] 185)) q r st' := h.alloc _
      have F1 : Fr q w (wr.alloc (.cells #[.string (bs s.kind), .string (bs s.name), .string (bs s.proc), .slice xa s.args.length ca, .slice xc s.cond.length cc, .slice xb s.body.length cb, .slice xe s.els.length ce] 185)) := hF.alloc _
      have B1 : BoxT (wr.alloc (.cells #[.string (bs s.kind), .string (bs s.name), .string (bs s.proc), .slice xa s.args.length ca, .slice xc s.cond.length cc, .slice xb s.body.length cb, .slice xe s.els.length ce] 185)) wr.heap.size 185 [.string (bs s.kind), .string (bs s.name), .string (bs s.proc), .slice xa s.args.length ca, .slice xc s.cond.length cc, .slice xb s.body.length cb, .slice xe s.els.length ce] := BoxT.new wr 185 [.string (bs s.kind), .string (bs s.name), .string (bs s.proc), .slice xa s.args.length ca, .slice xc s.cond.length cc, .slice xb s.body.length cb, .slice xe s.els.length ce]
      obtain ⟨g, hg⟩ : ∃ g, g = wr.heap.size := ⟨_, rfl⟩
      obtain ⟨W1, hW1e⟩ : ∃ W, W = wr.alloc (.cells #[.string (bs s.kind), .string (bs s.name), .string (bs s.proc), .slice xa s.args.length ca, .slice xc s.cond.length cc, .slice xb s.body.length cb, .slice xe s.els.length ce] 185) := ⟨_, rfl⟩
      rw [← hW1e] at hW1 F1 B1
      rw [← hg] at B1 hbq
      go_upto_region 3 with fail
      change Code.wp _ _ _ _ (wr.alloc (.cells #[.string (bs s.kind), .string (bs s.name), .string (bs s.proc), .slice xa s.args.length ca, .slice xc s.cond.length cc, .slice xb s.body.length cb, .slice xe s.els.length ce] 185))
      rw [← hW1e]
      try rw [← hg]
      clear hW1e hg c0 c1 c2 c3 c4 c5 c6 be
      have H2 := hide (indent_any w0 q r b st' W1 hW1 (by omega))
      go_wp2_with fail
      refine H2.out.mono ?_
      intro e w2 hP
      cases e2 : indW b st' with
      | none =>
        rw [e2] at hP He
        obtain ⟨hFx, rfl, hbx⟩ := hP
        go_wp2_with fail
        refine ⟨rfl, ?_⟩
        show WPost _ _ _ _ _ _ _
        rw [He.out]
        exact ⟨F1.trans hFx, rfl, hbx⟩
      | some s2 =>
        rw [e2] at hP He
        obtain ⟨hFx, rfl, hW2⟩ := hP
        have u2 := Grows.ind b st' s2 e2
        have He2 : Hid (stsW (stW k) b l st = (stW k s b s2).bind fun st => stsW (stW k) b (l.drop (i + 1)) st) := He.out
        have B2 := B1.fr hFx hbq (by decide)
        have F2 := F1.trans hFx
        have m0 := B2.cell 0 _ rfl
        have m1 := B2.cell 1 _ rfl
        have m2 := B2.cell 2 _ rfl
        have m3 := B2.cell 3 _ rfl
        have m4 := B2.cell 4 _ rfl
        have m5 := B2.cell 5 _ rfl
        have m6 := B2.cell 6 _ rfl
        have H3 := hide (HS.out w2 s b s2 xa xc xb xe ca cc cb ce hW2 (by omega) hb hS1 ⟨ha, hc, hbd, hel⟩)
        clear He H2 e2
        go_wp2_with fail
        refine H3.out.mono ?_
        intro e w3 hP
        cases e3 : stW k s b s2 with
        | none =>
          rw [e3] at hP He2
          obtain ⟨hFx, rfl, hbx⟩ := hP
          go_wp2_with fail
          refine ⟨rfl, ?_⟩
          show WPost _ _ _ _ _ _ _
          rw [He2.out]
          exact ⟨F2.trans hFx, rfl, hbx⟩
        | some s3 =>
          rw [e3] at hP He2
          obtain ⟨hFx, rfl, hW3⟩ := hP
          have u3 := Grows.st k s b s2 s3 e3
          go_wp2_with fail
          go_roundg (n - (i + 1))
          case measure => omega
          case rel => exact ⟨i + 1, s3, by omega, by go_num, hW3, F2.trans hFx, by omega, He2.out⟩
    · have hi' : ¬ (i : Int) < (n : Int) := by omega
      have Hst : Hid (stsW (stW k) b l st = some st') := by
        show _ = _
        rw [He.out, List.drop_eq_nil_of_le (by rw [← hn.out]; omega)]; rfl
      go_wp2_with fail
      go_end0
      show WPost _ _ _ _ _ _ _
      rw [Hst.out]
      exact ⟨hF, rfl, h⟩
set_option maxRecDepth 20000 in
set_option maxHeartbeats 8000000 in
theorem branches_any (w0 : World) (q r k : Nat) (HS : Hid (StsC w0 q r k)) (w : World) (s : Stm) (b : Nat) (st : Wst) (xa xc xb xe : Option Addr) (ca cc cb ce : Nat) (h : Wr w0 w q r st) (hk : 4000 ≤ st.1.length + k) (hb : b + 1 + k ≤ 10000) (hs : StSm s) (hI : StIn w0 s xa xc xb xe) :
    Calls Tryz.prog 254 #[.pointer (some ⟨q, 0, none⟩), .agg #[.string (bs s.kind), .string (bs s.name), .string (bs s.proc), .slice xa s.args.length ca, .slice xc s.cond.length cc, .slice xb s.body.length cb, .slice xe s.els.length ce], .int .i64 b] w fun e w' => WPost w0 q r (brW (stW k) s b st) w e w' := by
  obtain ⟨res, hres⟩ : ∃ res, res = brW (stW k) s b st := ⟨_, rfl⟩
  have He : Hid (res = (putW [[32, 123, 10]] st).bind fun st => (stsW (stW k) (b + 1) s.body st).bind fun st => (if 0 < s.els.length then (indW b st).bind fun st => (putW [[125, 32, 101, 108, 115, 101, 32, 123, 10]] st).bind fun st => stsW (stW k) (b + 1) s.els st else some st).bind fun st => (indW b st).bind fun st => putW [[125, 10]] st) := hres
  rw [← hres]
  clear hres
  have hel := hs.els.len
  unfold maxLen at hel
  have hbq : w.heap.size ≠ q := by have := h.lt; omega
  have hW0 : Wr w0 (w.alloc (.cells #[.string (bs s.kind), .string (bs s.name), .string (bs s.proc), .slice xa s.args.length ca, .slice xc s.cond.length cc, .slice xb s.body.length cb, .slice xe s.els.length ce] 185)) q r st := h.alloc _
  have F0 : Fr q w (w.alloc (.cells #[.string (bs s.kind), .string (bs s.name), .string (bs s.proc), .slice xa s.args.length ca, .slice xc s.cond.length cc, .slice xb s.body.length cb, .slice xe s.els.length ce] 185)) := (Fr.refl _ _).alloc _
  have C0 : BoxT (w.alloc (.cells #[.string (bs s.kind), .string (bs s.name), .string (bs s.proc), .slice xa s.args.length ca, .slice xc s.cond.length cc, .slice xb s.body.length cb, .slice xe s.els.length ce] 185)) w.heap.size 185 [.string (bs s.kind), .string (bs s.name), .string (bs s.proc), .slice xa s.args.length ca, .slice xc s.cond.length cc, .slice xb s.body.length cb, .slice xe s.els.length ce] := BoxT.new w 185 [.string (bs s.kind), .string (bs s.name), .string (bs s.proc), .slice xa s.args.length ca, .slice xc s.cond.length cc, .slice xb s.body.length cb, .slice xe s.els.length ce]
  obtain ⟨W0, hW0e⟩ : ∃ W, W = w.alloc (.cells #[.string (bs s.kind), .string (bs s.name), .string (bs s.proc), .slice xa s.args.length ca, .slice xc s.cond.length cc, .slice xb s.body.length cb, .slice xe s.els.length ce] 185) := ⟨_, rfl⟩
  rw [← hW0e] at hW0 F0 C0
  go_enter Tryz.func254, Tryz.ntmps254
  go_upto_region 1 with fail
  change Code.wp _ _ _ _ (w.alloc (.cells #[.string (bs s.kind), .string (bs s.name), .string (bs s.proc), .slice xa s.args.length ca, .slice xc s.cond.length cc, .slice xb s.body.length cb, .slice xe s.els.length ce] 185))
  rw [← hW0e]
  obtain ⟨g, hg⟩ : ∃ g, g = w.heap.size := ⟨_, rfl⟩
  rw [← hg] at C0 hbq ⊢
  clear hg hW0e h
  obtain ⟨b1, hb1⟩ : ∃ c : Nat, Hid (c = b + 1) := ⟨_, rfl⟩
  rw [← hb1.out] at He hb
  have hb0 : b ≤ 10000 := by have := hb1.out; omega
  have hbw : IntKind.i64.wrap ((b : Int) + 1) = (b1 : Int) := by rw [hb1.out, wrap_small _ (by omega) (by omega)]; omega
  have hbw2 : wrap64 ((b : Int) + 1) = (b1 : Int) := by rw [hb1.out]; unfold wrap64; omega
  have H1 := hide (put1 w0 q r st [32, 123, 10] W0 hW0)
  go_wp2_with fail
  refine H1.out.mono ?_
  intro e' w1 hP
  cases e1 : putW [[32, 123, 10]] st with
  | none =>
    rw [e1] at hP He
    obtain ⟨hFx, rfl, hbx⟩ := hP
    go_wp2_with fail
    refine ⟨rfl, ?_⟩
    show WPost _ _ _ _ _ _ _
    rw [He.out]
    exact ⟨F0.trans hFx, rfl, hbx⟩
  | some s1 =>
    rw [e1] at hP He
    obtain ⟨hFx, rfl, hW1⟩ := hP
    have He : Hid (res = (stsW (stW k) b1 s.body s1).bind fun st => (if 0 < s.els.length then (indW b st).bind fun st => (putW [[125, 32, 101, 108, 115, 101, 32, 123, 10]] st).bind fun st => stsW (stW k) b1 s.els st else some st).bind fun st => (indW b st).bind fun st => putW [[125, 10]] st) := He.out
    have C1 := C0.fr hFx hbq (by decide)
    have F1 := F0.trans hFx
    clear H1
    have m5 := C1.cell 5 _ rfl
    have m6 := C1.cell 6 _ rfl
    have v1 : 4001 ≤ s1.1.length + k := by
      have e1 : (if 4000 < st.1.length + 3 then none else some (st.1 ++ [32, 123, 10], st.2)) = some s1 := e1
      split at e1
      · cases e1
      · cases e1; simp; omega
    have H2 := hide (HS.out w1 s.body b1 s1 xb cb hW1 v1 hb hs.body hI.b)
    go_wp2_with fail
    refine H2.out.mono ?_
    intro e' w2 hP
    cases e2 : stsW (stW k) b1 s.body s1 with
    | none =>
      rw [e2] at hP He
      obtain ⟨hFx, rfl, hbx⟩ := hP
      go_wp2_with fail
      refine ⟨rfl, ?_⟩
      show WPost _ _ _ _ _ _ _
      rw [He.out]
      exact ⟨F1.trans hFx, rfl, hbx⟩
    | some s2 =>
      rw [e2] at hP He
      obtain ⟨hFx, rfl, hW2⟩ := hP
      have He : Hid (res = (if 0 < s.els.length then (indW b s2).bind fun st => (putW [[125, 32, 101, 108, 115, 101, 32, 123, 10]] st).bind fun st => stsW (stW k) b1 s.els st else some s2).bind fun st => (indW b st).bind fun st => putW [[125, 10]] st) := He.out
      have C2 := C1.fr hFx hbq (by decide)
      have F2 := F1.trans hFx
      clear H2
      have u2 := Grows.sts (Grows.st k) b1 s.body _ _ e2
      have m5 := C2.cell 5 _ rfl
      have m6 := C2.cell 6 _ rfl
      by_cases hE : 0 < s.els.length
      · rw [if_pos hE] at He
        have hE' : (0 : Int) < (s.els.length : Int) := by omega
        have He : Hid (res = (indW b s2).bind fun st => (putW [[125, 32, 101, 108, 115, 101, 32, 123, 10]] st).bind fun st => (stsW (stW k) b1 s.els st).bind fun st => (indW b st).bind fun st => putW [[125, 10]] st) := by
          show _ = _
          rw [He.out, Option.bind_assoc]
          congr 1
          funext z
          rw [Option.bind_assoc]
        have H3 := hide (indent_any w0 q r b s2 w2 hW2 (by omega))
        go_wp2_with fail
        refine H3.out.mono ?_
        intro e' w3 hP
        cases e3 : indW b s2 with
        | none =>
          rw [e3] at hP He
          obtain ⟨hFx, rfl, hbx⟩ := hP
          go_wp2_with fail
          refine ⟨rfl, ?_⟩
          show WPost _ _ _ _ _ _ _
          rw [He.out]
          exact ⟨F2.trans hFx, rfl, hbx⟩
        | some s3 =>
          rw [e3] at hP He
          obtain ⟨hFx, rfl, hW3⟩ := hP
          have He : Hid (res = (putW [[125, 32, 101, 108, 115, 101, 32, 123, 10]] s3).bind fun st => (stsW (stW k) b1 s.els st).bind fun st => (indW b st).bind fun st => putW [[125, 10]] st) := He.out
          have C3 := C2.fr hFx hbq (by decide)
          have F3 := F2.trans hFx
          clear H3
          have u3 := Grows.ind b _ _ e3
          have m5 := C3.cell 5 _ rfl
          have m6 := C3.cell 6 _ rfl
          have H4 := hide (put1 w0 q r s3 [125, 32, 101, 108, 115, 101, 32, 123, 10] w3 hW3)
          go_wp2_with fail
          refine H4.out.mono ?_
          intro e' w4 hP
          cases e4 : putW [[125, 32, 101, 108, 115, 101, 32, 123, 10]] s3 with
          | none =>
            rw [e4] at hP He
            obtain ⟨hFx, rfl, hbx⟩ := hP
            go_wp2_with fail
            refine ⟨rfl, ?_⟩
            show WPost _ _ _ _ _ _ _
            rw [He.out]
            exact ⟨F3.trans hFx, rfl, hbx⟩
          | some s4 =>
            rw [e4] at hP He
            obtain ⟨hFx, rfl, hW4⟩ := hP
            have He : Hid (res = (stsW (stW k) b1 s.els s4).bind fun st => (indW b st).bind fun st => putW [[125, 10]] st) := He.out
            have C4 := C3.fr hFx hbq (by decide)
            have F4 := F3.trans hFx
            clear H4
            have u4 := Grows.put _ _ _ e4
            have m5 := C4.cell 5 _ rfl
            have m6 := C4.cell 6 _ rfl
            have H5 := hide (HS.out w4 s.els b1 s4 xe ce hW4 (by omega) hb hs.els hI.e)
            go_wp2_with fail
            refine H5.out.mono ?_
            intro e' w5 hP
            cases e5 : stsW (stW k) b1 s.els s4 with
            | none =>
              rw [e5] at hP He
              obtain ⟨hFx, rfl, hbx⟩ := hP
              go_wp2_with fail
              refine ⟨rfl, ?_⟩
              show WPost _ _ _ _ _ _ _
              rw [He.out]
              exact ⟨F4.trans hFx, rfl, hbx⟩
            | some s5 =>
              rw [e5] at hP He
              obtain ⟨hFx, rfl, hW5⟩ := hP
              have He : Hid (res = (indW b s5).bind fun st => putW [[125, 10]] st) := He.out
              have C5 := C4.fr hFx hbq (by decide)
              have F5 := F4.trans hFx
              clear H5
              have u5 := Grows.sts (Grows.st k) b1 s.els _ _ e5
              have m5 := C5.cell 5 _ rfl
              have m6 := C5.cell 6 _ rfl
              have H6 := hide (indent_any w0 q r b s5 w5 hW5 (by omega))
              go_wp2_with fail
              refine H6.out.mono ?_
              intro e' w6 hP
              cases e6 : indW b s5 with
              | none =>
                rw [e6] at hP He
                obtain ⟨hFx, rfl, hbx⟩ := hP
                go_wp2_with fail
                refine ⟨rfl, ?_⟩
                show WPost _ _ _ _ _ _ _
                rw [He.out]
                exact ⟨F5.trans hFx, rfl, hbx⟩
              | some s6 =>
                rw [e6] at hP He
                obtain ⟨hFx, rfl, hW6⟩ := hP
                have He : Hid (res = putW [[125, 10]] s6) := He.out
                have C6 := C5.fr hFx hbq (by decide)
                have F6 := F5.trans hFx
                clear H6
                have m5 := C6.cell 5 _ rfl
                have m6 := C6.cell 6 _ rfl
                have H7 := hide (put1 w0 q r s6 [125, 10] w6 hW6)
                go_wp2_with fail
                refine H7.out.mono ?_
                intro e' w7 hP
                cases e7 : putW [[125, 10]] s6 with
                | none =>
                  rw [e7] at hP He
                  obtain ⟨hFx, rfl, hbx⟩ := hP
                  go_wp2_with fail
                  refine ⟨rfl, ?_⟩
                  show WPost _ _ _ _ _ _ _
                  rw [He.out]
                  exact ⟨F6.trans hFx, rfl, hbx⟩
                | some s7 =>
                  rw [e7] at hP He
                  obtain ⟨hFx, rfl, hW7⟩ := hP
                  have He : Hid (res = some s7) := He.out
                  have C7 := C6.fr hFx hbq (by decide)
                  have F7 := F6.trans hFx
                  clear H7
                  have m5 := C7.cell 5 _ rfl
                  have m6 := C7.cell 6 _ rfl
                  go_wp2_with fail
                  go_end0
                  show WPost _ _ _ _ _ _ _
                  rw [He.out]
                  exact ⟨F7, rfl, hW7⟩
      · rw [if_neg hE] at He
        have hE' : ¬ (0 : Int) < (s.els.length : Int) := by omega
        have He : Hid (res = (indW b s2).bind fun st => putW [[125, 10]] st) := He.out
        have H8 := hide (indent_any w0 q r b s2 w2 hW2 (by omega))
        go_wp2_with fail
        refine H8.out.mono ?_
        intro e' w8 hP
        cases e8 : indW b s2 with
        | none =>
          rw [e8] at hP He
          obtain ⟨hFx, rfl, hbx⟩ := hP
          go_wp2_with fail
          refine ⟨rfl, ?_⟩
          show WPost _ _ _ _ _ _ _
          rw [He.out]
          exact ⟨F2.trans hFx, rfl, hbx⟩
        | some s8 =>
          rw [e8] at hP He
          obtain ⟨hFx, rfl, hW8⟩ := hP
          have He : Hid (res = putW [[125, 10]] s8) := He.out
          have C8 := C2.fr hFx hbq (by decide)
          have F8 := F2.trans hFx
          clear H8
          have m5 := C8.cell 5 _ rfl
          have m6 := C8.cell 6 _ rfl
          have H9 := hide (put1 w0 q r s8 [125, 10] w8 hW8)
          go_wp2_with fail
          refine H9.out.mono ?_
          intro e' w9 hP
          cases e9 : putW [[125, 10]] s8 with
          | none =>
            rw [e9] at hP He
            obtain ⟨hFx, rfl, hbx⟩ := hP
            go_wp2_with fail
            refine ⟨rfl, ?_⟩
            show WPost _ _ _ _ _ _ _
            rw [He.out]
            exact ⟨F8.trans hFx, rfl, hbx⟩
          | some s9 =>
            rw [e9] at hP He
            obtain ⟨hFx, rfl, hW9⟩ := hP
            have He : Hid (res = some s9) := He.out
            have C9 := C8.fr hFx hbq (by decide)
            have F9 := F8.trans hFx
            clear H9
            have m5 := C9.cell 5 _ rfl
            have m6 := C9.cell 6 _ rfl
            go_wp2_with fail
            go_end0
            show WPost _ _ _ _ _ _ _
            rw [He.out]
            exact ⟨F9, rfl, hW9⟩
end Go.Proofs.YtbfhaabpfkopdaaGreatDoor
