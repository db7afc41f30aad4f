/- The language: a writer: a procedure. -/
import Derived.Test.YtbfhaabpfkopdaaGreatDoorV8
import Derived.Test.YtbfhaabpfkopdaaGreatDoorM2
namespace Go.Proofs.YtbfhaabpfkopdaaGreatDoor
open Go.RowKit
set_option linter.unusedVariables false

/-- A procedure's lists lie in memory. -/
structure PcIn (w0 : World) (p : Pc) (xp xb xe : Option Addr) : Prop where
  prm : RowAt strVals 1 w0 Any xp p.params
  b : StmsAt w0 Any xb p.body
  e : ExsAt w0 Any xe p.ret.l
set_option maxRecDepth 20000 in
set_option maxHeartbeats 16000000 in
theorem procedurew_any (w0 : World) (q r : Nat) (w : World) (p : Pc) (st : Wst) (xp xb xe : Option Addr) (cp cb ce : Nat) (h : Wr w0 w q r st) (hs : PcSm p) (hI : PcIn w0 p xp xb xe) :
    Calls Tryz.prog 169 #[.pointer (some ⟨q, 0, none⟩), .agg #[.string (bs p.name), .slice xp p.params.length cp, .slice xb p.body.length cb, .string (bs p.ret.op), .int .i64 p.ret.n, .string (bs p.ret.name), .slice xe p.ret.l.length ce]] w fun e w' => WPost w0 q r (pcW p st) w e w' := by
  obtain ⟨res, hres⟩ : ∃ res, res = pcW p st := ⟨_, rfl⟩
  have He := hide hres
  rw [← hres]
  clear hres
  unfold pcW at He
  have hal := hs.params
  have hC : Cap q w.heap.size (w.heap.size + 1) 124 [.string (bs p.name), .slice xp p.params.length cp, .slice xb p.body.length cb, .string (bs p.ret.op), .int .i64 p.ret.n, .string (bs p.ret.name), .slice xe p.ret.l.length ce] ((w.alloc (.cells #[.pointer (some ⟨q, 0, none⟩)] 237)).alloc (.cells #[.string (bs p.name), .slice xp p.params.length cp, .slice xb p.body.length cb, .string (bs p.ret.op), .int .i64 p.ret.n, .string (bs p.ret.name), .slice xe p.ret.l.length ce] 124)) := by
    have B1 := BoxT.new w 237 [.pointer (some ⟨q, 0, none⟩)]
    have B2 := BoxT.new (w.alloc (.cells #[.pointer (some ⟨q, 0, none⟩)] 237)) 124 [.string (bs p.name), .slice xp p.params.length cp, .slice xb p.body.length cb, .string (bs p.ret.op), .int .i64 p.ret.n, .string (bs p.ret.name), .slice xe p.ret.l.length ce]
    rw [World.size_alloc] at B2
    exact ⟨B1.bel ((Below.refl _ _).alloc (Nat.le_refl _) _), B2⟩
  have hW0 := (h.alloc (.cells #[.pointer (some ⟨q, 0, none⟩)] 237)).alloc (.cells #[.string (bs p.name), .slice xp p.params.length cp, .slice xb p.body.length cb, .string (bs p.ret.op), .int .i64 p.ret.n, .string (bs p.ret.name), .slice xe p.ret.l.length ce] 124)
  have F0 : Fr q w ((w.alloc (.cells #[.pointer (some ⟨q, 0, none⟩)] 237)).alloc (.cells #[.string (bs p.name), .slice xp p.params.length cp, .slice xb p.body.length cb, .string (bs p.ret.op), .int .i64 p.ret.n, .string (bs p.ret.name), .slice xe p.ret.l.length ce] 124)) := ((Fr.refl _ _).alloc _).alloc _
  have h1 : w.heap.size ≠ q := by have := h.lt; omega
  have h2 : w.heap.size + 1 ≠ q := by have := h.lt; omega
  obtain ⟨W0, hW0e⟩ : ∃ W, W = (w.alloc (.cells #[.pointer (some ⟨q, 0, none⟩)] 237)).alloc (.cells #[.string (bs p.name), .slice xp p.params.length cp, .slice xb p.body.length cb, .string (bs p.ret.op), .int .i64 p.ret.n, .string (bs p.ret.name), .slice xe p.ret.l.length ce] 124) := ⟨_, rfl⟩
  rw [← hW0e] at hC hW0 F0
  go_enter Tryz.func169, Tryz.ntmps169
  go_upto_region 1 with fail
  change Code.wp _ _ _ _ ((w.alloc (.cells #[.pointer (some ⟨q, 0, none⟩)] 237)).alloc (.cells #[.string (bs p.name), .slice xp p.params.length cp, .slice xb p.body.length cb, .string (bs p.ret.op), .int .i64 p.ret.n, .string (bs p.ret.name), .slice xe p.ret.l.length ce] 124))
  rw [← hW0e]
  clear hW0e h
  obtain ⟨c1, hc1⟩ : ∃ g, g = w.heap.size := ⟨_, rfl⟩
  obtain ⟨c2, hc2⟩ : ∃ g, g = w.heap.size + 1 := ⟨_, rfl⟩
  rw [← hc2, ← hc1] at hC
  rw [← hc1] at h1
  rw [← hc2] at h2
  rw [← hc2, ← hc1]
  clear hc1 hc2
  have HO := hide (procw1_any w0 q r c1 c2 xp cp p.params (.string (bs p.name)) (.slice xb p.body.length cb) (.string (bs p.ret.op)) (.int .i64 p.ret.n) (.string (bs p.ret.name)) (.slice xe p.ret.l.length ce) h1 h2 hI.prm)
  have m0 := hC.1.cell 0 _ rfl
  have n0 := hC.2.cell 0 _ rfl
  have H1 := hide (put3 w0 q r st [112, 114, 111, 99, 32] p.name [40] W0 hW0)
  go_wp2_with fail
  refine H1.out.mono ?_
  intro e' w1 hP
  cases e1 : putW [[112, 114, 111, 99, 32], p.name, [40]] st with
  | none =>
    rw [e1] at hP He
    obtain ⟨hFx, rfl, hbx⟩ := hP
    go_wp2_with fail
    refine ⟨rfl, ?_⟩
    show WPost _ _ _ _ _ _ _
    rw [He.out]
    exact ⟨F0.trans hFx, rfl, hbx⟩
  | some s1 =>
    rw [e1] at hP He
    obtain ⟨hFx, rfl, hW1⟩ := hP
    have He : Hid (res = (betW [44, 32] (fun i st => match p.params[i]? with | some t => putW [t] st | none => none) p.params.length 0 s1).bind fun st => (putW [[41, 32, 123, 10]] st).bind fun st => (blW p.body 1 st).bind fun st => (indW 1 st).bind fun st => (putW [[114, 101, 116, 117, 114, 110, 32]] st).bind fun st => (tmW p.ret st).bind fun st => putW [[59, 10, 125, 10]] st) := He.out
    have C1 := hC.fr hFx h1 h2 (by decide)
    have F1 := F0.trans hFx
    clear H1
    have m0 := C1.1.cell 0 _ rfl
    have n0 := C1.2.cell 0 _ rfl
    have n1 := C1.2.cell 1 _ rfl
    have n2 := C1.2.cell 2 _ rfl
    have n3 := C1.2.cell 3 _ rfl
    have n4 := C1.2.cell 4 _ rfl
    have n5 := C1.2.cell 5 _ rfl
    have n6 := C1.2.cell 6 _ rfl
    have H2 := hide (between_any w0 q r 211 p.params.length c1 c2 [44, 32] (Cap q c1 c2 124 [.string (bs p.name), .slice xp p.params.length cp, .slice xb p.body.length cb, .string (bs p.ret.op), .int .i64 p.ret.n, .string (bs p.ret.name), .slice xe p.ret.l.length ce]) (fun i st => match p.params[i]? with | some t => putW [t] st | none => none) s1 w1 (hide enters_procw1) HO (hide (fun W W' hc hf => hc.fr hf h1 h2 (by decide))) hW1 (hide C1) hal)
    go_wp2_with fail
    refine H2.out.mono ?_
    intro e' w2 hP
    cases e2 : betW [44, 32] (fun i st => match p.params[i]? with | some t => putW [t] st | none => none) p.params.length 0 s1 with
    | none =>
      rw [e2] at hP He
      obtain ⟨hFx, rfl, hbx⟩ := hP
      go_wp2_with fail
      refine ⟨rfl, ?_⟩
      show WPost _ _ _ _ _ _ _
      rw [He.out]
      exact ⟨F1.trans hFx, rfl, hbx⟩
    | some s2 =>
      rw [e2] at hP He
      obtain ⟨hFx, rfl, hW2⟩ := hP
      have He : Hid (res = (putW [[41, 32, 123, 10]] s2).bind fun st => (blW p.body 1 st).bind fun st => (indW 1 st).bind fun st => (putW [[114, 101, 116, 117, 114, 110, 32]] st).bind fun st => (tmW p.ret st).bind fun st => putW [[59, 10, 125, 10]] st) := He.out
      have C2 := C1.fr hFx h1 h2 (by decide)
      have F2 := F1.trans hFx
      clear H2
      have m0 := C2.1.cell 0 _ rfl
      have n0 := C2.2.cell 0 _ rfl
      have n1 := C2.2.cell 1 _ rfl
      have n2 := C2.2.cell 2 _ rfl
      have n3 := C2.2.cell 3 _ rfl
      have n4 := C2.2.cell 4 _ rfl
      have n5 := C2.2.cell 5 _ rfl
      have n6 := C2.2.cell 6 _ rfl
      have H3 := hide (put1 w0 q r s2 [41, 32, 123, 10] w2 hW2)
      go_wp2_with fail
      refine H3.out.mono ?_
      intro e' w3 hP
      cases e3 : putW [[41, 32, 123, 10]] s2 with
      | none =>
        rw [e3] at hP He
        obtain ⟨hFx, rfl, hbx⟩ := hP
        go_wp2_with fail
        refine ⟨rfl, ?_⟩
        show WPost _ _ _ _ _ _ _
        rw [He.out]
        exact ⟨F2.trans hFx, rfl, hbx⟩
      | some s3 =>
        rw [e3] at hP He
        obtain ⟨hFx, rfl, hW3⟩ := hP
        have He : Hid (res = (blW p.body 1 s3).bind fun st => (indW 1 st).bind fun st => (putW [[114, 101, 116, 117, 114, 110, 32]] st).bind fun st => (tmW p.ret st).bind fun st => putW [[59, 10, 125, 10]] st) := He.out
        have C3 := C2.fr hFx h1 h2 (by decide)
        have F3 := F2.trans hFx
        clear H3
        have m0 := C3.1.cell 0 _ rfl
        have n0 := C3.2.cell 0 _ rfl
        have n1 := C3.2.cell 1 _ rfl
        have n2 := C3.2.cell 2 _ rfl
        have n3 := C3.2.cell 3 _ rfl
        have n4 := C3.2.cell 4 _ rfl
        have n5 := C3.2.cell 5 _ rfl
        have n6 := C3.2.cell 6 _ rfl
        have H4 := hide (bl_any w0 q r w3 p.body 1 s3 xb cb hW3 (by omega) hs.body hI.b)
        go_wp2_with fail
        refine H4.out.mono ?_
        intro e' w4 hP
        cases e4 : blW p.body 1 s3 with
        | none =>
          rw [e4] at hP He
          obtain ⟨hFx, rfl, hbx⟩ := hP
          go_wp2_with fail
          refine ⟨rfl, ?_⟩
          show WPost _ _ _ _ _ _ _
          rw [He.out]
          exact ⟨F3.trans hFx, rfl, hbx⟩
        | some s4 =>
          rw [e4] at hP He
          obtain ⟨hFx, rfl, hW4⟩ := hP
          have He : Hid (res = (indW 1 s4).bind fun st => (putW [[114, 101, 116, 117, 114, 110, 32]] st).bind fun st => (tmW p.ret st).bind fun st => putW [[59, 10, 125, 10]] st) := He.out
          have C4 := C3.fr hFx h1 h2 (by decide)
          have F4 := F3.trans hFx
          clear H4
          have m0 := C4.1.cell 0 _ rfl
          have n0 := C4.2.cell 0 _ rfl
          have n1 := C4.2.cell 1 _ rfl
          have n2 := C4.2.cell 2 _ rfl
          have n3 := C4.2.cell 3 _ rfl
          have n4 := C4.2.cell 4 _ rfl
          have n5 := C4.2.cell 5 _ rfl
          have n6 := C4.2.cell 6 _ rfl
          have H5 := hide (indent_any w0 q r 1 s4 w4 hW4 (by omega))
          go_wp2_with fail
          refine H5.out.mono ?_
          intro e' w5 hP
          cases e5 : indW 1 s4 with
          | none =>
            rw [e5] at hP He
            obtain ⟨hFx, rfl, hbx⟩ := hP
            go_wp2_with fail
            refine ⟨rfl, ?_⟩
            show WPost _ _ _ _ _ _ _
            rw [He.out]
            exact ⟨F4.trans hFx, rfl, hbx⟩
          | some s5 =>
            rw [e5] at hP He
            obtain ⟨hFx, rfl, hW5⟩ := hP
            have He : Hid (res = (putW [[114, 101, 116, 117, 114, 110, 32]] s5).bind fun st => (tmW p.ret st).bind fun st => putW [[59, 10, 125, 10]] st) := He.out
            have C5 := C4.fr hFx h1 h2 (by decide)
            have F5 := F4.trans hFx
            clear H5
            have m0 := C5.1.cell 0 _ rfl
            have n0 := C5.2.cell 0 _ rfl
            have n1 := C5.2.cell 1 _ rfl
            have n2 := C5.2.cell 2 _ rfl
            have n3 := C5.2.cell 3 _ rfl
            have n4 := C5.2.cell 4 _ rfl
            have n5 := C5.2.cell 5 _ rfl
            have n6 := C5.2.cell 6 _ rfl
            have H6 := hide (put1 w0 q r s5 [114, 101, 116, 117, 114, 110, 32] w5 hW5)
            go_wp2_with fail
            refine H6.out.mono ?_
            intro e' w6 hP
            cases e6 : putW [[114, 101, 116, 117, 114, 110, 32]] s5 with
            | none =>
              rw [e6] at hP He
              obtain ⟨hFx, rfl, hbx⟩ := hP
              go_wp2_with fail
              refine ⟨rfl, ?_⟩
              show WPost _ _ _ _ _ _ _
              rw [He.out]
              exact ⟨F5.trans hFx, rfl, hbx⟩
            | some s6 =>
              rw [e6] at hP He
              obtain ⟨hFx, rfl, hW6⟩ := hP
              have He : Hid (res = (tmW p.ret s6).bind fun st => putW [[59, 10, 125, 10]] st) := He.out
              have C6 := C5.fr hFx h1 h2 (by decide)
              have F6 := F5.trans hFx
              clear H6
              have m0 := C6.1.cell 0 _ rfl
              have n0 := C6.2.cell 0 _ rfl
              have n1 := C6.2.cell 1 _ rfl
              have n2 := C6.2.cell 2 _ rfl
              have n3 := C6.2.cell 3 _ rfl
              have n4 := C6.2.cell 4 _ rfl
              have n5 := C6.2.cell 5 _ rfl
              have n6 := C6.2.cell 6 _ rfl
              have H7 := hide (tm_any w0 q r w6 p.ret xe ce s6 hW6 hs.ret hI.e)
              go_wp2_with fail
              refine H7.out.mono ?_
              intro e' w7 hP
              cases e7 : tmW p.ret s6 with
              | none =>
                rw [e7] at hP He
                obtain ⟨hFx, rfl, hbx⟩ := hP
                go_wp2_with fail
                refine ⟨rfl, ?_⟩
                show WPost _ _ _ _ _ _ _
                rw [He.out]
                exact ⟨F6.trans hFx, rfl, hbx⟩
              | some s7 =>
                rw [e7] at hP He
                obtain ⟨hFx, rfl, hW7⟩ := hP
                have He : Hid (res = putW [[59, 10, 125, 10]] s7) := He.out
                have C7 := C6.fr hFx h1 h2 (by decide)
                have F7 := F6.trans hFx
                clear H7
                have m0 := C7.1.cell 0 _ rfl
                have n0 := C7.2.cell 0 _ rfl
                have n1 := C7.2.cell 1 _ rfl
                have n2 := C7.2.cell 2 _ rfl
                have n3 := C7.2.cell 3 _ rfl
                have n4 := C7.2.cell 4 _ rfl
                have n5 := C7.2.cell 5 _ rfl
                have n6 := C7.2.cell 6 _ rfl
                have H8 := hide (put1 w0 q r s7 [59, 10, 125, 10] w7 hW7)
                go_wp2_with fail
                refine H8.out.mono ?_
                intro e' w8 hP
                cases e8 : putW [[59, 10, 125, 10]] s7 with
                | none =>
                  rw [e8] at hP He
                  obtain ⟨hFx, rfl, hbx⟩ := hP
                  go_wp2_with fail
                  refine ⟨rfl, ?_⟩
                  show WPost _ _ _ _ _ _ _
                  rw [He.out]
                  exact ⟨F7.trans hFx, rfl, hbx⟩
                | some s8 =>
                  rw [e8] at hP He
                  obtain ⟨hFx, rfl, hW8⟩ := hP
                  have He : Hid (res = some s8) := He.out
                  have C8 := C7.fr hFx h1 h2 (by decide)
                  have F8 := F7.trans hFx
                  clear H8
                  have m0 := C8.1.cell 0 _ rfl
                  have n0 := C8.2.cell 0 _ rfl
                  have n1 := C8.2.cell 1 _ rfl
                  have n2 := C8.2.cell 2 _ rfl
                  have n3 := C8.2.cell 3 _ rfl
                  have n4 := C8.2.cell 4 _ rfl
                  have n5 := C8.2.cell 5 _ rfl
                  have n6 := C8.2.cell 6 _ rfl
                  go_wp2_with fail
                  go_end0
                  show WPost _ _ _ _ _ _ _
                  rw [He.out]
                  exact ⟨F8, rfl, hW8⟩
end Go.Proofs.YtbfhaabpfkopdaaGreatDoor
