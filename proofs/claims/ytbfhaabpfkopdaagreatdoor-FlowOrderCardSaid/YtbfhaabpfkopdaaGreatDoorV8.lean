/- The language: a writer: a statement. -/
import Derived.Test.YtbfhaabpfkopdaaGreatDoorV7
namespace Go.Proofs.YtbfhaabpfkopdaaGreatDoor
open Go.RowKit
set_option linter.unusedVariables false

set_option maxRecDepth 20000 in
set_option maxHeartbeats 16000000 in
theorem st_step (w0 : World) (q r k : Nat) (HS : Hid (StC w0 q r k)) : StC w0 q r (k + 1) := by
  intro w s b st xa xc xb xe ca cc cb ce h hk hb hs hI
  obtain ⟨res, hres⟩ : ∃ res, res = stW (k + 1) s b st := ⟨_, rfl⟩
  have He := hide hres
  rw [← hres]
  clear hres
  unfold stW at He
  have hal := hs.argl
  have hcl := hs.condl
  have hC : Cap q w.heap.size (w.heap.size + 1) 185 [.string (bs s.kind), .string (bs s.name), .string (bs s.proc), .slice xa s.args.length ca, .slice xc s.cond.length cc, .slice xb s.body.length cb, .slice xe s.els.length ce] ((w.alloc (.cells #[.pointer (some ⟨q, 0, none⟩)] 237)).alloc (.cells #[.string (bs s.kind), .string (bs s.name), .string (bs s.proc), .slice xa s.args.length ca, .slice xc s.cond.length cc, .slice xb s.body.length cb, .slice xe s.els.length ce] 185)) := by
    have B1 := BoxT.new w 237 [.pointer (some ⟨q, 0, none⟩)]
    have B2 := BoxT.new (w.alloc (.cells #[.pointer (some ⟨q, 0, none⟩)] 237)) 185 [.string (bs s.kind), .string (bs s.name), .string (bs s.proc), .slice xa s.args.length ca, .slice xc s.cond.length cc, .slice xb s.body.length cb, .slice xe s.els.length ce]
    rw [World.size_alloc] at B2
    exact ⟨B1.bel ((Below.refl _ _).alloc (Nat.le_refl _) _), B2⟩
  have hW0 := (h.alloc (.cells #[.pointer (some ⟨q, 0, none⟩)] 237)).alloc (.cells #[.string (bs s.kind), .string (bs s.name), .string (bs s.proc), .slice xa s.args.length ca, .slice xc s.cond.length cc, .slice xb s.body.length cb, .slice xe s.els.length ce] 185)
  have F0 : Fr q w ((w.alloc (.cells #[.pointer (some ⟨q, 0, none⟩)] 237)).alloc (.cells #[.string (bs s.kind), .string (bs s.name), .string (bs s.proc), .slice xa s.args.length ca, .slice xc s.cond.length cc, .slice xb s.body.length cb, .slice xe s.els.length ce] 185)) := ((Fr.refl _ _).alloc _).alloc _
  have h1 : w.heap.size ≠ q := by have := h.lt; omega
  have h2 : w.heap.size + 1 ≠ q := by have := h.lt; omega
  obtain ⟨W0, hW0e⟩ : ∃ W, W = (w.alloc (.cells #[.pointer (some ⟨q, 0, none⟩)] 237)).alloc (.cells #[.string (bs s.kind), .string (bs s.name), .string (bs s.proc), .slice xa s.args.length ca, .slice xc s.cond.length cc, .slice xb s.body.length cb, .slice xe s.els.length ce] 185) := ⟨_, rfl⟩
  rw [← hW0e] at hC hW0 F0
  go_enter Tryz.func214, Tryz.ntmps214
  go_upto_region 1 with fail
  change Code.wp _ _ _ _ ((w.alloc (.cells #[.pointer (some ⟨q, 0, none⟩)] 237)).alloc (.cells #[.string (bs s.kind), .string (bs s.name), .string (bs s.proc), .slice xa s.args.length ca, .slice xc s.cond.length cc, .slice xb s.body.length cb, .slice xe s.els.length ce] 185))
  rw [← hW0e]
  clear hW0e h
  obtain ⟨c1, hc1⟩ : ∃ g, g = w.heap.size := ⟨_, rfl⟩
  obtain ⟨c2, hc2⟩ : ∃ g, g = w.heap.size + 1 := ⟨_, rfl⟩
  rw [← hc2, ← hc1] at hC
  rw [← hc1] at h1
  rw [← hc2] at h2
  rw [← hc2, ← hc1]
  clear hc1 hc2
  have HO := hide (statement1_any w0 q r c1 c2 xa ca s.args (.string (bs s.kind)) (.string (bs s.name)) (.string (bs s.proc)) (.slice xc s.cond.length cc) (.slice xb s.body.length cb) (.slice xe s.els.length ce) h1 h2 hI.a hs.arg)
  have m0 := hC.1.cell 0 _ rfl
  have n0 := hC.2.cell 0 _ rfl
  have n1 := hC.2.cell 1 _ rfl
  have n2 := hC.2.cell 2 _ rfl
  have n3 := hC.2.cell 3 _ rfl
  have n4 := hC.2.cell 4 _ rfl
  by_cases kS : s.kind = [115, 101, 116]
  · rw [if_pos kS] at He
    have kS' : (s.kind == [115, 101, 116]) = true := by simp [kS]
    clear kS
    have H1 := hide (put2 w0 q r st s.name [32, 61, 32] W0 hW0)
    go_wp2_with fail
    refine H1.out.mono ?_
    intro e' w1 hP
    cases e1 : putW [s.name, [32, 61, 32]] st with
    | none =>
      rw [e1] at hP He
      obtain ⟨hFx, rfl, hbx⟩ := hP
      go_wp2_with fail
      refine ⟨rfl, ?_⟩
      show WPost _ _ _ _ _ _ _
      rw [He.out]
      exact ⟨F0.trans hFx, rfl, hbx⟩
    | some s1 =>
      rw [e1] at hP He
      obtain ⟨hFx, rfl, hW1⟩ := hP
      have He : Hid (res = (pickW s.args 0 fun a => tmW a s1).bind fun st => putW [[59, 10]] st) := He.out
      have C1 := hC.fr hFx h1 h2 (by decide)
      have F1 := F0.trans hFx
      clear H1
      have m0 := C1.1.cell 0 _ rfl
      have n0 := C1.2.cell 0 _ rfl
      have n1 := C1.2.cell 1 _ rfl
      have n2 := C1.2.cell 2 _ rfl
      have n3 := C1.2.cell 3 _ rfl
      have n4 := C1.2.cell 4 _ rfl
      have n5 := C1.2.cell 5 _ rfl
      have n6 := C1.2.cell 6 _ rfl
      have hbd2 : Below w1.heap.size w1 w1.drew := (Below.refl _ _).drew
      have cd2 := C1.bel hbd2
      have wd2 := hW1.below hbd2
      have Fd2 := F1.trans (Fr.of hbd2)
      go_upto_region 5 with fail
      refine wp_region_held (S := fun w' => w'.cell? ⟨c1, 0, none⟩ = some (.pointer (some ⟨q, 0, none⟩)) ∧ w'.cell? ⟨c2, 3, none⟩ = some (.slice xa s.args.length ca)) (by kernel_rfl) ?_
      have hS9 : w1.drew.cell? ⟨c1, 0, none⟩ = some (.pointer (some ⟨q, 0, none⟩)) ∧ w1.drew.cell? ⟨c2, 3, none⟩ = some (.slice xa s.args.length ca) := ⟨cd2.1.cell 0 _ rfl, cd2.2.cell 3 _ rfl⟩
      (refine wpAnyH_take (i := 0) (v := ?_) rfl (by kernel_rfl) (by kernel_rfl) (by kernel_rfl) (fun _ _ _ h => h) (Or.inl ⟨by rfl, ?_⟩) hS9 ?_; rotate_left 1; (intro w' hSw; (try dsimp only at hSw); go_simp; (try rw [if_pos (by omega)])); (try rfl); (try dsimp only [Act.put]))
      (refine wpAnyH_take (i := 1) (v := ?_) rfl (by kernel_rfl) (by kernel_rfl) (by kernel_rfl) (fun _ _ _ h => h) (Or.inl ⟨by rfl, ?_⟩) hS9 ?_; rotate_left 1; (intro w' hSw; (try dsimp only at hSw); go_simp; (try rw [if_pos (by omega)])); (try rfl); (try dsimp only [Act.put]))
      (refine wpAnyH_take (i := 2) (v := ?_) rfl (by kernel_rfl) (by kernel_rfl) (by kernel_rfl) (fun _ _ _ h => h) (Or.inl ⟨by rfl, ?_⟩) hS9 ?_; rotate_left 1; (intro w' hSw; (try dsimp only at hSw); go_simp; (try rw [if_pos (by omega)])); (try rfl); (try dsimp only [Act.put]))
      refine wpAnyH_all (rs := [3]) (by kernel_rfl) (by simp) ?_
      intro i9 hi9
      obtain rfl : i9 = 3 := by simpa using hi9
      unfold wpOp
      go_simp
      cases p2 : s.args[0]? with
      | none =>
        have H2 := hide (pick_none s.args 0 xa ca w1.drew hal (none_le p2) (by omega))
        have He : Hid (res = none) := by show _ = _; rw [He.out, pickW_none p2]; rfl
        have hbel := wd2.bel
        refine Or.inl (H2.out.mono ?_)
        rintro e' w2 ⟨rfl, hbx⟩
        refine ⟨rfl, ?_⟩
        show WPost _ _ _ _ _ _ _
        rw [He.out]
        exact ⟨Fd2.trans (Fr.of hbx), rfl, hbel.trans (hbx.mono hbel.size)⟩
      | some a2 =>
        have H2 := hide (pick_some w0 s.args 0 a2 xa ca w1.drew wd2.bel hI.a hal p2 (by omega))
        have He : Hid (res = (tmW a2 s1).bind fun st => putW [[59, 10]] st) := by show _ = _; rw [He.out, pickW_some p2]
        refine Or.inl (H2.out.mono ?_)
        rintro e' x2 ⟨⟨ya2, yc2, rfl, hya2⟩, hbx⟩
        have ce2 := cd2.bel hbx
        have we2 := wd2.below hbx
        have Fe2 := Fd2.trans (Fr.of hbx)
        refine ⟨⟨ce2.1.cell 0 _ rfl, ce2.2.cell 3 _ rfl⟩, ?_⟩
        refine wpAnyH_all (rs := [4]) (by kernel_rfl) (by simp) ?_
        intro i9 hi9
        obtain rfl : i9 = 4 := by simpa using hi9
        unfold wpOp
        go_simp
        have HH2 := hide (tm_any w0 q r x2 a2 ya2 yc2 s1 we2 (hs.arg 0 _ p2) hya2)
        refine Or.inl (HH2.out.mono ?_)
        intro e' w2 hP
        cases e2 : tmW a2 s1 with
        | none =>
          rw [e2] at hP He
          obtain ⟨hFx, rfl, hbx⟩ := hP
          refine ⟨rfl, ?_⟩
          show WPost _ _ _ _ _ _ _
          rw [He.out]
          exact ⟨Fe2.trans hFx, rfl, hbx⟩
        | some s2 =>
          rw [e2] at hP He
          obtain ⟨hFx, rfl, hW2⟩ := hP
          have He : Hid (res = putW [[59, 10]] s2) := He.out
          have C2 := ce2.fr hFx h1 h2 (by decide)
          have F2 := Fe2.trans hFx
          refine ⟨⟨C2.1.cell 0 _ rfl, C2.2.cell 3 _ rfl⟩, by kernel_rfl, ?_⟩
          clear hS9 H2 HH2
          have m0 := C2.1.cell 0 _ rfl
          have n0 := C2.2.cell 0 _ rfl
          have n1 := C2.2.cell 1 _ rfl
          have n2 := C2.2.cell 2 _ rfl
          have n3 := C2.2.cell 3 _ rfl
          have n4 := C2.2.cell 4 _ rfl
          have n5 := C2.2.cell 5 _ rfl
          have n6 := C2.2.cell 6 _ rfl
          have H3 := hide (put1 w0 q r s2 [59, 10] w2 hW2)
          go_wp2_with fail
          refine H3.out.mono ?_
          intro e' w3 hP
          cases e3 : putW [[59, 10]] s2 with
          | none =>
            rw [e3] at hP He
            obtain ⟨hFx, rfl, hbx⟩ := hP
            go_wp2_with fail
            refine ⟨rfl, ?_⟩
            show WPost _ _ _ _ _ _ _
            rw [He.out]
            exact ⟨F2.trans hFx, rfl, hbx⟩
          | some s3 =>
            rw [e3] at hP He
            obtain ⟨hFx, rfl, hW3⟩ := hP
            have He : Hid (res = some s3) := He.out
            have C3 := C2.fr hFx h1 h2 (by decide)
            have F3 := F2.trans hFx
            clear H3
            have m0 := C3.1.cell 0 _ rfl
            have n0 := C3.2.cell 0 _ rfl
            have n1 := C3.2.cell 1 _ rfl
            have n2 := C3.2.cell 2 _ rfl
            have n3 := C3.2.cell 3 _ rfl
            have n4 := C3.2.cell 4 _ rfl
            have n5 := C3.2.cell 5 _ rfl
            have n6 := C3.2.cell 6 _ rfl
            go_wp2_with fail
            go_end0
            show WPost _ _ _ _ _ _ _
            rw [He.out]
            exact ⟨F3, rfl, hW3⟩
  rw [if_neg kS] at He
  have kS' : (s.kind == [115, 101, 116]) = false := by simp [kS]
  clear kS
  by_cases kP : s.kind = [112, 117, 116]
  · rw [if_pos kP] at He
    have kP' : (s.kind == [112, 117, 116]) = true := by simp [kP]
    clear kP
    have H4 := hide (put2 w0 q r st s.name [91] W0 hW0)
    go_wp2_with fail
    refine H4.out.mono ?_
    intro e' w4 hP
    cases e4 : putW [s.name, [91]] st with
    | none =>
      rw [e4] at hP He
      obtain ⟨hFx, rfl, hbx⟩ := hP
      go_wp2_with fail
      refine ⟨rfl, ?_⟩
      show WPost _ _ _ _ _ _ _
      rw [He.out]
      exact ⟨F0.trans hFx, rfl, hbx⟩
    | some s4 =>
      rw [e4] at hP He
      obtain ⟨hFx, rfl, hW4⟩ := hP
      have He : Hid (res = (pickW s.args 0 fun a => tmW a s4).bind fun st => (putW [[93, 32, 61, 32]] st).bind fun st => (pickW s.args 1 fun a => tmW a st).bind fun st => putW [[59, 10]] st) := He.out
      have C4 := hC.fr hFx h1 h2 (by decide)
      have F4 := F0.trans hFx
      clear H4
      have m0 := C4.1.cell 0 _ rfl
      have n0 := C4.2.cell 0 _ rfl
      have n1 := C4.2.cell 1 _ rfl
      have n2 := C4.2.cell 2 _ rfl
      have n3 := C4.2.cell 3 _ rfl
      have n4 := C4.2.cell 4 _ rfl
      have n5 := C4.2.cell 5 _ rfl
      have n6 := C4.2.cell 6 _ rfl
      have hbd5 : Below w4.heap.size w4 w4.drew := (Below.refl _ _).drew
      have cd5 := C4.bel hbd5
      have wd5 := hW4.below hbd5
      have Fd5 := F4.trans (Fr.of hbd5)
      go_upto_region 9 with fail
      refine wp_region_held (S := fun w' => w'.cell? ⟨c1, 0, none⟩ = some (.pointer (some ⟨q, 0, none⟩)) ∧ w'.cell? ⟨c2, 3, none⟩ = some (.slice xa s.args.length ca)) (by kernel_rfl) ?_
      have hS9 : w4.drew.cell? ⟨c1, 0, none⟩ = some (.pointer (some ⟨q, 0, none⟩)) ∧ w4.drew.cell? ⟨c2, 3, none⟩ = some (.slice xa s.args.length ca) := ⟨cd5.1.cell 0 _ rfl, cd5.2.cell 3 _ rfl⟩
      (refine wpAnyH_take (i := 0) (v := ?_) rfl (by kernel_rfl) (by kernel_rfl) (by kernel_rfl) (fun _ _ _ h => h) (Or.inl ⟨by rfl, ?_⟩) hS9 ?_; rotate_left 1; (intro w' hSw; (try dsimp only at hSw); go_simp; (try rw [if_pos (by omega)])); (try rfl); (try dsimp only [Act.put]))
      (refine wpAnyH_take (i := 1) (v := ?_) rfl (by kernel_rfl) (by kernel_rfl) (by kernel_rfl) (fun _ _ _ h => h) (Or.inl ⟨by rfl, ?_⟩) hS9 ?_; rotate_left 1; (intro w' hSw; (try dsimp only at hSw); go_simp; (try rw [if_pos (by omega)])); (try rfl); (try dsimp only [Act.put]))
      (refine wpAnyH_take (i := 2) (v := ?_) rfl (by kernel_rfl) (by kernel_rfl) (by kernel_rfl) (fun _ _ _ h => h) (Or.inl ⟨by rfl, ?_⟩) hS9 ?_; rotate_left 1; (intro w' hSw; (try dsimp only at hSw); go_simp; (try rw [if_pos (by omega)])); (try rfl); (try dsimp only [Act.put]))
      refine wpAnyH_all (rs := [3]) (by kernel_rfl) (by simp) ?_
      intro i9 hi9
      obtain rfl : i9 = 3 := by simpa using hi9
      unfold wpOp
      go_simp
      cases p5 : s.args[0]? with
      | none =>
        have H5 := hide (pick_none s.args 0 xa ca w4.drew hal (none_le p5) (by omega))
        have He : Hid (res = none) := by show _ = _; rw [He.out, pickW_none p5]; rfl
        have hbel := wd5.bel
        refine Or.inl (H5.out.mono ?_)
        rintro e' w5 ⟨rfl, hbx⟩
        refine ⟨rfl, ?_⟩
        show WPost _ _ _ _ _ _ _
        rw [He.out]
        exact ⟨Fd5.trans (Fr.of hbx), rfl, hbel.trans (hbx.mono hbel.size)⟩
      | some a5 =>
        have H5 := hide (pick_some w0 s.args 0 a5 xa ca w4.drew wd5.bel hI.a hal p5 (by omega))
        have He : Hid (res = (tmW a5 s4).bind fun st => (putW [[93, 32, 61, 32]] st).bind fun st => (pickW s.args 1 fun a => tmW a st).bind fun st => putW [[59, 10]] st) := by show _ = _; rw [He.out, pickW_some p5]
        refine Or.inl (H5.out.mono ?_)
        rintro e' x5 ⟨⟨ya5, yc5, rfl, hya5⟩, hbx⟩
        have ce5 := cd5.bel hbx
        have we5 := wd5.below hbx
        have Fe5 := Fd5.trans (Fr.of hbx)
        refine ⟨⟨ce5.1.cell 0 _ rfl, ce5.2.cell 3 _ rfl⟩, ?_⟩
        refine wpAnyH_all (rs := [4]) (by kernel_rfl) (by simp) ?_
        intro i9 hi9
        obtain rfl : i9 = 4 := by simpa using hi9
        unfold wpOp
        go_simp
        have HH5 := hide (tm_any w0 q r x5 a5 ya5 yc5 s4 we5 (hs.arg 0 _ p5) hya5)
        refine Or.inl (HH5.out.mono ?_)
        intro e' w5 hP
        cases e5 : tmW a5 s4 with
        | none =>
          rw [e5] at hP He
          obtain ⟨hFx, rfl, hbx⟩ := hP
          refine ⟨rfl, ?_⟩
          show WPost _ _ _ _ _ _ _
          rw [He.out]
          exact ⟨Fe5.trans hFx, rfl, hbx⟩
        | some s5 =>
          rw [e5] at hP He
          obtain ⟨hFx, rfl, hW5⟩ := hP
          have He : Hid (res = (putW [[93, 32, 61, 32]] s5).bind fun st => (pickW s.args 1 fun a => tmW a st).bind fun st => putW [[59, 10]] st) := He.out
          have C5 := ce5.fr hFx h1 h2 (by decide)
          have F5 := Fe5.trans hFx
          refine ⟨⟨C5.1.cell 0 _ rfl, C5.2.cell 3 _ rfl⟩, by kernel_rfl, ?_⟩
          clear hS9 H5 HH5
          have m0 := C5.1.cell 0 _ rfl
          have n0 := C5.2.cell 0 _ rfl
          have n1 := C5.2.cell 1 _ rfl
          have n2 := C5.2.cell 2 _ rfl
          have n3 := C5.2.cell 3 _ rfl
          have n4 := C5.2.cell 4 _ rfl
          have n5 := C5.2.cell 5 _ rfl
          have n6 := C5.2.cell 6 _ rfl
          have H6 := hide (put1 w0 q r s5 [93, 32, 61, 32] w5 hW5)
          go_wp2_with fail
          refine H6.out.mono ?_
          intro e' w6 hP
          cases e6 : putW [[93, 32, 61, 32]] s5 with
          | none =>
            rw [e6] at hP He
            obtain ⟨hFx, rfl, hbx⟩ := hP
            go_wp2_with fail
            refine ⟨rfl, ?_⟩
            show WPost _ _ _ _ _ _ _
            rw [He.out]
            exact ⟨F5.trans hFx, rfl, hbx⟩
          | some s6 =>
            rw [e6] at hP He
            obtain ⟨hFx, rfl, hW6⟩ := hP
            have He : Hid (res = (pickW s.args 1 fun a => tmW a s6).bind fun st => putW [[59, 10]] st) := He.out
            have C6 := C5.fr hFx h1 h2 (by decide)
            have F6 := F5.trans hFx
            clear H6
            have m0 := C6.1.cell 0 _ rfl
            have n0 := C6.2.cell 0 _ rfl
            have n1 := C6.2.cell 1 _ rfl
            have n2 := C6.2.cell 2 _ rfl
            have n3 := C6.2.cell 3 _ rfl
            have n4 := C6.2.cell 4 _ rfl
            have n5 := C6.2.cell 5 _ rfl
            have n6 := C6.2.cell 6 _ rfl
            have hbd7 : Below w6.heap.size w6 w6.drew := (Below.refl _ _).drew
            have cd7 := C6.bel hbd7
            have wd7 := hW6.below hbd7
            have Fd7 := F6.trans (Fr.of hbd7)
            go_upto_region 11 with fail
            refine wp_region_held (S := fun w' => w'.cell? ⟨c1, 0, none⟩ = some (.pointer (some ⟨q, 0, none⟩)) ∧ w'.cell? ⟨c2, 3, none⟩ = some (.slice xa s.args.length ca)) (by kernel_rfl) ?_
            have hS9 : w6.drew.cell? ⟨c1, 0, none⟩ = some (.pointer (some ⟨q, 0, none⟩)) ∧ w6.drew.cell? ⟨c2, 3, none⟩ = some (.slice xa s.args.length ca) := ⟨cd7.1.cell 0 _ rfl, cd7.2.cell 3 _ rfl⟩
            (refine wpAnyH_take (i := 0) (v := ?_) rfl (by kernel_rfl) (by kernel_rfl) (by kernel_rfl) (fun _ _ _ h => h) (Or.inl ⟨by rfl, ?_⟩) hS9 ?_; rotate_left 1; (intro w' hSw; (try dsimp only at hSw); go_simp; (try rw [if_pos (by omega)])); (try rfl); (try dsimp only [Act.put]))
            (refine wpAnyH_take (i := 1) (v := ?_) rfl (by kernel_rfl) (by kernel_rfl) (by kernel_rfl) (fun _ _ _ h => h) (Or.inl ⟨by rfl, ?_⟩) hS9 ?_; rotate_left 1; (intro w' hSw; (try dsimp only at hSw); go_simp; (try rw [if_pos (by omega)])); (try rfl); (try dsimp only [Act.put]))
            (refine wpAnyH_take (i := 2) (v := ?_) rfl (by kernel_rfl) (by kernel_rfl) (by kernel_rfl) (fun _ _ _ h => h) (Or.inl ⟨by rfl, ?_⟩) hS9 ?_; rotate_left 1; (intro w' hSw; (try dsimp only at hSw); go_simp; (try rw [if_pos (by omega)])); (try rfl); (try dsimp only [Act.put]))
            refine wpAnyH_all (rs := [3]) (by kernel_rfl) (by simp) ?_
            intro i9 hi9
            obtain rfl : i9 = 3 := by simpa using hi9
            unfold wpOp
            go_simp
            cases p7 : s.args[1]? with
            | none =>
              have H7 := hide (pick_none s.args 1 xa ca w6.drew hal (none_le p7) (by omega))
              have He : Hid (res = none) := by show _ = _; rw [He.out, pickW_none p7]; rfl
              have hbel := wd7.bel
              refine Or.inl (H7.out.mono ?_)
              rintro e' w7 ⟨rfl, hbx⟩
              refine ⟨rfl, ?_⟩
              show WPost _ _ _ _ _ _ _
              rw [He.out]
              exact ⟨Fd7.trans (Fr.of hbx), rfl, hbel.trans (hbx.mono hbel.size)⟩
            | some a7 =>
              have H7 := hide (pick_some w0 s.args 1 a7 xa ca w6.drew wd7.bel hI.a hal p7 (by omega))
              have He : Hid (res = (tmW a7 s6).bind fun st => putW [[59, 10]] st) := by show _ = _; rw [He.out, pickW_some p7]
              refine Or.inl (H7.out.mono ?_)
              rintro e' x7 ⟨⟨ya7, yc7, rfl, hya7⟩, hbx⟩
              have ce7 := cd7.bel hbx
              have we7 := wd7.below hbx
              have Fe7 := Fd7.trans (Fr.of hbx)
              refine ⟨⟨ce7.1.cell 0 _ rfl, ce7.2.cell 3 _ rfl⟩, ?_⟩
              refine wpAnyH_all (rs := [4]) (by kernel_rfl) (by simp) ?_
              intro i9 hi9
              obtain rfl : i9 = 4 := by simpa using hi9
              unfold wpOp
              go_simp
              have HH7 := hide (tm_any w0 q r x7 a7 ya7 yc7 s6 we7 (hs.arg 1 _ p7) hya7)
              refine Or.inl (HH7.out.mono ?_)
              intro e' w7 hP
              cases e7 : tmW a7 s6 with
              | none =>
                rw [e7] at hP He
                obtain ⟨hFx, rfl, hbx⟩ := hP
                refine ⟨rfl, ?_⟩
                show WPost _ _ _ _ _ _ _
                rw [He.out]
                exact ⟨Fe7.trans hFx, rfl, hbx⟩
              | some s7 =>
                rw [e7] at hP He
                obtain ⟨hFx, rfl, hW7⟩ := hP
                have He : Hid (res = putW [[59, 10]] s7) := He.out
                have C7 := ce7.fr hFx h1 h2 (by decide)
                have F7 := Fe7.trans hFx
                refine ⟨⟨C7.1.cell 0 _ rfl, C7.2.cell 3 _ rfl⟩, by kernel_rfl, ?_⟩
                clear hS9 H7 HH7
                have m0 := C7.1.cell 0 _ rfl
                have n0 := C7.2.cell 0 _ rfl
                have n1 := C7.2.cell 1 _ rfl
                have n2 := C7.2.cell 2 _ rfl
                have n3 := C7.2.cell 3 _ rfl
                have n4 := C7.2.cell 4 _ rfl
                have n5 := C7.2.cell 5 _ rfl
                have n6 := C7.2.cell 6 _ rfl
                have H8 := hide (put1 w0 q r s7 [59, 10] w7 hW7)
                go_wp2_with fail
                refine H8.out.mono ?_
                intro e' w8 hP
                cases e8 : putW [[59, 10]] s7 with
                | none =>
                  rw [e8] at hP He
                  obtain ⟨hFx, rfl, hbx⟩ := hP
                  go_wp2_with fail
                  refine ⟨rfl, ?_⟩
                  show WPost _ _ _ _ _ _ _
                  rw [He.out]
                  exact ⟨F7.trans hFx, rfl, hbx⟩
                | some s8 =>
                  rw [e8] at hP He
                  obtain ⟨hFx, rfl, hW8⟩ := hP
                  have He : Hid (res = some s8) := He.out
                  have C8 := C7.fr hFx h1 h2 (by decide)
                  have F8 := F7.trans hFx
                  clear H8
                  have m0 := C8.1.cell 0 _ rfl
                  have n0 := C8.2.cell 0 _ rfl
                  have n1 := C8.2.cell 1 _ rfl
                  have n2 := C8.2.cell 2 _ rfl
                  have n3 := C8.2.cell 3 _ rfl
                  have n4 := C8.2.cell 4 _ rfl
                  have n5 := C8.2.cell 5 _ rfl
                  have n6 := C8.2.cell 6 _ rfl
                  go_wp2_with fail
                  go_end0
                  show WPost _ _ _ _ _ _ _
                  rw [He.out]
                  exact ⟨F8, rfl, hW8⟩
  rw [if_neg kP] at He
  have kP' : (s.kind == [112, 117, 116]) = false := by simp [kP]
  clear kP
  by_cases kC : s.kind = [99, 97, 108, 108]
  · rw [if_pos kC] at He
    have kC' : (s.kind == [99, 97, 108, 108]) = true := by simp [kC]
    clear kC
    have H9 := hide (put4s w0 q r st s.name [32, 61, 32, 99, 97, 108, 108, 32] s.proc [40] W0 hW0)
    go_wp2_with fail
    refine H9.out.mono ?_
    intro e' w9 hP
    cases e9 : putW [s.name, [32, 61, 32, 99, 97, 108, 108, 32], s.proc, [40]] st with
    | none =>
      rw [e9] at hP He
      obtain ⟨hFx, rfl, hbx⟩ := hP
      go_wp2_with fail
      refine ⟨rfl, ?_⟩
      show WPost _ _ _ _ _ _ _
      rw [He.out]
      exact ⟨F0.trans hFx, rfl, hbx⟩
    | some s9 =>
      rw [e9] at hP He
      obtain ⟨hFx, rfl, hW9⟩ := hP
      have He : Hid (res = (betW [44, 32] (fun i st => match s.args[i]? with | some a => tmW a st | none => none) s.args.length 0 s9).bind fun st => putW [[41, 59, 10]] st) := He.out
      have C9 := hC.fr hFx h1 h2 (by decide)
      have F9 := F0.trans hFx
      clear H9
      have m0 := C9.1.cell 0 _ rfl
      have n0 := C9.2.cell 0 _ rfl
      have n1 := C9.2.cell 1 _ rfl
      have n2 := C9.2.cell 2 _ rfl
      have n3 := C9.2.cell 3 _ rfl
      have n4 := C9.2.cell 4 _ rfl
      have n5 := C9.2.cell 5 _ rfl
      have n6 := C9.2.cell 6 _ rfl
      have H10 := hide (between_any w0 q r 252 s.args.length c1 c2 [44, 32] (Cap q c1 c2 185 [.string (bs s.kind), .string (bs s.name), .string (bs s.proc), .slice xa s.args.length ca, .slice xc s.cond.length cc, .slice xb s.body.length cb, .slice xe s.els.length ce]) (fun i st => match s.args[i]? with | some a => tmW a st | none => none) s9 w9 (hide enters_statement1) HO (hide (fun W W' hc hf => hc.fr hf h1 h2 (by decide))) hW9 (hide C9) hal)
      go_wp2_with fail
      refine H10.out.mono ?_
      intro e' w10 hP
      cases e10 : betW [44, 32] (fun i st => match s.args[i]? with | some a => tmW a st | none => none) s.args.length 0 s9 with
      | none =>
        rw [e10] at hP He
        obtain ⟨hFx, rfl, hbx⟩ := hP
        go_wp2_with fail
        refine ⟨rfl, ?_⟩
        show WPost _ _ _ _ _ _ _
        rw [He.out]
        exact ⟨F9.trans hFx, rfl, hbx⟩
      | some s10 =>
        rw [e10] at hP He
        obtain ⟨hFx, rfl, hW10⟩ := hP
        have He : Hid (res = putW [[41, 59, 10]] s10) := He.out
        have C10 := C9.fr hFx h1 h2 (by decide)
        have F10 := F9.trans hFx
        clear H10
        have m0 := C10.1.cell 0 _ rfl
        have n0 := C10.2.cell 0 _ rfl
        have n1 := C10.2.cell 1 _ rfl
        have n2 := C10.2.cell 2 _ rfl
        have n3 := C10.2.cell 3 _ rfl
        have n4 := C10.2.cell 4 _ rfl
        have n5 := C10.2.cell 5 _ rfl
        have n6 := C10.2.cell 6 _ rfl
        have H11 := hide (put1 w0 q r s10 [41, 59, 10] w10 hW10)
        go_wp2_with fail
        refine H11.out.mono ?_
        intro e' w11 hP
        cases e11 : putW [[41, 59, 10]] s10 with
        | none =>
          rw [e11] at hP He
          obtain ⟨hFx, rfl, hbx⟩ := hP
          go_wp2_with fail
          refine ⟨rfl, ?_⟩
          show WPost _ _ _ _ _ _ _
          rw [He.out]
          exact ⟨F10.trans hFx, rfl, hbx⟩
        | some s11 =>
          rw [e11] at hP He
          obtain ⟨hFx, rfl, hW11⟩ := hP
          have He : Hid (res = some s11) := He.out
          have C11 := C10.fr hFx h1 h2 (by decide)
          have F11 := F10.trans hFx
          clear H11
          have m0 := C11.1.cell 0 _ rfl
          have n0 := C11.2.cell 0 _ rfl
          have n1 := C11.2.cell 1 _ rfl
          have n2 := C11.2.cell 2 _ rfl
          have n3 := C11.2.cell 3 _ rfl
          have n4 := C11.2.cell 4 _ rfl
          have n5 := C11.2.cell 5 _ rfl
          have n6 := C11.2.cell 6 _ rfl
          go_wp2_with fail
          go_end0
          show WPost _ _ _ _ _ _ _
          rw [He.out]
          exact ⟨F11, rfl, hW11⟩
  rw [if_neg kC] at He
  have kC' : (s.kind == [99, 97, 108, 108]) = false := by simp [kC]
  clear kC
  clear HO
  by_cases kB : s.kind = [105, 102] ∨ s.kind = [119, 104, 105, 108, 101]
  · rw [if_pos kB] at He
    by_cases kI : s.kind = [105, 102]
    · have kI' : (s.kind == [105, 102]) = true := by simp [kI]
      clear kI kB
      have H12 := hide (put2 w0 q r st s.kind [32] W0 hW0)
      go_wp2_with fail
      refine H12.out.mono ?_
      intro e' w12 hP
      cases e12 : putW [s.kind, [32]] st with
      | none =>
        rw [e12] at hP He
        obtain ⟨hFx, rfl, hbx⟩ := hP
        go_wp2_with fail
        refine ⟨rfl, ?_⟩
        show WPost _ _ _ _ _ _ _
        rw [He.out]
        exact ⟨F0.trans hFx, rfl, hbx⟩
      | some s12 =>
        rw [e12] at hP He
        obtain ⟨hFx, rfl, hW12⟩ := hP
        have He : Hid (res = (condW s.cond s12).bind fun st => brW (stW k) s b st) := He.out
        have C12 := hC.fr hFx h1 h2 (by decide)
        have F12 := F0.trans hFx
        clear H12
        have u12 := Grows.put _ _ _ e12
        have m0 := C12.1.cell 0 _ rfl
        have n0 := C12.2.cell 0 _ rfl
        have n1 := C12.2.cell 1 _ rfl
        have n2 := C12.2.cell 2 _ rfl
        have n3 := C12.2.cell 3 _ rfl
        have n4 := C12.2.cell 4 _ rfl
        have n5 := C12.2.cell 5 _ rfl
        have n6 := C12.2.cell 6 _ rfl
        have H13 := hide (condw_any w0 q r xc cc s.cond s12 w12 hW12 hI.c hs.cond hcl)
        go_wp2_with fail
        refine H13.out.mono ?_
        intro e' w13 hP
        cases e13 : condW s.cond s12 with
        | none =>
          rw [e13] at hP He
          obtain ⟨hFx, rfl, hbx⟩ := hP
          go_wp2_with fail
          refine ⟨rfl, ?_⟩
          show WPost _ _ _ _ _ _ _
          rw [He.out]
          exact ⟨F12.trans hFx, rfl, hbx⟩
        | some s13 =>
          rw [e13] at hP He
          obtain ⟨hFx, rfl, hW13⟩ := hP
          have He : Hid (res = brW (stW k) s b s13) := He.out
          have C13 := C12.fr hFx h1 h2 (by decide)
          have F13 := F12.trans hFx
          clear H13
          have u13 := Grows.cond s.cond _ _ e13
          have m0 := C13.1.cell 0 _ rfl
          have n0 := C13.2.cell 0 _ rfl
          have n1 := C13.2.cell 1 _ rfl
          have n2 := C13.2.cell 2 _ rfl
          have n3 := C13.2.cell 3 _ rfl
          have n4 := C13.2.cell 4 _ rfl
          have n5 := C13.2.cell 5 _ rfl
          have n6 := C13.2.cell 6 _ rfl
          have H14 := hide (branches_any w0 q r k (hide (sts_step w0 q r k HS)) w13 s b s13 xa xc xb xe ca cc cb ce hW13 (by omega) (by omega) hs hI)
          go_wp2_with fail
          refine H14.out.mono ?_
          intro e' w14 hP
          cases e14 : brW (stW k) s b s13 with
          | none =>
            rw [e14] at hP He
            obtain ⟨hFx, rfl, hbx⟩ := hP
            go_wp2_with fail
            refine ⟨rfl, ?_⟩
            show WPost _ _ _ _ _ _ _
            rw [He.out]
            exact ⟨F13.trans hFx, rfl, hbx⟩
          | some s14 =>
            rw [e14] at hP He
            obtain ⟨hFx, rfl, hW14⟩ := hP
            have He : Hid (res = some s14) := He.out
            have C14 := C13.fr hFx h1 h2 (by decide)
            have F14 := F13.trans hFx
            clear H14
            have m0 := C14.1.cell 0 _ rfl
            have n0 := C14.2.cell 0 _ rfl
            have n1 := C14.2.cell 1 _ rfl
            have n2 := C14.2.cell 2 _ rfl
            have n3 := C14.2.cell 3 _ rfl
            have n4 := C14.2.cell 4 _ rfl
            have n5 := C14.2.cell 5 _ rfl
            have n6 := C14.2.cell 6 _ rfl
            go_wp2_with fail
            go_end0
            show WPost _ _ _ _ _ _ _
            rw [He.out]
            exact ⟨F14, rfl, hW14⟩
    · have kI' : (s.kind == [105, 102]) = false := by simp [kI]
      have kW' : (s.kind == [119, 104, 105, 108, 101]) = true := by simp; exact kB.resolve_left kI
      clear kI kB
      have H15 := hide (put2 w0 q r st s.kind [32] W0 hW0)
      go_wp2_with fail
      refine H15.out.mono ?_
      intro e' w15 hP
      cases e15 : putW [s.kind, [32]] st with
      | none =>
        rw [e15] at hP He
        obtain ⟨hFx, rfl, hbx⟩ := hP
        go_wp2_with fail
        refine ⟨rfl, ?_⟩
        show WPost _ _ _ _ _ _ _
        rw [He.out]
        exact ⟨F0.trans hFx, rfl, hbx⟩
      | some s15 =>
        rw [e15] at hP He
        obtain ⟨hFx, rfl, hW15⟩ := hP
        have He : Hid (res = (condW s.cond s15).bind fun st => brW (stW k) s b st) := He.out
        have C15 := hC.fr hFx h1 h2 (by decide)
        have F15 := F0.trans hFx
        clear H15
        have u15 := Grows.put _ _ _ e15
        have m0 := C15.1.cell 0 _ rfl
        have n0 := C15.2.cell 0 _ rfl
        have n1 := C15.2.cell 1 _ rfl
        have n2 := C15.2.cell 2 _ rfl
        have n3 := C15.2.cell 3 _ rfl
        have n4 := C15.2.cell 4 _ rfl
        have n5 := C15.2.cell 5 _ rfl
        have n6 := C15.2.cell 6 _ rfl
        have H16 := hide (condw_any w0 q r xc cc s.cond s15 w15 hW15 hI.c hs.cond hcl)
        go_wp2_with fail
        refine H16.out.mono ?_
        intro e' w16 hP
        cases e16 : condW s.cond s15 with
        | none =>
          rw [e16] at hP He
          obtain ⟨hFx, rfl, hbx⟩ := hP
          go_wp2_with fail
          refine ⟨rfl, ?_⟩
          show WPost _ _ _ _ _ _ _
          rw [He.out]
          exact ⟨F15.trans hFx, rfl, hbx⟩
        | some s16 =>
          rw [e16] at hP He
          obtain ⟨hFx, rfl, hW16⟩ := hP
          have He : Hid (res = brW (stW k) s b s16) := He.out
          have C16 := C15.fr hFx h1 h2 (by decide)
          have F16 := F15.trans hFx
          clear H16
          have u16 := Grows.cond s.cond _ _ e16
          have m0 := C16.1.cell 0 _ rfl
          have n0 := C16.2.cell 0 _ rfl
          have n1 := C16.2.cell 1 _ rfl
          have n2 := C16.2.cell 2 _ rfl
          have n3 := C16.2.cell 3 _ rfl
          have n4 := C16.2.cell 4 _ rfl
          have n5 := C16.2.cell 5 _ rfl
          have n6 := C16.2.cell 6 _ rfl
          have H17 := hide (branches_any w0 q r k (hide (sts_step w0 q r k HS)) w16 s b s16 xa xc xb xe ca cc cb ce hW16 (by omega) (by omega) hs hI)
          go_wp2_with fail
          refine H17.out.mono ?_
          intro e' w17 hP
          cases e17 : brW (stW k) s b s16 with
          | none =>
            rw [e17] at hP He
            obtain ⟨hFx, rfl, hbx⟩ := hP
            go_wp2_with fail
            refine ⟨rfl, ?_⟩
            show WPost _ _ _ _ _ _ _
            rw [He.out]
            exact ⟨F16.trans hFx, rfl, hbx⟩
          | some s17 =>
            rw [e17] at hP He
            obtain ⟨hFx, rfl, hW17⟩ := hP
            have He : Hid (res = some s17) := He.out
            have C17 := C16.fr hFx h1 h2 (by decide)
            have F17 := F16.trans hFx
            clear H17
            have m0 := C17.1.cell 0 _ rfl
            have n0 := C17.2.cell 0 _ rfl
            have n1 := C17.2.cell 1 _ rfl
            have n2 := C17.2.cell 2 _ rfl
            have n3 := C17.2.cell 3 _ rfl
            have n4 := C17.2.cell 4 _ rfl
            have n5 := C17.2.cell 5 _ rfl
            have n6 := C17.2.cell 6 _ rfl
            go_wp2_with fail
            go_end0
            show WPost _ _ _ _ _ _ _
            rw [He.out]
            exact ⟨F17, rfl, hW17⟩
  rw [if_neg kB] at He
  have kI' : (s.kind == [105, 102]) = false := by simp; exact fun e => kB (.inl e)
  have kW' : (s.kind == [119, 104, 105, 108, 101]) = false := by simp; exact fun e => kB (.inr e)
  clear kB
  by_cases kT : s.kind = [97, 115, 115, 101, 114, 116] ∨ s.kind = [97, 115, 115, 117, 109, 101]
  · rw [if_pos kT] at He
    by_cases kE : s.kind = [97, 115, 115, 101, 114, 116]
    · have kE' : (s.kind == [97, 115, 115, 101, 114, 116]) = true := by simp [kE]
      clear kE kT
      have H18 := hide (put2 w0 q r st s.kind [32] W0 hW0)
      go_wp2_with fail
      refine H18.out.mono ?_
      intro e' w18 hP
      cases e18 : putW [s.kind, [32]] st with
      | none =>
        rw [e18] at hP He
        obtain ⟨hFx, rfl, hbx⟩ := hP
        go_wp2_with fail
        refine ⟨rfl, ?_⟩
        show WPost _ _ _ _ _ _ _
        rw [He.out]
        exact ⟨F0.trans hFx, rfl, hbx⟩
      | some s18 =>
        rw [e18] at hP He
        obtain ⟨hFx, rfl, hW18⟩ := hP
        have He : Hid (res = (condW s.cond s18).bind fun st => putW [[59, 10]] st) := He.out
        have C18 := hC.fr hFx h1 h2 (by decide)
        have F18 := F0.trans hFx
        clear H18
        have m0 := C18.1.cell 0 _ rfl
        have n0 := C18.2.cell 0 _ rfl
        have n1 := C18.2.cell 1 _ rfl
        have n2 := C18.2.cell 2 _ rfl
        have n3 := C18.2.cell 3 _ rfl
        have n4 := C18.2.cell 4 _ rfl
        have n5 := C18.2.cell 5 _ rfl
        have n6 := C18.2.cell 6 _ rfl
        have H19 := hide (condw_any w0 q r xc cc s.cond s18 w18 hW18 hI.c hs.cond hcl)
        go_wp2_with fail
        refine H19.out.mono ?_
        intro e' w19 hP
        cases e19 : condW s.cond s18 with
        | none =>
          rw [e19] at hP He
          obtain ⟨hFx, rfl, hbx⟩ := hP
          go_wp2_with fail
          refine ⟨rfl, ?_⟩
          show WPost _ _ _ _ _ _ _
          rw [He.out]
          exact ⟨F18.trans hFx, rfl, hbx⟩
        | some s19 =>
          rw [e19] at hP He
          obtain ⟨hFx, rfl, hW19⟩ := hP
          have He : Hid (res = putW [[59, 10]] s19) := He.out
          have C19 := C18.fr hFx h1 h2 (by decide)
          have F19 := F18.trans hFx
          clear H19
          have m0 := C19.1.cell 0 _ rfl
          have n0 := C19.2.cell 0 _ rfl
          have n1 := C19.2.cell 1 _ rfl
          have n2 := C19.2.cell 2 _ rfl
          have n3 := C19.2.cell 3 _ rfl
          have n4 := C19.2.cell 4 _ rfl
          have n5 := C19.2.cell 5 _ rfl
          have n6 := C19.2.cell 6 _ rfl
          have H20 := hide (put1 w0 q r s19 [59, 10] w19 hW19)
          go_wp2_with fail
          refine H20.out.mono ?_
          intro e' w20 hP
          cases e20 : putW [[59, 10]] s19 with
          | none =>
            rw [e20] at hP He
            obtain ⟨hFx, rfl, hbx⟩ := hP
            go_wp2_with fail
            refine ⟨rfl, ?_⟩
            show WPost _ _ _ _ _ _ _
            rw [He.out]
            exact ⟨F19.trans hFx, rfl, hbx⟩
          | some s20 =>
            rw [e20] at hP He
            obtain ⟨hFx, rfl, hW20⟩ := hP
            have He : Hid (res = some s20) := He.out
            have C20 := C19.fr hFx h1 h2 (by decide)
            have F20 := F19.trans hFx
            clear H20
            have m0 := C20.1.cell 0 _ rfl
            have n0 := C20.2.cell 0 _ rfl
            have n1 := C20.2.cell 1 _ rfl
            have n2 := C20.2.cell 2 _ rfl
            have n3 := C20.2.cell 3 _ rfl
            have n4 := C20.2.cell 4 _ rfl
            have n5 := C20.2.cell 5 _ rfl
            have n6 := C20.2.cell 6 _ rfl
            go_wp2_with fail
            go_end0
            show WPost _ _ _ _ _ _ _
            rw [He.out]
            exact ⟨F20, rfl, hW20⟩
    · have kE' : (s.kind == [97, 115, 115, 101, 114, 116]) = false := by simp [kE]
      have kM' : (s.kind == [97, 115, 115, 117, 109, 101]) = true := by simp; exact kT.resolve_left kE
      clear kE kT
      have H21 := hide (put2 w0 q r st s.kind [32] W0 hW0)
      go_wp2_with fail
      refine H21.out.mono ?_
      intro e' w21 hP
      cases e21 : putW [s.kind, [32]] st with
      | none =>
        rw [e21] at hP He
        obtain ⟨hFx, rfl, hbx⟩ := hP
        go_wp2_with fail
        refine ⟨rfl, ?_⟩
        show WPost _ _ _ _ _ _ _
        rw [He.out]
        exact ⟨F0.trans hFx, rfl, hbx⟩
      | some s21 =>
        rw [e21] at hP He
        obtain ⟨hFx, rfl, hW21⟩ := hP
        have He : Hid (res = (condW s.cond s21).bind fun st => putW [[59, 10]] st) := He.out
        have C21 := hC.fr hFx h1 h2 (by decide)
        have F21 := F0.trans hFx
        clear H21
        have m0 := C21.1.cell 0 _ rfl
        have n0 := C21.2.cell 0 _ rfl
        have n1 := C21.2.cell 1 _ rfl
        have n2 := C21.2.cell 2 _ rfl
        have n3 := C21.2.cell 3 _ rfl
        have n4 := C21.2.cell 4 _ rfl
        have n5 := C21.2.cell 5 _ rfl
        have n6 := C21.2.cell 6 _ rfl
        have H22 := hide (condw_any w0 q r xc cc s.cond s21 w21 hW21 hI.c hs.cond hcl)
        go_wp2_with fail
        refine H22.out.mono ?_
        intro e' w22 hP
        cases e22 : condW s.cond s21 with
        | none =>
          rw [e22] at hP He
          obtain ⟨hFx, rfl, hbx⟩ := hP
          go_wp2_with fail
          refine ⟨rfl, ?_⟩
          show WPost _ _ _ _ _ _ _
          rw [He.out]
          exact ⟨F21.trans hFx, rfl, hbx⟩
        | some s22 =>
          rw [e22] at hP He
          obtain ⟨hFx, rfl, hW22⟩ := hP
          have He : Hid (res = putW [[59, 10]] s22) := He.out
          have C22 := C21.fr hFx h1 h2 (by decide)
          have F22 := F21.trans hFx
          clear H22
          have m0 := C22.1.cell 0 _ rfl
          have n0 := C22.2.cell 0 _ rfl
          have n1 := C22.2.cell 1 _ rfl
          have n2 := C22.2.cell 2 _ rfl
          have n3 := C22.2.cell 3 _ rfl
          have n4 := C22.2.cell 4 _ rfl
          have n5 := C22.2.cell 5 _ rfl
          have n6 := C22.2.cell 6 _ rfl
          have H23 := hide (put1 w0 q r s22 [59, 10] w22 hW22)
          go_wp2_with fail
          refine H23.out.mono ?_
          intro e' w23 hP
          cases e23 : putW [[59, 10]] s22 with
          | none =>
            rw [e23] at hP He
            obtain ⟨hFx, rfl, hbx⟩ := hP
            go_wp2_with fail
            refine ⟨rfl, ?_⟩
            show WPost _ _ _ _ _ _ _
            rw [He.out]
            exact ⟨F22.trans hFx, rfl, hbx⟩
          | some s23 =>
            rw [e23] at hP He
            obtain ⟨hFx, rfl, hW23⟩ := hP
            have He : Hid (res = some s23) := He.out
            have C23 := C22.fr hFx h1 h2 (by decide)
            have F23 := F22.trans hFx
            clear H23
            have m0 := C23.1.cell 0 _ rfl
            have n0 := C23.2.cell 0 _ rfl
            have n1 := C23.2.cell 1 _ rfl
            have n2 := C23.2.cell 2 _ rfl
            have n3 := C23.2.cell 3 _ rfl
            have n4 := C23.2.cell 4 _ rfl
            have n5 := C23.2.cell 5 _ rfl
            have n6 := C23.2.cell 6 _ rfl
            go_wp2_with fail
            go_end0
            show WPost _ _ _ _ _ _ _
            rw [He.out]
            exact ⟨F23, rfl, hW23⟩
  rw [if_neg kT] at He
  have kE' : (s.kind == [97, 115, 115, 101, 114, 116]) = false := by simp; exact fun e => kT (.inl e)
  have kM' : (s.kind == [97, 115, 115, 117, 109, 101]) = false := by simp; exact fun e => kT (.inr e)
  clear kT
  by_cases kR : s.kind = [114, 101, 97, 100]
  · rw [if_pos kR] at He
    have kR' : (s.kind == [114, 101, 97, 100]) = true := by simp [kR]
    clear kR
    have H24 := hide (put3 w0 q r st [114, 101, 97, 100, 32] s.name [59, 10] W0 hW0)
    go_wp2_with fail
    refine H24.out.mono ?_
    intro e' w24 hP
    cases e24 : putW [[114, 101, 97, 100, 32], s.name, [59, 10]] st with
    | none =>
      rw [e24] at hP He
      obtain ⟨hFx, rfl, hbx⟩ := hP
      go_wp2_with fail
      refine ⟨rfl, ?_⟩
      show WPost _ _ _ _ _ _ _
      rw [He.out]
      exact ⟨F0.trans hFx, rfl, hbx⟩
    | some s24 =>
      rw [e24] at hP He
      obtain ⟨hFx, rfl, hW24⟩ := hP
      have He : Hid (res = some s24) := He.out
      have C24 := hC.fr hFx h1 h2 (by decide)
      have F24 := F0.trans hFx
      clear H24
      have m0 := C24.1.cell 0 _ rfl
      have n0 := C24.2.cell 0 _ rfl
      have n1 := C24.2.cell 1 _ rfl
      have n2 := C24.2.cell 2 _ rfl
      have n3 := C24.2.cell 3 _ rfl
      have n4 := C24.2.cell 4 _ rfl
      have n5 := C24.2.cell 5 _ rfl
      have n6 := C24.2.cell 6 _ rfl
      go_wp2_with fail
      go_end0
      show WPost _ _ _ _ _ _ _
      rw [He.out]
      exact ⟨F24, rfl, hW24⟩
  rw [if_neg kR] at He
  have kR' : (s.kind == [114, 101, 97, 100]) = false := by simp [kR]
  clear kR
  have hbel := hW0.bel
  go_wp2_with fail
  refine ⟨rfl, ?_⟩
  show WPost _ _ _ _ _ _ _
  rw [He.out]
  exact ⟨F0, rfl, hbel⟩
theorem st_any (w0 : World) (q r : Nat) : ∀ k, StC w0 q r k
  | 0 => fun W s b st xa xc xb xe ca cc cb ce h hk _ _ _ => by have := h.len; omega
  | k + 1 => st_step w0 q r k (hide (st_any w0 q r k))
theorem bl_any (w0 : World) (q r : Nat) (W : World) (l : List Stm) (b : Nat) (st : Wst) (x : Option Addr) (cap : Nat) (h : Wr w0 W q r st) (hb : b ≤ 100) (hs : StsSm l) (hx : StmsAt w0 Any x l) :
    Calls Tryz.prog 170 #[.pointer (some ⟨q, 0, none⟩), .slice x l.length cap, .int .i64 b] W fun e W' => WPost w0 q r (blW l b st) W e W' := sts_step w0 q r 4001 (hide (st_any w0 q r 4001)) W l b st x cap h (by omega) (by omega) hs hx
end Go.Proofs.YtbfhaabpfkopdaaGreatDoor
