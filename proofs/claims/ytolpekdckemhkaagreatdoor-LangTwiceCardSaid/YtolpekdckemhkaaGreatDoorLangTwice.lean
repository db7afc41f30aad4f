/- 'rayconelaw3.LangTwice' answers true and leaves its arguments as they were: for any program and any text; with the listed variables as the program's own text lays them (the tie is given). -/
import Derived.Test.YtolpekdckemhkaaGreatDoorCards
import Derived.Test.YtolpekdckemhkaaGreatDoorTie
import Derived.Test.YtolpekdckemhkaaGreatDoorNd
import Derived.Test.YtolpekdckemhkaaGreatDoorR2
import Derived.Test.YtolpekdckemhkaaGreatDoorEz
import Derived.Stop.Joined
import Derived.SevenTiedAt
namespace Go.Proofs.YtolpekdckemhkaaGreatDoor
open Go.ChangeShapes Go.WideShapes Go.ChangeAt Go.RowKit
set_option linter.unusedVariables false

set_option maxRecDepth 100000 in
theorem langTwice_lifted (os : Os) (started : os.Started) (H : Type) (enc : TypeId × Value → H) :
    ReturnsInHanded {} Tryz.checked os 6 .any (fun w args => (Rows.langTwiceSpec.pre enc Tryz.prog Tryz.f6 [] false w args ∧ laidMetH Tryz.prog Rows.langTwiceRow.laid w) ∧ sizedMet enc Tryz.prog Tryz.f6 (OpenSpec.ofChange Rows.langTwiceSpec) false w args)
      (Rows.langTwiceSpec.post enc Tryz.prog Tryz.f6 false true false false) := by
  refine returnsInHanded_of_change_and (C := Tryz.checked) (X := fun w _ => laidMetH Tryz.prog Rows.langTwiceRow.laid w) (fun _ _ _ hh h => h.of_heap hh) own started (by kernel_rfl) Tryz.func6
    (ChangeSpec.witness_shaped (enc := enc) (C := Tryz.checked) (os := os) (X := fun w _ => laidMetH Tryz.prog Rows.langTwiceRow.laid w) false (wit16 os) #[.agg #[.slice none 0 0, .slice none 0 0, .slice none 0 0, .slice none 0 0], .string ⟨#[]⟩] 8 (wit16_os os) (wit16_shaped os _) (by kernel_rfl) (by kernel_rfl) (by kernel_rfl) (met16 os _)) ?_
  intro W base args ds gs before hval0 hW _ hwt0 hL _
  have hval : ∀ (j : Nat) t v, Tryz.f6.params[j]? = some t → args[j]? = some v → Value.okWide Tryz.prog W .any base t v := hval0
  have hW' := hW
  obtain ⟨p, q, hA0, hV, rfl, hfz, hnd⟩ := hW
  have hA : DataW.TrodAll enc Tryz.prog W 0 (fun _ => true) true Tryz.f6.params.toList args.toList ds p := hA0
  have hwt := Lgt.of hwt0
  rw [Tryz.params6] at hA hval hwt
  obtain ⟨v0, vs0, d0, ds0, p0, q0, hargs, rfl, rfl, h0, r0⟩ := trodAll_cons hA
  obtain ⟨v1, vs1, d1, ds1, p1, q1, rfl, rfl, rfl, h1, r1⟩ := trodAll_cons r0
  obtain ⟨rfl, rfl, rfl⟩ := trodAll_nil r1
  obtain rfl : args = #[v0, v1] := by cases args; simp_all
  obtain ⟨rfl, rfl⟩ := trodVars_none hV
  have hw0 : Lgt (d0.weights Tryz.prog 27) := Lgt.left hwt
  have hr0 := Lgt.right hwt
  obtain ⟨x0, hV0, fit0⟩ := open_program (hval 0 27 v0 rfl rfl) h0 hw0
  have lt0 : ∀ x ∈ p0, x.block < W.heap.size := by obtain ⟨m, hm⟩ := h0; exact DataW.trod_lt m _ _ _ hm
  have hw1 : Lgt (d1.weights Tryz.prog 9) := Lgt.left hr0
  obtain ⟨sb1, rfl⟩ := okWide_string Tryz.underlying9 (hval 1 9 v1 rfl rfl)
  obtain ⟨s1, es1, hs1⟩ : ∃ s : Bs, sb1 = bs s ∧ s.length ≤ maxLen := by
    obtain ⟨m, hm⟩ := h1
    obtain ⟨t, e, ht⟩ := open_str hm
    exact ⟨t, by simpa using e, ht⟩
  subst es1
  have lt1 : ∀ x ∈ p1, x.block < W.heap.size := by obtain ⟨m, hm⟩ := h1; exact DataW.trod_lt m _ _ _ hm
  clear hA0 hval0
  obtain ⟨a, hS, hLg⟩ := all_of_laid (show laidMetH Tryz.prog laid16 W from hL)
  refine (langTwice_true x0 v0 s1 a W hS hLg fit0 hV0 hs1).mono fun e W' ⟨he, bel⟩ => ?_
  subst he
  exact ⟨_, rfl, _, _, _, [], _, [], hW', trodAll_mk1 (shut_bool Tryz.underlying4 _), (trodAll_cons_mk (Below.trod laidOut (by kernel_rfl) (of_decide_eq_true (by kernel_rfl)) h0 bel lt0) (trodAll_cons_mk (Below.trod laidOut (by kernel_rfl) (of_decide_eq_true (by kernel_rfl)) h1 bel lt1) trodAll_mk0)), rfl, bel.frame _, fun h => by cases h⟩

theorem langTwice_jf0 : (Rows.langTwiceRow.wf (OpenSpec.ofChange Rows.langTwiceSpec)) = true := by kernel_rfl
theorem langTwice_jf3 : (Tryz.f6.params.all (Tryz.prog.readableRec ·)) = true := by kernel_rfl
theorem langTwice_jf4 : (namedTie Tryz.prog Rows.langTwiceRow.named Rows.langTwiceSpec.vars) = true := by kernel_rfl
theorem langTwice_jf5 : ((Rows.langTwiceRow.stops == [])) = true := by kernel_rfl
theorem langTwice_jf7 : ((Rows.langTwiceRow.knobs == [])) = true := by kernel_rfl
theorem langTwice_jf9 : ((Rows.langTwiceRow.inPlace == Tryz.prog.inPlace 6)) = true := by kernel_rfl
theorem langTwice_jf10 : ((Rows.langTwiceRow.unfollowed == Tryz.prog.unfollowed 6)) = true := by kernel_rfl
theorem langTwice_jf11 : ((Rows.langTwiceRow.recurses == Tryz.prog.recurses 6)) = true := by kernel_rfl
theorem langTwice_jf12 : ((Rows.langTwiceRow.named == Tryz.prog.varsNamed 6)) = true := by kernel_rfl
theorem langTwice_jf13 : ((Rows.langTwiceRow.maps == (Tryz.f6.params.toList ++ Rows.langTwiceSpec.plain.varTypes Tryz.prog).any (Tryz.prog.mapsRec ·))) = true := by kernel_rfl
theorem langTwice_jf14 : ((Rows.langTwiceRow.ifaces == (Tryz.f6.params.toList ++ Rows.langTwiceSpec.plain.varTypes Tryz.prog).any (Tryz.prog.ifacesRec ·))) = true := by kernel_rfl
theorem langTwice_jf15 : ((Rows.langTwiceRow.mapsOut == Tryz.prog.mapsAmong Tryz.f6.resultTypes.toList)) = true := by kernel_rfl
theorem langTwice_jf16 : ((Rows.langTwiceRow.loops == (Tryz.f6.params.toList ++ Rows.langTwiceSpec.plain.varTypes Tryz.prog).any (Tryz.prog.loopsFrom ·))) = true := by kernel_rfl
theorem langTwice_jf17 : ((Rows.langTwiceRow.wideKeys == (Tryz.f6.params.toList ++ Rows.langTwiceSpec.plain.varTypes Tryz.prog ++ Tryz.f6.resultTypes.toList).any (Tryz.prog.wideKeysFrom ·))) = true := by kernel_rfl
theorem langTwice_jf18 : (Rows.langTwiceSpec.vars.all (Tryz.prog.varReadable ·)) = true := by kernel_rfl
theorem langTwice_jf19 : (Tryz.f6.resultTypes.all (fun t => Tryz.prog.readableRec t && decide (t < Tryz.prog.types.size))) = true := by kernel_rfl
theorem langTwice_jf20 : ((Rows.langTwiceRow.ifacesOut == Tryz.f6.resultTypes.toList.any (Tryz.prog.ifacesRec ·))) = true := by kernel_rfl
theorem langTwice_jf21 : ((Rows.langTwiceRow.loopsOut == Tryz.f6.resultTypes.toList.any (Tryz.prog.loopsFrom ·))) = true := by kernel_rfl
theorem langTwice_jf22 : ((Rows.langTwiceRow.plainKeys == Tryz.prog.plainKeys)) = true := by kernel_rfl
theorem langTwice_jf23 : (Rows.langTwiceRow.shortTexts.isNone) = true := by kernel_rfl
theorem langTwice_jf26 : ((Rows.langTwiceRow.lifted == Tryz.prog.liftsFinal)) = true := by kernel_rfl
theorem langTwice_jf27 : ((Tryz.prog.make == some Rows.langTwiceRow.make)) = true := by kernel_rfl
theorem langTwice_jf28 : ((Rows.langTwiceRow.kinds == (if Rows.langTwiceRow.domain.isEmpty then [] else Tryz.f6.params.toList.map fun t => match Tryz.prog.underlying t with | some (.int k) => some k | _ => none))) = true := by kernel_rfl
theorem langTwice_jf29 : ((Rows.langTwiceRow.pinned == Rows.langTwiceRow.pinnedBy)) = true := by kernel_rfl
theorem langTwice_jf30 : ((Rows.langTwiceRow.veiled == (Tryz.f6.params.toList ++ Rows.langTwiceSpec.plain.varTypes Tryz.prog ++ Tryz.f6.resultTypes.toList).any (Tryz.prog.veiledRec ·))) = true := by kernel_rfl
theorem langTwice_jf31 : (Rows.langTwiceRow.veiledFits Tryz.prog Tryz.f6.params.toList (Tryz.f6.params.toList ++ Rows.langTwiceSpec.plain.varTypes Tryz.prog ++ Tryz.f6.resultTypes.toList)) = true := by kernel_rfl
set_option maxRecDepth 100000 in
theorem langTwice_closed : joinedFacts Tryz.prog 6 Tryz.f6 Rows.langTwiceSpec Rows.langTwiceRow = true := (andT (andT (andT (andT (andT (andT (andT (andT (andT (andT (andT (andT (andT (andT (andT (andT (andT (andT (andT (andT (andT (andT (andT (andT (andT (andT (andT (andT (andT (andT (andT langTwice_jf0 jf1) jf2) langTwice_jf3) langTwice_jf4) langTwice_jf5) jf6) langTwice_jf7) jf8) langTwice_jf9) langTwice_jf10) langTwice_jf11) langTwice_jf12) langTwice_jf13) langTwice_jf14) langTwice_jf15) langTwice_jf16) langTwice_jf17) langTwice_jf18) langTwice_jf19) langTwice_jf20) langTwice_jf21) langTwice_jf22) langTwice_jf23) jf24) jf25) langTwice_jf26) langTwice_jf27) langTwice_jf28) langTwice_jf29) langTwice_jf30) langTwice_jf31)

theorem langTwice_over : Rows.LangTwiceSaid :=
  OpenClaim.holds_of_wide 6 Tryz.f6 rfl rfl rfl rfl rfl rfl rfl ⟨rfl, rfl, rfl, rfl, rfl⟩ rfl rfl rfl rfl rfl (by kernel_rfl) Tryz.func6 langTwice_closed
    (of_decide_eq_true (by kernel_rfl)) (by unfold Func.isWrapper; rw [if_neg (of_decide_eq_false (by kernel_rfl))]; exact ⟨rfl, rfl⟩)
    (fun os started H enc _ => langTwice_lifted os started H enc)

theorem langTwice_card : Rows.LangTwiceCardSaid :=
  Claim7.holds_tied_plain_at .later [] [.data, .data, .data, .data, .handle, .sentinel, .sentinel, .sentinel, .sentinel, .sentinel, .sentinel, .sentinel, .sentinel, .sentinel, .sentinel, .pinned] true (true, "d10efd726f48edbb04130239e0318a7b279e409485010b43d808ae829d3e0e31") true
    langTwice_over (fun _ h => by cases h) (by kernel_rfl) (fun _ h => by cases h) langTwice_row_tie rfl ⟨rfl, rfl⟩ (by kernel_rfl) rfl
    (fun f fn hf hfn => by
      obtain rfl : f = 6 := Option.some.inj ((show Tryz.prog.funcNamed "raycone/rayconelaw3.LangTwice" = some 6 by kernel_rfl).symm.trans hf) |>.symm
      obtain rfl : fn = Tryz.f6 := (Option.some.inj (Tryz.func6.symm.trans hfn)).symm
      exact ⟨by kernel_rfl, fun j t ht => by
        rw [Tryz.params6] at ht
        have h3 : t = 27 ∨ t = 9 := by
          rcases j with _ | _ | j
          · simp at ht; simp [ht.symm]
          · simp at ht; simp [ht.symm]
          · simp at ht
        rcases h3 with rfl | rfl
        · exact (show Tryz.prog.wantsStandIn 27 = false by kernel_rfl)
        · exact (show Tryz.prog.wantsStandIn 9 = false by kernel_rfl)⟩)
    (by kernel_rfl)
#print axioms langTwice_card
end Go.Proofs.YtolpekdckemhkaaGreatDoor
