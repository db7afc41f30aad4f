/- FlowOrder's closed facts, one by one. -/
import Derived.Test.YtbfhaabpfkopdaaGreatDoorCards
import Derived.Test.YtbfhaabpfkopdaaGreatDoorTie
import Derived.Test.YtbfhaabpfkopdaaGreatDoorR2
import Derived.Test.YtbfhaabpfkopdaaGreatDoorEz
import Derived.Stop.Joined
import Derived.SevenTiedAt
namespace Go.Proofs.YtbfhaabpfkopdaaGreatDoor
open Go.ChangeShapes Go.WideShapes Go.ChangeAt Go.RowKit
set_option linter.unusedVariables false

theorem flowOrder_jf0 : (Rows.flowOrderRow.wf (OpenSpec.ofChange Rows.flowOrderSpec)) = true := by kernel_rfl
theorem flowOrder_jf3 : (Tryz.f6.params.all (Tryz.prog.readableRec ·)) = true := by kernel_rfl
theorem flowOrder_jf4 : (namedTie Tryz.prog Rows.flowOrderRow.named Rows.flowOrderSpec.vars) = true := by kernel_rfl
theorem flowOrder_jf5 : ((Rows.flowOrderRow.stops == [])) = true := by kernel_rfl
theorem flowOrder_jf7 : ((Rows.flowOrderRow.knobs == [])) = true := by kernel_rfl
theorem flowOrder_jf9 : ((Rows.flowOrderRow.inPlace == Tryz.prog.inPlace 6)) = true := by kernel_rfl
theorem flowOrder_jf10 : ((Rows.flowOrderRow.unfollowed == Tryz.prog.unfollowed 6)) = true := by kernel_rfl
theorem flowOrder_jf11 : ((Rows.flowOrderRow.recurses == Tryz.prog.recurses 6)) = true := by kernel_rfl
theorem flowOrder_jf12 : ((Rows.flowOrderRow.named == Tryz.prog.varsNamed 6)) = true := by kernel_rfl
theorem flowOrder_jf13 : ((Rows.flowOrderRow.maps == (Tryz.f6.params.toList ++ Rows.flowOrderSpec.plain.varTypes Tryz.prog).any (Tryz.prog.mapsRec ·))) = true := by kernel_rfl
theorem flowOrder_jf14 : ((Rows.flowOrderRow.ifaces == (Tryz.f6.params.toList ++ Rows.flowOrderSpec.plain.varTypes Tryz.prog).any (Tryz.prog.ifacesRec ·))) = true := by kernel_rfl
theorem flowOrder_jf15 : ((Rows.flowOrderRow.mapsOut == Tryz.prog.mapsAmong Tryz.f6.resultTypes.toList)) = true := by kernel_rfl
theorem flowOrder_jf16 : ((Rows.flowOrderRow.loops == (Tryz.f6.params.toList ++ Rows.flowOrderSpec.plain.varTypes Tryz.prog).any (Tryz.prog.loopsFrom ·))) = true := by kernel_rfl
theorem flowOrder_jf17 : ((Rows.flowOrderRow.wideKeys == (Tryz.f6.params.toList ++ Rows.flowOrderSpec.plain.varTypes Tryz.prog ++ Tryz.f6.resultTypes.toList).any (Tryz.prog.wideKeysFrom ·))) = true := by kernel_rfl
theorem flowOrder_jf18 : (Rows.flowOrderSpec.vars.all (Tryz.prog.varReadable ·)) = true := by kernel_rfl
theorem flowOrder_jf19 : (Tryz.f6.resultTypes.all (fun t => Tryz.prog.readableRec t && decide (t < Tryz.prog.types.size))) = true := by kernel_rfl
theorem flowOrder_jf20 : ((Rows.flowOrderRow.ifacesOut == Tryz.f6.resultTypes.toList.any (Tryz.prog.ifacesRec ·))) = true := by kernel_rfl
theorem flowOrder_jf21 : ((Rows.flowOrderRow.loopsOut == Tryz.f6.resultTypes.toList.any (Tryz.prog.loopsFrom ·))) = true := by kernel_rfl
theorem flowOrder_jf22 : ((Rows.flowOrderRow.plainKeys == Tryz.prog.plainKeys)) = true := by kernel_rfl
theorem flowOrder_jf23 : (Rows.flowOrderRow.shortTexts.isNone) = true := by kernel_rfl
theorem flowOrder_jf26 : ((Rows.flowOrderRow.lifted == Tryz.prog.liftsFinal)) = true := by kernel_rfl
theorem flowOrder_jf27 : ((Tryz.prog.make == some Rows.flowOrderRow.make)) = true := by kernel_rfl
theorem flowOrder_jf28 : ((Rows.flowOrderRow.kinds == (if Rows.flowOrderRow.domain.isEmpty then [] else Tryz.f6.params.toList.map fun t => match Tryz.prog.underlying t with | some (.int k) => some k | _ => none))) = true := by kernel_rfl
theorem flowOrder_jf29 : ((Rows.flowOrderRow.pinned == Rows.flowOrderRow.pinnedBy)) = true := by kernel_rfl
theorem flowOrder_jf30 : ((Rows.flowOrderRow.veiled == (Tryz.f6.params.toList ++ Rows.flowOrderSpec.plain.varTypes Tryz.prog ++ Tryz.f6.resultTypes.toList).any (Tryz.prog.veiledRec ·))) = true := by kernel_rfl
theorem flowOrder_jf31 : (Rows.flowOrderRow.veiledFits Tryz.prog Tryz.f6.params.toList (Tryz.f6.params.toList ++ Rows.flowOrderSpec.plain.varTypes Tryz.prog ++ Tryz.f6.resultTypes.toList)) = true := by kernel_rfl
set_option maxRecDepth 100000 in
theorem flowOrder_closed : joinedFacts Tryz.prog 6 Tryz.f6 Rows.flowOrderSpec Rows.flowOrderRow = true := (andT (andT (andT (andT (andT (andT (andT (andT (andT (andT (andT (andT (andT (andT (andT (andT (andT (andT (andT (andT (andT (andT (andT (andT (andT (andT (andT (andT (andT (andT (andT flowOrder_jf0 jf1) jf2) flowOrder_jf3) flowOrder_jf4) flowOrder_jf5) jf6) flowOrder_jf7) jf8) flowOrder_jf9) flowOrder_jf10) flowOrder_jf11) flowOrder_jf12) flowOrder_jf13) flowOrder_jf14) flowOrder_jf15) flowOrder_jf16) flowOrder_jf17) flowOrder_jf18) flowOrder_jf19) flowOrder_jf20) flowOrder_jf21) flowOrder_jf22) flowOrder_jf23) jf24) jf25) flowOrder_jf26) flowOrder_jf27) flowOrder_jf28) flowOrder_jf29) flowOrder_jf30) flowOrder_jf31)
end Go.Proofs.YtbfhaabpfkopdaaGreatDoor
