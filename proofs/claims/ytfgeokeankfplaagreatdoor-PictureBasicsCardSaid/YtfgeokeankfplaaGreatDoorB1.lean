/- Parts of a proof: The closed facts of the row of PictureBasics, one by one. -/
import Derived.Test.YtfgeokeankfplaaGreatDoorP3
namespace Go.Proofs.YtfgeokeankfplaaGreatDoor
open Go.RowKit
set_option linter.unusedVariables false
set_option maxRecDepth 100000
theorem both {a b : Bool} (h : a = true) (k : b = true) : (a && b) = true := by rw [h, k]; rfl
theorem basicsF_0 : (Rows.pictureBasicsRow.wf (OpenSpec.ofChange Rows.pictureBasicsSpec)) = true := by kernel_rfl
theorem basicsF_1 : (laidOutB Tryz.prog) = true := by kernel_rfl
theorem basicsF_2 : (mapsRowed Tryz.prog) = true := by kernel_rfl
theorem basicsF_3 : (Tryz.f3.params.all (Tryz.prog.readableRec ·)) = true := by kernel_rfl
theorem basicsF_4 : (namedTie Tryz.prog Rows.pictureBasicsRow.named Rows.pictureBasicsSpec.vars) = true := by kernel_rfl
theorem basicsF_5 : ((Rows.pictureBasicsRow.stops == [])) = true := by kernel_rfl
theorem basicsF_6 : ((Tryz.prog.stops == [])) = true := by kernel_rfl
theorem basicsF_7 : ((Rows.pictureBasicsRow.knobs == [])) = true := by kernel_rfl
theorem basicsF_8 : ((Tryz.prog.stopKnobs == [])) = true := by kernel_rfl
theorem basicsF_9 : ((Rows.pictureBasicsRow.inPlace == Tryz.prog.inPlace 3)) = true := by kernel_rfl
theorem basicsF_10 : ((Rows.pictureBasicsRow.unfollowed == Tryz.prog.unfollowed 3)) = true := by kernel_rfl
theorem basicsF_11 : ((Rows.pictureBasicsRow.recurses == Tryz.prog.recurses 3)) = true := by kernel_rfl
theorem basicsF_12 : ((Rows.pictureBasicsRow.named == Tryz.prog.varsNamed 3)) = true := by kernel_rfl
theorem basicsF_13 : ((Rows.pictureBasicsRow.maps == (Tryz.f3.params.toList ++ Rows.pictureBasicsSpec.plain.varTypes Tryz.prog).any (Tryz.prog.mapsRec ·))) = true := by kernel_rfl
theorem basicsF_14 : ((Rows.pictureBasicsRow.ifaces == (Tryz.f3.params.toList ++ Rows.pictureBasicsSpec.plain.varTypes Tryz.prog).any (Tryz.prog.ifacesRec ·))) = true := by kernel_rfl
theorem basicsF_15 : ((Rows.pictureBasicsRow.mapsOut == Tryz.prog.mapsAmong Tryz.f3.resultTypes.toList)) = true := by kernel_rfl
theorem basicsF_16 : ((Rows.pictureBasicsRow.loops == (Tryz.f3.params.toList ++ Rows.pictureBasicsSpec.plain.varTypes Tryz.prog).any (Tryz.prog.loopsFrom ·))) = true := by kernel_rfl
theorem basicsF_17 : ((Rows.pictureBasicsRow.wideKeys == (Tryz.f3.params.toList ++ Rows.pictureBasicsSpec.plain.varTypes Tryz.prog ++ Tryz.f3.resultTypes.toList).any (Tryz.prog.wideKeysFrom ·))) = true := by kernel_rfl
theorem basicsF_18 : (Rows.pictureBasicsSpec.vars.all (Tryz.prog.varReadable ·)) = true := by kernel_rfl
theorem basicsF_19 : (Tryz.f3.resultTypes.all (fun t => Tryz.prog.readableRec t && decide (t < Tryz.prog.types.size))) = true := by kernel_rfl
theorem basicsF_20 : ((Rows.pictureBasicsRow.ifacesOut == Tryz.f3.resultTypes.toList.any (Tryz.prog.ifacesRec ·))) = true := by kernel_rfl
theorem basicsF_21 : ((Rows.pictureBasicsRow.loopsOut == Tryz.f3.resultTypes.toList.any (Tryz.prog.loopsFrom ·))) = true := by kernel_rfl
theorem basicsF_22 : ((Rows.pictureBasicsRow.plainKeys == Tryz.prog.plainKeys)) = true := by kernel_rfl
theorem basicsF_23 : (Rows.pictureBasicsRow.shortTexts.isNone) = true := by kernel_rfl
theorem basicsF_24 : (Tryz.prog.stopsHeard) = true := by kernel_rfl
theorem basicsF_25 : (Tryz.prog.mayEnter) = true := by kernel_rfl
theorem basicsF_26 : ((Rows.pictureBasicsRow.lifted == Tryz.prog.liftsFinal)) = true := by kernel_rfl
theorem basicsF_27 : ((Tryz.prog.make == some Rows.pictureBasicsRow.make)) = true := by kernel_rfl
theorem basicsF_28 : ((Rows.pictureBasicsRow.kinds == (if Rows.pictureBasicsRow.domain.isEmpty then [] else Tryz.f3.params.toList.map fun t => match Tryz.prog.underlying t with | some (.int k) => some k | _ => none))) = true := by kernel_rfl
theorem basicsF_29 : ((Rows.pictureBasicsRow.pinned == Rows.pictureBasicsRow.pinnedBy)) = true := by kernel_rfl
theorem basicsF_30 : ((Rows.pictureBasicsRow.veiled == (Tryz.f3.params.toList ++ Rows.pictureBasicsSpec.plain.varTypes Tryz.prog ++ Tryz.f3.resultTypes.toList).any (Tryz.prog.veiledRec ·))) = true := by kernel_rfl
theorem basicsF_31 : (Rows.pictureBasicsRow.veiledFits Tryz.prog Tryz.f3.params.toList (Tryz.f3.params.toList ++ Rows.pictureBasicsSpec.plain.varTypes Tryz.prog ++ Tryz.f3.resultTypes.toList)) = true := by kernel_rfl
theorem basicsF_all : joinedFacts Tryz.prog 3 Tryz.f3 Rows.pictureBasicsSpec Rows.pictureBasicsRow = true := (both (both (both (both (both (both (both (both (both (both (both (both (both (both (both (both (both (both (both (both (both (both (both (both (both (both (both (both (both (both (both basicsF_0 basicsF_1) basicsF_2) basicsF_3) basicsF_4) basicsF_5) basicsF_6) basicsF_7) basicsF_8) basicsF_9) basicsF_10) basicsF_11) basicsF_12) basicsF_13) basicsF_14) basicsF_15) basicsF_16) basicsF_17) basicsF_18) basicsF_19) basicsF_20) basicsF_21) basicsF_22) basicsF_23) basicsF_24) basicsF_25) basicsF_26) basicsF_27) basicsF_28) basicsF_29) basicsF_30) basicsF_31)
end Go.Proofs.YtfgeokeankfplaaGreatDoor
