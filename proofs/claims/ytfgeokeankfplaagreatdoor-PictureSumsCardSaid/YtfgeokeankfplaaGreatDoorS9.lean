/- Parts of a proof: The closed facts of the row of PictureSums, one by one. -/
import Derived.Test.YtfgeokeankfplaaGreatDoorP3
namespace Go.Proofs.YtfgeokeankfplaaGreatDoor
open Go.RowKit
set_option linter.unusedVariables false
set_option maxRecDepth 100000
theorem both {a b : Bool} (h : a = true) (k : b = true) : (a && b) = true := by rw [h, k]; rfl
theorem sumsF_0 : (Rows.pictureSumsRow.wf (OpenSpec.ofChange Rows.pictureSumsSpec)) = true := by kernel_rfl
theorem sumsF_1 : (laidOutB Tryz.prog) = true := by kernel_rfl
theorem sumsF_2 : (mapsRowed Tryz.prog) = true := by kernel_rfl
theorem sumsF_3 : (Tryz.f7.params.all (Tryz.prog.readableRec ·)) = true := by kernel_rfl
theorem sumsF_4 : (namedTie Tryz.prog Rows.pictureSumsRow.named Rows.pictureSumsSpec.vars) = true := by kernel_rfl
theorem sumsF_5 : ((Rows.pictureSumsRow.stops == [])) = true := by kernel_rfl
theorem sumsF_6 : ((Tryz.prog.stops == [])) = true := by kernel_rfl
theorem sumsF_7 : ((Rows.pictureSumsRow.knobs == [])) = true := by kernel_rfl
theorem sumsF_8 : ((Tryz.prog.stopKnobs == [])) = true := by kernel_rfl
theorem sumsF_9 : ((Rows.pictureSumsRow.inPlace == Tryz.prog.inPlace 7)) = true := by kernel_rfl
theorem sumsF_10 : ((Rows.pictureSumsRow.unfollowed == Tryz.prog.unfollowed 7)) = true := by kernel_rfl
theorem sumsF_11 : ((Rows.pictureSumsRow.recurses == Tryz.prog.recurses 7)) = true := by kernel_rfl
theorem sumsF_12 : ((Rows.pictureSumsRow.named == Tryz.prog.varsNamed 7)) = true := by kernel_rfl
theorem sumsF_13 : ((Rows.pictureSumsRow.maps == (Tryz.f7.params.toList ++ Rows.pictureSumsSpec.plain.varTypes Tryz.prog).any (Tryz.prog.mapsRec ·))) = true := by kernel_rfl
theorem sumsF_14 : ((Rows.pictureSumsRow.ifaces == (Tryz.f7.params.toList ++ Rows.pictureSumsSpec.plain.varTypes Tryz.prog).any (Tryz.prog.ifacesRec ·))) = true := by kernel_rfl
theorem sumsF_15 : ((Rows.pictureSumsRow.mapsOut == Tryz.prog.mapsAmong Tryz.f7.resultTypes.toList)) = true := by kernel_rfl
theorem sumsF_16 : ((Rows.pictureSumsRow.loops == (Tryz.f7.params.toList ++ Rows.pictureSumsSpec.plain.varTypes Tryz.prog).any (Tryz.prog.loopsFrom ·))) = true := by kernel_rfl
theorem sumsF_17 : ((Rows.pictureSumsRow.wideKeys == (Tryz.f7.params.toList ++ Rows.pictureSumsSpec.plain.varTypes Tryz.prog ++ Tryz.f7.resultTypes.toList).any (Tryz.prog.wideKeysFrom ·))) = true := by kernel_rfl
theorem sumsF_18 : (Rows.pictureSumsSpec.vars.all (Tryz.prog.varReadable ·)) = true := by kernel_rfl
theorem sumsF_19 : (Tryz.f7.resultTypes.all (fun t => Tryz.prog.readableRec t && decide (t < Tryz.prog.types.size))) = true := by kernel_rfl
theorem sumsF_20 : ((Rows.pictureSumsRow.ifacesOut == Tryz.f7.resultTypes.toList.any (Tryz.prog.ifacesRec ·))) = true := by kernel_rfl
theorem sumsF_21 : ((Rows.pictureSumsRow.loopsOut == Tryz.f7.resultTypes.toList.any (Tryz.prog.loopsFrom ·))) = true := by kernel_rfl
theorem sumsF_22 : ((Rows.pictureSumsRow.plainKeys == Tryz.prog.plainKeys)) = true := by kernel_rfl
theorem sumsF_23 : (Rows.pictureSumsRow.shortTexts.isNone) = true := by kernel_rfl
theorem sumsF_24 : (Tryz.prog.stopsHeard) = true := by kernel_rfl
theorem sumsF_25 : (Tryz.prog.mayEnter) = true := by kernel_rfl
theorem sumsF_26 : ((Rows.pictureSumsRow.lifted == Tryz.prog.liftsFinal)) = true := by kernel_rfl
theorem sumsF_27 : ((Tryz.prog.make == some Rows.pictureSumsRow.make)) = true := by kernel_rfl
theorem sumsF_28 : ((Rows.pictureSumsRow.kinds == (if Rows.pictureSumsRow.domain.isEmpty then [] else Tryz.f7.params.toList.map fun t => match Tryz.prog.underlying t with | some (.int k) => some k | _ => none))) = true := by kernel_rfl
theorem sumsF_29 : ((Rows.pictureSumsRow.pinned == Rows.pictureSumsRow.pinnedBy)) = true := by kernel_rfl
theorem sumsF_30 : ((Rows.pictureSumsRow.veiled == (Tryz.f7.params.toList ++ Rows.pictureSumsSpec.plain.varTypes Tryz.prog ++ Tryz.f7.resultTypes.toList).any (Tryz.prog.veiledRec ·))) = true := by kernel_rfl
theorem sumsF_31 : (Rows.pictureSumsRow.veiledFits Tryz.prog Tryz.f7.params.toList (Tryz.f7.params.toList ++ Rows.pictureSumsSpec.plain.varTypes Tryz.prog ++ Tryz.f7.resultTypes.toList)) = true := by kernel_rfl
theorem sumsF_all : joinedFacts Tryz.prog 7 Tryz.f7 Rows.pictureSumsSpec Rows.pictureSumsRow = true := (both (both (both (both (both (both (both (both (both (both (both (both (both (both (both (both (both (both (both (both (both (both (both (both (both (both (both (both (both (both (both sumsF_0 sumsF_1) sumsF_2) sumsF_3) sumsF_4) sumsF_5) sumsF_6) sumsF_7) sumsF_8) sumsF_9) sumsF_10) sumsF_11) sumsF_12) sumsF_13) sumsF_14) sumsF_15) sumsF_16) sumsF_17) sumsF_18) sumsF_19) sumsF_20) sumsF_21) sumsF_22) sumsF_23) sumsF_24) sumsF_25) sumsF_26) sumsF_27) sumsF_28) sumsF_29) sumsF_30) sumsF_31)
end Go.Proofs.YtfgeokeankfplaaGreatDoor
