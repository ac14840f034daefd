/- The closed facts of the row of PicturePackets, one by one. -/
import Derived.Test.YtnbpcfakkphmcaaGreatDoorAy
namespace Go.Proofs.YtnbpcfakkphmcaaGreatDoor
open Go.RowKit
set_option linter.unusedVariables false
set_option maxRecDepth 100000
theorem bothK {a b : Bool} (h : a = true) (k : b = true) : (a && b) = true := by rw [h, k]; rfl
theorem picturePacketsF_0 : (Rows.picturePacketsRow.wf (OpenSpec.ofChange Rows.picturePacketsSpec)) = true := by kernel_rfl
theorem picturePacketsF_1 : (laidOutB Tryz.prog) = true := by kernel_rfl
theorem picturePacketsF_2 : (mapsRowed Tryz.prog) = true := by kernel_rfl
theorem picturePacketsF_3 : (Tryz.f8.params.all (Tryz.prog.readableRec ·)) = true := by kernel_rfl
theorem picturePacketsF_4 : (namedTie Tryz.prog Rows.picturePacketsRow.named Rows.picturePacketsSpec.vars) = true := by kernel_rfl
theorem picturePacketsF_5 : ((Rows.picturePacketsRow.stops == [])) = true := by kernel_rfl
theorem picturePacketsF_6 : ((Tryz.prog.stops == [])) = true := by kernel_rfl
theorem picturePacketsF_7 : ((Rows.picturePacketsRow.knobs == [])) = true := by kernel_rfl
theorem picturePacketsF_8 : ((Tryz.prog.stopKnobs == [])) = true := by kernel_rfl
theorem picturePacketsF_9 : ((Rows.picturePacketsRow.inPlace == Tryz.prog.inPlace 8)) = true := by kernel_rfl
theorem picturePacketsF_10 : ((Rows.picturePacketsRow.unfollowed == Tryz.prog.unfollowed 8)) = true := by kernel_rfl
theorem picturePacketsF_11 : ((Rows.picturePacketsRow.recurses == Tryz.prog.recurses 8)) = true := by kernel_rfl
theorem picturePacketsF_12 : ((Rows.picturePacketsRow.named == Tryz.prog.varsNamed 8)) = true := by kernel_rfl
theorem picturePacketsF_13 : ((Rows.picturePacketsRow.maps == (Tryz.f8.params.toList ++ Rows.picturePacketsSpec.plain.varTypes Tryz.prog).any (Tryz.prog.mapsRec ·))) = true := by kernel_rfl
theorem picturePacketsF_14 : ((Rows.picturePacketsRow.ifaces == (Tryz.f8.params.toList ++ Rows.picturePacketsSpec.plain.varTypes Tryz.prog).any (Tryz.prog.ifacesRec ·))) = true := by kernel_rfl
theorem picturePacketsF_15 : ((Rows.picturePacketsRow.mapsOut == Tryz.prog.mapsAmong Tryz.f8.resultTypes.toList)) = true := by kernel_rfl
theorem picturePacketsF_16 : ((Rows.picturePacketsRow.loops == (Tryz.f8.params.toList ++ Rows.picturePacketsSpec.plain.varTypes Tryz.prog).any (Tryz.prog.loopsFrom ·))) = true := by kernel_rfl
theorem picturePacketsF_17 : ((Rows.picturePacketsRow.wideKeys == (Tryz.f8.params.toList ++ Rows.picturePacketsSpec.plain.varTypes Tryz.prog ++ Tryz.f8.resultTypes.toList).any (Tryz.prog.wideKeysFrom ·))) = true := by kernel_rfl
theorem picturePacketsF_18 : (Rows.picturePacketsSpec.vars.all (Tryz.prog.varReadable ·)) = true := by kernel_rfl
theorem picturePacketsF_19 : (Tryz.f8.resultTypes.all (fun t => Tryz.prog.readableRec t && decide (t < Tryz.prog.types.size))) = true := by kernel_rfl
theorem picturePacketsF_20 : ((Rows.picturePacketsRow.ifacesOut == Tryz.f8.resultTypes.toList.any (Tryz.prog.ifacesRec ·))) = true := by kernel_rfl
theorem picturePacketsF_21 : ((Rows.picturePacketsRow.loopsOut == Tryz.f8.resultTypes.toList.any (Tryz.prog.loopsFrom ·))) = true := by kernel_rfl
theorem picturePacketsF_22 : ((Rows.picturePacketsRow.plainKeys == Tryz.prog.plainKeys)) = true := by kernel_rfl
theorem picturePacketsF_23 : (Rows.picturePacketsRow.shortTexts.isNone) = true := by kernel_rfl
theorem picturePacketsF_24 : (Tryz.prog.stopsHeard) = true := by kernel_rfl
theorem picturePacketsF_25 : (Tryz.prog.mayEnter) = true := by kernel_rfl
theorem picturePacketsF_26 : ((Rows.picturePacketsRow.lifted == Tryz.prog.liftsFinal)) = true := by kernel_rfl
theorem picturePacketsF_27 : ((Tryz.prog.make == some Rows.picturePacketsRow.make)) = true := by kernel_rfl
theorem picturePacketsF_28 : ((Rows.picturePacketsRow.kinds == (if Rows.picturePacketsRow.domain.isEmpty then [] else Tryz.f8.params.toList.map fun t => match Tryz.prog.underlying t with | some (.int k) => some k | _ => none))) = true := by kernel_rfl
theorem picturePacketsF_29 : ((Rows.picturePacketsRow.pinned == Rows.picturePacketsRow.pinnedBy)) = true := by kernel_rfl
theorem picturePacketsF_30 : ((Rows.picturePacketsRow.veiled == (Tryz.f8.params.toList ++ Rows.picturePacketsSpec.plain.varTypes Tryz.prog ++ Tryz.f8.resultTypes.toList).any (Tryz.prog.veiledRec ·))) = true := by kernel_rfl
theorem picturePacketsF_31 : (Rows.picturePacketsRow.veiledFits Tryz.prog Tryz.f8.params.toList (Tryz.f8.params.toList ++ Rows.picturePacketsSpec.plain.varTypes Tryz.prog ++ Tryz.f8.resultTypes.toList)) = true := by kernel_rfl
theorem picturePacketsF_all : joinedFacts Tryz.prog 8 Tryz.f8 Rows.picturePacketsSpec Rows.picturePacketsRow = true := (bothK (bothK (bothK (bothK (bothK (bothK (bothK (bothK (bothK (bothK (bothK (bothK (bothK (bothK (bothK (bothK (bothK (bothK (bothK (bothK (bothK (bothK (bothK (bothK (bothK (bothK (bothK (bothK (bothK (bothK (bothK picturePacketsF_0 picturePacketsF_1) picturePacketsF_2) picturePacketsF_3) picturePacketsF_4) picturePacketsF_5) picturePacketsF_6) picturePacketsF_7) picturePacketsF_8) picturePacketsF_9) picturePacketsF_10) picturePacketsF_11) picturePacketsF_12) picturePacketsF_13) picturePacketsF_14) picturePacketsF_15) picturePacketsF_16) picturePacketsF_17) picturePacketsF_18) picturePacketsF_19) picturePacketsF_20) picturePacketsF_21) picturePacketsF_22) picturePacketsF_23) picturePacketsF_24) picturePacketsF_25) picturePacketsF_26) picturePacketsF_27) picturePacketsF_28) picturePacketsF_29) picturePacketsF_30) picturePacketsF_31)
end Go.Proofs.YtnbpcfakkphmcaaGreatDoor
