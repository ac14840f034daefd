/- Parts of a proof: The closed facts of the row of PictureTurns, one by one. The closed facts of the card of PictureTurns: each its own theorem, for the kernel's memory. -/
import Derived.Test.YtnbpcfakkphmcaaGreatDoorAy
import Derived.Test.YtnbpcfakkphmcaaGreatDoorCards
namespace Go.Proofs.YtnbpcfakkphmcaaGreatDoor
open Go.RowKit
set_option linter.unusedVariables false
set_option maxRecDepth 100000
theorem bothN {a b : Bool} (h : a = true) (k : b = true) : (a && b) = true := by rw [h, k]; rfl
theorem pictureTurnsF_0 : (Rows.pictureTurnsRow.wf (OpenSpec.ofChange Rows.pictureTurnsSpec)) = true := by kernel_rfl
theorem pictureTurnsF_1 : (laidOutB Tryz.prog) = true := by kernel_rfl
theorem pictureTurnsF_2 : (mapsRowed Tryz.prog) = true := by kernel_rfl
theorem pictureTurnsF_3 : (Tryz.f6.params.all (Tryz.prog.readableRec ·)) = true := by kernel_rfl
theorem pictureTurnsF_4 : (namedTie Tryz.prog Rows.pictureTurnsRow.named Rows.pictureTurnsSpec.vars) = true := by kernel_rfl
theorem pictureTurnsF_5 : ((Rows.pictureTurnsRow.stops == [])) = true := by kernel_rfl
theorem pictureTurnsF_6 : ((Tryz.prog.stops == [])) = true := by kernel_rfl
theorem pictureTurnsF_7 : ((Rows.pictureTurnsRow.knobs == [])) = true := by kernel_rfl
theorem pictureTurnsF_8 : ((Tryz.prog.stopKnobs == [])) = true := by kernel_rfl
theorem pictureTurnsF_9 : ((Rows.pictureTurnsRow.inPlace == Tryz.prog.inPlace 6)) = true := by kernel_rfl
theorem pictureTurnsF_10 : ((Rows.pictureTurnsRow.unfollowed == Tryz.prog.unfollowed 6)) = true := by kernel_rfl
theorem pictureTurnsF_11 : ((Rows.pictureTurnsRow.recurses == Tryz.prog.recurses 6)) = true := by kernel_rfl
theorem pictureTurnsF_12 : ((Rows.pictureTurnsRow.named == Tryz.prog.varsNamed 6)) = true := by kernel_rfl
theorem pictureTurnsF_13 : ((Rows.pictureTurnsRow.maps == (Tryz.f6.params.toList ++ Rows.pictureTurnsSpec.plain.varTypes Tryz.prog).any (Tryz.prog.mapsRec ·))) = true := by kernel_rfl
theorem pictureTurnsF_14 : ((Rows.pictureTurnsRow.ifaces == (Tryz.f6.params.toList ++ Rows.pictureTurnsSpec.plain.varTypes Tryz.prog).any (Tryz.prog.ifacesRec ·))) = true := by kernel_rfl
theorem pictureTurnsF_15 : ((Rows.pictureTurnsRow.mapsOut == Tryz.prog.mapsAmong Tryz.f6.resultTypes.toList)) = true := by kernel_rfl
theorem pictureTurnsF_16 : ((Rows.pictureTurnsRow.loops == (Tryz.f6.params.toList ++ Rows.pictureTurnsSpec.plain.varTypes Tryz.prog).any (Tryz.prog.loopsFrom ·))) = true := by kernel_rfl
theorem pictureTurnsF_17 : ((Rows.pictureTurnsRow.wideKeys == (Tryz.f6.params.toList ++ Rows.pictureTurnsSpec.plain.varTypes Tryz.prog ++ Tryz.f6.resultTypes.toList).any (Tryz.prog.wideKeysFrom ·))) = true := by kernel_rfl
theorem pictureTurnsF_18 : (Rows.pictureTurnsSpec.vars.all (Tryz.prog.varReadable ·)) = true := by kernel_rfl
theorem pictureTurnsF_19 : (Tryz.f6.resultTypes.all (fun t => Tryz.prog.readableRec t && decide (t < Tryz.prog.types.size))) = true := by kernel_rfl
theorem pictureTurnsF_20 : ((Rows.pictureTurnsRow.ifacesOut == Tryz.f6.resultTypes.toList.any (Tryz.prog.ifacesRec ·))) = true := by kernel_rfl
theorem pictureTurnsF_21 : ((Rows.pictureTurnsRow.loopsOut == Tryz.f6.resultTypes.toList.any (Tryz.prog.loopsFrom ·))) = true := by kernel_rfl
theorem pictureTurnsF_22 : ((Rows.pictureTurnsRow.plainKeys == Tryz.prog.plainKeys)) = true := by kernel_rfl
theorem pictureTurnsF_23 : (Rows.pictureTurnsRow.shortTexts.isNone) = true := by kernel_rfl
theorem pictureTurnsF_24 : (Tryz.prog.stopsHeard) = true := by kernel_rfl
theorem pictureTurnsF_25 : (Tryz.prog.mayEnter) = true := by kernel_rfl
theorem pictureTurnsF_26 : ((Rows.pictureTurnsRow.lifted == Tryz.prog.liftsFinal)) = true := by kernel_rfl
theorem pictureTurnsF_27 : ((Tryz.prog.make == some Rows.pictureTurnsRow.make)) = true := by kernel_rfl
theorem pictureTurnsF_28 : ((Rows.pictureTurnsRow.kinds == (if Rows.pictureTurnsRow.domain.isEmpty then [] else Tryz.f6.params.toList.map fun t => match Tryz.prog.underlying t with | some (.int k) => some k | _ => none))) = true := by kernel_rfl
theorem pictureTurnsF_29 : ((Rows.pictureTurnsRow.pinned == Rows.pictureTurnsRow.pinnedBy)) = true := by kernel_rfl
theorem pictureTurnsF_30 : ((Rows.pictureTurnsRow.veiled == (Tryz.f6.params.toList ++ Rows.pictureTurnsSpec.plain.varTypes Tryz.prog ++ Tryz.f6.resultTypes.toList).any (Tryz.prog.veiledRec ·))) = true := by kernel_rfl
theorem pictureTurnsF_31 : (Rows.pictureTurnsRow.veiledFits Tryz.prog Tryz.f6.params.toList (Tryz.f6.params.toList ++ Rows.pictureTurnsSpec.plain.varTypes Tryz.prog ++ Tryz.f6.resultTypes.toList)) = true := by kernel_rfl
theorem pictureTurnsF_all : joinedFacts Tryz.prog 6 Tryz.f6 Rows.pictureTurnsSpec Rows.pictureTurnsRow = true := (bothN (bothN (bothN (bothN (bothN (bothN (bothN (bothN (bothN (bothN (bothN (bothN (bothN (bothN (bothN (bothN (bothN (bothN (bothN (bothN (bothN (bothN (bothN (bothN (bothN (bothN (bothN (bothN (bothN (bothN (bothN pictureTurnsF_0 pictureTurnsF_1) pictureTurnsF_2) pictureTurnsF_3) pictureTurnsF_4) pictureTurnsF_5) pictureTurnsF_6) pictureTurnsF_7) pictureTurnsF_8) pictureTurnsF_9) pictureTurnsF_10) pictureTurnsF_11) pictureTurnsF_12) pictureTurnsF_13) pictureTurnsF_14) pictureTurnsF_15) pictureTurnsF_16) pictureTurnsF_17) pictureTurnsF_18) pictureTurnsF_19) pictureTurnsF_20) pictureTurnsF_21) pictureTurnsF_22) pictureTurnsF_23) pictureTurnsF_24) pictureTurnsF_25) pictureTurnsF_26) pictureTurnsF_27) pictureTurnsF_28) pictureTurnsF_29) pictureTurnsF_30) pictureTurnsF_31)
end Go.Proofs.YtnbpcfakkphmcaaGreatDoor
namespace Go.Proofs.YtnbpcfakkphmcaaGreatDoor
open Go.RowKit
set_option linter.unusedVariables false
set_option maxRecDepth 100000
theorem pictureTurnsC_main : Tryz.pinned.checked.prog.mainIs = some (Rows.pictureTurnsCard.stood.harness.1, Rows.pictureTurnsCard.stood.harness.2.toList) := by kernel_rfl
theorem pictureTurnsC_goes : false = Rows.pictureTurnsRow.goesBy Tryz.pinned.checked.prog := by kernel_rfl
theorem pictureTurnsC_looks : false = Tryz.pinned.checked.prog.looks [] := by kernel_rfl
theorem pictureTurnsC_wf : Rows.pictureTurnsRow.wfByText (OpenSpec.ofChange Rows.pictureTurnsSpec) = true := by kernel_rfl
theorem pictureTurnsC_fn : Tryz.prog.funcNamed Rows.pictureTurnsRow.func = some 6 := by kernel_rfl
end Go.Proofs.YtnbpcfakkphmcaaGreatDoor
