/- Parts of a proof: The closed facts of the row of PictureStreams, one by one. The closed facts of the card of PictureStreams: each its own theorem, for the kernel's memory. -/
import Derived.Test.YtnbpcfakkphmcaaGreatDoorAy
import Derived.Test.YtnbpcfakkphmcaaGreatDoorCards
namespace Go.Proofs.YtnbpcfakkphmcaaGreatDoor
open Go.RowKit
set_option linter.unusedVariables false
set_option maxRecDepth 100000
theorem bothL {a b : Bool} (h : a = true) (k : b = true) : (a && b) = true := by rw [h, k]; rfl
theorem pictureStreamsF_0 : (Rows.pictureStreamsRow.wf (OpenSpec.ofChange Rows.pictureStreamsSpec)) = true := by kernel_rfl
theorem pictureStreamsF_1 : (laidOutB Tryz.prog) = true := by kernel_rfl
theorem pictureStreamsF_2 : (mapsRowed Tryz.prog) = true := by kernel_rfl
theorem pictureStreamsF_3 : (Tryz.f9.params.all (Tryz.prog.readableRec ·)) = true := by kernel_rfl
theorem pictureStreamsF_4 : (namedTie Tryz.prog Rows.pictureStreamsRow.named Rows.pictureStreamsSpec.vars) = true := by kernel_rfl
theorem pictureStreamsF_5 : ((Rows.pictureStreamsRow.stops == [])) = true := by kernel_rfl
theorem pictureStreamsF_6 : ((Tryz.prog.stops == [])) = true := by kernel_rfl
theorem pictureStreamsF_7 : ((Rows.pictureStreamsRow.knobs == [])) = true := by kernel_rfl
theorem pictureStreamsF_8 : ((Tryz.prog.stopKnobs == [])) = true := by kernel_rfl
theorem pictureStreamsF_9 : ((Rows.pictureStreamsRow.inPlace == Tryz.prog.inPlace 9)) = true := by kernel_rfl
theorem pictureStreamsF_10 : ((Rows.pictureStreamsRow.unfollowed == Tryz.prog.unfollowed 9)) = true := by kernel_rfl
theorem pictureStreamsF_11 : ((Rows.pictureStreamsRow.recurses == Tryz.prog.recurses 9)) = true := by kernel_rfl
theorem pictureStreamsF_12 : ((Rows.pictureStreamsRow.named == Tryz.prog.varsNamed 9)) = true := by kernel_rfl
theorem pictureStreamsF_13 : ((Rows.pictureStreamsRow.maps == (Tryz.f9.params.toList ++ Rows.pictureStreamsSpec.plain.varTypes Tryz.prog).any (Tryz.prog.mapsRec ·))) = true := by kernel_rfl
theorem pictureStreamsF_14 : ((Rows.pictureStreamsRow.ifaces == (Tryz.f9.params.toList ++ Rows.pictureStreamsSpec.plain.varTypes Tryz.prog).any (Tryz.prog.ifacesRec ·))) = true := by kernel_rfl
theorem pictureStreamsF_15 : ((Rows.pictureStreamsRow.mapsOut == Tryz.prog.mapsAmong Tryz.f9.resultTypes.toList)) = true := by kernel_rfl
theorem pictureStreamsF_16 : ((Rows.pictureStreamsRow.loops == (Tryz.f9.params.toList ++ Rows.pictureStreamsSpec.plain.varTypes Tryz.prog).any (Tryz.prog.loopsFrom ·))) = true := by kernel_rfl
theorem pictureStreamsF_17 : ((Rows.pictureStreamsRow.wideKeys == (Tryz.f9.params.toList ++ Rows.pictureStreamsSpec.plain.varTypes Tryz.prog ++ Tryz.f9.resultTypes.toList).any (Tryz.prog.wideKeysFrom ·))) = true := by kernel_rfl
theorem pictureStreamsF_18 : (Rows.pictureStreamsSpec.vars.all (Tryz.prog.varReadable ·)) = true := by kernel_rfl
theorem pictureStreamsF_19 : (Tryz.f9.resultTypes.all (fun t => Tryz.prog.readableRec t && decide (t < Tryz.prog.types.size))) = true := by kernel_rfl
theorem pictureStreamsF_20 : ((Rows.pictureStreamsRow.ifacesOut == Tryz.f9.resultTypes.toList.any (Tryz.prog.ifacesRec ·))) = true := by kernel_rfl
theorem pictureStreamsF_21 : ((Rows.pictureStreamsRow.loopsOut == Tryz.f9.resultTypes.toList.any (Tryz.prog.loopsFrom ·))) = true := by kernel_rfl
theorem pictureStreamsF_22 : ((Rows.pictureStreamsRow.plainKeys == Tryz.prog.plainKeys)) = true := by kernel_rfl
theorem pictureStreamsF_23 : (Rows.pictureStreamsRow.shortTexts.isNone) = true := by kernel_rfl
theorem pictureStreamsF_24 : (Tryz.prog.stopsHeard) = true := by kernel_rfl
theorem pictureStreamsF_25 : (Tryz.prog.mayEnter) = true := by kernel_rfl
theorem pictureStreamsF_26 : ((Rows.pictureStreamsRow.lifted == Tryz.prog.liftsFinal)) = true := by kernel_rfl
theorem pictureStreamsF_27 : ((Tryz.prog.make == some Rows.pictureStreamsRow.make)) = true := by kernel_rfl
theorem pictureStreamsF_28 : ((Rows.pictureStreamsRow.kinds == (if Rows.pictureStreamsRow.domain.isEmpty then [] else Tryz.f9.params.toList.map fun t => match Tryz.prog.underlying t with | some (.int k) => some k | _ => none))) = true := by kernel_rfl
theorem pictureStreamsF_29 : ((Rows.pictureStreamsRow.pinned == Rows.pictureStreamsRow.pinnedBy)) = true := by kernel_rfl
theorem pictureStreamsF_30 : ((Rows.pictureStreamsRow.veiled == (Tryz.f9.params.toList ++ Rows.pictureStreamsSpec.plain.varTypes Tryz.prog ++ Tryz.f9.resultTypes.toList).any (Tryz.prog.veiledRec ·))) = true := by kernel_rfl
theorem pictureStreamsF_31 : (Rows.pictureStreamsRow.veiledFits Tryz.prog Tryz.f9.params.toList (Tryz.f9.params.toList ++ Rows.pictureStreamsSpec.plain.varTypes Tryz.prog ++ Tryz.f9.resultTypes.toList)) = true := by kernel_rfl
theorem pictureStreamsF_all : joinedFacts Tryz.prog 9 Tryz.f9 Rows.pictureStreamsSpec Rows.pictureStreamsRow = true := (bothL (bothL (bothL (bothL (bothL (bothL (bothL (bothL (bothL (bothL (bothL (bothL (bothL (bothL (bothL (bothL (bothL (bothL (bothL (bothL (bothL (bothL (bothL (bothL (bothL (bothL (bothL (bothL (bothL (bothL (bothL pictureStreamsF_0 pictureStreamsF_1) pictureStreamsF_2) pictureStreamsF_3) pictureStreamsF_4) pictureStreamsF_5) pictureStreamsF_6) pictureStreamsF_7) pictureStreamsF_8) pictureStreamsF_9) pictureStreamsF_10) pictureStreamsF_11) pictureStreamsF_12) pictureStreamsF_13) pictureStreamsF_14) pictureStreamsF_15) pictureStreamsF_16) pictureStreamsF_17) pictureStreamsF_18) pictureStreamsF_19) pictureStreamsF_20) pictureStreamsF_21) pictureStreamsF_22) pictureStreamsF_23) pictureStreamsF_24) pictureStreamsF_25) pictureStreamsF_26) pictureStreamsF_27) pictureStreamsF_28) pictureStreamsF_29) pictureStreamsF_30) pictureStreamsF_31)
end Go.Proofs.YtnbpcfakkphmcaaGreatDoor
namespace Go.Proofs.YtnbpcfakkphmcaaGreatDoor
open Go.RowKit
set_option linter.unusedVariables false
set_option maxRecDepth 100000
theorem pictureStreamsC_main : Tryz.pinned.checked.prog.mainIs = some (Rows.pictureStreamsCard.stood.harness.1, Rows.pictureStreamsCard.stood.harness.2.toList) := by kernel_rfl
theorem pictureStreamsC_goes : false = Rows.pictureStreamsRow.goesBy Tryz.pinned.checked.prog := by kernel_rfl
theorem pictureStreamsC_looks : false = Tryz.pinned.checked.prog.looks [] := by kernel_rfl
theorem pictureStreamsC_wf : Rows.pictureStreamsRow.wfByText (OpenSpec.ofChange Rows.pictureStreamsSpec) = true := by kernel_rfl
theorem pictureStreamsC_fn : Tryz.prog.funcNamed Rows.pictureStreamsRow.func = some 9 := by kernel_rfl
end Go.Proofs.YtnbpcfakkphmcaaGreatDoor
