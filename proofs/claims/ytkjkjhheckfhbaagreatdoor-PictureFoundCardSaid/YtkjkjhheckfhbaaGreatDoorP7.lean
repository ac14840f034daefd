/- Parts of a proof: The closed facts of the row of PictureFound, one by one. The closed facts of the card of PictureFound: each its own theorem, for the kernel's memory. -/
import Derived.Test.YtkjkjhheckfhbaaGreatDoorAy
import Derived.Test.YtkjkjhheckfhbaaGreatDoorCards
namespace Go.Proofs.YtkjkjhheckfhbaaGreatDoor
open Go.RowKit
set_option linter.unusedVariables false
set_option maxRecDepth 100000
theorem bothR {a b : Bool} (h : a = true) (k : b = true) : (a && b) = true := by rw [h, k]; rfl
theorem pictureFoundF_0 : (Rows.pictureFoundRow.wf (OpenSpec.ofChange Rows.pictureFoundSpec)) = true := by kernel_rfl
theorem pictureFoundF_1 : (laidOutB Tryz.prog) = true := by kernel_rfl
theorem pictureFoundF_2 : (mapsRowed Tryz.prog) = true := by kernel_rfl
theorem pictureFoundF_3 : (Tryz.f14.params.all (Tryz.prog.readableRec ·)) = true := by kernel_rfl
theorem pictureFoundF_4 : (namedTie Tryz.prog Rows.pictureFoundRow.named Rows.pictureFoundSpec.vars) = true := by kernel_rfl
theorem pictureFoundF_5 : ((Rows.pictureFoundRow.stops == [])) = true := by kernel_rfl
theorem pictureFoundF_6 : ((Tryz.prog.stops == [])) = true := by kernel_rfl
theorem pictureFoundF_7 : ((Rows.pictureFoundRow.knobs == [])) = true := by kernel_rfl
theorem pictureFoundF_8 : ((Tryz.prog.stopKnobs == [])) = true := by kernel_rfl
theorem pictureFoundF_9 : ((Rows.pictureFoundRow.inPlace == Tryz.prog.inPlace 14)) = true := by kernel_rfl
theorem pictureFoundF_10 : ((Rows.pictureFoundRow.unfollowed == Tryz.prog.unfollowed 14)) = true := by kernel_rfl
theorem pictureFoundF_11 : ((Rows.pictureFoundRow.recurses == Tryz.prog.recurses 14)) = true := by kernel_rfl
theorem pictureFoundF_12 : ((Rows.pictureFoundRow.named == Tryz.prog.varsNamed 14)) = true := by kernel_rfl
theorem pictureFoundF_13 : ((Rows.pictureFoundRow.maps == (Tryz.f14.params.toList ++ Rows.pictureFoundSpec.plain.varTypes Tryz.prog).any (Tryz.prog.mapsRec ·))) = true := by kernel_rfl
theorem pictureFoundF_14 : ((Rows.pictureFoundRow.ifaces == (Tryz.f14.params.toList ++ Rows.pictureFoundSpec.plain.varTypes Tryz.prog).any (Tryz.prog.ifacesRec ·))) = true := by kernel_rfl
theorem pictureFoundF_15 : ((Rows.pictureFoundRow.mapsOut == Tryz.prog.mapsAmong Tryz.f14.resultTypes.toList)) = true := by kernel_rfl
theorem pictureFoundF_16 : ((Rows.pictureFoundRow.loops == (Tryz.f14.params.toList ++ Rows.pictureFoundSpec.plain.varTypes Tryz.prog).any (Tryz.prog.loopsFrom ·))) = true := by kernel_rfl
theorem pictureFoundF_17 : ((Rows.pictureFoundRow.wideKeys == (Tryz.f14.params.toList ++ Rows.pictureFoundSpec.plain.varTypes Tryz.prog ++ Tryz.f14.resultTypes.toList).any (Tryz.prog.wideKeysFrom ·))) = true := by kernel_rfl
theorem pictureFoundF_18 : (Rows.pictureFoundSpec.vars.all (Tryz.prog.varReadable ·)) = true := by kernel_rfl
theorem pictureFoundF_19 : (Tryz.f14.resultTypes.all (fun t => Tryz.prog.readableRec t && decide (t < Tryz.prog.types.size))) = true := by kernel_rfl
theorem pictureFoundF_20 : ((Rows.pictureFoundRow.ifacesOut == Tryz.f14.resultTypes.toList.any (Tryz.prog.ifacesRec ·))) = true := by kernel_rfl
theorem pictureFoundF_21 : ((Rows.pictureFoundRow.loopsOut == Tryz.f14.resultTypes.toList.any (Tryz.prog.loopsFrom ·))) = true := by kernel_rfl
theorem pictureFoundF_22 : ((Rows.pictureFoundRow.plainKeys == Tryz.prog.plainKeys)) = true := by kernel_rfl
theorem pictureFoundF_23 : (Rows.pictureFoundRow.shortTexts.isNone) = true := by kernel_rfl
theorem pictureFoundF_24 : (Tryz.prog.stopsHeard) = true := by kernel_rfl
theorem pictureFoundF_25 : (Tryz.prog.mayEnter) = true := by kernel_rfl
theorem pictureFoundF_26 : ((Rows.pictureFoundRow.lifted == Tryz.prog.liftsFinal)) = true := by kernel_rfl
theorem pictureFoundF_27 : ((Tryz.prog.make == some Rows.pictureFoundRow.make)) = true := by kernel_rfl
theorem pictureFoundF_28 : ((Rows.pictureFoundRow.kinds == (if Rows.pictureFoundRow.domain.isEmpty then [] else Tryz.f14.params.toList.map fun t => match Tryz.prog.underlying t with | some (.int k) => some k | _ => none))) = true := by kernel_rfl
theorem pictureFoundF_29 : ((Rows.pictureFoundRow.pinned == Rows.pictureFoundRow.pinnedBy)) = true := by kernel_rfl
theorem pictureFoundF_30 : ((Rows.pictureFoundRow.veiled == (Tryz.f14.params.toList ++ Rows.pictureFoundSpec.plain.varTypes Tryz.prog ++ Tryz.f14.resultTypes.toList).any (Tryz.prog.veiledRec ·))) = true := by kernel_rfl
theorem pictureFoundF_31 : (Rows.pictureFoundRow.veiledFits Tryz.prog Tryz.f14.params.toList (Tryz.f14.params.toList ++ Rows.pictureFoundSpec.plain.varTypes Tryz.prog ++ Tryz.f14.resultTypes.toList)) = true := by kernel_rfl
theorem pictureFoundF_all : joinedFacts Tryz.prog 14 Tryz.f14 Rows.pictureFoundSpec Rows.pictureFoundRow = true := (bothR (bothR (bothR (bothR (bothR (bothR (bothR (bothR (bothR (bothR (bothR (bothR (bothR (bothR (bothR (bothR (bothR (bothR (bothR (bothR (bothR (bothR (bothR (bothR (bothR (bothR (bothR (bothR (bothR (bothR (bothR pictureFoundF_0 pictureFoundF_1) pictureFoundF_2) pictureFoundF_3) pictureFoundF_4) pictureFoundF_5) pictureFoundF_6) pictureFoundF_7) pictureFoundF_8) pictureFoundF_9) pictureFoundF_10) pictureFoundF_11) pictureFoundF_12) pictureFoundF_13) pictureFoundF_14) pictureFoundF_15) pictureFoundF_16) pictureFoundF_17) pictureFoundF_18) pictureFoundF_19) pictureFoundF_20) pictureFoundF_21) pictureFoundF_22) pictureFoundF_23) pictureFoundF_24) pictureFoundF_25) pictureFoundF_26) pictureFoundF_27) pictureFoundF_28) pictureFoundF_29) pictureFoundF_30) pictureFoundF_31)
end Go.Proofs.YtkjkjhheckfhbaaGreatDoor
namespace Go.Proofs.YtkjkjhheckfhbaaGreatDoor
open Go.RowKit
set_option linter.unusedVariables false
set_option maxRecDepth 100000
theorem pictureFoundC_main : Tryz.pinned.checked.prog.mainIs = some (Rows.pictureFoundCard.stood.harness.1, Rows.pictureFoundCard.stood.harness.2.toList) := by kernel_rfl
theorem pictureFoundC_goes : false = Rows.pictureFoundRow.goesBy Tryz.pinned.checked.prog := by kernel_rfl
theorem pictureFoundC_looks : false = Tryz.pinned.checked.prog.looks [] := by kernel_rfl
theorem pictureFoundC_wf : Rows.pictureFoundRow.wfByText (OpenSpec.ofChange Rows.pictureFoundSpec) = true := by kernel_rfl
theorem pictureFoundC_fn : Tryz.prog.funcNamed Rows.pictureFoundRow.func = some 14 := by kernel_rfl
end Go.Proofs.YtkjkjhheckfhbaaGreatDoor
