/- The closed facts of the card of PicturePackets: each its own theorem, for the kernel's memory. -/
import Derived.Test.YtnbpcfakkphmcaaGreatDoorCards
import Derived.Test.YtnbpcfakkphmcaaGreatDoorAy
namespace Go.Proofs.YtnbpcfakkphmcaaGreatDoor
open Go.RowKit
set_option linter.unusedVariables false
set_option maxRecDepth 100000
theorem picturePacketsC_main : Tryz.pinned.checked.prog.mainIs = some (Rows.picturePacketsCard.stood.harness.1, Rows.picturePacketsCard.stood.harness.2.toList) := by kernel_rfl
theorem picturePacketsC_goes : false = Rows.picturePacketsRow.goesBy Tryz.pinned.checked.prog := by kernel_rfl
theorem picturePacketsC_looks : false = Tryz.pinned.checked.prog.looks [] := by kernel_rfl
theorem picturePacketsC_wf : Rows.picturePacketsRow.wfByText (OpenSpec.ofChange Rows.picturePacketsSpec) = true := by kernel_rfl
theorem picturePacketsC_fn : Tryz.prog.funcNamed Rows.picturePacketsRow.func = some 8 := by kernel_rfl
end Go.Proofs.YtnbpcfakkphmcaaGreatDoor
