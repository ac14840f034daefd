/- For every picture of the reference and every six ints the law PictureParts returns true, and its arguments read behind the call as before. Conditions: none beyond the card's own (the four listed package variables hold what the program's text lays in them, which the card ties). -/
import Derived.Test.YtnbpcfakkphmcaaGreatDoorTie
import Derived.Test.YtnbpcfakkphmcaaGreatDoorCards
import Derived.Test.YtnbpcfakkphmcaaGreatDoorIa0
import Derived.Test.YtnbpcfakkphmcaaGreatDoorPF
import Derived.Laws.Cover2
import Derived.SevenTiedAt
namespace Go.Proofs.YtnbpcfakkphmcaaGreatDoor
open Go.ChangeShapes Go.WideShapes Go.ChangeAt Go.WideMaps Go.WideElems Go.RowKit
set_option linter.unusedVariables false
set_option maxRecDepth 100000
theorem pictureParts_inst : Tryz.f4.isInstance Tryz.prog Rows.picturePartsRow.origin Rows.picturePartsRow.targs := of_decide_eq_true (by kernel_rfl)
theorem pictureParts_wrap : Tryz.f4.isWrapper Tryz.prog Rows.picturePartsRow.wrapper Rows.picturePartsRow.mainSum := by unfold Func.isWrapper; first | (rw [if_pos (by decide +kernel)]; kernel_rfl) | (rw [if_neg (by decide +kernel)]; exact ⟨rfl, rfl⟩)
theorem pictureParts_holds : Rows.PicturePartsSaid :=
  OpenClaim.holds_of_wide 4 Tryz.f4 rfl rfl rfl rfl rfl rfl rfl ⟨rfl, rfl, rfl, rfl, rfl⟩ rfl rfl rfl rfl rfl picturePartsC_fn Tryz.func4 picturePartsF_all
    pictureParts_inst pictureParts_wrap
    (fun os started H enc _ => pictureParts_lifted os started H enc)
theorem pictureParts : Rows.PicturePartsCardSaid :=
  Claim7.holds_tied_plain_at .later [] [.data, .data, .data, .data] true Rows.picturePartsCard.stood.harness false
    pictureParts_holds (fun _ h => by cases h) picturePartsC_wf (fun _ h => by cases h) pictureParts_row_tie rfl ⟨rfl, rfl⟩ picturePartsC_main rfl
    (fun f fn hf hfn => by
      obtain rfl : f = 4 := Option.some.inj ((show Tryz.prog.funcNamed "genlock/genlocklaw01.PictureParts" = some 4 from picturePartsC_fn).symm.trans hf) |>.symm
      obtain rfl : fn = Tryz.f4 := (Option.some.inj (Tryz.func4.symm.trans hfn)).symm
      exact ⟨picturePartsC_looks, fun j t ht => by
        rw [Tryz.params4] at ht
        have hm : t ∈ [43, 44] := by simpa using Array.mem_of_getElem? ht
        have hall : ([43, 44].all fun u => !Tryz.prog.wantsStandIn u) = true := by kernel_rfl
        exact (show Tryz.prog.wantsStandIn t = false by simpa using List.all_eq_true.1 hall t hm)⟩)
    picturePartsC_goes
#print axioms pictureParts

end Go.Proofs.YtnbpcfakkphmcaaGreatDoor
