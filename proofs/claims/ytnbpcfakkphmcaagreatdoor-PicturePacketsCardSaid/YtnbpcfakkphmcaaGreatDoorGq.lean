/- For every list of packets of the reference, every frame and every int the law PicturePackets returns true, and its arguments read behind the call as before. Conditions: none beyond the card's own (the four listed package variables hold what the program's text lays in them, which the card ties). -/
import Derived.Test.YtnbpcfakkphmcaaGreatDoorTie
import Derived.Test.YtnbpcfakkphmcaaGreatDoorCards
import Derived.Test.YtnbpcfakkphmcaaGreatDoorGq0
import Derived.Test.YtnbpcfakkphmcaaGreatDoorGq1
import Derived.Laws.Cover2
import Derived.SevenTiedAt
namespace Go.Proofs.YtnbpcfakkphmcaaGreatDoor
open Go.ChangeShapes Go.WideShapes Go.ChangeAt Go.WideMaps Go.WideElems Go.RowKit
set_option linter.unusedVariables false
set_option maxRecDepth 100000
theorem picturePackets_inst : Tryz.f8.isInstance Tryz.prog Rows.picturePacketsRow.origin Rows.picturePacketsRow.targs := of_decide_eq_true (by kernel_rfl)
theorem picturePackets_wrap : Tryz.f8.isWrapper Tryz.prog Rows.picturePacketsRow.wrapper Rows.picturePacketsRow.mainSum := by unfold Func.isWrapper; first | (rw [if_pos (by decide +kernel)]; kernel_rfl) | (rw [if_neg (by decide +kernel)]; exact ⟨rfl, rfl⟩)
theorem picturePackets_holds : Rows.PicturePacketsSaid :=
  OpenClaim.holds_of_wide 8 Tryz.f8 rfl rfl rfl rfl rfl rfl rfl ⟨rfl, rfl, rfl, rfl, rfl⟩ rfl rfl rfl rfl rfl picturePacketsC_fn Tryz.func8 picturePacketsF_all
    picturePackets_inst picturePackets_wrap
    (fun os started H enc _ => picturePackets_lifted os started H enc)
theorem picturePackets : Rows.PicturePacketsCardSaid :=
  Claim7.holds_tied_plain_at .later [] [.data, .data, .data, .data] true Rows.picturePacketsCard.stood.harness false
    picturePackets_holds (fun _ h => by cases h) picturePacketsC_wf (fun _ h => by cases h) picturePackets_row_tie rfl ⟨rfl, rfl⟩ picturePacketsC_main rfl
    (fun f fn hf hfn => by
      obtain rfl : f = 8 := Option.some.inj ((show Tryz.prog.funcNamed "genlock/genlocklaw01.PicturePackets" = some 8 from picturePacketsC_fn).symm.trans hf) |>.symm
      obtain rfl : fn = Tryz.f8 := (Option.some.inj (Tryz.func8.symm.trans hfn)).symm
      exact ⟨picturePacketsC_looks, fun j t ht => by
        rw [Tryz.params8] at ht
        have hm : t ∈ [84, 85, 3] := by simpa using Array.mem_of_getElem? ht
        have hall : ([84, 85, 3].all fun u => !Tryz.prog.wantsStandIn u) = true := by kernel_rfl
        exact (show Tryz.prog.wantsStandIn t = false by simpa using List.all_eq_true.1 hall t hm)⟩)
    picturePacketsC_goes
#print axioms picturePackets

end Go.Proofs.YtnbpcfakkphmcaaGreatDoor
