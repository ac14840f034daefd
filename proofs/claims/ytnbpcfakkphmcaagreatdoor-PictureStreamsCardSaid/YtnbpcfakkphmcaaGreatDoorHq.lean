/- For every list of bytes the law PictureStreams returns true, and its argument reads behind the call as before. Conditions: none beyond the card's own (the four listed package variables hold what the program's text lays in them, which the card ties). -/
import Derived.Test.YtnbpcfakkphmcaaGreatDoorTie
import Derived.Test.YtnbpcfakkphmcaaGreatDoorCards
import Derived.Test.YtnbpcfakkphmcaaGreatDoorHq0
import Derived.Test.YtnbpcfakkphmcaaGreatDoorH4
import Derived.Laws.Cover2
import Derived.SevenTiedAt
namespace Go.Proofs.YtnbpcfakkphmcaaGreatDoor
open Go.ChangeShapes Go.WideShapes Go.ChangeAt Go.WideMaps Go.WideElems Go.RowKit
set_option linter.unusedVariables false
set_option maxRecDepth 100000
theorem pictureStreams_inst : Tryz.f9.isInstance Tryz.prog Rows.pictureStreamsRow.origin Rows.pictureStreamsRow.targs := of_decide_eq_true (by kernel_rfl)
theorem pictureStreams_wrap : Tryz.f9.isWrapper Tryz.prog Rows.pictureStreamsRow.wrapper Rows.pictureStreamsRow.mainSum := by unfold Func.isWrapper; first | (rw [if_pos (by decide +kernel)]; kernel_rfl) | (rw [if_neg (by decide +kernel)]; exact ⟨rfl, rfl⟩)
theorem pictureStreams_holds : Rows.PictureStreamsSaid :=
  OpenClaim.holds_of_wide 9 Tryz.f9 rfl rfl rfl rfl rfl rfl rfl ⟨rfl, rfl, rfl, rfl, rfl⟩ rfl rfl rfl rfl rfl pictureStreamsC_fn Tryz.func9 pictureStreamsF_all
    pictureStreams_inst pictureStreams_wrap
    (fun os started H enc _ => pictureStreams_lifted os started H enc)
theorem pictureStreams : Rows.PictureStreamsCardSaid :=
  Claim7.holds_tied_plain_at .later [] [.data, .data, .data, .data] true Rows.pictureStreamsCard.stood.harness false
    pictureStreams_holds (fun _ h => by cases h) pictureStreamsC_wf (fun _ h => by cases h) pictureStreams_row_tie rfl ⟨rfl, rfl⟩ pictureStreamsC_main rfl
    (fun f fn hf hfn => by
      obtain rfl : f = 9 := Option.some.inj ((show Tryz.prog.funcNamed "genlock/genlocklaw01.PictureStreams" = some 9 from pictureStreamsC_fn).symm.trans hf) |>.symm
      obtain rfl : fn = Tryz.f9 := (Option.some.inj (Tryz.func9.symm.trans hfn)).symm
      exact ⟨pictureStreamsC_looks, fun j t ht => by
        rw [Tryz.params9] at ht
        have hm : t ∈ [106] := by simpa using Array.mem_of_getElem? ht
        have hall : ([106].all fun u => !Tryz.prog.wantsStandIn u) = true := by kernel_rfl
        exact (show Tryz.prog.wantsStandIn t = false by simpa using List.all_eq_true.1 hall t hm)⟩)
    pictureStreamsC_goes
#print axioms pictureStreams

end Go.Proofs.YtnbpcfakkphmcaaGreatDoor
