/- For every picture of the reference the law PictureRound returns true, and its argument reads behind the call as before. Conditions: none beyond the card's own (the four listed package variables hold what the program's text lays in them, which the card ties). -/
import Derived.Test.YtnbpcfakkphmcaaGreatDoorTie
import Derived.Test.YtnbpcfakkphmcaaGreatDoorCards
import Derived.Test.YtnbpcfakkphmcaaGreatDoorIc0
import Derived.Test.YtnbpcfakkphmcaaGreatDoorPF
import Derived.Laws.Cover2
import Derived.SevenTiedAt
namespace Go.Proofs.YtnbpcfakkphmcaaGreatDoor
open Go.ChangeShapes Go.WideShapes Go.ChangeAt Go.WideMaps Go.WideElems Go.RowKit
set_option linter.unusedVariables false
set_option maxRecDepth 100000
theorem pictureRound_inst : Tryz.f12.isInstance Tryz.prog Rows.pictureRoundRow.origin Rows.pictureRoundRow.targs := of_decide_eq_true (by kernel_rfl)
theorem pictureRound_wrap : Tryz.f12.isWrapper Tryz.prog Rows.pictureRoundRow.wrapper Rows.pictureRoundRow.mainSum := by unfold Func.isWrapper; first | (rw [if_pos (by decide +kernel)]; kernel_rfl) | (rw [if_neg (by decide +kernel)]; exact ⟨rfl, rfl⟩)
theorem pictureRound_holds : Rows.PictureRoundSaid :=
  OpenClaim.holds_of_wide 12 Tryz.f12 rfl rfl rfl rfl rfl rfl rfl ⟨rfl, rfl, rfl, rfl, rfl⟩ rfl rfl rfl rfl rfl pictureRoundC_fn Tryz.func12 pictureRoundF_all
    pictureRound_inst pictureRound_wrap
    (fun os started H enc _ => pictureRound_lifted os started H enc)
theorem pictureRound : Rows.PictureRoundCardSaid :=
  Claim7.holds_tied_plain_at .later [] [.data, .data, .data, .data] true Rows.pictureRoundCard.stood.harness false
    pictureRound_holds (fun _ h => by cases h) pictureRoundC_wf (fun _ h => by cases h) pictureRound_row_tie rfl ⟨rfl, rfl⟩ pictureRoundC_main rfl
    (fun f fn hf hfn => by
      obtain rfl : f = 12 := Option.some.inj ((show Tryz.prog.funcNamed "genlock/genlocklaw01.PictureRound" = some 12 from pictureRoundC_fn).symm.trans hf) |>.symm
      obtain rfl : fn = Tryz.f12 := (Option.some.inj (Tryz.func12.symm.trans hfn)).symm
      exact ⟨pictureRoundC_looks, fun j t ht => by
        rw [Tryz.params12] at ht
        have hm : t ∈ [43] := by simpa using Array.mem_of_getElem? ht
        have hall : ([43].all fun u => !Tryz.prog.wantsStandIn u) = true := by kernel_rfl
        exact (show Tryz.prog.wantsStandIn t = false by simpa using List.all_eq_true.1 hall t hm)⟩)
    pictureRoundC_goes
#print axioms pictureRound

end Go.Proofs.YtnbpcfakkphmcaaGreatDoor
