/- For every two pictures of the reference and every four float32 the law PictureLinear returns true, and its arguments read behind the call as before. Conditions: none beyond the card's own (the four listed package variables hold what the program's text lays in them, which the card ties). -/
import Derived.Test.YtlicgblagkkcfaaGreatDoorTie
import Derived.Test.YtlicgblagkkcfaaGreatDoorCards
import Derived.Test.YtlicgblagkkcfaaGreatDoorKr0
import Derived.Test.YtlicgblagkkcfaaGreatDoorQK
import Derived.Laws.Cover2
import Derived.SevenTiedAt
namespace Go.Proofs.YtlicgblagkkcfaaGreatDoor
open Go.ChangeShapes Go.WideShapes Go.ChangeAt Go.WideMaps Go.WideElems Go.RowKit
set_option linter.unusedVariables false
set_option maxRecDepth 100000
theorem pictureLinear_inst : Tryz.f13.isInstance Tryz.prog Rows.pictureLinearRow.origin Rows.pictureLinearRow.targs := of_decide_eq_true (by kernel_rfl)
theorem pictureLinear_wrap : Tryz.f13.isWrapper Tryz.prog Rows.pictureLinearRow.wrapper Rows.pictureLinearRow.mainSum := by unfold Func.isWrapper; first | (rw [if_pos (by decide +kernel)]; kernel_rfl) | (rw [if_neg (by decide +kernel)]; exact ⟨rfl, rfl⟩)
theorem pictureLinear_holds : Rows.PictureLinearSaid :=
  OpenClaim.holds_of_wide 13 Tryz.f13 rfl rfl rfl rfl rfl rfl rfl ⟨rfl, rfl, rfl, rfl, rfl⟩ rfl rfl rfl rfl rfl pictureLinearC_fn Tryz.func13 pictureLinearF_all
    pictureLinear_inst pictureLinear_wrap
    (fun os started H enc _ => pictureLinear_lifted os started H enc)
theorem pictureLinear : Rows.PictureLinearCardSaid :=
  Claim7.holds_tied_plain_at .later [] [.data, .data, .data, .data] true Rows.pictureLinearCard.stood.harness false
    pictureLinear_holds (fun _ h => by cases h) pictureLinearC_wf (fun _ h => by cases h) pictureLinear_row_tie rfl ⟨rfl, rfl⟩ pictureLinearC_main rfl
    (fun f fn hf hfn => by
      obtain rfl : f = 13 := Option.some.inj ((show Tryz.prog.funcNamed "genlock/genlocklaw01.PictureLinear" = some 13 from pictureLinearC_fn).symm.trans hf) |>.symm
      obtain rfl : fn = Tryz.f13 := (Option.some.inj (Tryz.func13.symm.trans hfn)).symm
      exact ⟨pictureLinearC_looks, fun j t ht => by
        rw [Tryz.params13] at ht
        have hm : t ∈ [43, 43, 135] := by simpa using Array.mem_of_getElem? ht
        have hall : ([43, 43, 135].all fun u => !Tryz.prog.wantsStandIn u) = true := by kernel_rfl
        exact (show Tryz.prog.wantsStandIn t = false by simpa using List.all_eq_true.1 hall t hm)⟩)
    pictureLinearC_goes
#print axioms pictureLinear

end Go.Proofs.YtlicgblagkkcfaaGreatDoor
