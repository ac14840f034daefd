/- For every picture of the reference the law PictureTurns returns true, and its argument reads behind the call as before. Conditions: none beyond the card's own (the four listed package variables hold what the program's text lays in them, which the card ties). -/
import Derived.Test.YtnbpcfakkphmcaaGreatDoorTie
import Derived.Test.YtnbpcfakkphmcaaGreatDoorCards
import Derived.Test.YtnbpcfakkphmcaaGreatDoorIb0
import Derived.Test.YtnbpcfakkphmcaaGreatDoorP6
import Derived.Laws.Cover2
import Derived.SevenTiedAt
namespace Go.Proofs.YtnbpcfakkphmcaaGreatDoor
open Go.ChangeShapes Go.WideShapes Go.ChangeAt Go.WideMaps Go.WideElems Go.RowKit
set_option linter.unusedVariables false
set_option maxRecDepth 100000
theorem pictureTurns_inst : Tryz.f6.isInstance Tryz.prog Rows.pictureTurnsRow.origin Rows.pictureTurnsRow.targs := of_decide_eq_true (by kernel_rfl)
theorem pictureTurns_wrap : Tryz.f6.isWrapper Tryz.prog Rows.pictureTurnsRow.wrapper Rows.pictureTurnsRow.mainSum := by unfold Func.isWrapper; first | (rw [if_pos (by decide +kernel)]; kernel_rfl) | (rw [if_neg (by decide +kernel)]; exact ⟨rfl, rfl⟩)
theorem pictureTurns_holds : Rows.PictureTurnsSaid :=
  OpenClaim.holds_of_wide 6 Tryz.f6 rfl rfl rfl rfl rfl rfl rfl ⟨rfl, rfl, rfl, rfl, rfl⟩ rfl rfl rfl rfl rfl pictureTurnsC_fn Tryz.func6 pictureTurnsF_all
    pictureTurns_inst pictureTurns_wrap
    (fun os started H enc _ => pictureTurns_lifted os started H enc)
theorem pictureTurns : Rows.PictureTurnsCardSaid :=
  Claim7.holds_tied_plain_at .later [] [.data, .data, .data, .data] true Rows.pictureTurnsCard.stood.harness false
    pictureTurns_holds (fun _ h => by cases h) pictureTurnsC_wf (fun _ h => by cases h) pictureTurns_row_tie rfl ⟨rfl, rfl⟩ pictureTurnsC_main rfl
    (fun f fn hf hfn => by
      obtain rfl : f = 6 := Option.some.inj ((show Tryz.prog.funcNamed "genlock/genlocklaw01.PictureTurns" = some 6 from pictureTurnsC_fn).symm.trans hf) |>.symm
      obtain rfl : fn = Tryz.f6 := (Option.some.inj (Tryz.func6.symm.trans hfn)).symm
      exact ⟨pictureTurnsC_looks, fun j t ht => by
        rw [Tryz.params6] at ht
        have hm : t ∈ [43] := by simpa using Array.mem_of_getElem? ht
        have hall : ([43].all fun u => !Tryz.prog.wantsStandIn u) = true := by kernel_rfl
        exact (show Tryz.prog.wantsStandIn t = false by simpa using List.all_eq_true.1 hall t hm)⟩)
    pictureTurnsC_goes
#print axioms pictureTurns

end Go.Proofs.YtnbpcfakkphmcaaGreatDoor
