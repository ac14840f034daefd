/- For every list of packets of the reference, every four bytes and every two words of 16 bits the law PictureFound returns true, and its arguments read behind the call as before. Conditions: none beyond the card's own (the four listed package variables hold what the program's text lays in them, which the card ties). -/
import Derived.Test.YtkjkjhheckfhbaaGreatDoorTie
import Derived.Test.YtkjkjhheckfhbaaGreatDoorCards
import Derived.Test.YtkjkjhheckfhbaaGreatDoorNr0
import Derived.Test.YtkjkjhheckfhbaaGreatDoorP7
import Derived.Laws.Cover2
import Derived.SevenTiedAt
namespace Go.Proofs.YtkjkjhheckfhbaaGreatDoor
open Go.ChangeShapes Go.WideShapes Go.ChangeAt Go.WideMaps Go.WideElems Go.RowKit
set_option linter.unusedVariables false
set_option maxRecDepth 100000
theorem pictureFound_inst : Tryz.f14.isInstance Tryz.prog Rows.pictureFoundRow.origin Rows.pictureFoundRow.targs := of_decide_eq_true (by kernel_rfl)
theorem pictureFound_wrap : Tryz.f14.isWrapper Tryz.prog Rows.pictureFoundRow.wrapper Rows.pictureFoundRow.mainSum := by unfold Func.isWrapper; first | (rw [if_pos (by decide +kernel)]; kernel_rfl) | (rw [if_neg (by decide +kernel)]; exact ⟨rfl, rfl⟩)
theorem pictureFound_holds : Rows.PictureFoundSaid :=
  OpenClaim.holds_of_wide 14 Tryz.f14 rfl rfl rfl rfl rfl rfl rfl ⟨rfl, rfl, rfl, rfl, rfl⟩ rfl rfl rfl rfl rfl pictureFoundC_fn Tryz.func14 pictureFoundF_all
    pictureFound_inst pictureFound_wrap
    (fun os started H enc _ => pictureFound_lifted os started H enc)
theorem pictureFound : Rows.PictureFoundCardSaid :=
  Claim7.holds_tied_plain_at .later [] [.data, .data, .data, .data] true Rows.pictureFoundCard.stood.harness false
    pictureFound_holds (fun _ h => by cases h) pictureFoundC_wf (fun _ h => by cases h) pictureFound_row_tie rfl ⟨rfl, rfl⟩ pictureFoundC_main rfl
    (fun f fn hf hfn => by
      obtain rfl : f = 14 := Option.some.inj ((show Tryz.prog.funcNamed "genlock/genlocklaw01.PictureFound" = some 14 from pictureFoundC_fn).symm.trans hf) |>.symm
      obtain rfl : fn = Tryz.f14 := (Option.some.inj (Tryz.func14.symm.trans hfn)).symm
      exact ⟨pictureFoundC_looks, fun j t ht => by
        rw [Tryz.params14] at ht
        have hm : t ∈ [84, 144, 146] := by simpa using Array.mem_of_getElem? ht
        have hall : ([84, 144, 146].all fun u => !Tryz.prog.wantsStandIn u) = true := by kernel_rfl
        exact (show Tryz.prog.wantsStandIn t = false by simpa using List.all_eq_true.1 hall t hm)⟩)
    pictureFoundC_goes
#print axioms pictureFound

end Go.Proofs.YtkjkjhheckfhbaaGreatDoor
