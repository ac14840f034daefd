/- For every picture of the reference and every two bytes the law PictureTiles returns true, and its arguments read behind the call as before. Conditions: none beyond the card's own (the four listed package variables hold what the program's text lays in them, which the card ties). -/
import Derived.Test.YtlicgblagkkcfaaGreatDoorTie
import Derived.Test.YtlicgblagkkcfaaGreatDoorCards
import Derived.Test.YtlicgblagkkcfaaGreatDoorJr0
import Derived.Test.YtlicgblagkkcfaaGreatDoorPK
import Derived.Laws.Cover2
import Derived.SevenTiedAt
namespace Go.Proofs.YtlicgblagkkcfaaGreatDoor
open Go.ChangeShapes Go.WideShapes Go.ChangeAt Go.WideMaps Go.WideElems Go.RowKit
set_option linter.unusedVariables false
set_option maxRecDepth 100000
theorem pictureTiles_inst : Tryz.f11.isInstance Tryz.prog Rows.pictureTilesRow.origin Rows.pictureTilesRow.targs := of_decide_eq_true (by kernel_rfl)
theorem pictureTiles_wrap : Tryz.f11.isWrapper Tryz.prog Rows.pictureTilesRow.wrapper Rows.pictureTilesRow.mainSum := by unfold Func.isWrapper; first | (rw [if_pos (by decide +kernel)]; kernel_rfl) | (rw [if_neg (by decide +kernel)]; exact ⟨rfl, rfl⟩)
theorem pictureTiles_holds : Rows.PictureTilesSaid :=
  OpenClaim.holds_of_wide 11 Tryz.f11 rfl rfl rfl rfl rfl rfl rfl ⟨rfl, rfl, rfl, rfl, rfl⟩ rfl rfl rfl rfl rfl pictureTilesC_fn Tryz.func11 pictureTilesF_all
    pictureTiles_inst pictureTiles_wrap
    (fun os started H enc _ => pictureTiles_lifted os started H enc)
theorem pictureTiles : Rows.PictureTilesCardSaid :=
  Claim7.holds_tied_plain_at .later [] [.data, .data, .data, .data] true Rows.pictureTilesCard.stood.harness false
    pictureTiles_holds (fun _ h => by cases h) pictureTilesC_wf (fun _ h => by cases h) pictureTiles_row_tie rfl ⟨rfl, rfl⟩ pictureTilesC_main rfl
    (fun f fn hf hfn => by
      obtain rfl : f = 11 := Option.some.inj ((show Tryz.prog.funcNamed "genlock/genlocklaw01.PictureTiles" = some 11 from pictureTilesC_fn).symm.trans hf) |>.symm
      obtain rfl : fn = Tryz.f11 := (Option.some.inj (Tryz.func11.symm.trans hfn)).symm
      exact ⟨pictureTilesC_looks, fun j t ht => by
        rw [Tryz.params11] at ht
        have hm : t ∈ [43, 129] := by simpa using Array.mem_of_getElem? ht
        have hall : ([43, 129].all fun u => !Tryz.prog.wantsStandIn u) = true := by kernel_rfl
        exact (show Tryz.prog.wantsStandIn t = false by simpa using List.all_eq_true.1 hall t hm)⟩)
    pictureTilesC_goes
#print axioms pictureTiles

end Go.Proofs.YtlicgblagkkcfaaGreatDoor
