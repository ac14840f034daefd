/- For every two pictures of the reference the law PictureJoins returns true, and its arguments read behind the call as before. Conditions: none beyond the card's own (the four listed package variables hold what the program's text lays in them, which the card ties). -/
import Derived.Test.YtfgeokeankfplaaGreatDoorTie
import Derived.Test.YtfgeokeankfplaaGreatDoorCards
import Derived.Test.YtfgeokeankfplaaGreatDoorQ5
import Derived.Test.YtfgeokeankfplaaGreatDoorP3
import Derived.Laws.Cover2
import Derived.SevenTiedAt
namespace Go.Proofs.YtfgeokeankfplaaGreatDoor
open Go.ChangeShapes Go.WideShapes Go.ChangeAt Go.WideMaps Go.WideElems Go.RowKit
set_option linter.unusedVariables false
set_option maxRecDepth 100000
theorem door_metJ (os : Os) (args : Array Value) : laidMetH Tryz.prog LAID ((World.doorLaid Tryz.prog 43 os).forCall (fun _ _ => 0) ⟨#[], args, []⟩).memory :=
  laidMetH_of_parts3 (fuel := 8) (laidMet_of_run' 8 (by kernel_rfl) (by kernel_rfl)) (by kernel_rfl) (by kernel_rfl)
theorem pictureJoins_lifted (os : Os) (started : os.Started) (H : Type) (enc : TypeId × Value → H) :
    ReturnsInHanded {} Tryz.checked os 5 .any (fun w args => (Rows.pictureJoinsSpec.pre enc Tryz.prog Tryz.f5 [] false w args ∧ laidMetH Tryz.prog LAID w) ∧ sizedMet enc Tryz.prog Tryz.f5 (OpenSpec.ofChange Rows.pictureJoinsSpec) false w args)
      (Rows.pictureJoinsSpec.post enc Tryz.prog Tryz.f5 false true false false) := by
  refine returnsInHanded_of_change_and (C := Tryz.checked) (X := fun w _ => laidMetH Tryz.prog LAID w) (fun _ _ _ hh h => h.of_heap hh) own started (by kernel_rfl) Tryz.func5
    (ChangeSpec.witness_shaped (enc := enc) (C := Tryz.checked) (os := os) (X := fun w _ => laidMetH Tryz.prog LAID w) false (World.doorLaid Tryz.prog 43 os) #[.agg #[.string ⟨#[]⟩, .int .i64 0, .int .i64 0, .slice none 0 0], .agg #[.string ⟨#[]⟩, .int .i64 0, .int .i64 0, .slice none 0 0]] 8 rfl (World.shaped_of_RefB (by kernel_rfl) (by kernel_rfl)) (by kernel_rfl) (by kernel_rfl) (by kernel_rfl) (door_metJ os _)) ?_
  intro W base args ds gs before hval0 hW _ _ hL _
  have hval : ∀ (j : Nat) t v, Tryz.f5.params[j]? = some t → args[j]? = some v → Value.okWide Tryz.prog W .any base t v := hval0
  have hW' : DataW.Whole enc Tryz.prog Tryz.f5.params.toList Rows.pictureJoinsSpec.vars false W args.toList ds gs before := hW
  obtain ⟨p, q, hA0, hV, rfl, hfz, hnd⟩ := hW
  have hA : DataW.TrodAll enc Tryz.prog W 0 (fun _ => true) true Tryz.f5.params.toList args.toList ds p := hA0
  rw [Tryz.params5] at hA hval
  obtain ⟨v0, v1, d0, d1, p0, p1, rfl, rfl, rfl, h0, h1⟩ := trodAll_two hA
  obtain ⟨rfl, rfl⟩ := trodVars_none hV
  obtain ⟨pp, A, c, rfl, hr, hnil, hcap, hs, _, _⟩ := open_pic (hval 0 43 v0 rfl rfl) h0
  obtain ⟨qq, A2, c2, rfl, hr2, hnil2, hcap2, hs2, _, _⟩ := open_pic (hval 1 43 v1 rfl rfl) h1
  clear hA0 hval0
  refine (joins_any pp qq A A2 c c2 W (of_laid hL) hnil hnil2 hcap hcap2 hr hr2).mono fun e W' ⟨he, hb⟩ => ?_
  subst he
  exact ⟨_, rfl, law_post (by kernel_rfl) rfl (by kernel_rfl) hW' rfl rfl rfl hb⟩
theorem pictureJoins_fn : Tryz.prog.funcNamed Rows.pictureJoinsRow.func = some 5 := by kernel_rfl
theorem pictureJoins_inst : Tryz.f5.isInstance Tryz.prog Rows.pictureJoinsRow.origin Rows.pictureJoinsRow.targs := of_decide_eq_true (by kernel_rfl)
theorem pictureJoins_wrap : Tryz.f5.isWrapper Tryz.prog Rows.pictureJoinsRow.wrapper Rows.pictureJoinsRow.mainSum := by unfold Func.isWrapper; first | (rw [if_pos (by decide +kernel)]; kernel_rfl) | (rw [if_neg (by decide +kernel)]; exact ⟨rfl, rfl⟩)
theorem pictureJoins_holds : Rows.PictureJoinsSaid :=
  OpenClaim.holds_of_wide 5 Tryz.f5 rfl rfl rfl rfl rfl rfl rfl ⟨rfl, rfl, rfl, rfl, rfl⟩ rfl rfl rfl rfl rfl pictureJoins_fn Tryz.func5 joinsF_all
    pictureJoins_inst pictureJoins_wrap
    (fun os started H enc _ => pictureJoins_lifted os started H enc)
theorem pictureJoins : Rows.PictureJoinsCardSaid :=
  Claim7.holds_tied_plain_at .later [] [.data, .data, .data, .data] true Rows.pictureJoinsCard.stood.harness false
    pictureJoins_holds (fun _ h => by cases h) (by kernel_rfl) (fun _ h => by cases h) pictureJoins_row_tie rfl ⟨rfl, rfl⟩ (by kernel_rfl) rfl
    (fun f fn hf hfn => by
      obtain rfl : f = 5 := Option.some.inj ((show Tryz.prog.funcNamed "genlock/genlocklaw01.PictureJoins" = some 5 by kernel_rfl).symm.trans hf) |>.symm
      obtain rfl : fn = Tryz.f5 := (Option.some.inj (Tryz.func5.symm.trans hfn)).symm
      exact ⟨by kernel_rfl, fun j t ht => by
        rw [Tryz.params5] at ht
        have hm : t ∈ [43, 43] := by simpa using Array.mem_of_getElem? ht
        have hall : ([43, 43].all fun u => !Tryz.prog.wantsStandIn u) = true := by kernel_rfl
        exact (show Tryz.prog.wantsStandIn t = false by simpa using List.all_eq_true.1 hall t hm)⟩)
    (by kernel_rfl)
#print axioms pictureJoins

end Go.Proofs.YtfgeokeankfplaaGreatDoor
