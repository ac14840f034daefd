/- PictureLinear: the walk, lifted to the row. -/
import Derived.Test.YtlicgblagkkcfaaGreatDoorTie
import Derived.Test.YtlicgblagkkcfaaGreatDoorCards
import Derived.Test.YtlicgblagkkcfaaGreatDoorKm
import Derived.Test.YtlicgblagkkcfaaGreatDoorQK
import Derived.Test.YtlicgblagkkcfaaGreatDoorQK
import Derived.Test.YtlicgblagkkcfaaGreatDoorQK
import Derived.Laws.Cover2
import Derived.SevenTiedAt
namespace Go.Proofs.YtlicgblagkkcfaaGreatDoor
open Go.ChangeShapes Go.WideShapes Go.ChangeAt Go.WideMaps Go.WideElems Go.RowKit
set_option linter.unusedVariables false
set_option maxRecDepth 100000
theorem door_metQ (os : Os) (args : Array Value) : laidMetH Tryz.prog LAID ((World.doorLaid Tryz.prog 43 os).forCall (fun _ _ => 0) ⟨#[], args, []⟩).memory :=
  laidMetH_of_parts3 (fuel := 8) (laidMet_of_run' 8 (by kernel_rfl) (by kernel_rfl)) (by kernel_rfl) (by kernel_rfl)
theorem pictureLinear_lifted (os : Os) (started : os.Started) (H : Type) (enc : TypeId × Value → H) :
    ReturnsInHanded {} Tryz.checked os 13 .any (fun w args => (Rows.pictureLinearSpec.pre enc Tryz.prog Tryz.f13 [] false w args ∧ laidMetH Tryz.prog LAID w) ∧ sizedMet enc Tryz.prog Tryz.f13 (OpenSpec.ofChange Rows.pictureLinearSpec) false w args)
      (Rows.pictureLinearSpec.post enc Tryz.prog Tryz.f13 false true false false) := by
  refine returnsInHanded_of_change_and (C := Tryz.checked) (X := fun w _ => laidMetH Tryz.prog LAID w) (fun _ _ _ hh h => h.of_heap hh) own started (by kernel_rfl) Tryz.func13
    (ChangeSpec.witness_shaped (enc := enc) (C := Tryz.checked) (os := os) (X := fun w _ => laidMetH Tryz.prog LAID w) false (World.doorLaid Tryz.prog 43 os) #[.agg #[.string ⟨#[]⟩, .int .i64 0, .int .i64 0, .slice none 0 0], .agg #[.string ⟨#[]⟩, .int .i64 0, .int .i64 0, .slice none 0 0], .agg #[.float .f32 0, .float .f32 0, .float .f32 0, .float .f32 0]] 8 rfl (World.shaped_of_RefB (by kernel_rfl) (by kernel_rfl)) (by kernel_rfl) (by kernel_rfl) (by kernel_rfl) (door_metQ os _)) ?_
  intro W base args ds gs before hval0 hW _ _ hL _
  have hval : ∀ (j : Nat) t v, Tryz.f13.params[j]? = some t → args[j]? = some v → Value.okWide Tryz.prog W .any base t v := hval0
  have hW' : DataW.Whole enc Tryz.prog Tryz.f13.params.toList Rows.pictureLinearSpec.vars false W args.toList ds gs before := hW
  obtain ⟨p, q, hA0, hV, rfl, hfz, hnd⟩ := hW
  have hA : DataW.TrodAll enc Tryz.prog W 0 (fun _ => true) true Tryz.f13.params.toList args.toList ds p := hA0
  rw [Tryz.params13] at hA hval
  obtain ⟨v0, v1, v2, d0, d1, d2, p0, p1, p2, rfl, rfl, rfl, h0, h1, h2⟩ := trodAll_three hA
  obtain ⟨rfl, rfl⟩ := trodVars_none hV
  obtain ⟨pp, A, c, rfl, hr, hnil, hcap, hs, _, _⟩ := open_pic (hval 0 43 v0 rfl rfl) h0
  obtain ⟨qq, B, c2, rfl, hr2, hnil2, hcap2, hs2, _, _⟩ := open_pic (hval 1 43 v1 rfl rfl) h1
  obtain ⟨L, rfl⟩ := open_fours (hval 2 135 v2 rfl rfl) h2
  clear hA0 hval0
  refine (linear_any pp qq L A B c c2 W (of_laid hL) hnil hnil2 hr hr2).mono fun e W' ⟨he, hb⟩ => ?_
  subst he
  exact ⟨_, rfl, law_post (by kernel_rfl) rfl (by kernel_rfl) hW' rfl rfl rfl hb⟩
end Go.Proofs.YtlicgblagkkcfaaGreatDoor
