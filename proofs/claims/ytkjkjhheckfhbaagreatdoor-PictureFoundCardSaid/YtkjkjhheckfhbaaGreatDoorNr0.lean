/- PictureFound: the walk, lifted to the row. -/
import Derived.Test.YtkjkjhheckfhbaaGreatDoorTie
import Derived.Test.YtkjkjhheckfhbaaGreatDoorCards
import Derived.Test.YtkjkjhheckfhbaaGreatDoorNm
import Derived.Test.YtkjkjhheckfhbaaGreatDoorP6
import Derived.Test.YtkjkjhheckfhbaaGreatDoorP6
import Derived.Test.YtkjkjhheckfhbaaGreatDoorP7
import Derived.Laws.Cover2
import Derived.SevenTiedAt
namespace Go.Proofs.YtkjkjhheckfhbaaGreatDoor
open Go.ChangeShapes Go.WideShapes Go.ChangeAt Go.WideMaps Go.WideElems Go.RowKit
set_option linter.unusedVariables false
set_option maxRecDepth 100000
theorem door_metR (os : Os) (args : Array Value) : laidMetH Tryz.prog LAID ((World.doorLaid Tryz.prog 43 os).forCall (fun _ _ => 0) ⟨#[], args, []⟩).memory :=
  laidMetH_of_parts3 (fuel := 8) (laidMet_of_run' 8 (by kernel_rfl) (by kernel_rfl)) (by kernel_rfl) (by kernel_rfl)
theorem pictureFound_lifted (os : Os) (started : os.Started) (H : Type) (enc : TypeId × Value → H) :
    ReturnsInHanded {} Tryz.checked os 14 .any (fun w args => (Rows.pictureFoundSpec.pre enc Tryz.prog Tryz.f14 [] false w args ∧ laidMetH Tryz.prog LAID w) ∧ sizedMet enc Tryz.prog Tryz.f14 (OpenSpec.ofChange Rows.pictureFoundSpec) false w args)
      (Rows.pictureFoundSpec.post enc Tryz.prog Tryz.f14 false true false false) := by
  refine returnsInHanded_of_change_and (C := Tryz.checked) (X := fun w _ => laidMetH Tryz.prog LAID w) (fun _ _ _ hh h => h.of_heap hh) own started (by kernel_rfl) Tryz.func14
    (ChangeSpec.witness_shaped (enc := enc) (C := Tryz.checked) (os := os) (X := fun w _ => laidMetH Tryz.prog LAID w) false (World.doorLaid Tryz.prog 43 os) #[.slice none 0 0, .agg #[.int .u8 0, .int .u8 0, .int .u8 0, .int .u8 0], .agg #[.int .u16 0, .int .u16 0]] 8 rfl (World.shaped_of_RefB (by kernel_rfl) (by kernel_rfl)) (by kernel_rfl) (by kernel_rfl) (by kernel_rfl) (door_metR os _)) ?_
  intro W base args ds gs before hval0 hW _ _ hL _
  have hval : ∀ (j : Nat) t v, Tryz.f14.params[j]? = some t → args[j]? = some v → Value.okWide Tryz.prog W .any base t v := hval0
  have hW' : DataW.Whole enc Tryz.prog Tryz.f14.params.toList Rows.pictureFoundSpec.vars false W args.toList ds gs before := hW
  obtain ⟨p, q, hA0, hV, rfl, hfz, hnd⟩ := hW
  have hA : DataW.TrodAll enc Tryz.prog W 0 (fun _ => true) true Tryz.f14.params.toList args.toList ds p := hA0
  rw [Tryz.params14] at hA hval
  obtain ⟨v0, v1, v2, d0, d1, d2, p0, p1, p2, rfl, rfl, rfl, h0, h1, h2⟩ := trodAll_three hA
  obtain ⟨rfl, rfl⟩ := trodVars_none hV
  obtain ⟨l, A, c, rfl, hr, hbytes⟩ := open_pks (hval 0 84 v0 rfl rfl) h0
  have hcap := pks_cap h0
  obtain ⟨n0, n1, n2, n3, rfl, b0, b1, b2, b3⟩ := open_quad (hval 1 144 v1 rfl rfl) h1
  obtain ⟨c0, c1, rfl, g0, g1⟩ := open_words (hval 2 146 v2 rfl rfl) h2
  clear hA0 hval0
  refine (found_law l hbytes n0 n1 n2 n3 c0 c1 b0 b1 b2 b3 g0 g1 A c W (of_laid hL) hcap hr).mono fun e W' ⟨he, hb⟩ => ?_
  subst he
  exact ⟨_, rfl, law_post (by kernel_rfl) rfl (by kernel_rfl) hW' rfl rfl rfl hb⟩
end Go.Proofs.YtkjkjhheckfhbaaGreatDoor
