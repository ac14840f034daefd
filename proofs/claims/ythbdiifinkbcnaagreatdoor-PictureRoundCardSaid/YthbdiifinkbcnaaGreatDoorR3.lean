/- For every picture of the reference the law PictureRound returns true, and its argument reads behind the call as before. Conditions: none beyond the card's own (the four listed package variables hold what the program's text lays in them, which the card ties). -/
import Derived.Test.YthbdiifinkbcnaaGreatDoorR1
import Derived.Test.YthbdiifinkbcnaaGreatDoorR2
import Derived.Test.YthbdiifinkbcnaaGreatDoorTie
import Derived.Test.YthbdiifinkbcnaaGreatDoorCards
import Derived.Test.YthbdiifinkbcnaaGreatDoorP3
import Derived.SevenTiedAt
namespace Go.Proofs.YthbdiifinkbcnaaGreatDoor
open Go.RowKit
set_option linter.unusedVariables false
set_option maxRecDepth 100000

theorem round_any (p : Pic) (A : Option Addr) (c : Nat) (w : World) (hlaid : Laid w) (hA : A = none → p.l.length = 0 ∧ c = 0) (hcap : p.l.length ≤ c) (hs : p.name.size ≤ maxLen) (hr : Rd w A (fl p.l)) : Calls Tryz.prog 12 #[p.val A c] w (TrueEnd w) := by
  by_cases hsh : (shortB p && (p.err == 0)) = true
  · have h2 := hsh
    simp only [Bool.and_eq_true, beq_iff_eq] at h2
    obtain ⟨hb, he⟩ := h2
    have hp := ok_of he
    obtain ⟨nm, pw, ph, l⟩ := p
    have h1 := hp.w1; have h2 := hp.h1
    simp only [] at h1 h2
    obtain ⟨W, rfl⟩ : ∃ W : Nat, pw = W := ⟨pw.toNat, by omega⟩
    obtain ⟨H, rfl⟩ : ∃ H : Nat, ph = H := ⟨ph.toNat, by omega⟩
    by_cases hh : H = 1
    · exact round_one nm W H l hp hh A c w hlaid hb hcap hr
    · exact round_ok nm W H l hp (by omega) A c w hlaid hb hcap hr
  · exact round_long p A c w hlaid hr (by simpa using hsh)
end Go.Proofs.YthbdiifinkbcnaaGreatDoor
namespace Go.Proofs.YthbdiifinkbcnaaGreatDoor
open Go.ChangeShapes Go.WideShapes Go.ChangeAt Go.WideMaps Go.WideElems Go.RowKit
set_option linter.unusedVariables false
set_option maxRecDepth 100000
theorem door_metR (os : Os) (args : Array Value) : laidMetH Tryz.prog LAID ((World.doorLaid Tryz.prog 43 os).forCall (fun _ _ => 0) ⟨#[], args, []⟩).memory :=
  laidMetH_of_parts3 (fuel := 8) (laidMet_of_run' 8 (by kernel_rfl) (by kernel_rfl)) (by kernel_rfl) (by kernel_rfl)
theorem pictureRound_lifted (os : Os) (started : os.Started) (H : Type) (enc : TypeId × Value → H) :
    ReturnsInHanded {} Tryz.checked os 12 .any (fun w args => (Rows.pictureRoundSpec.pre enc Tryz.prog Tryz.f12 [] false w args ∧ laidMetH Tryz.prog LAID w) ∧ sizedMet enc Tryz.prog Tryz.f12 (OpenSpec.ofChange Rows.pictureRoundSpec) false w args)
      (Rows.pictureRoundSpec.post enc Tryz.prog Tryz.f12 false true false false) := by
  refine returnsInHanded_of_change_and (C := Tryz.checked) (X := fun w _ => laidMetH Tryz.prog LAID w) (fun _ _ _ hh h => h.of_heap hh) own started (by kernel_rfl) Tryz.func12
    (ChangeSpec.witness_shaped (enc := enc) (C := Tryz.checked) (os := os) (X := fun w _ => laidMetH Tryz.prog LAID w) false (World.doorLaid Tryz.prog 43 os) #[.agg #[.string ⟨#[]⟩, .int .i64 0, .int .i64 0, .slice none 0 0]] 8 rfl (World.shaped_of_RefB (by kernel_rfl) (by kernel_rfl)) (by kernel_rfl) (by kernel_rfl) (by kernel_rfl) (door_metR os _)) ?_
  intro W base args ds gs before hval0 hW _ _ hL _
  have hval : ∀ (j : Nat) t v, Tryz.f12.params[j]? = some t → args[j]? = some v → Value.okWide Tryz.prog W .any base t v := hval0
  have hW' : DataW.Whole enc Tryz.prog Tryz.f12.params.toList Rows.pictureRoundSpec.vars false W args.toList ds gs before := hW
  obtain ⟨p, q, hA0, hV, rfl, hfz, hnd⟩ := hW
  have hA : DataW.TrodAll enc Tryz.prog W 0 (fun _ => true) true Tryz.f12.params.toList args.toList ds p := hA0
  rw [Tryz.params12] at hA hval
  obtain ⟨v0, d0, rfl, rfl, h0⟩ := trodAll_one hA
  obtain ⟨rfl, rfl⟩ := trodVars_none hV
  obtain ⟨pp, A, c, rfl, hr, hnil, hcap, hs, _, _⟩ := open_pic (hval 0 43 v0 rfl rfl) h0
  clear hA0 hval0
  refine (round_any pp A c W (of_laid hL) hnil hcap hs hr).mono fun e W' ⟨he, hb⟩ => ?_
  subst he
  exact ⟨_, rfl, law_post (by kernel_rfl) rfl (by kernel_rfl) hW' rfl rfl rfl hb⟩
theorem pictureRound_holds : Rows.PictureRoundSaid :=
  OpenClaim.holds_of_wide 12 Tryz.f12 rfl rfl rfl rfl rfl rfl rfl ⟨rfl, rfl, rfl, rfl, rfl⟩ rfl rfl rfl rfl rfl (by kernel_rfl) Tryz.func12 (by kernel_rfl)
    (of_decide_eq_true (by kernel_rfl)) (by unfold Func.isWrapper; first | (rw [if_pos (by decide +kernel)]; kernel_rfl) | (rw [if_neg (by decide +kernel)]; exact ⟨rfl, rfl⟩))
    (fun os started H enc _ => pictureRound_lifted os started H enc)
theorem pictureRound : Rows.PictureRoundCardSaid :=
  Claim7.holds_tied_plain_at .later [] [.data, .data, .data, .data] true Rows.pictureRoundCard.stood.harness false
    pictureRound_holds (fun _ h => by cases h) (by kernel_rfl) (fun _ h => by cases h) pictureRound_row_tie rfl ⟨rfl, rfl⟩ (by kernel_rfl) rfl
    (fun f fn hf hfn => by
      obtain rfl : f = 12 := Option.some.inj ((show Tryz.prog.funcNamed "genlock/genlocklaw01.PictureRound" = some 12 by kernel_rfl).symm.trans hf) |>.symm
      obtain rfl : fn = Tryz.f12 := (Option.some.inj (Tryz.func12.symm.trans hfn)).symm
      exact ⟨by kernel_rfl, fun j t ht => by
        rw [Tryz.params12] at ht
        have hm : t ∈ [43] := by simpa using Array.mem_of_getElem? ht
        have hall : ([43].all fun u => !Tryz.prog.wantsStandIn u) = true := by kernel_rfl
        exact (show Tryz.prog.wantsStandIn t = false by simpa using List.all_eq_true.1 hall t hm)⟩)
    (by kernel_rfl)
#print axioms pictureRound

end Go.Proofs.YthbdiifinkbcnaaGreatDoor
