/- For every picture of the reference and every six ints the law PictureParts returns true, and its arguments read behind the call as before. Conditions: none beyond the card's own (the four listed package variables hold what the program's text lays in them, which the card ties). -/
import Derived.Test.YthbdiifinkbcnaaGreatDoorP6
import Derived.Test.YthbdiifinkbcnaaGreatDoorP7
import Derived.Test.YthbdiifinkbcnaaGreatDoorP8
import Derived.Test.YthbdiifinkbcnaaGreatDoorTie
import Derived.Test.YthbdiifinkbcnaaGreatDoorCards
import Derived.Test.YthbdiifinkbcnaaGreatDoorP3
import Derived.Laws.Cover2
import Derived.SevenTiedAt
namespace Go.Proofs.YthbdiifinkbcnaaGreatDoor
open Go.RowKit
set_option linter.unusedVariables false
set_option maxRecDepth 100000
theorem at_zero {p : Pic} {x y : Int} (h : atErr p x y = 0) : p.err = 0 ∧ (0 ≤ x ∧ x < p.w) ∧ 0 ≤ y ∧ y < p.h := by
  have h0 := firstE_zero h
  have h1 := errIf_zero (by decide) (h0 _ (by simp : errIf (decide (x < 0) || decide (p.w ≤ x)) 10 ∈ _))
  have h2 := errIf_zero (by decide) (h0 _ (by simp : errIf (decide (y < 0) || decide (p.h ≤ y)) 10 ∈ _))
  simp at h1 h2
  exact ⟨h0 _ (by simp), by omega, by omega⟩
theorem crop_zero {p : Pic} {a b a' b' : Int} (h : cropErr p a b a' b' = 0) : p.err = 0 ∧ (0 ≤ a ∧ a < b ∧ b ≤ p.w) ∧ 0 ≤ a' ∧ a' < b' ∧ b' ≤ p.h := by
  have h0 := firstE_zero h
  have h1 := errIf_zero (by decide) (h0 _ (by simp : errIf (decide (a < 0) || decide (b ≤ a) || decide (p.w < b)) 14 ∈ _))
  have h2 := errIf_zero (by decide) (h0 _ (by simp : errIf (decide (a' < 0) || decide (b' ≤ a') || decide (p.h < b')) 14 ∈ _))
  simp at h1 h2
  exact ⟨h0 _ (by simp), by omega, by omega⟩
theorem parts_any (p : Pic) (n0 n1 n2 n3 n4 n5 : Int) (A : Option Addr) (c : Nat) (w : World) (hlaid : Laid w) (hA : A = none → p.l.length = 0 ∧ c = 0) (hcap : p.l.length ≤ c) (hs : p.name.size ≤ maxLen) (hr : Rd w A (fl p.l)) :
    Calls Tryz.prog 4 #[p.val A c, .agg #[.int .i64 n0, .int .i64 n1, .int .i64 n2, .int .i64 n3, .int .i64 n4, .int .i64 n5]] w (TrueEnd w) := by
  by_cases hsh : shortB p = true
  · obtain ⟨nm, X, Y, l⟩ := p
    by_cases h1 : atErr ⟨nm, X, Y, l⟩ n4 n5 = 0 <;> by_cases h2 : cropErr ⟨nm, X, Y, l⟩ n0 n1 n2 n3 = 0
    · obtain ⟨he, hx, hy⟩ := at_zero h1
      obtain ⟨_, hc, hd⟩ := crop_zero h2
      have hp := ok_of he
      simp only [] at hx hy hc hd
      obtain ⟨W, rfl⟩ : ∃ W : Nat, X = W := ⟨X.toNat, by omega⟩
      obtain ⟨H, rfl⟩ : ∃ H : Nat, Y = H := ⟨Y.toNat, by omega⟩
      obtain ⟨cf, rfl⟩ : ∃ n : Nat, n0 = n := ⟨n0.toNat, by omega⟩
      obtain ⟨rf, rfl⟩ : ∃ n : Nat, n2 = n := ⟨n2.toNat, by omega⟩
      obtain ⟨M, rfl⟩ : ∃ n : Nat, n1 = (cf : Int) + n := ⟨(n1 - cf).toNat, by omega⟩
      obtain ⟨K, rfl⟩ : ∃ n : Nat, n3 = (rf : Int) + n := ⟨(n3 - rf).toNat, by omega⟩
      exact parts_11 nm W H l hp n4.toNat n5.toNat (by omega) (by omega) n4 n5 (by omega) (by omega) cf M rf K (by omega) (by omega) A c w hlaid hsh hA hcap hr
    · obtain ⟨he, hx, hy⟩ := at_zero h1
      have hp := ok_of he
      simp only [] at hx hy
      obtain ⟨W, rfl⟩ : ∃ W : Nat, X = W := ⟨X.toNat, by omega⟩
      obtain ⟨H, rfl⟩ : ∃ H : Nat, Y = H := ⟨Y.toNat, by omega⟩
      exact parts_10 nm W H l hp n4.toNat n5.toNat (by omega) (by omega) n4 n5 (by omega) (by omega) n0 n1 n2 n3 _ rfl h2 A c w hlaid hsh hA hcap hr
    · obtain ⟨he, hc, hd⟩ := crop_zero h2
      have hp := ok_of he
      simp only [] at hc hd
      obtain ⟨W, rfl⟩ : ∃ W : Nat, X = W := ⟨X.toNat, by omega⟩
      obtain ⟨H, rfl⟩ : ∃ H : Nat, Y = H := ⟨Y.toNat, by omega⟩
      obtain ⟨cf, rfl⟩ : ∃ n : Nat, n0 = n := ⟨n0.toNat, by omega⟩
      obtain ⟨rf, rfl⟩ : ∃ n : Nat, n2 = n := ⟨n2.toNat, by omega⟩
      obtain ⟨M, rfl⟩ : ∃ n : Nat, n1 = (cf : Int) + n := ⟨(n1 - cf).toNat, by omega⟩
      obtain ⟨K, rfl⟩ : ∃ n : Nat, n3 = (rf : Int) + n := ⟨(n3 - rf).toNat, by omega⟩
      exact parts_01 nm W H l hp n4 n5 cf M rf K (by omega) (by omega) _ rfl h1 A c w hlaid hsh hA hcap hr
    · exact parts_00 nm X Y l n4 n5 n0 n1 n2 n3 _ rfl h1 _ rfl h2 A c w hlaid hsh hA hcap hr
  · exact parts_long p n0 n1 n2 n3 n4 n5 A c w hlaid (by simpa using hsh)
end Go.Proofs.YthbdiifinkbcnaaGreatDoor
namespace Go.Proofs.YthbdiifinkbcnaaGreatDoor
open Go.ChangeShapes Go.WideShapes Go.ChangeAt Go.WideMaps Go.WideElems Go.RowKit
set_option linter.unusedVariables false
set_option maxRecDepth 100000
theorem door_metP (os : Os) (args : Array Value) : laidMetH Tryz.prog LAID ((World.doorLaid Tryz.prog 43 os).forCall (fun _ _ => 0) ⟨#[], args, []⟩).memory :=
  laidMetH_of_parts3 (fuel := 8) (laidMet_of_run' 8 (by kernel_rfl) (by kernel_rfl)) (by kernel_rfl) (by kernel_rfl)
theorem c44 : Tryz.prog.cellsOf 44 = 6 := by kernel_rfl
theorem open_six {H : Type} {enc : TypeId × Value → H} {W : World} {r : Reach} {b0 base : Nat} {sp : Nat → Bool} {held : Bool} {v : Value} {d : DataW H} {ps : List MemPlace} (hval : Value.okWide Tryz.prog W r b0 44 v) (hd : DataW.Trod enc Tryz.prog W base sp held 44 v d ps) :
    ∃ n0 n1 n2 n3 n4 n5 : Int, v = .agg #[.int .i64 n0, .int .i64 n1, .int .i64 n2, .int .i64 n3, .int .i64 n4, .int .i64 n5] := by
  obtain ⟨cs, rfl, hsz, _⟩ : ∃ cs, v = .agg cs ∧ cs.size = Tryz.prog.cellsOf 44 ∧ Row.okWide Tryz.prog W r b0 44 cs := by
    simpa [Value.okWide, Tryz.underlying44] using hval
  rw [c44] at hsz
  obtain ⟨l⟩ := cs
  obtain ⟨fuel, hf⟩ := hd
  obtain ⟨xs, m, _, _, _, hn, hel⟩ := DataW.trod_array Tryz.underlying44 hf
  rw [c3] at hel
  match l, hsz with
  | [a0, a1, a2, a3, a4, a5], _ =>
    have key : ∀ i, i < 6 → ∃ n : Int, ([a0, a1, a2, a3, a4, a5].drop (i * 1)).take 1 = [.int .i64 n] := fun i hi => by
      have h1 := hel i hi
      have h2 : xs[i]? = some (xs[i]'(by omega)) := List.getElem?_eq_getElem (by omega)
      rw [h2] at h1
      obtain ⟨k, e, _, w⟩ := DataW.trod_int Tryz.underlying3 h1
      exact ⟨k, e⟩
    obtain ⟨n0, e0⟩ := key 0 (by omega)
    obtain ⟨n1, e1⟩ := key 1 (by omega)
    obtain ⟨n2, e2⟩ := key 2 (by omega)
    obtain ⟨n3, e3⟩ := key 3 (by omega)
    obtain ⟨n4, e4⟩ := key 4 (by omega)
    obtain ⟨n5, e5⟩ := key 5 (by omega)
    simp at e0 e1 e2 e3 e4 e5
    exact ⟨n0, n1, n2, n3, n4, n5, by rw [e0, e1, e2, e3, e4, e5]⟩
theorem pictureParts_lifted (os : Os) (started : os.Started) (H : Type) (enc : TypeId × Value → H) :
    ReturnsInHanded {} Tryz.checked os 4 .any (fun w args => (Rows.picturePartsSpec.pre enc Tryz.prog Tryz.f4 [] false w args ∧ laidMetH Tryz.prog LAID w) ∧ sizedMet enc Tryz.prog Tryz.f4 (OpenSpec.ofChange Rows.picturePartsSpec) false w args)
      (Rows.picturePartsSpec.post enc Tryz.prog Tryz.f4 false true false false) := by
  refine returnsInHanded_of_change_and (C := Tryz.checked) (X := fun w _ => laidMetH Tryz.prog LAID w) (fun _ _ _ hh h => h.of_heap hh) own started (by kernel_rfl) Tryz.func4
    (ChangeSpec.witness_shaped (enc := enc) (C := Tryz.checked) (os := os) (X := fun w _ => laidMetH Tryz.prog LAID w) false (World.doorLaid Tryz.prog 43 os) #[.agg #[.string ⟨#[]⟩, .int .i64 0, .int .i64 0, .slice none 0 0], .agg #[.int .i64 0, .int .i64 0, .int .i64 0, .int .i64 0, .int .i64 0, .int .i64 0]] 8 rfl (World.shaped_of_RefB (by kernel_rfl) (by kernel_rfl)) (by kernel_rfl) (by kernel_rfl) (by kernel_rfl) (door_metP os _)) ?_
  intro W base args ds gs before hval0 hW _ _ hL _
  have hval : ∀ (j : Nat) t v, Tryz.f4.params[j]? = some t → args[j]? = some v → Value.okWide Tryz.prog W .any base t v := hval0
  have hW' : DataW.Whole enc Tryz.prog Tryz.f4.params.toList Rows.picturePartsSpec.vars false W args.toList ds gs before := hW
  obtain ⟨p, q, hA0, hV, rfl, hfz, hnd⟩ := hW
  have hA : DataW.TrodAll enc Tryz.prog W 0 (fun _ => true) true Tryz.f4.params.toList args.toList ds p := hA0
  rw [Tryz.params4] at hA hval
  obtain ⟨v0, v1, d0, d1, p0, p1, rfl, rfl, rfl, h0, h1⟩ := trodAll_two hA
  obtain ⟨rfl, rfl⟩ := trodVars_none hV
  obtain ⟨pp, A, c, rfl, hr, hnil, hcap, hs, _, _⟩ := open_pic (hval 0 43 v0 rfl rfl) h0
  obtain ⟨n0, n1, n2, n3, n4, n5, rfl⟩ := open_six (hval 1 44 v1 rfl rfl) h1
  clear hA0 hval0
  refine (parts_any pp n0 n1 n2 n3 n4 n5 A c W (of_laid hL) hnil hcap hs hr).mono fun e W' ⟨he, hb⟩ => ?_
  subst he
  exact ⟨_, rfl, law_post (by kernel_rfl) rfl (by kernel_rfl) hW' rfl rfl rfl hb⟩
theorem pictureParts_holds : Rows.PicturePartsSaid :=
  OpenClaim.holds_of_wide 4 Tryz.f4 rfl rfl rfl rfl rfl rfl rfl ⟨rfl, rfl, rfl, rfl, rfl⟩ rfl rfl rfl rfl rfl (by kernel_rfl) Tryz.func4 (by kernel_rfl)
    (of_decide_eq_true (by kernel_rfl)) (by unfold Func.isWrapper; first | (rw [if_pos (by decide +kernel)]; kernel_rfl) | (rw [if_neg (by decide +kernel)]; exact ⟨rfl, rfl⟩))
    (fun os started H enc _ => pictureParts_lifted os started H enc)
theorem pictureParts : Rows.PicturePartsCardSaid :=
  Claim7.holds_tied_plain_at .later [] [.data, .data, .data, .data] true Rows.picturePartsCard.stood.harness false
    pictureParts_holds (fun _ h => by cases h) (by kernel_rfl) (fun _ h => by cases h) pictureParts_row_tie rfl ⟨rfl, rfl⟩ (by kernel_rfl) rfl
    (fun f fn hf hfn => by
      obtain rfl : f = 4 := Option.some.inj ((show Tryz.prog.funcNamed "genlock/genlocklaw01.PictureParts" = some 4 by kernel_rfl).symm.trans hf) |>.symm
      obtain rfl : fn = Tryz.f4 := (Option.some.inj (Tryz.func4.symm.trans hfn)).symm
      exact ⟨by kernel_rfl, fun j t ht => by
        rw [Tryz.params4] at ht
        have hm : t ∈ [43, 44] := by simpa using Array.mem_of_getElem? ht
        have hall : ([43, 44].all fun u => !Tryz.prog.wantsStandIn u) = true := by kernel_rfl
        exact (show Tryz.prog.wantsStandIn t = false by simpa using List.all_eq_true.1 hall t hm)⟩)
    (by kernel_rfl)
#print axioms pictureParts

end Go.Proofs.YthbdiifinkbcnaaGreatDoor
