/- For every two pictures of the reference and every two ints the law PictureSums returns true, and its arguments read behind the call as before. Conditions: none beyond the card's own (the four listed package variables hold what the program's text lays in them, which the card ties). -/
import Derived.Test.YtfgeokeankfplaaGreatDoorS3
import Derived.Test.YtfgeokeankfplaaGreatDoorS4
import Derived.Test.YtfgeokeankfplaaGreatDoorS5
import Derived.Test.YtfgeokeankfplaaGreatDoorS6
import Derived.Test.YtfgeokeankfplaaGreatDoorS7
import Derived.Test.YtfgeokeankfplaaGreatDoorTie
import Derived.Test.YtfgeokeankfplaaGreatDoorCards
import Derived.Test.YtfgeokeankfplaaGreatDoorS9
import Derived.Test.YtfgeokeankfplaaGreatDoorP3
import Derived.Laws.Cover2
import Derived.SevenTiedAt
namespace Go.Proofs.YtfgeokeankfplaaGreatDoor
open Go.RowKit
set_option linter.unusedVariables false
set_option maxRecDepth 100000
theorem nat_sizesS {nm : ByteArray} {X Y : Int} {l : List Nat} (hp : (Pic.mk nm X Y l).Ok) : ∃ W H : Nat, X = W ∧ Y = H := by
  have h1 := hp.w1; have h3 := hp.h1
  simp only [] at h1 h3
  exact ⟨X.toNat, Y.toNat, by omega, by omega⟩
theorem firstE_first {z : Int} {l : List Int} (h : z ≠ 0) : firstE (z :: l) ≠ 0 := fun h0 => h (firstE_zero h0 z (by simp))
theorem sums_any (p q : Pic) (A B : Option Addr) (c d : Nat) (num den : Int) (w : World) (hlaid : Laid w) (hA : A = none → p.l.length = 0 ∧ c = 0) (hB : B = none → q.l.length = 0 ∧ d = 0) (hcap : p.l.length ≤ c) (hcap2 : q.l.length ≤ d) (hr : Rd w A (fl p.l)) (hr2 : Rd w B (fl q.l)) :
    Calls Tryz.prog 7 #[p.val A c, q.val B d, .agg #[.int .i64 num, .int .i64 den]] w (TrueEnd w) := by
  by_cases h1 : shortB p = true
  · by_cases h2 : shortB q = true
    · obtain ⟨nm, X, Y, l⟩ := p
      obtain ⟨nm2, X2, Y2, k⟩ := q
      by_cases he1 : (Pic.mk nm X Y l).err = 0
      · have hp := ok_of he1
        obtain ⟨W, H, rfl, rfl⟩ := nat_sizesS hp
        obtain ⟨en, gE, rE⟩ := energy_fit hp
        obtain ⟨pk, gK, rK⟩ := peak_fit hp
        obtain ⟨ra, rb, gM, rM⟩ := mean_fit hp
        by_cases he2 : (Pic.mk nm2 X2 Y2 k).err = 0
        · have hq := ok_of he2
          obtain ⟨V, K, rfl, rfl⟩ := nat_sizesS hq
          by_cases hk : firstE [0, outs num (-1000) 1000, outs den 1 1000] = 0
          · have h0 := firstE_zero hk
            exact sums_ggg nm nm2 W H V K l k he1 en pk ra rb gE rE gK rK gM rM he2 (sum_fit hp hq) num den hk (scaled_fit hp num den (outs_zero (h0 _ (by simp))) (outs_zero (h0 _ (by simp)))) A B c d w hlaid h1 h2 hA hB hcap hcap2 hr hr2
          · exact sums_ggb nm nm2 W H V K l k he1 en pk ra rb gE rE gK rK gM rM he2 (sum_fit hp hq) num den _ rfl hk A B c d w hlaid h1 h2 hA hB hcap hcap2 hr hr2
        · have hns : firstE [0, (Pic.mk nm2 X2 Y2 k).err] ≠ 0 := fun h => he2 (firstE_zero h _ (by simp))
          by_cases hk : firstE [0, outs num (-1000) 1000, outs den 1 1000] = 0
          · have h0 := firstE_zero hk
            exact sums_gbg nm nm2 W H X2 Y2 l k he1 en pk ra rb gE rE gK rK gM rM _ _ rfl rfl hns num den hk (scaled_fit hp num den (outs_zero (h0 _ (by simp))) (outs_zero (h0 _ (by simp)))) A B c d w hlaid h1 h2 hA hB hcap hcap2 hr hr2
          · exact sums_gbb nm nm2 W H X2 Y2 l k he1 en pk ra rb gE rE gK rK gM rM _ _ rfl rfl hns num den _ rfl hk A B c d w hlaid h1 h2 hA hB hcap hcap2 hr hr2
      · exact sums_bbb nm nm2 X Y X2 Y2 l k _ rfl he1 _ _ rfl rfl (firstE_first he1) num den _ rfl (firstE_first he1) A B c d w hlaid h1 h2 hA hB hcap hcap2 hr hr2
    · exact sums_long2 p q A B c d num den w hlaid h1 (by simpa using h2)
  · exact sums_long1 p q A B c d num den w hlaid (by simpa using h1)
end Go.Proofs.YtfgeokeankfplaaGreatDoor
namespace Go.Proofs.YtfgeokeankfplaaGreatDoor
open Go.ChangeShapes Go.WideShapes Go.ChangeAt Go.WideMaps Go.WideElems Go.RowKit
set_option linter.unusedVariables false
set_option maxRecDepth 100000
theorem door_metS (os : Os) (args : Array Value) : laidMetH Tryz.prog LAID ((World.doorLaid Tryz.prog 43 os).forCall (fun _ _ => 0) ⟨#[], args, []⟩).memory :=
  laidMetH_of_parts3 (fuel := 8) (laidMet_of_run' 8 (by kernel_rfl) (by kernel_rfl)) (by kernel_rfl) (by kernel_rfl)
theorem c74 : Tryz.prog.cellsOf 74 = 2 := by kernel_rfl
theorem open_twoI {H : Type} {enc : TypeId × Value → H} {W : World} {r : Reach} {b0 base : Nat} {sp : Nat → Bool} {held : Bool} {v : Value} {d : DataW H} {ps : List MemPlace} (hval : Value.okWide Tryz.prog W r b0 74 v) (hd : DataW.Trod enc Tryz.prog W base sp held 74 v d ps) :
    ∃ n0 n1 : Int, v = .agg #[.int .i64 n0, .int .i64 n1] := by
  obtain ⟨cs, rfl, hsz, _⟩ : ∃ cs, v = .agg cs ∧ cs.size = Tryz.prog.cellsOf 74 ∧ Row.okWide Tryz.prog W r b0 74 cs := by
    simpa [Value.okWide, Tryz.underlying74] using hval
  rw [c74] at hsz
  obtain ⟨l⟩ := cs
  obtain ⟨fuel, hf⟩ := hd
  obtain ⟨xs, m, _, _, _, hn, hel⟩ := DataW.trod_array Tryz.underlying74 hf
  rw [c3] at hel
  match l, hsz with
  | [a0, a1], _ =>
    have key : ∀ i, i < 2 → ∃ n : Int, ([a0, a1].drop (i * 1)).take 1 = [.int .i64 n] := fun i hi => by
      have h1 := hel i hi
      have h2 : xs[i]? = some (xs[i]'(by omega)) := List.getElem?_eq_getElem (by omega)
      rw [h2] at h1
      obtain ⟨k, e, _, w⟩ := DataW.trod_int Tryz.underlying3 h1
      exact ⟨k, e⟩
    obtain ⟨n0, e0⟩ := key 0 (by omega)
    obtain ⟨n1, e1⟩ := key 1 (by omega)
    simp at e0 e1
    exact ⟨n0, n1, by rw [e0, e1]⟩
theorem pictureSums_lifted (os : Os) (started : os.Started) (H : Type) (enc : TypeId × Value → H) :
    ReturnsInHanded {} Tryz.checked os 7 .any (fun w args => (Rows.pictureSumsSpec.pre enc Tryz.prog Tryz.f7 [] false w args ∧ laidMetH Tryz.prog LAID w) ∧ sizedMet enc Tryz.prog Tryz.f7 (OpenSpec.ofChange Rows.pictureSumsSpec) false w args)
      (Rows.pictureSumsSpec.post enc Tryz.prog Tryz.f7 false true false false) := by
  refine returnsInHanded_of_change_and (C := Tryz.checked) (X := fun w _ => laidMetH Tryz.prog LAID w) (fun _ _ _ hh h => h.of_heap hh) own started (by kernel_rfl) Tryz.func7
    (ChangeSpec.witness_shaped (enc := enc) (C := Tryz.checked) (os := os) (X := fun w _ => laidMetH Tryz.prog LAID w) false (World.doorLaid Tryz.prog 43 os) #[.agg #[.string ⟨#[]⟩, .int .i64 0, .int .i64 0, .slice none 0 0], .agg #[.string ⟨#[]⟩, .int .i64 0, .int .i64 0, .slice none 0 0], .agg #[.int .i64 0, .int .i64 0]] 8 rfl (World.shaped_of_RefB (by kernel_rfl) (by kernel_rfl)) (by kernel_rfl) (by kernel_rfl) (by kernel_rfl) (door_metS os _)) ?_
  intro W base args ds gs before hval0 hW _ _ hL _
  have hval : ∀ (j : Nat) t v, Tryz.f7.params[j]? = some t → args[j]? = some v → Value.okWide Tryz.prog W .any base t v := hval0
  have hW' : DataW.Whole enc Tryz.prog Tryz.f7.params.toList Rows.pictureSumsSpec.vars false W args.toList ds gs before := hW
  obtain ⟨p, q, hA0, hV, rfl, hfz, hnd⟩ := hW
  have hA : DataW.TrodAll enc Tryz.prog W 0 (fun _ => true) true Tryz.f7.params.toList args.toList ds p := hA0
  rw [Tryz.params7] at hA hval
  obtain ⟨v0, v1, v2, d0, d1, d2, p0, p1, p2, rfl, rfl, rfl, h0, h1, h2⟩ := trodAll_three hA
  obtain ⟨rfl, rfl⟩ := trodVars_none hV
  obtain ⟨pp, A, c, rfl, hr, hnil, hcap, hs, _, _⟩ := open_pic (hval 0 43 v0 rfl rfl) h0
  obtain ⟨qq, A2, c2, rfl, hr2, hnil2, hcap2, hs2, _, _⟩ := open_pic (hval 1 43 v1 rfl rfl) h1
  obtain ⟨num, den, rfl⟩ := open_twoI (hval 2 74 v2 rfl rfl) h2
  clear hA0 hval0
  refine (sums_any pp qq A A2 c c2 num den W (of_laid hL) hnil hnil2 hcap hcap2 hr hr2).mono fun e W' ⟨he, hb⟩ => ?_
  subst he
  exact ⟨_, rfl, law_post (by kernel_rfl) rfl (by kernel_rfl) hW' rfl rfl rfl hb⟩
theorem pictureSums_fn : Tryz.prog.funcNamed Rows.pictureSumsRow.func = some 7 := by kernel_rfl
theorem pictureSums_inst : Tryz.f7.isInstance Tryz.prog Rows.pictureSumsRow.origin Rows.pictureSumsRow.targs := of_decide_eq_true (by kernel_rfl)
theorem pictureSums_wrap : Tryz.f7.isWrapper Tryz.prog Rows.pictureSumsRow.wrapper Rows.pictureSumsRow.mainSum := by unfold Func.isWrapper; first | (rw [if_pos (by decide +kernel)]; kernel_rfl) | (rw [if_neg (by decide +kernel)]; exact ⟨rfl, rfl⟩)
theorem pictureSums_holds : Rows.PictureSumsSaid :=
  OpenClaim.holds_of_wide 7 Tryz.f7 rfl rfl rfl rfl rfl rfl rfl ⟨rfl, rfl, rfl, rfl, rfl⟩ rfl rfl rfl rfl rfl pictureSums_fn Tryz.func7 sumsF_all
    pictureSums_inst pictureSums_wrap
    (fun os started H enc _ => pictureSums_lifted os started H enc)
theorem pictureSums : Rows.PictureSumsCardSaid :=
  Claim7.holds_tied_plain_at .later [] [.data, .data, .data, .data] true Rows.pictureSumsCard.stood.harness false
    pictureSums_holds (fun _ h => by cases h) (by kernel_rfl) (fun _ h => by cases h) pictureSums_row_tie rfl ⟨rfl, rfl⟩ (by kernel_rfl) rfl
    (fun f fn hf hfn => by
      obtain rfl : f = 7 := Option.some.inj ((show Tryz.prog.funcNamed "genlock/genlocklaw01.PictureSums" = some 7 by kernel_rfl).symm.trans hf) |>.symm
      obtain rfl : fn = Tryz.f7 := (Option.some.inj (Tryz.func7.symm.trans hfn)).symm
      exact ⟨by kernel_rfl, fun j t ht => by
        rw [Tryz.params7] at ht
        have hm : t ∈ [43, 43, 74] := by simpa using Array.mem_of_getElem? ht
        have hall : ([43, 43, 74].all fun u => !Tryz.prog.wantsStandIn u) = true := by kernel_rfl
        exact (show Tryz.prog.wantsStandIn t = false by simpa using List.all_eq_true.1 hall t hm)⟩)
    (by kernel_rfl)
#print axioms pictureSums

end Go.Proofs.YtfgeokeankfplaaGreatDoor
