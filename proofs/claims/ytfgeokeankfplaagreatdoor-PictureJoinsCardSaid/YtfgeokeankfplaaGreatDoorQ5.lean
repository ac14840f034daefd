/- Parts of a proof: PictureJoins, for any arguments. The closed facts of the row of PictureJoins, one by one. -/
import Derived.Test.YtfgeokeankfplaaGreatDoorQ3
import Derived.Test.YtfgeokeankfplaaGreatDoorQ4
import Derived.Test.YtfgeokeankfplaaGreatDoorP3
namespace Go.Proofs.YtfgeokeankfplaaGreatDoor
open Go.RowKit
set_option linter.unusedVariables false
set_option maxRecDepth 100000
theorem nat_sizes {nm : ByteArray} {X Y : Int} {l : List Nat} (hp : (Pic.mk nm X Y l).Ok) : ∃ W H : Nat, X = W ∧ Y = H := by
  have h1 := hp.w1; have h3 := hp.h1
  simp only [] at h1 h3
  exact ⟨X.toNat, Y.toNat, by omega, by omega⟩
theorem joins_any (p q : Pic) (A B : Option Addr) (c d : Nat) (w : World) (hlaid : Laid w) (hA : A = none → p.l.length = 0 ∧ c = 0) (hB : B = none → q.l.length = 0 ∧ d = 0) (hcap : p.l.length ≤ c) (hcap2 : q.l.length ≤ d) (hr : Rd w A (fl p.l)) (hr2 : Rd w B (fl q.l)) :
    Calls Tryz.prog 5 #[p.val A c, q.val B d] w (TrueEnd w) := by
  by_cases h1 : narrowB p = true
  · by_cases h2 : narrowB q = true
    · obtain ⟨nm, X, Y, l⟩ := p
      obtain ⟨nm2, X2, Y2, k⟩ := q
      by_cases hz : firstE [(Pic.mk nm X Y l).err, (Pic.mk nm2 X2 Y2 k).err] = 0
      · have h0 := firstE_zero hz
        have he1 : (Pic.mk nm X Y l).err = 0 := h0 _ (by simp)
        have he2 : (Pic.mk nm2 X2 Y2 k).err = 0 := h0 _ (by simp)
        have hp := ok_of he1
        have hq := ok_of he2
        obtain ⟨W, H, rfl, rfl⟩ := nat_sizes hp
        obtain ⟨V, K, rfl, rfl⟩ := nat_sizes hq
        exact joins_ok nm nm2 W H V K l k (beside_fit hp hq) (above_fit hp hq) (woven_fit hp hq) he1 he2 A B c d w hlaid h1 h2 hA hB hcap hcap2 hr hr2
      · exact joins_bad nm nm2 X Y X2 Y2 l k _ _ _ rfl rfl rfl hz A B c d w hlaid h1 h2 hA hB hcap hcap2 hr hr2
    · exact joins_long2 p q A B c d w hlaid h1 (by simpa using h2)
  · exact joins_long1 p q A B c d w hlaid (by simpa using h1)
end Go.Proofs.YtfgeokeankfplaaGreatDoor
namespace Go.Proofs.YtfgeokeankfplaaGreatDoor
open Go.RowKit
set_option linter.unusedVariables false
set_option maxRecDepth 100000
theorem both {a b : Bool} (h : a = true) (k : b = true) : (a && b) = true := by rw [h, k]; rfl
theorem joinsF_0 : (Rows.pictureJoinsRow.wf (OpenSpec.ofChange Rows.pictureJoinsSpec)) = true := by kernel_rfl
theorem joinsF_1 : (laidOutB Tryz.prog) = true := by kernel_rfl
theorem joinsF_2 : (mapsRowed Tryz.prog) = true := by kernel_rfl
theorem joinsF_3 : (Tryz.f5.params.all (Tryz.prog.readableRec ·)) = true := by kernel_rfl
theorem joinsF_4 : (namedTie Tryz.prog Rows.pictureJoinsRow.named Rows.pictureJoinsSpec.vars) = true := by kernel_rfl
theorem joinsF_5 : ((Rows.pictureJoinsRow.stops == [])) = true := by kernel_rfl
theorem joinsF_6 : ((Tryz.prog.stops == [])) = true := by kernel_rfl
theorem joinsF_7 : ((Rows.pictureJoinsRow.knobs == [])) = true := by kernel_rfl
theorem joinsF_8 : ((Tryz.prog.stopKnobs == [])) = true := by kernel_rfl
theorem joinsF_9 : ((Rows.pictureJoinsRow.inPlace == Tryz.prog.inPlace 5)) = true := by kernel_rfl
theorem joinsF_10 : ((Rows.pictureJoinsRow.unfollowed == Tryz.prog.unfollowed 5)) = true := by kernel_rfl
theorem joinsF_11 : ((Rows.pictureJoinsRow.recurses == Tryz.prog.recurses 5)) = true := by kernel_rfl
theorem joinsF_12 : ((Rows.pictureJoinsRow.named == Tryz.prog.varsNamed 5)) = true := by kernel_rfl
theorem joinsF_13 : ((Rows.pictureJoinsRow.maps == (Tryz.f5.params.toList ++ Rows.pictureJoinsSpec.plain.varTypes Tryz.prog).any (Tryz.prog.mapsRec ·))) = true := by kernel_rfl
theorem joinsF_14 : ((Rows.pictureJoinsRow.ifaces == (Tryz.f5.params.toList ++ Rows.pictureJoinsSpec.plain.varTypes Tryz.prog).any (Tryz.prog.ifacesRec ·))) = true := by kernel_rfl
theorem joinsF_15 : ((Rows.pictureJoinsRow.mapsOut == Tryz.prog.mapsAmong Tryz.f5.resultTypes.toList)) = true := by kernel_rfl
theorem joinsF_16 : ((Rows.pictureJoinsRow.loops == (Tryz.f5.params.toList ++ Rows.pictureJoinsSpec.plain.varTypes Tryz.prog).any (Tryz.prog.loopsFrom ·))) = true := by kernel_rfl
theorem joinsF_17 : ((Rows.pictureJoinsRow.wideKeys == (Tryz.f5.params.toList ++ Rows.pictureJoinsSpec.plain.varTypes Tryz.prog ++ Tryz.f5.resultTypes.toList).any (Tryz.prog.wideKeysFrom ·))) = true := by kernel_rfl
theorem joinsF_18 : (Rows.pictureJoinsSpec.vars.all (Tryz.prog.varReadable ·)) = true := by kernel_rfl
theorem joinsF_19 : (Tryz.f5.resultTypes.all (fun t => Tryz.prog.readableRec t && decide (t < Tryz.prog.types.size))) = true := by kernel_rfl
theorem joinsF_20 : ((Rows.pictureJoinsRow.ifacesOut == Tryz.f5.resultTypes.toList.any (Tryz.prog.ifacesRec ·))) = true := by kernel_rfl
theorem joinsF_21 : ((Rows.pictureJoinsRow.loopsOut == Tryz.f5.resultTypes.toList.any (Tryz.prog.loopsFrom ·))) = true := by kernel_rfl
theorem joinsF_22 : ((Rows.pictureJoinsRow.plainKeys == Tryz.prog.plainKeys)) = true := by kernel_rfl
theorem joinsF_23 : (Rows.pictureJoinsRow.shortTexts.isNone) = true := by kernel_rfl
theorem joinsF_24 : (Tryz.prog.stopsHeard) = true := by kernel_rfl
theorem joinsF_25 : (Tryz.prog.mayEnter) = true := by kernel_rfl
theorem joinsF_26 : ((Rows.pictureJoinsRow.lifted == Tryz.prog.liftsFinal)) = true := by kernel_rfl
theorem joinsF_27 : ((Tryz.prog.make == some Rows.pictureJoinsRow.make)) = true := by kernel_rfl
theorem joinsF_28 : ((Rows.pictureJoinsRow.kinds == (if Rows.pictureJoinsRow.domain.isEmpty then [] else Tryz.f5.params.toList.map fun t => match Tryz.prog.underlying t with | some (.int k) => some k | _ => none))) = true := by kernel_rfl
theorem joinsF_29 : ((Rows.pictureJoinsRow.pinned == Rows.pictureJoinsRow.pinnedBy)) = true := by kernel_rfl
theorem joinsF_30 : ((Rows.pictureJoinsRow.veiled == (Tryz.f5.params.toList ++ Rows.pictureJoinsSpec.plain.varTypes Tryz.prog ++ Tryz.f5.resultTypes.toList).any (Tryz.prog.veiledRec ·))) = true := by kernel_rfl
theorem joinsF_31 : (Rows.pictureJoinsRow.veiledFits Tryz.prog Tryz.f5.params.toList (Tryz.f5.params.toList ++ Rows.pictureJoinsSpec.plain.varTypes Tryz.prog ++ Tryz.f5.resultTypes.toList)) = true := by kernel_rfl
theorem joinsF_all : joinedFacts Tryz.prog 5 Tryz.f5 Rows.pictureJoinsSpec Rows.pictureJoinsRow = true := (both (both (both (both (both (both (both (both (both (both (both (both (both (both (both (both (both (both (both (both (both (both (both (both (both (both (both (both (both (both (both joinsF_0 joinsF_1) joinsF_2) joinsF_3) joinsF_4) joinsF_5) joinsF_6) joinsF_7) joinsF_8) joinsF_9) joinsF_10) joinsF_11) joinsF_12) joinsF_13) joinsF_14) joinsF_15) joinsF_16) joinsF_17) joinsF_18) joinsF_19) joinsF_20) joinsF_21) joinsF_22) joinsF_23) joinsF_24) joinsF_25) joinsF_26) joinsF_27) joinsF_28) joinsF_29) joinsF_30) joinsF_31)
end Go.Proofs.YtfgeokeankfplaaGreatDoor
