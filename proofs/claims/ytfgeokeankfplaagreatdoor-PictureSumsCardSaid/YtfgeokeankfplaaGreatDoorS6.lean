/- Parts of a proof: PictureSums: the walk of the law (gbb). -/
import Derived.Test.YtfgeokeankfplaaGreatDoorS2
import Derived.Test.YtfgeokeankfplaaGreatDoorP4
import Derived.Test.YtfgeokeankfplaaGreatDoorP3
namespace Go.Proofs.YtfgeokeankfplaaGreatDoor
open Go.RowKit
set_option linter.unusedVariables false
set_option maxRecDepth 100000

theorem firstE_head_gbb {a b : Int} {l : List Int} (h : firstE [a, b] ≠ 0) : firstE (a :: b :: l) = firstE [a, b] := by
  unfold firstE at h ⊢
  by_cases ha : a = 0
  · subst ha
    by_cases hb : b = 0
    · subst hb; exact absurd rfl h
    · simp [hb, firstE] at h ⊢
  · simp [ha] at h ⊢
set_option maxHeartbeats 8000000 in
theorem sums_gbb (nm nm2 : ByteArray) (X Y X2 Y2 : Int) (l k : List Nat) (he1 : (Pic.mk nm X Y l).err = 0) (en pk ra rb : Int) (gE : Gives 54 (Pic.mk nm X Y l) (.tuple #[.int .i64 en, .int .i64 0])) (rE : Gives 59 (Pic.mk nm X Y l) (.int .i64 en)) (gK : Gives 55 (Pic.mk nm X Y l) (.tuple #[.int .i64 pk, .int .i64 0])) (rK : Gives 60 (Pic.mk nm X Y l) (.int .i64 pk)) (gM : Gives 56 (Pic.mk nm X Y l) (.tuple #[.agg #[.int .i64 ra, .int .i64 rb], .int .i64 0])) (rM : Gives 61 (Pic.mk nm X Y l) (.agg #[.int .i64 ra, .int .i64 rb])) (zq zs : Int) (he2 : (Pic.mk nm2 X2 Y2 k).err = zq) (hzs : firstE [0, zq] = zs) (hns : zs ≠ 0) (num den : Int) (zk : Int) (hzk : firstE [0, outs num (-1000) 1000, outs den 1 1000] = zk) (hnk : zk ≠ 0) (A B : Option Addr) (c d : Nat) (w : World) (hlaid : Laid w) (hsh : shortB (Pic.mk nm X Y l) = true) (hsh2 : shortB (Pic.mk nm2 X2 Y2 k) = true) (hA : A = none → l.length = 0 ∧ c = 0) (hB : B = none → k.length = 0 ∧ d = 0) (hcap : l.length ≤ c) (hcap2 : k.length ≤ d) (hr : Rd w A (fl l)) (hr2 : Rd w B (fl k)) : Calls Tryz.prog 7 #[(Pic.mk nm X Y l).val A c, (Pic.mk nm2 X2 Y2 k).val B d, .agg #[.int .i64 num, .int .i64 den]] w (TrueEnd w) := by
  obtain ⟨hs0, hl0⟩ := short_facts hsh
  obtain ⟨hs20, hl20⟩ := short_facts hsh2
  simp only [] at hs0 hl0 hs20 hl20
  have hs : nm.size ≤ maxLen := Nat.le_trans hs0 (by decide)
  have hl : l.length ≤ maxLen := Nat.le_trans hl0 (by decide)
  have hl4 : l.length ≤ 4096 := Nat.le_trans hl0 (by decide)
  have hs2 : nm2.size ≤ maxLen := Nat.le_trans hs20 (by decide)
  have hl2 : k.length ≤ maxLen := Nat.le_trans hl20 (by decide)
  have hl24 : k.length ≤ 4096 := Nat.le_trans hl20 (by decide)
  obtain ⟨n, hn⟩ : ∃ n, l.length = n := ⟨_, rfl⟩
  obtain ⟨m, hm⟩ : ∃ m, k.length = m := ⟨_, rfl⟩
  have HS : RowKit.Hid (∀ w, Calls Tryz.prog 28 #[.agg #[.string nm, .int .i64 X, .int .i64 Y, .slice A n c]] w (BoolEnd true w)) := Lib.hid (fun w => by have h := shortR_any (Pic.mk nm X Y l) A c w; rw [hsh] at h; rw [← hn]; exact h)
  have HS2 : RowKit.Hid (∀ w, Calls Tryz.prog 28 #[.agg #[.string nm2, .int .i64 X2, .int .i64 Y2, .slice B m d]] w (BoolEnd true w)) := Lib.hid (fun w => by have h := shortR_any (Pic.mk nm2 X2 Y2 k) B d w; rw [hsh2] at h; rw [← hm]; exact h)
  have HOWN : RowKit.Hid (∀ w, Rd w A (fl l) → Calls Tryz.prog 30 #[.agg #[.string nm, .int .i64 X, .int .i64 Y, .slice A n c]] w fun e w' => ∃ g c', e = .returned (.agg #[.string nm, .int .i64 X, .int .i64 Y, .slice (some ⟨g, 0, none⟩) n c']) ∧ n ≤ c' ∧ Rd w' (some ⟨g, 0, none⟩) (fl l) ∧ Below w.heap.size w w') := Lib.hid (fun w hr => by have h := own_any (Pic.mk nm X Y l) A c w hl4 hA hr; rw [← hn]; exact h)
  have HOWN2 : RowKit.Hid (∀ w, Rd w B (fl k) → Calls Tryz.prog 30 #[.agg #[.string nm2, .int .i64 X2, .int .i64 Y2, .slice B m d]] w fun e w' => ∃ g c', e = .returned (.agg #[.string nm2, .int .i64 X2, .int .i64 Y2, .slice (some ⟨g, 0, none⟩) m c']) ∧ m ≤ c' ∧ Rd w' (some ⟨g, 0, none⟩) (fl k) ∧ Below w.heap.size w w') := Lib.hid (fun w hr => by have h := own_any (Pic.mk nm2 X2 Y2 k) B d w hl24 hB hr; rw [← hm]; exact h)
  have HCK : RowKit.Hid (∀ w, Rd w A (fl l) → Calls Tryz.prog 32 #[.agg #[.string nm, .int .i64 X, .int .i64 Y, .slice A n c]] w fun e w' => e = .returned (.int .i64 0) ∧ Below w.heap.size w w') := Lib.hid (fun w hr => by have h := checkPictureR_any (Pic.mk nm X Y l) A c w hs hl4 hr; rw [he1] at h; rw [← hn]; exact h)
  have HCK2 : RowKit.Hid (∀ w, Rd w B (fl k) → Calls Tryz.prog 32 #[.agg #[.string nm2, .int .i64 X2, .int .i64 Y2, .slice B m d]] w fun e w' => e = .returned (.int .i64 zq) ∧ Below w.heap.size w w') := Lib.hid (fun w hr => by have h := checkPictureR_any (Pic.mk nm2 X2 Y2 k) B d w hs2 hl24 hr; rw [he2] at h; rw [← hm]; exact h)
  have HJ1 : RowKit.Hid (∀ (A' B' : Option Addr) (c' d' : Nat) (w : World), n ≤ c' → m ≤ d' → Rd w A' (fl l) → Rd w B' (fl k) → Calls Tryz.prog 52 #[.agg #[.string nm, .int .i64 X, .int .i64 Y, .slice A' n c'], .agg #[.string nm2, .int .i64 X2, .int .i64 Y2, .slice B' m d']] w fun e w' => ∃ A c, e = .returned (.tuple #[.agg #[.string ⟨#[]⟩, .int .i64 0, .int .i64 0, .slice A 0 c], .int .i64 zs]) ∧ Rd w' A (fl []) ∧ Below w.heap.size w w') := Lib.hid (fun A' B' c' d' w h1 h2 h3 h4 => by
    have he : sumErr (Pic.mk nm X Y l) (Pic.mk nm2 X2 Y2 k) = zs := by unfold sumErr; rw [he1, he2, firstE_head_gbb (by rw [hzs]; exact hns)]; exact hzs
    have h := sum_err (Pic.mk nm X Y l) (Pic.mk nm2 X2 Y2 k) A' B' c' d' w hs hl hs2 hl2 h3 h4 zs he hns
    unfold Pic.val at h; rw [← hn, ← hm]
    exact h.mono fun e w' ⟨a, b⟩ => ⟨none, 0, a, rd_nil _ _, b⟩)
  have HO1 : RowKit.Hid (∀ (A B : Option Addr) (c d : Nat) (w : World), Rd w A (fl []) → Rd w B (fl []) → Calls Tryz.prog 38 #[.agg #[.string ⟨#[]⟩, .int .i64 0, .int .i64 0, .slice A 0 c], .int .i64 zs, .int .i64 zs, .agg #[.string ⟨#[]⟩, .int .i64 0, .int .i64 0, .slice B 0 d]] w fun e w' => e = .returned (.bool true) ∧ Below w.heap.size w w') := Lib.hid (fun A B c d w h1 h2 => by have h := one_any noPic zs (fun _ => rfl) rfl (by decide) A B c d w h1 h2; exact h)
  have hns2 : (zs == 0) = false := by simpa using hns
  have HZS := Lib.hid hzs; clear hzs hns
  have HJ2 : RowKit.Hid (∀ (A' : Option Addr) (c' : Nat) (w : World), n ≤ c' → Rd w A' (fl l) → Calls Tryz.prog 53 #[.agg #[.string nm, .int .i64 X, .int .i64 Y, .slice A' n c'], .int .i64 num, .int .i64 den] w fun e w' => ∃ A c, e = .returned (.tuple #[.agg #[.string ⟨#[]⟩, .int .i64 0, .int .i64 0, .slice A 0 c], .int .i64 zk]) ∧ Rd w' A (fl []) ∧ Below w.heap.size w w') := Lib.hid (fun A' c' w h1 h3 => by
    have he : scaledErr (Pic.mk nm X Y l) num den = zk := by unfold scaledErr; rw [he1]; exact hzk
    have h := scaled_err (Pic.mk nm X Y l) num den A' c' w hs hl h3 zk he hnk
    unfold Pic.val at h; rw [← hn]
    exact h.mono fun e w' ⟨a, b⟩ => ⟨none, 0, a, rd_nil _ _, b⟩)
  have HO2 : RowKit.Hid (∀ (A B : Option Addr) (c d : Nat) (w : World), Rd w A (fl []) → Rd w B (fl []) → Calls Tryz.prog 38 #[.agg #[.string ⟨#[]⟩, .int .i64 0, .int .i64 0, .slice A 0 c], .int .i64 zk, .int .i64 zk, .agg #[.string ⟨#[]⟩, .int .i64 0, .int .i64 0, .slice B 0 d]] w fun e w' => e = .returned (.bool true) ∧ Below w.heap.size w w') := Lib.hid (fun A B c d w h1 h2 => by have h := one_any noPic zk (fun _ => rfl) rfl (by decide) A B c d w h1 h2; exact h)
  have hnk2 : (zk == 0) = false := by simpa using hnk
  have HZK := Lib.hid hzk; clear hzk hnk
  have HVE : RowKit.Hid (∀ (A' : Option Addr) (c' : Nat) (w : World), Rd w A' (fl l) → Calls Tryz.prog 54 #[.agg #[.string nm, .int .i64 X, .int .i64 Y, .slice A' n c']] w fun e w' => e = .returned (.tuple #[.int .i64 en, .int .i64 0]) ∧ Below w.heap.size w w') := Lib.hid (fun A' c' w h3 => by have h := gE A' c' w h3; unfold Pic.val at h; rw [← hn]; exact h)
  have HRE : RowKit.Hid (∀ (w : World), Rd w A (fl l) → Calls Tryz.prog 59 #[.agg #[.string nm, .int .i64 X, .int .i64 Y, .slice A n c]] w fun e w' => e = .returned (.int .i64 en) ∧ Below w.heap.size w w') := Lib.hid (fun w h3 => by have h := rE A c w h3; unfold Pic.val at h; rw [← hn]; exact h)
  have HVK : RowKit.Hid (∀ (A' : Option Addr) (c' : Nat) (w : World), Rd w A' (fl l) → Calls Tryz.prog 55 #[.agg #[.string nm, .int .i64 X, .int .i64 Y, .slice A' n c']] w fun e w' => e = .returned (.tuple #[.int .i64 pk, .int .i64 0]) ∧ Below w.heap.size w w') := Lib.hid (fun A' c' w h3 => by have h := gK A' c' w h3; unfold Pic.val at h; rw [← hn]; exact h)
  have HRK : RowKit.Hid (∀ (w : World), Rd w A (fl l) → Calls Tryz.prog 60 #[.agg #[.string nm, .int .i64 X, .int .i64 Y, .slice A n c]] w fun e w' => e = .returned (.int .i64 pk) ∧ Below w.heap.size w w') := Lib.hid (fun w h3 => by have h := rK A c w h3; unfold Pic.val at h; rw [← hn]; exact h)
  have HVM : RowKit.Hid (∀ (A' : Option Addr) (c' : Nat) (w : World), Rd w A' (fl l) → Calls Tryz.prog 56 #[.agg #[.string nm, .int .i64 X, .int .i64 Y, .slice A' n c']] w fun e w' => e = .returned (.tuple #[.agg #[.int .i64 ra, .int .i64 rb], .int .i64 0]) ∧ Below w.heap.size w w') := Lib.hid (fun A' c' w h3 => by have h := gM A' c' w h3; unfold Pic.val at h; rw [← hn]; exact h)
  have HRM : RowKit.Hid (∀ (w : World), Rd w A (fl l) → Calls Tryz.prog 61 #[.agg #[.string nm, .int .i64 X, .int .i64 Y, .slice A n c]] w fun e w' => e = .returned (.agg #[.int .i64 ra, .int .i64 rb]) ∧ Below w.heap.size w w') := Lib.hid (fun w h3 => by have h := rM A c w h3; unfold Pic.val at h; rw [← hn]; exact h)
  clear gE rE gK rK gM rM
  have heq := fun w => eq_ratio_any ra rb w
  rw [show (Pic.mk nm X Y l).val A c = .agg #[.string nm, .int .i64 X, .int .i64 Y, .slice A n c] by unfold Pic.val; rw [hn], show (Pic.mk nm2 X2 Y2 k).val B d = .agg #[.string nm2, .int .i64 X2, .int .i64 Y2, .slice B m d] by unfold Pic.val; rw [hm]]
  clear hs hl hl4 hs0 hl0 hs2 hl2 hl24 hs20 hl20 hsh hsh2 hn hm hcap hcap2 hA hB he1 he2
  have HR := Lib.hid hr; have HR2 := Lib.hid hr2; clear hr hr2
  have HL := Lib.hid hlaid; clear hlaid
  have HB := Lib.hid (Below.refl w.heap.size w)
  go_enter Tryz.func7, Tryz.ntmps7
  go_upto_region 1 with fail
  have hn := Blk.new w 43 #[.string nm, .int .i64 X, .int .i64 Y, .slice A n c]
  have hb : Below w.heap.size w (w.alloc (.cells #[.string nm, .int .i64 X, .int .i64 Y, .slice A n c] 43)) := (Below.refl _ _).alloc (Nat.le_refl _) _
  have hge := HB.out.size
  have hsP : (w.alloc (.cells #[.string nm, .int .i64 X, .int .i64 Y, .slice A n c] 43)).heap.size = w.heap.size + 1 := by simp only [World.size_alloc]
  obtain ⟨bP, hl⟩ : ∃ b, w.heap.size = b := ⟨_, rfl⟩
  generalize w.alloc (.cells #[.string nm, .int .i64 X, .int .i64 Y, .slice A n c] 43) = sa at hn hb hsP ⊢
  rw [hl] at hsP
  replace HR := Lib.hid (HR.out.below hb); replace HR2 := Lib.hid (HR2.out.below hb); replace HB := Lib.hid (HB.out.trans (hb.mono HB.out.size))
  clear hb
  rw [hl] at hn hge
  try rw [hl]
  have HXP := Lib.hid hn; have HGP := Lib.hid hge; clear hn hl hge
  have hn := Blk.new sa 43 #[.string nm2, .int .i64 X2, .int .i64 Y2, .slice B m d]
  have hb : Below sa.heap.size sa (sa.alloc (.cells #[.string nm2, .int .i64 X2, .int .i64 Y2, .slice B m d] 43)) := (Below.refl _ _).alloc (Nat.le_refl _) _
  have hge := HB.out.size
  have hsQ : (sa.alloc (.cells #[.string nm2, .int .i64 X2, .int .i64 Y2, .slice B m d] 43)).heap.size = sa.heap.size + 1 := by simp only [World.size_alloc]
  have hlt_HXP := HXP.out.lt
  obtain ⟨bQ, hl⟩ : ∃ b, sa.heap.size = b := ⟨_, rfl⟩
  generalize sa.alloc (.cells #[.string nm2, .int .i64 X2, .int .i64 Y2, .slice B m d] 43) = sb at hn hb hsQ ⊢
  rw [hl] at hsQ
  rw [hl] at hsP
  rw [← hsP]
  clear hsP
  replace HR := Lib.hid (HR.out.below hb); replace HR2 := Lib.hid (HR2.out.below hb); replace HXP := Lib.hid (HXP.out.below hb); replace HB := Lib.hid (HB.out.trans (hb.mono HB.out.size))
  clear hb
  rw [hl] at hn hge hlt_HXP
  try rw [hl]
  have HXQ := Lib.hid hn; have HGQ := Lib.hid hge; clear hn hl hge
  have HNQHXP : RowKit.Hid (¬ bP = bQ) := Lib.hid (by omega)
  clear hlt_HXP
  have hn := Blk.new sb 74 #[.int .i64 num, .int .i64 den]
  have hb : Below sb.heap.size sb (sb.alloc (.cells #[.int .i64 num, .int .i64 den] 74)) := (Below.refl _ _).alloc (Nat.le_refl _) _
  have hge := HB.out.size
  have hlt_HXP := HXP.out.lt
  have hlt_HXQ := HXQ.out.lt
  obtain ⟨bK, hl⟩ : ∃ b, sb.heap.size = b := ⟨_, rfl⟩
  generalize sb.alloc (.cells #[.int .i64 num, .int .i64 den] 74) = s0 at hn hb ⊢
  rw [hl] at hsQ
  rw [← hsQ]
  clear hsQ
  replace HR := Lib.hid (HR.out.below hb); replace HR2 := Lib.hid (HR2.out.below hb); replace HXP := Lib.hid (HXP.out.below hb); replace HXQ := Lib.hid (HXQ.out.below hb)
  replace HB := Lib.hid (HB.out.trans (hb.mono HB.out.size))
  clear hb
  rw [hl] at hn hge hlt_HXP hlt_HXQ
  try rw [hl]
  have HXK := Lib.hid hn; have HGK := Lib.hid hge; clear hn hl hge
  have HNKHXP : RowKit.Hid (¬ bP = bK) := Lib.hid (by omega); have HNKHXQ : RowKit.Hid (¬ bQ = bK) := Lib.hid (by omega)
  clear hlt_HXP hlt_HXQ
  obtain ⟨cHXP_0, cHXP_1, cHXP_2, cHXP_3⟩ := box4 HXP.out
  go_wp2_with fail
  refine (HS.out _).mono ?_
  rintro e s1 ⟨rfl, hb⟩
  replace HR := Lib.hid (HR.out.below hb); replace HR2 := Lib.hid (HR2.out.below hb); replace HXP := Lib.hid (HXP.out.below hb); replace HXQ := Lib.hid (HXQ.out.below hb)
  replace HXK := Lib.hid (HXK.out.below hb); replace HB := Lib.hid (HB.out.trans (hb.mono HB.out.size))
  clear hb
  clear cHXP_0 cHXP_1 cHXP_2 cHXP_3
  obtain ⟨cHXQ_0, cHXQ_1, cHXQ_2, cHXQ_3⟩ := box4 HXQ.out
  go_wp2_with fail
  refine (HS2.out _).mono ?_
  rintro e s2 ⟨rfl, hb⟩
  replace HR := Lib.hid (HR.out.below hb); replace HR2 := Lib.hid (HR2.out.below hb); replace HXP := Lib.hid (HXP.out.below hb); replace HXQ := Lib.hid (HXQ.out.below hb)
  replace HXK := Lib.hid (HXK.out.below hb); replace HB := Lib.hid (HB.out.trans (hb.mono HB.out.size))
  clear hb
  clear cHXQ_0 cHXQ_1 cHXQ_2 cHXQ_3
  go_upto_region 3 with fail
  obtain ⟨cHXP_0, cHXP_1, cHXP_2, cHXP_3⟩ := box4 HXP.out
  obtain ⟨cHXQ_0, cHXQ_1, cHXQ_2, cHXQ_3⟩ := box4 HXQ.out
  have zP := HXP.out.lt; have zQ := HXQ.out.lt; have zK := HXK.out.lt
  refine wp_region_box [Fact2.is (.agg #[.string nm, .int .i64 X, .int .i64 Y, .slice A n c]), Fact2.pic (fun x => x) nm X Y n l n, Fact2.is (.agg #[.string nm2, .int .i64 X2, .int .i64 Y2, .slice B m d]), Fact2.pic (fun x => x) nm2 X2 Y2 m k m, Fact2.pic (fun x => .tuple #[x, .int .i64 zs]) ⟨#[]⟩ 0 0 0 [] 0, Fact2.pic (fun x => .tuple #[x, .int .i64 zs]) ⟨#[]⟩ 0 0 0 [] 0, Fact2.pic (fun x => x) ⟨#[]⟩ 0 0 0 [] 0, Fact2.is (.int .i64 (zs)), Fact2.box s2.heap.size 50, Fact2.any, Fact2.is (.int .i64 (zs))] 9 8 (PicBox s2.heap.size 50 ⟨#[]⟩ 0 0 0 []) (fun _ _ _ h hb => h.grow hb) [[], [0], [], [2], [1, 3], [4], [5], [5], [], [6, 8], [7]] [(some 35, 0), (some 36, 1), (some 37, 2), (some 38, 3), (some 39, 4), (some 34, 5), (some 40, 6), (some 41, 7), (some 7, 8), (none, 9), (some 8, 10)] (by kernel_rfl) (by kernel_rfl) (by kernel_rfl) (by kernel_rfl) (by decide) (by decide) (fun _ _ _ _ e h => by have h1 : _ ∧ _ := h; exact ⟨e ▸ h1.1, h1.2⟩) ?hstep ?hsto ?hend (by decide)
  case hstep =>
    intro i hi hne
    match i, hi, hne with
    | 0, _, _ =>
      intro v w' hR hd
      change SpecOp _ _ _ _ 0 (canon _ v _ []) w' _
      simp only [canon_nil]
      have q0 := (hR.cell (p := ⟨bP, 0, none⟩) zP).trans cHXP_0
      have q1 := (hR.cell (p := ⟨bP, 1, none⟩) zP).trans cHXP_1
      have q2 := (hR.cell (p := ⟨bP, 2, none⟩) zP).trans cHXP_2
      have q3 := (hR.cell (p := ⟨bP, 3, none⟩) zP).trans cHXP_3
      refine spec_ofR rfl (fun KK hK => ?_)
      go_simp
      exact hK.out _ _ (Below.refl _ _) rfl
    | 1, _, _ =>
      intro v w' hR hd
      have e0 : v 0 = .agg #[.string nm, .int .i64 X, .int .i64 Y, .slice A n c] := hd 0 (by decide)
      change SpecOp _ _ _ _ 1 (Act.put (canon _ v _ []) (some 35) (v 0)) w' _
      rw [e0]
      simp only [canon_nil, Act.put, List.setIfInBounds_toArray, List.set_cons_zero, List.set_cons_succ]
      refine spec_ofR rfl (fun KK hK => ?_)
      go_simp
      refine (HOWN.out _ (HR.out.below hR)).mono ?_
      rintro e wn ⟨g, c', rfl, hcc, hro, hbn⟩
      exact hK.out _ _ hbn ⟨_, c', rfl, hcc, hro⟩
    | 2, _, _ =>
      intro v w' hR hd
      change SpecOp _ _ _ _ 2 (canon _ v _ []) w' _
      simp only [canon_nil]
      have q0 := (hR.cell (p := ⟨bQ, 0, none⟩) zQ).trans cHXQ_0
      have q1 := (hR.cell (p := ⟨bQ, 1, none⟩) zQ).trans cHXQ_1
      have q2 := (hR.cell (p := ⟨bQ, 2, none⟩) zQ).trans cHXQ_2
      have q3 := (hR.cell (p := ⟨bQ, 3, none⟩) zQ).trans cHXQ_3
      refine spec_ofR rfl (fun KK hK => ?_)
      go_simp
      exact hK.out _ _ (Below.refl _ _) rfl
    | 3, _, _ =>
      intro v w' hR hd
      have e2 : v 2 = .agg #[.string nm2, .int .i64 X2, .int .i64 Y2, .slice B m d] := hd 2 (by decide)
      change SpecOp _ _ _ _ 3 (Act.put (canon _ v _ []) (some 37) (v 2)) w' _
      rw [e2]
      simp only [canon_nil, Act.put, List.setIfInBounds_toArray, List.set_cons_zero, List.set_cons_succ]
      refine spec_ofR rfl (fun KK hK => ?_)
      go_simp
      refine (HOWN2.out _ (HR2.out.below hR)).mono ?_
      rintro e wn ⟨g, c', rfl, hcc, hro, hbn⟩
      exact hK.out _ _ hbn ⟨_, c', rfl, hcc, hro⟩
    | 4, _, _ =>
      intro v w' hR hd
      obtain ⟨A1, k1, e1, m1, r1⟩ : ∃ A c, v 1 = (fun x => x) (.agg #[.string nm, .int .i64 X, .int .i64 Y, .slice A n c]) ∧ n ≤ c ∧ Rd w' A (fl l) := hd 1 (by decide)
      obtain ⟨A3, k3, e3, m3, r3⟩ : ∃ A c, v 3 = (fun x => x) (.agg #[.string nm2, .int .i64 X2, .int .i64 Y2, .slice A m c]) ∧ m ≤ c ∧ Rd w' A (fl k) := hd 3 (by decide)
      change SpecOp _ _ _ _ 4 (Act.put (Act.put (canon _ v _ []) (some 38) (v 3)) (some 36) (v 1)) w' _
      rw [e1, e3]
      simp only [canon_nil, Act.put, List.setIfInBounds_toArray, List.set_cons_zero, List.set_cons_succ]
      refine spec_ofR rfl (fun KK hK => ?_)
      go_simp
      refine (HJ1.out A1 A3 k1 k3 _ m1 m3 r1 r3).mono ?_
      rintro e wn ⟨Ax, cx, rfl, hrx, hbn⟩
      exact hK.out _ _ hbn ⟨Ax, cx, rfl, Nat.zero_le _, hrx⟩
    | 5, _, _ =>
      intro v w' hR hd
      obtain ⟨A4, k4, e4, m4, r4⟩ : ∃ A c, v 4 = (fun x => .tuple #[x, .int .i64 zs]) (.agg #[.string ⟨#[]⟩, .int .i64 0, .int .i64 0, .slice A 0 c]) ∧ 0 ≤ c ∧ Rd w' A (fl []) := hd 4 (by decide)
      change SpecOp _ _ _ _ 5 (Act.put (canon _ v _ []) (some 39) (v 4)) w' _
      rw [e4]
      simp only [canon_nil, Act.put, List.setIfInBounds_toArray, List.set_cons_zero, List.set_cons_succ]
      refine spec_ofR rfl (fun KK hK => ?_)
      go_simp
      exact hK.out _ _ (Below.refl _ _) ⟨A4, k4, rfl, m4, r4⟩
    | 6, _, _ =>
      intro v w' hR hd
      obtain ⟨A5, k5, e5, m5, r5⟩ : ∃ A c, v 5 = (fun x => .tuple #[x, .int .i64 zs]) (.agg #[.string ⟨#[]⟩, .int .i64 0, .int .i64 0, .slice A 0 c]) ∧ 0 ≤ c ∧ Rd w' A (fl []) := hd 5 (by decide)
      change SpecOp _ _ _ _ 6 (Act.put (canon _ v _ []) (some 34) (v 5)) w' _
      rw [e5]
      simp only [canon_nil, Act.put, List.setIfInBounds_toArray, List.set_cons_zero, List.set_cons_succ]
      refine spec_ofR rfl (fun KK hK => ?_)
      go_simp
      exact hK.out _ _ (Below.refl _ _) ⟨A5, k5, rfl, m5, r5⟩
    | 7, _, _ =>
      intro v w' hR hd
      obtain ⟨A5, k5, e5, m5, r5⟩ : ∃ A c, v 5 = (fun x => .tuple #[x, .int .i64 zs]) (.agg #[.string ⟨#[]⟩, .int .i64 0, .int .i64 0, .slice A 0 c]) ∧ 0 ≤ c ∧ Rd w' A (fl []) := hd 5 (by decide)
      change SpecOp _ _ _ _ 7 (Act.put (canon _ v _ []) (some 34) (v 5)) w' _
      rw [e5]
      simp only [canon_nil, Act.put, List.setIfInBounds_toArray, List.set_cons_zero, List.set_cons_succ]
      refine spec_ofR rfl (fun KK hK => ?_)
      go_simp
      exact hK.out _ _ (Below.refl _ _) rfl
    | 8, _, _ =>
      intro v w' hR hd
      change SpecOp _ _ _ _ 8 (canon _ v _ []) w' _
      simp only [canon_nil]
      refine spec_ofR rfl (fun KK hK => ?_)
      go_simp
      exact hK.out _ _ ((Below.refl _ _).alloc (Nat.le_refl _) _) ⟨_, _, rfl, hR.size, Blk.new _ _ _, .four rfl rfl rfl rfl, rfl⟩
    | 9, _, h => exact absurd rfl h
    | 10, _, _ =>
      intro v w' hR hd
      have e7 : v 7 = .int .i64 (zs) := hd 7 (by decide)
      change SpecOp _ _ _ _ 10 (Act.put (canon _ v _ []) (some 41) (v 7)) w' _
      rw [e7]
      simp only [canon_nil, Act.put, List.setIfInBounds_toArray, List.set_cons_zero, List.set_cons_succ]
      refine spec_ofR rfl (fun KK hK => ?_)
      go_simp
      exact hK.out _ _ (Below.refl _ _) rfl
    | i + 11, h, _ => exact absurd h (Nat.not_lt.2 (Nat.le_add_left 11 i))
  case hsto =>
    intro v w' hR hd
    obtain ⟨A6, k6, e6, m6, r6⟩ : ∃ A c, v 6 = (fun x => x) (.agg #[.string ⟨#[]⟩, .int .i64 0, .int .i64 0, .slice A 0 c]) ∧ 0 ≤ c ∧ Rd w' A (fl []) := hd 6 (by decide)
    obtain ⟨bb, cs, e8, hge, hblk, hnf, hcz⟩ : ∃ b cs, v 8 = .pointer (some ⟨b, 0, none⟩) ∧ s2.heap.size ≤ b ∧ Blk w' b 50 cs ∧ NF cs ∧ cs.size = 4 := hd 8 (by decide)
    obtain ⟨x0, x1, x2, x3, rfl⟩ := four_of hcz
    change SpecOp _ _ _ _ 9 (Act.put (Act.put (canon _ v _ []) (some 7) (v 8)) (some 40) (v 6)) w' _
    rw [e6, e8]
    simp only [canon_nil, Act.put, List.setIfInBounds_toArray, List.set_cons_zero, List.set_cons_succ]
    have zb := hblk.lt
    have f0 := hblk.frozen 0; have f1 := hblk.frozen 1; have f2 := hblk.frozen 2; have f3 := hblk.frozen 3
    obtain ⟨y0, y1, y2, y3⟩ := box4 hblk
    refine spec_ofR rfl (fun KK hK => ?_)
    go_simp
    exact hK.out undef _ (rst_set4 hblk hnf hge (.string ⟨#[]⟩) (.int .i64 0) (.int .i64 0) (.slice A6 0 k6) rfl rfl rfl rfl) ⟨bb, A6, k6, rfl, hge, blk_set4' hblk (.string ⟨#[]⟩) (.int .i64 0) (.int .i64 0) (.slice A6 0 k6), rd_set4 r6 hblk hnf (.string ⟨#[]⟩) (.int .i64 0) (.int .i64 0) (.slice A6 0 k6) rfl rfl rfl⟩
  case hend =>
    intro v w' hR hall hfs
    simp only [putL, Act.put, List.setIfInBounds_toArray, List.set_cons_zero, List.set_cons_succ]
    obtain ⟨bX1, AX1, kX1, e8, hge, hx, hrx⟩ := hfs
    have e10 : v 10 = .int .i64 (zs) := hall 10 (by decide) (by decide)
    rw [e8, e10]
    clear hall e8 e10 zP zQ zK
    clear cHXP_0 cHXP_1 cHXP_2 cHXP_3 cHXQ_0 cHXQ_1 cHXQ_2 cHXQ_3
    have hgB := HB.out.size
    have hlt_HXP := HXP.out.lt
    have hlt_HXQ := HXQ.out.lt
    have hlt_HXK := HXK.out.lt
    have HGX1 : RowKit.Hid (w.heap.size ≤ bX1) := Lib.hid (by omega)
    have HNX1HXP : RowKit.Hid (¬ bP = bX1) := Lib.hid (by omega)
    have HNX1HXQ : RowKit.Hid (¬ bQ = bX1) := Lib.hid (by omega)
    have HNX1HXK : RowKit.Hid (¬ bK = bX1) := Lib.hid (by omega)
    clear hgB hge hlt_HXP hlt_HXQ hlt_HXK
    replace HR := Lib.hid (HR.out.below hR); replace HR2 := Lib.hid (HR2.out.below hR); replace HXP := Lib.hid (HXP.out.below hR); replace HXQ := Lib.hid (HXQ.out.below hR)
    replace HXK := Lib.hid (HXK.out.below hR); replace HB := Lib.hid (HB.out.trans (hR.mono HB.out.size))
    clear hR
    have HXX1 := Lib.hid hx; have HLX1 := Lib.hid hrx; clear hx hrx
    obtain ⟨t1, ht⟩ : ∃ s, w' = s := ⟨_, rfl⟩
    rw [ht] at HR HR2 HXP HXQ HXK HXX1 HLX1 HB ⊢
    clear ht
    go_upto_region 4 with fail
    obtain ⟨cHXP_0, cHXP_1, cHXP_2, cHXP_3⟩ := box4 HXP.out
    obtain ⟨cHXK_0, cHXK_1⟩ := box2 HXK.out
    have zP := HXP.out.lt; have zQ := HXQ.out.lt; have zK := HXK.out.lt
    refine wp_region_box [Fact2.is (.agg #[.string nm, .int .i64 X, .int .i64 Y, .slice A n c]), Fact2.pic (fun x => x) nm X Y n l n, Fact2.is (.pointer (some ⟨bK, 0, none⟩)), Fact2.is (.int .i64 (num)), Fact2.is (.pointer (some ⟨bK, 1, none⟩)), Fact2.is (.int .i64 (den)), Fact2.pic (fun x => .tuple #[x, .int .i64 zk]) ⟨#[]⟩ 0 0 0 [] 0, Fact2.pic (fun x => .tuple #[x, .int .i64 zk]) ⟨#[]⟩ 0 0 0 [] 0, Fact2.pic (fun x => x) ⟨#[]⟩ 0 0 0 [] 0, Fact2.is (.int .i64 (zk)), Fact2.box t1.heap.size 50, Fact2.any, Fact2.is (.int .i64 (zk))] 11 10 (PicBox t1.heap.size 50 ⟨#[]⟩ 0 0 0 []) (fun _ _ _ h hb => h.grow hb) [[], [0], [], [2], [], [4], [1, 3, 5], [6], [7], [7], [], [8, 10], [9]] [(some 43, 0), (some 44, 1), (some 45, 2), (some 46, 3), (some 47, 4), (some 48, 5), (some 49, 6), (some 42, 7), (some 50, 8), (some 51, 9), (some 9, 10), (none, 11), (some 10, 12)] (by kernel_rfl) (by kernel_rfl) (by kernel_rfl) (by kernel_rfl) (by decide) (by decide) (fun _ _ _ _ e h => by have h1 : _ ∧ _ := h; exact ⟨e ▸ h1.1, h1.2⟩) ?hstep ?hsto ?hend (by decide)
    case hstep =>
      intro i hi hne
      match i, hi, hne with
      | 0, _, _ =>
        intro v w' hR hd
        change SpecOp _ _ _ _ 0 (canon _ v _ []) w' _
        simp only [canon_nil]
        have q0 := (hR.cell (p := ⟨bP, 0, none⟩) zP).trans cHXP_0
        have q1 := (hR.cell (p := ⟨bP, 1, none⟩) zP).trans cHXP_1
        have q2 := (hR.cell (p := ⟨bP, 2, none⟩) zP).trans cHXP_2
        have q3 := (hR.cell (p := ⟨bP, 3, none⟩) zP).trans cHXP_3
        refine spec_ofR rfl (fun KK hK => ?_)
        go_simp
        exact hK.out _ _ (Below.refl _ _) rfl
      | 1, _, _ =>
        intro v w' hR hd
        have e0 : v 0 = .agg #[.string nm, .int .i64 X, .int .i64 Y, .slice A n c] := hd 0 (by decide)
        change SpecOp _ _ _ _ 1 (Act.put (canon _ v _ []) (some 43) (v 0)) w' _
        rw [e0]
        simp only [canon_nil, Act.put, List.setIfInBounds_toArray, List.set_cons_zero, List.set_cons_succ]
        refine spec_ofR rfl (fun KK hK => ?_)
        go_simp
        refine (HOWN.out _ (HR.out.below hR)).mono ?_
        rintro e wn ⟨g, c', rfl, hcc, hro, hbn⟩
        exact hK.out _ _ hbn ⟨_, c', rfl, hcc, hro⟩
      | 2, _, _ =>
        intro v w' hR hd
        change SpecOp _ _ _ _ 2 (canon _ v _ []) w' _
        simp only [canon_nil]
        refine spec_ofR rfl (fun KK hK => ?_)
        go_simp
        exact hK.out _ _ (Below.refl _ _) rfl
      | 3, _, _ =>
        intro v w' hR hd
        have e2 : v 2 = .pointer (some ⟨bK, 0, none⟩) := hd 2 (by decide)
        change SpecOp _ _ _ _ 3 (Act.put (canon _ v _ []) (some 45) (v 2)) w' _
        rw [e2]
        simp only [canon_nil, Act.put, List.setIfInBounds_toArray, List.set_cons_zero, List.set_cons_succ]
        have q0 := (hR.cell (p := ⟨bK, 0, none⟩) zK).trans cHXK_0
        refine spec_ofR rfl (fun KK hK => ?_)
        go_simp
        exact hK.out _ _ (Below.refl _ _) rfl
      | 4, _, _ =>
        intro v w' hR hd
        change SpecOp _ _ _ _ 4 (canon _ v _ []) w' _
        simp only [canon_nil]
        refine spec_ofR rfl (fun KK hK => ?_)
        go_simp
        exact hK.out _ _ (Below.refl _ _) rfl
      | 5, _, _ =>
        intro v w' hR hd
        have e4 : v 4 = .pointer (some ⟨bK, 1, none⟩) := hd 4 (by decide)
        change SpecOp _ _ _ _ 5 (Act.put (canon _ v _ []) (some 47) (v 4)) w' _
        rw [e4]
        simp only [canon_nil, Act.put, List.setIfInBounds_toArray, List.set_cons_zero, List.set_cons_succ]
        have q0 := (hR.cell (p := ⟨bK, 1, none⟩) zK).trans cHXK_1
        refine spec_ofR rfl (fun KK hK => ?_)
        go_simp
        exact hK.out _ _ (Below.refl _ _) rfl
      | 6, _, _ =>
        intro v w' hR hd
        obtain ⟨A1, k1, e1, m1, r1⟩ : ∃ A c, v 1 = (fun x => x) (.agg #[.string nm, .int .i64 X, .int .i64 Y, .slice A n c]) ∧ n ≤ c ∧ Rd w' A (fl l) := hd 1 (by decide)
        have e3 : v 3 = .int .i64 (num) := hd 3 (by decide)
        have e5 : v 5 = .int .i64 (den) := hd 5 (by decide)
        change SpecOp _ _ _ _ 6 (Act.put (Act.put (Act.put (canon _ v _ []) (some 48) (v 5)) (some 46) (v 3)) (some 44) (v 1)) w' _
        rw [e1, e3, e5]
        simp only [canon_nil, Act.put, List.setIfInBounds_toArray, List.set_cons_zero, List.set_cons_succ]
        refine spec_ofR rfl (fun KK hK => ?_)
        go_simp
        refine (HJ2.out A1 k1 _ m1 r1).mono ?_
        rintro e wn ⟨Ax, cx, rfl, hrx, hbn⟩
        exact hK.out _ _ hbn ⟨Ax, cx, rfl, Nat.zero_le _, hrx⟩
      | 7, _, _ =>
        intro v w' hR hd
        obtain ⟨A6, k6, e6, m6, r6⟩ : ∃ A c, v 6 = (fun x => .tuple #[x, .int .i64 zk]) (.agg #[.string ⟨#[]⟩, .int .i64 0, .int .i64 0, .slice A 0 c]) ∧ 0 ≤ c ∧ Rd w' A (fl []) := hd 6 (by decide)
        change SpecOp _ _ _ _ 7 (Act.put (canon _ v _ []) (some 49) (v 6)) w' _
        rw [e6]
        simp only [canon_nil, Act.put, List.setIfInBounds_toArray, List.set_cons_zero, List.set_cons_succ]
        refine spec_ofR rfl (fun KK hK => ?_)
        go_simp
        exact hK.out _ _ (Below.refl _ _) ⟨A6, k6, rfl, m6, r6⟩
      | 8, _, _ =>
        intro v w' hR hd
        obtain ⟨A7, k7, e7, m7, r7⟩ : ∃ A c, v 7 = (fun x => .tuple #[x, .int .i64 zk]) (.agg #[.string ⟨#[]⟩, .int .i64 0, .int .i64 0, .slice A 0 c]) ∧ 0 ≤ c ∧ Rd w' A (fl []) := hd 7 (by decide)
        change SpecOp _ _ _ _ 8 (Act.put (canon _ v _ []) (some 42) (v 7)) w' _
        rw [e7]
        simp only [canon_nil, Act.put, List.setIfInBounds_toArray, List.set_cons_zero, List.set_cons_succ]
        refine spec_ofR rfl (fun KK hK => ?_)
        go_simp
        exact hK.out _ _ (Below.refl _ _) ⟨A7, k7, rfl, m7, r7⟩
      | 9, _, _ =>
        intro v w' hR hd
        obtain ⟨A7, k7, e7, m7, r7⟩ : ∃ A c, v 7 = (fun x => .tuple #[x, .int .i64 zk]) (.agg #[.string ⟨#[]⟩, .int .i64 0, .int .i64 0, .slice A 0 c]) ∧ 0 ≤ c ∧ Rd w' A (fl []) := hd 7 (by decide)
        change SpecOp _ _ _ _ 9 (Act.put (canon _ v _ []) (some 42) (v 7)) w' _
        rw [e7]
        simp only [canon_nil, Act.put, List.setIfInBounds_toArray, List.set_cons_zero, List.set_cons_succ]
        refine spec_ofR rfl (fun KK hK => ?_)
        go_simp
        exact hK.out _ _ (Below.refl _ _) rfl
      | 10, _, _ =>
        intro v w' hR hd
        change SpecOp _ _ _ _ 10 (canon _ v _ []) w' _
        simp only [canon_nil]
        refine spec_ofR rfl (fun KK hK => ?_)
        go_simp
        exact hK.out _ _ ((Below.refl _ _).alloc (Nat.le_refl _) _) ⟨_, _, rfl, hR.size, Blk.new _ _ _, .four rfl rfl rfl rfl, rfl⟩
      | 11, _, h => exact absurd rfl h
      | 12, _, _ =>
        intro v w' hR hd
        have e9 : v 9 = .int .i64 (zk) := hd 9 (by decide)
        change SpecOp _ _ _ _ 12 (Act.put (canon _ v _ []) (some 51) (v 9)) w' _
        rw [e9]
        simp only [canon_nil, Act.put, List.setIfInBounds_toArray, List.set_cons_zero, List.set_cons_succ]
        refine spec_ofR rfl (fun KK hK => ?_)
        go_simp
        exact hK.out _ _ (Below.refl _ _) rfl
      | i + 13, h, _ => exact absurd h (Nat.not_lt.2 (Nat.le_add_left 13 i))
    case hsto =>
      intro v w' hR hd
      obtain ⟨A8, k8, e8, m8, r8⟩ : ∃ A c, v 8 = (fun x => x) (.agg #[.string ⟨#[]⟩, .int .i64 0, .int .i64 0, .slice A 0 c]) ∧ 0 ≤ c ∧ Rd w' A (fl []) := hd 8 (by decide)
      obtain ⟨bb, cs, e10, hge, hblk, hnf, hcz⟩ : ∃ b cs, v 10 = .pointer (some ⟨b, 0, none⟩) ∧ t1.heap.size ≤ b ∧ Blk w' b 50 cs ∧ NF cs ∧ cs.size = 4 := hd 10 (by decide)
      obtain ⟨x0, x1, x2, x3, rfl⟩ := four_of hcz
      change SpecOp _ _ _ _ 11 (Act.put (Act.put (canon _ v _ []) (some 9) (v 10)) (some 50) (v 8)) w' _
      rw [e8, e10]
      simp only [canon_nil, Act.put, List.setIfInBounds_toArray, List.set_cons_zero, List.set_cons_succ]
      have zb := hblk.lt
      have f0 := hblk.frozen 0; have f1 := hblk.frozen 1; have f2 := hblk.frozen 2; have f3 := hblk.frozen 3
      obtain ⟨y0, y1, y2, y3⟩ := box4 hblk
      refine spec_ofR rfl (fun KK hK => ?_)
      go_simp
      exact hK.out undef _ (rst_set4 hblk hnf hge (.string ⟨#[]⟩) (.int .i64 0) (.int .i64 0) (.slice A8 0 k8) rfl rfl rfl rfl) ⟨bb, A8, k8, rfl, hge, blk_set4' hblk (.string ⟨#[]⟩) (.int .i64 0) (.int .i64 0) (.slice A8 0 k8), rd_set4 r8 hblk hnf (.string ⟨#[]⟩) (.int .i64 0) (.int .i64 0) (.slice A8 0 k8) rfl rfl rfl⟩
    case hend =>
      intro v w' hR hall hfs
      simp only [putL, Act.put, List.setIfInBounds_toArray, List.set_cons_zero, List.set_cons_succ]
      obtain ⟨bX2, AX2, kX2, e10, hge, hx, hrx⟩ := hfs
      have e12 : v 12 = .int .i64 (zk) := hall 12 (by decide) (by decide)
      rw [e10, e12]
      clear hall e10 e12 zP zQ zK
      clear cHXP_0 cHXP_1 cHXP_2 cHXP_3 cHXK_0 cHXK_1
      have hgB := HB.out.size
      have hlt_HXP := HXP.out.lt
      have hlt_HXQ := HXQ.out.lt
      have hlt_HXK := HXK.out.lt
      have hlt_HXX1 := HXX1.out.lt
      have HGX2 : RowKit.Hid (w.heap.size ≤ bX2) := Lib.hid (by omega)
      have HNX2HXP : RowKit.Hid (¬ bP = bX2) := Lib.hid (by omega)
      have HNX2HXQ : RowKit.Hid (¬ bQ = bX2) := Lib.hid (by omega)
      have HNX2HXK : RowKit.Hid (¬ bK = bX2) := Lib.hid (by omega)
      have HNX2HXX1 : RowKit.Hid (¬ bX1 = bX2) := Lib.hid (by omega)
      clear hgB hge hlt_HXP hlt_HXQ hlt_HXK hlt_HXX1
      replace HR := Lib.hid (HR.out.below hR); replace HR2 := Lib.hid (HR2.out.below hR); replace HLX1 := Lib.hid (HLX1.out.below hR); replace HXP := Lib.hid (HXP.out.below hR)
      replace HXQ := Lib.hid (HXQ.out.below hR); replace HXK := Lib.hid (HXK.out.below hR); replace HXX1 := Lib.hid (HXX1.out.below hR); replace HB := Lib.hid (HB.out.trans (hR.mono HB.out.size))
      clear hR
      have HXX2 := Lib.hid hx; have HLX2 := Lib.hid hrx; clear hx hrx
      obtain ⟨t2, ht⟩ : ∃ s, w' = s := ⟨_, rfl⟩
      rw [ht] at HR HR2 HLX1 HXP HXQ HXK HXX1 HXX2 HLX2 HB ⊢
      clear ht
      obtain ⟨cHXP_0, cHXP_1, cHXP_2, cHXP_3⟩ := box4 HXP.out
      go_wp2_with fail
      refine (HOWN.out _ HR.out).mono ?_
      rintro e u1 ⟨gE, kE, rfl, hcc, hro, hb⟩
      replace HR := Lib.hid (HR.out.below hb); replace HR2 := Lib.hid (HR2.out.below hb); replace HLX1 := Lib.hid (HLX1.out.below hb); replace HLX2 := Lib.hid (HLX2.out.below hb)
      replace HXP := Lib.hid (HXP.out.below hb); replace HXQ := Lib.hid (HXQ.out.below hb); replace HXK := Lib.hid (HXK.out.below hb); replace HXX1 := Lib.hid (HXX1.out.below hb)
      replace HXX2 := Lib.hid (HXX2.out.below hb); replace HB := Lib.hid (HB.out.trans (hb.mono HB.out.size))
      clear hb
      have HLO := Lib.hid hro; clear hro
      clear cHXP_0 cHXP_1 cHXP_2 cHXP_3
      clear hcc
      go_wp2_with fail
      refine (HVE.out _ _ _ HLO.out).mono ?_
      rintro e u2 ⟨rfl, hb⟩
      replace HR := Lib.hid (HR.out.below hb); replace HR2 := Lib.hid (HR2.out.below hb); replace HLX1 := Lib.hid (HLX1.out.below hb); replace HLX2 := Lib.hid (HLX2.out.below hb)
      replace HLO := Lib.hid (HLO.out.below hb); replace HXP := Lib.hid (HXP.out.below hb); replace HXQ := Lib.hid (HXQ.out.below hb); replace HXK := Lib.hid (HXK.out.below hb)
      replace HXX1 := Lib.hid (HXX1.out.below hb); replace HXX2 := Lib.hid (HXX2.out.below hb); replace HB := Lib.hid (HB.out.trans (hb.mono HB.out.size))
      clear hb
      clear HLO
      obtain ⟨cHXP_0, cHXP_1, cHXP_2, cHXP_3⟩ := box4 HXP.out
      go_wp2_with fail
      refine (HOWN.out _ HR.out).mono ?_
      rintro e u3 ⟨gK, kK, rfl, hcc, hro, hb⟩
      replace HR := Lib.hid (HR.out.below hb); replace HR2 := Lib.hid (HR2.out.below hb); replace HLX1 := Lib.hid (HLX1.out.below hb); replace HLX2 := Lib.hid (HLX2.out.below hb)
      replace HXP := Lib.hid (HXP.out.below hb); replace HXQ := Lib.hid (HXQ.out.below hb); replace HXK := Lib.hid (HXK.out.below hb); replace HXX1 := Lib.hid (HXX1.out.below hb)
      replace HXX2 := Lib.hid (HXX2.out.below hb); replace HB := Lib.hid (HB.out.trans (hb.mono HB.out.size))
      clear hb
      have HLO := Lib.hid hro; clear hro
      clear cHXP_0 cHXP_1 cHXP_2 cHXP_3
      clear hcc
      go_wp2_with fail
      refine (HVK.out _ _ _ HLO.out).mono ?_
      rintro e u4 ⟨rfl, hb⟩
      replace HR := Lib.hid (HR.out.below hb); replace HR2 := Lib.hid (HR2.out.below hb); replace HLX1 := Lib.hid (HLX1.out.below hb); replace HLX2 := Lib.hid (HLX2.out.below hb)
      replace HLO := Lib.hid (HLO.out.below hb); replace HXP := Lib.hid (HXP.out.below hb); replace HXQ := Lib.hid (HXQ.out.below hb); replace HXK := Lib.hid (HXK.out.below hb)
      replace HXX1 := Lib.hid (HXX1.out.below hb); replace HXX2 := Lib.hid (HXX2.out.below hb); replace HB := Lib.hid (HB.out.trans (hb.mono HB.out.size))
      clear hb
      clear HLO
      obtain ⟨cHXP_0, cHXP_1, cHXP_2, cHXP_3⟩ := box4 HXP.out
      go_wp2_with fail
      refine (HOWN.out _ HR.out).mono ?_
      rintro e u5 ⟨gM, kM, rfl, hcc, hro, hb⟩
      replace HR := Lib.hid (HR.out.below hb); replace HR2 := Lib.hid (HR2.out.below hb); replace HLX1 := Lib.hid (HLX1.out.below hb); replace HLX2 := Lib.hid (HLX2.out.below hb)
      replace HXP := Lib.hid (HXP.out.below hb); replace HXQ := Lib.hid (HXQ.out.below hb); replace HXK := Lib.hid (HXK.out.below hb); replace HXX1 := Lib.hid (HXX1.out.below hb)
      replace HXX2 := Lib.hid (HXX2.out.below hb); replace HB := Lib.hid (HB.out.trans (hb.mono HB.out.size))
      clear hb
      have HLO := Lib.hid hro; clear hro
      clear cHXP_0 cHXP_1 cHXP_2 cHXP_3
      clear hcc
      go_wp2_with fail
      refine (HVM.out _ _ _ HLO.out).mono ?_
      rintro e u6 ⟨rfl, hb⟩
      replace HR := Lib.hid (HR.out.below hb); replace HR2 := Lib.hid (HR2.out.below hb); replace HLX1 := Lib.hid (HLX1.out.below hb); replace HLX2 := Lib.hid (HLX2.out.below hb)
      replace HLO := Lib.hid (HLO.out.below hb); replace HXP := Lib.hid (HXP.out.below hb); replace HXQ := Lib.hid (HXQ.out.below hb); replace HXK := Lib.hid (HXK.out.below hb)
      replace HXX1 := Lib.hid (HXX1.out.below hb); replace HXX2 := Lib.hid (HXX2.out.below hb); replace HB := Lib.hid (HB.out.trans (hb.mono HB.out.size))
      clear hb
      clear HLO
      go_upto_region 8 with fail
      have hn := Blk.new u6 33 #[.int .i64 ra, .int .i64 rb]
      have hb : Below u6.heap.size u6 (u6.alloc (.cells #[.int .i64 ra, .int .i64 rb] 33)) := (Below.refl _ _).alloc (Nat.le_refl _) _
      have hge := HB.out.size
      have hlt_HXP := HXP.out.lt
      have hlt_HXQ := HXQ.out.lt
      have hlt_HXK := HXK.out.lt
      have hlt_HXX1 := HXX1.out.lt
      have hlt_HXX2 := HXX2.out.lt
      obtain ⟨bM, hl⟩ : ∃ b, u6.heap.size = b := ⟨_, rfl⟩
      generalize u6.alloc (.cells #[.int .i64 ra, .int .i64 rb] 33) = u7 at hn hb ⊢
      replace HR := Lib.hid (HR.out.below hb); replace HR2 := Lib.hid (HR2.out.below hb); replace HLX1 := Lib.hid (HLX1.out.below hb); replace HLX2 := Lib.hid (HLX2.out.below hb)
      replace HXP := Lib.hid (HXP.out.below hb); replace HXQ := Lib.hid (HXQ.out.below hb); replace HXK := Lib.hid (HXK.out.below hb); replace HXX1 := Lib.hid (HXX1.out.below hb)
      replace HXX2 := Lib.hid (HXX2.out.below hb); replace HB := Lib.hid (HB.out.trans (hb.mono HB.out.size))
      clear hb
      rw [hl] at hn hge hlt_HXP hlt_HXQ hlt_HXK hlt_HXX1 hlt_HXX2
      try rw [hl]
      have HXM := Lib.hid hn; have HGM := Lib.hid hge; clear hn hl hge
      have HNMHXP : RowKit.Hid (¬ bP = bM) := Lib.hid (by omega); have HNMHXQ : RowKit.Hid (¬ bQ = bM) := Lib.hid (by omega); have HNMHXK : RowKit.Hid (¬ bK = bM) := Lib.hid (by omega); have HNMHXX1 : RowKit.Hid (¬ bX1 = bM) := Lib.hid (by omega); have HNMHXX2 : RowKit.Hid (¬ bX2 = bM) := Lib.hid (by omega)
      clear hlt_HXP hlt_HXQ hlt_HXK hlt_HXX1 hlt_HXX2
      obtain ⟨cHXP_0, cHXP_1, cHXP_2, cHXP_3⟩ := box4 HXP.out
      go_wp2_with fail
      refine (HCK.out _ HR.out).mono ?_
      rintro e u8 ⟨rfl, hb⟩
      replace HR := Lib.hid (HR.out.below hb); replace HR2 := Lib.hid (HR2.out.below hb); replace HLX1 := Lib.hid (HLX1.out.below hb); replace HLX2 := Lib.hid (HLX2.out.below hb)
      replace HXP := Lib.hid (HXP.out.below hb); replace HXQ := Lib.hid (HXQ.out.below hb); replace HXK := Lib.hid (HXK.out.below hb); replace HXX1 := Lib.hid (HXX1.out.below hb)
      replace HXX2 := Lib.hid (HXX2.out.below hb); replace HXM := Lib.hid (HXM.out.below hb); replace HB := Lib.hid (HB.out.trans (hb.mono HB.out.size))
      clear hb
      clear cHXP_0 cHXP_1 cHXP_2 cHXP_3
      go_upto_region 9 with fail
      obtain ⟨cHXQ_0, cHXQ_1, cHXQ_2, cHXQ_3⟩ := box4 HXQ.out
      obtain ⟨cHXK_0, cHXK_1⟩ := box2 HXK.out
      have zQ := HXQ.out.lt; have zK := HXK.out.lt
      refine wp_region_facts [Fact.is (.int .i64 (0)), Fact.is (.agg #[.string nm2, .int .i64 X2, .int .i64 Y2, .slice B m d]), Fact.is (.int .i64 (zq)), Fact.ints 2 [0, zq], Fact.is (.int .i64 (zs)), Fact.is (.int .i64 (0)), Fact.is (.pointer (some ⟨bK, 0, none⟩)), Fact.is (.int .i64 (num)), Fact.is (.int .i64 (outs num (-1000) 1000)), Fact.is (.pointer (some ⟨bK, 1, none⟩)), Fact.is (.int .i64 (den)), Fact.is (.int .i64 (outs den 1 1000)), Fact.ints 3 [0, outs num (-1000) 1000, outs den 1 1000], Fact.is (.int .i64 (zk)), Fact.is (.int .i64 (zs)), Fact.is (.int .i64 (zk))] [[], [], [1], [0, 2], [3], [], [], [6], [7], [], [9], [10], [5, 8, 11], [12], [4], [13]] [(some 72, 0), (some 73, 1), (some 74, 2), (some 75, 3), (some 76, 4), (some 77, 5), (some 78, 6), (some 79, 7), (some 80, 8), (some 81, 9), (some 82, 10), (some 83, 11), (some 84, 12), (some 85, 13), (some 18, 14), (some 19, 15)] (by kernel_rfl) (by kernel_rfl) (by kernel_rfl) (by kernel_rfl) (fun _ _ _ _ e h => by have h1 : _ ∧ _ := h; exact ⟨e ▸ h1.1, h1.2⟩) ?hstep ?hend
      case hstep =>
        intro i hi
        match i, hi with
        | 0, _ =>
          intro v w' hR hd
          change SpecOp _ _ _ _ 0 (canon _ v _ []) w' _
          simp only [canon_nil]
          refine spec_of rfl (fun KK hK => ?_)
          go_simp
          exact hK.out _ _ (Below.refl _ _) rfl
        | 1, _ =>
          intro v w' hR hd
          change SpecOp _ _ _ _ 1 (canon _ v _ []) w' _
          simp only [canon_nil]
          have q0 := (hR.cell (p := ⟨bQ, 0, none⟩) zQ).trans cHXQ_0
          have q1 := (hR.cell (p := ⟨bQ, 1, none⟩) zQ).trans cHXQ_1
          have q2 := (hR.cell (p := ⟨bQ, 2, none⟩) zQ).trans cHXQ_2
          have q3 := (hR.cell (p := ⟨bQ, 3, none⟩) zQ).trans cHXQ_3
          refine spec_of rfl (fun KK hK => ?_)
          go_simp
          exact hK.out _ _ (Below.refl _ _) rfl
        | 2, _ =>
          intro v w' hR hd
          have e1 : v 1 = .agg #[.string nm2, .int .i64 X2, .int .i64 Y2, .slice B m d] := hd 1 (by decide)
          change SpecOp _ _ _ _ 2 (Act.put (canon _ v _ []) (some 73) (v 1)) w' _
          rw [e1]
          simp only [canon_nil, Act.put, List.setIfInBounds_toArray, List.set_cons_zero, List.set_cons_succ]
          refine spec_of rfl (fun KK hK => ?_)
          go_simp
          refine (HCK2.out _ (HR2.out.below hR)).mono ?_
          rintro e wn ⟨rfl, hbn⟩
          exact hK.out _ _ hbn rfl
        | 3, _ =>
          intro v w' hR hd
          have e0 : v 0 = .int .i64 (0) := hd 0 (by decide)
          have e2 : v 2 = .int .i64 (zq) := hd 2 (by decide)
          change SpecOp _ _ _ _ 3 (Act.put (Act.put (canon _ v _ []) (some 74) (v 2)) (some 72) (v 0)) w' _
          rw [e0, e2]
          simp only [canon_nil, Act.put, List.setIfInBounds_toArray, List.set_cons_zero, List.set_cons_succ]
          refine spec_of rfl (fun KK hK => ?_)
          go_simp
          exact hK.out _ _ ((Below.refl _ _).alloc (Nat.le_refl _) _) ⟨_, _, rfl, rd_of_blk (Blk.new _ _ _) rfl⟩
        | 4, _ =>
          intro v w' hR hd
          obtain ⟨A3, k3, e3, r3⟩ : ∃ A c, v 3 = .slice A 2 c ∧ Rd w' A ([0, zq].map (.int .i64)) := hd 3 (by decide)
          change SpecOp _ _ _ _ 4 (Act.put (canon _ v _ []) (some 75) (v 3)) w' _
          rw [e3]
          simp only [canon_nil, Act.put, List.setIfInBounds_toArray, List.set_cons_zero, List.set_cons_succ]
          refine spec_of rfl (fun KK hK => ?_)
          go_simp
          refine (firstL_n _ _ _ [_, _] _ rfl (by simp [maxLen]) r3).mono ?_
          rintro e wn ⟨rfl, rfl⟩
          exact hK.out _ _ (Below.refl _ _) (congrArg (Value.int .i64) HZS.out)
        | 5, _ =>
          intro v w' hR hd
          change SpecOp _ _ _ _ 5 (canon _ v _ []) w' _
          simp only [canon_nil]
          refine spec_of rfl (fun KK hK => ?_)
          go_simp
          exact hK.out _ _ (Below.refl _ _) rfl
        | 6, _ =>
          intro v w' hR hd
          change SpecOp _ _ _ _ 6 (canon _ v _ []) w' _
          simp only [canon_nil]
          refine spec_of rfl (fun KK hK => ?_)
          go_simp
          exact hK.out _ _ (Below.refl _ _) rfl
        | 7, _ =>
          intro v w' hR hd
          have e6 : v 6 = .pointer (some ⟨bK, 0, none⟩) := hd 6 (by decide)
          change SpecOp _ _ _ _ 7 (Act.put (canon _ v _ []) (some 78) (v 6)) w' _
          rw [e6]
          simp only [canon_nil, Act.put, List.setIfInBounds_toArray, List.set_cons_zero, List.set_cons_succ]
          have q0 := (hR.cell (p := ⟨bK, 0, none⟩) zK).trans cHXK_0
          refine spec_of rfl (fun KK hK => ?_)
          go_simp
          exact hK.out _ _ (Below.refl _ _) rfl
        | 8, _ =>
          intro v w' hR hd
          have e7 : v 7 = .int .i64 (num) := hd 7 (by decide)
          change SpecOp _ _ _ _ 8 (Act.put (canon _ v _ []) (some 79) (v 7)) w' _
          rw [e7]
          simp only [canon_nil, Act.put, List.setIfInBounds_toArray, List.set_cons_zero, List.set_cons_succ]
          refine spec_of rfl (fun KK hK => ?_)
          go_simp
          refine (checkRange_any _ _ _ _).mono ?_
          rintro e wn ⟨rfl, rfl⟩
          exact hK.out _ _ (Below.refl _ _) rfl
        | 9, _ =>
          intro v w' hR hd
          change SpecOp _ _ _ _ 9 (canon _ v _ []) w' _
          simp only [canon_nil]
          refine spec_of rfl (fun KK hK => ?_)
          go_simp
          exact hK.out _ _ (Below.refl _ _) rfl
        | 10, _ =>
          intro v w' hR hd
          have e9 : v 9 = .pointer (some ⟨bK, 1, none⟩) := hd 9 (by decide)
          change SpecOp _ _ _ _ 10 (Act.put (canon _ v _ []) (some 81) (v 9)) w' _
          rw [e9]
          simp only [canon_nil, Act.put, List.setIfInBounds_toArray, List.set_cons_zero, List.set_cons_succ]
          have q0 := (hR.cell (p := ⟨bK, 1, none⟩) zK).trans cHXK_1
          refine spec_of rfl (fun KK hK => ?_)
          go_simp
          exact hK.out _ _ (Below.refl _ _) rfl
        | 11, _ =>
          intro v w' hR hd
          have e10 : v 10 = .int .i64 (den) := hd 10 (by decide)
          change SpecOp _ _ _ _ 11 (Act.put (canon _ v _ []) (some 82) (v 10)) w' _
          rw [e10]
          simp only [canon_nil, Act.put, List.setIfInBounds_toArray, List.set_cons_zero, List.set_cons_succ]
          refine spec_of rfl (fun KK hK => ?_)
          go_simp
          refine (checkRange_any _ _ _ _).mono ?_
          rintro e wn ⟨rfl, rfl⟩
          exact hK.out _ _ (Below.refl _ _) rfl
        | 12, _ =>
          intro v w' hR hd
          have e5 : v 5 = .int .i64 (0) := hd 5 (by decide)
          have e8 : v 8 = .int .i64 (outs num (-1000) 1000) := hd 8 (by decide)
          have e11 : v 11 = .int .i64 (outs den 1 1000) := hd 11 (by decide)
          change SpecOp _ _ _ _ 12 (Act.put (Act.put (Act.put (canon _ v _ []) (some 83) (v 11)) (some 80) (v 8)) (some 77) (v 5)) w' _
          rw [e5, e8, e11]
          simp only [canon_nil, Act.put, List.setIfInBounds_toArray, List.set_cons_zero, List.set_cons_succ]
          refine spec_of rfl (fun KK hK => ?_)
          go_simp
          exact hK.out _ _ ((Below.refl _ _).alloc (Nat.le_refl _) _) ⟨_, _, rfl, rd_of_blk (Blk.new _ _ _) rfl⟩
        | 13, _ =>
          intro v w' hR hd
          obtain ⟨A12, k12, e12, r12⟩ : ∃ A c, v 12 = .slice A 3 c ∧ Rd w' A ([0, outs num (-1000) 1000, outs den 1 1000].map (.int .i64)) := hd 12 (by decide)
          change SpecOp _ _ _ _ 13 (Act.put (canon _ v _ []) (some 84) (v 12)) w' _
          rw [e12]
          simp only [canon_nil, Act.put, List.setIfInBounds_toArray, List.set_cons_zero, List.set_cons_succ]
          refine spec_of rfl (fun KK hK => ?_)
          go_simp
          refine (firstL_n _ _ _ [_, _, _] _ rfl (by simp [maxLen]) r12).mono ?_
          rintro e wn ⟨rfl, rfl⟩
          exact hK.out _ _ (Below.refl _ _) (congrArg (Value.int .i64) HZK.out)
        | 14, _ =>
          intro v w' hR hd
          have e4 : v 4 = .int .i64 (zs) := hd 4 (by decide)
          change SpecOp _ _ _ _ 14 (Act.put (canon _ v _ []) (some 76) (v 4)) w' _
          rw [e4]
          simp only [canon_nil, Act.put, List.setIfInBounds_toArray, List.set_cons_zero, List.set_cons_succ]
          refine spec_of rfl (fun KK hK => ?_)
          go_simp
          exact hK.out _ _ (Below.refl _ _) rfl
        | 15, _ =>
          intro v w' hR hd
          have e13 : v 13 = .int .i64 (zk) := hd 13 (by decide)
          change SpecOp _ _ _ _ 15 (Act.put (canon _ v _ []) (some 85) (v 13)) w' _
          rw [e13]
          simp only [canon_nil, Act.put, List.setIfInBounds_toArray, List.set_cons_zero, List.set_cons_succ]
          refine spec_of rfl (fun KK hK => ?_)
          go_simp
          exact hK.out _ _ (Below.refl _ _) rfl
        | i + 16, h => exact absurd h (Nat.not_lt.2 (Nat.le_add_left 16 i))
      case hend =>
        intro v w' hR hall
        simp only [putL, Act.put, List.setIfInBounds_toArray, List.set_cons_zero, List.set_cons_succ]
        have e0 : v 0 = .int .i64 (0) := hall 0 (by decide)
        have e1 : v 1 = .agg #[.string nm2, .int .i64 X2, .int .i64 Y2, .slice B m d] := hall 1 (by decide)
        have e2 : v 2 = .int .i64 (zq) := hall 2 (by decide)
        obtain ⟨A3, k3, e3, r3⟩ : ∃ A c, v 3 = .slice A 2 c ∧ Rd w' A ([0, zq].map (.int .i64)) := hall 3 (by decide)
        have e4 : v 4 = .int .i64 (zs) := hall 4 (by decide)
        have e5 : v 5 = .int .i64 (0) := hall 5 (by decide)
        have e6 : v 6 = .pointer (some ⟨bK, 0, none⟩) := hall 6 (by decide)
        have e7 : v 7 = .int .i64 (num) := hall 7 (by decide)
        have e8 : v 8 = .int .i64 (outs num (-1000) 1000) := hall 8 (by decide)
        have e9 : v 9 = .pointer (some ⟨bK, 1, none⟩) := hall 9 (by decide)
        have e10 : v 10 = .int .i64 (den) := hall 10 (by decide)
        have e11 : v 11 = .int .i64 (outs den 1 1000) := hall 11 (by decide)
        obtain ⟨A12, k12, e12, r12⟩ : ∃ A c, v 12 = .slice A 3 c ∧ Rd w' A ([0, outs num (-1000) 1000, outs den 1 1000].map (.int .i64)) := hall 12 (by decide)
        have e13 : v 13 = .int .i64 (zk) := hall 13 (by decide)
        have e14 : v 14 = .int .i64 (zs) := hall 14 (by decide)
        have e15 : v 15 = .int .i64 (zk) := hall 15 (by decide)
        rw [e14, e15]
        clear e0 e1 e2 e3 e4 e5 e6 e7 e8 e9 e10 e11 e12 e13 e14 e15 r3 r12 hall zQ zK
        clear cHXQ_0 cHXQ_1 cHXQ_2 cHXQ_3 cHXK_0 cHXK_1
        replace HR := Lib.hid (HR.out.below hR); replace HR2 := Lib.hid (HR2.out.below hR); replace HLX1 := Lib.hid (HLX1.out.below hR); replace HLX2 := Lib.hid (HLX2.out.below hR)
        replace HXP := Lib.hid (HXP.out.below hR); replace HXQ := Lib.hid (HXQ.out.below hR); replace HXK := Lib.hid (HXK.out.below hR); replace HXX1 := Lib.hid (HXX1.out.below hR)
        replace HXX2 := Lib.hid (HXX2.out.below hR); replace HXM := Lib.hid (HXM.out.below hR); replace HB := Lib.hid (HB.out.trans (hR.mono HB.out.size))
        clear hR
        obtain ⟨s6, ht⟩ : ∃ s, w' = s := ⟨_, rfl⟩
        rw [ht] at HR HR2 HLX1 HLX2 HXP HXQ HXK HXX1 HXX2 HXM HB ⊢
        clear ht
        go_upto_region 13 with fail
        have h1 := ((Blk.new s6 43 #[.string ⟨#[]⟩, .int .i64 0, .int .i64 0, .slice none 0 0]).alloc (.cells #[.string ⟨#[]⟩, .int .i64 0, .int .i64 0, .slice none 0 0] 43)).alloc (.cells #[.int .i64 0, .int .i64 0] 33)
        have h2 := (Blk.new (s6.alloc (.cells #[.string ⟨#[]⟩, .int .i64 0, .int .i64 0, .slice none 0 0] 43)) 43 #[.string ⟨#[]⟩, .int .i64 0, .int .i64 0, .slice none 0 0]).alloc (.cells #[.int .i64 0, .int .i64 0] 33)
        have h3 := Blk.new ((s6.alloc (.cells #[.string ⟨#[]⟩, .int .i64 0, .int .i64 0, .slice none 0 0] 43)).alloc (.cells #[.string ⟨#[]⟩, .int .i64 0, .int .i64 0, .slice none 0 0] 43)) 33 #[.int .i64 0, .int .i64 0]
        simp only [World.size_alloc] at h2 h3
        have hb : Below s6.heap.size s6 (((s6.alloc (.cells #[.string ⟨#[]⟩, .int .i64 0, .int .i64 0, .slice none 0 0] 43)).alloc (.cells #[.string ⟨#[]⟩, .int .i64 0, .int .i64 0, .slice none 0 0] 43)).alloc (.cells #[.int .i64 0, .int .i64 0] 33)) := (((Below.refl _ _).alloc (Nat.le_refl _) _).alloc (by simp) _).alloc (by simp only [World.size_alloc]; omega) _
        generalize ((s6.alloc (.cells #[.string ⟨#[]⟩, .int .i64 0, .int .i64 0, .slice none 0 0] 43)).alloc (.cells #[.string ⟨#[]⟩, .int .i64 0, .int .i64 0, .slice none 0 0] 43)).alloc (.cells #[.int .i64 0, .int .i64 0] 33) = s7 at h1 h2 h3 hb ⊢
        have hgB := HB.out.size
        have hlt_HXP := HXP.out.lt
        have hlt_HXQ := HXQ.out.lt
        have hlt_HXK := HXK.out.lt
        have hlt_HXX1 := HXX1.out.lt
        have hlt_HXX2 := HXX2.out.lt
        have hlt_HXM := HXM.out.lt
        replace HR := Lib.hid (HR.out.below hb); replace HR2 := Lib.hid (HR2.out.below hb); replace HLX1 := Lib.hid (HLX1.out.below hb); replace HLX2 := Lib.hid (HLX2.out.below hb)
        replace HXP := Lib.hid (HXP.out.below hb); replace HXQ := Lib.hid (HXQ.out.below hb); replace HXK := Lib.hid (HXK.out.below hb); replace HXX1 := Lib.hid (HXX1.out.below hb)
        replace HXX2 := Lib.hid (HXX2.out.below hb); replace HXM := Lib.hid (HXM.out.below hb); replace HB := Lib.hid (HB.out.trans (hb.mono HB.out.size))
        clear hb
        obtain ⟨bZ1, hz1⟩ : ∃ b, s6.heap.size = b := ⟨_, rfl⟩
        rw [hz1] at h1 h2 h3 hgB ⊢ hlt_HXP hlt_HXQ hlt_HXK hlt_HXX1 hlt_HXX2 hlt_HXM
        obtain ⟨bZ2, hz2⟩ : ∃ b, bZ1 + 1 = b := ⟨_, rfl⟩
        rw [hz2] at h2 h3 ⊢
        obtain ⟨bZ3, hz3⟩ : ∃ b, bZ2 + 1 = b := ⟨_, rfl⟩
        rw [hz3] at h3 ⊢
        have HGZ1 : RowKit.Hid (w.heap.size ≤ bZ1) := Lib.hid (by omega)
        have HNZ1HXP : RowKit.Hid (¬ bP = bZ1) := Lib.hid (by omega)
        have HNZ1HXQ : RowKit.Hid (¬ bQ = bZ1) := Lib.hid (by omega)
        have HNZ1HXK : RowKit.Hid (¬ bK = bZ1) := Lib.hid (by omega)
        have HNZ1HXX1 : RowKit.Hid (¬ bX1 = bZ1) := Lib.hid (by omega)
        have HNZ1HXX2 : RowKit.Hid (¬ bX2 = bZ1) := Lib.hid (by omega)
        have HNZ1HXM : RowKit.Hid (¬ bM = bZ1) := Lib.hid (by omega)
        have HGZ2 : RowKit.Hid (w.heap.size ≤ bZ2) := Lib.hid (by omega)
        have HNZ2HXP : RowKit.Hid (¬ bP = bZ2) := Lib.hid (by omega)
        have HNZ2HXQ : RowKit.Hid (¬ bQ = bZ2) := Lib.hid (by omega)
        have HNZ2HXK : RowKit.Hid (¬ bK = bZ2) := Lib.hid (by omega)
        have HNZ2HXX1 : RowKit.Hid (¬ bX1 = bZ2) := Lib.hid (by omega)
        have HNZ2HXX2 : RowKit.Hid (¬ bX2 = bZ2) := Lib.hid (by omega)
        have HNZ2HXM : RowKit.Hid (¬ bM = bZ2) := Lib.hid (by omega)
        have HGZ3 : RowKit.Hid (w.heap.size ≤ bZ3) := Lib.hid (by omega)
        have HNZ3HXP : RowKit.Hid (¬ bP = bZ3) := Lib.hid (by omega)
        have HNZ3HXQ : RowKit.Hid (¬ bQ = bZ3) := Lib.hid (by omega)
        have HNZ3HXK : RowKit.Hid (¬ bK = bZ3) := Lib.hid (by omega)
        have HNZ3HXX1 : RowKit.Hid (¬ bX1 = bZ3) := Lib.hid (by omega)
        have HNZ3HXX2 : RowKit.Hid (¬ bX2 = bZ3) := Lib.hid (by omega)
        have HNZ3HXM : RowKit.Hid (¬ bM = bZ3) := Lib.hid (by omega)
        have HLTHXP : RowKit.Hid (bP < bZ3) := Lib.hid (by omega)
        have HLTHXQ : RowKit.Hid (bQ < bZ3) := Lib.hid (by omega)
        have HLTHXK : RowKit.Hid (bK < bZ3) := Lib.hid (by omega)
        have HLTHXX1 : RowKit.Hid (bX1 < bZ3) := Lib.hid (by omega)
        have HLTHXX2 : RowKit.Hid (bX2 < bZ3) := Lib.hid (by omega)
        have HLTHXM : RowKit.Hid (bM < bZ3) := Lib.hid (by omega)
        have HLTHXZ1 : RowKit.Hid (bZ1 < bZ3) := Lib.hid (by omega); have HLTHXZ2 : RowKit.Hid (bZ2 < bZ3) := Lib.hid (by omega)
        have HNZ2HXZ1 : RowKit.Hid (¬ bZ1 = bZ2) := Lib.hid (by omega); have HNZ3HXZ1 : RowKit.Hid (¬ bZ1 = bZ3) := Lib.hid (by omega); have HNZ3HXZ2 : RowKit.Hid (¬ bZ2 = bZ3) := Lib.hid (by omega)
        clear hz1 hz2 hz3 hgB hlt_HXP hlt_HXQ hlt_HXK hlt_HXX1 hlt_HXX2 hlt_HXM
        have HXZ1 := Lib.hid h1; clear h1
        have HXZ2 := Lib.hid h2; clear h2
        have HXZ3 := Lib.hid h3; clear h3
        go_upto_region 18 with fail
        obtain ⟨cHXP_0, cHXP_1, cHXP_2, cHXP_3⟩ := box4 HXP.out
        refine wp_region_store [Fact2.is (.agg #[.string nm, .int .i64 X, .int .i64 Y, .slice A n c]), Fact2.is (.int .i64 en), Fact2.is (.agg #[.string nm, .int .i64 X, .int .i64 Y, .slice A n c]), Fact2.is (.int .i64 pk), Fact2.is (.agg #[.string nm, .int .i64 X, .int .i64 Y, .slice A n c]), Fact2.is (.agg #[.int .i64 ra, .int .i64 rb]), Fact2.is (.int .i64 en), Fact2.is (.int .i64 pk), Fact2.any] 8 bZ3 (fun s => Blk s bZ3 33 #[.int .i64 ra, .int .i64 rb]) (fun _ _ h hb => h.below hb) [[], [0], [], [2], [], [4], [1], [3], [5]] [(some 107, 0), (some 108, 1), (some 109, 2), (some 110, 3), (some 111, 4), (some 112, 5), (some 22, 6), (some 23, 7), (none, 8)] (Nat.le_of_lt HXZ3.out.lt) (by kernel_rfl) (by kernel_rfl) (by kernel_rfl) (by kernel_rfl) (by decide) (fun _ _ _ _ e h => by have h1 : _ ∧ _ := h; exact ⟨e ▸ h1.1, h1.2⟩) ?hstep ?hsto ?hend (by decide)
        case hstep =>
          intro i hi hne
          match i, hi, hne with
          | 0, _, _ =>
            intro v w' hR hd
            change SpecOp _ _ _ _ 0 (canon _ v _ []) w' _
            simp only [canon_nil]
            have q0 := (hR.below.cell (p := ⟨bP, 0, none⟩) HLTHXP.out).trans cHXP_0
            have q1 := (hR.below.cell (p := ⟨bP, 1, none⟩) HLTHXP.out).trans cHXP_1
            have q2 := (hR.below.cell (p := ⟨bP, 2, none⟩) HLTHXP.out).trans cHXP_2
            have q3 := (hR.below.cell (p := ⟨bP, 3, none⟩) HLTHXP.out).trans cHXP_3
            refine spec_ofR rfl (fun KK hK => ?_)
            go_simp
            exact hK.out _ _ (Below.refl _ _) rfl
          | 1, _, _ =>
            intro v w' hR hd
            have e0 : v 0 = .agg #[.string nm, .int .i64 X, .int .i64 Y, .slice A n c] := hd 0 (by decide)
            change SpecOp _ _ _ _ 1 (Act.put (canon _ v _ []) (some 107) (v 0)) w' _
            rw [e0]
            simp only [canon_nil, Act.put, List.setIfInBounds_toArray, List.set_cons_zero, List.set_cons_succ]
            refine spec_ofR rfl (fun KK hK => ?_)
            go_simp
            refine (HRE.out _ (hR.rd HR.out)).mono ?_
            rintro e wn ⟨rfl, hbn⟩
            exact hK.out _ _ hbn rfl
          | 2, _, _ =>
            intro v w' hR hd
            change SpecOp _ _ _ _ 2 (canon _ v _ []) w' _
            simp only [canon_nil]
            have q0 := (hR.below.cell (p := ⟨bP, 0, none⟩) HLTHXP.out).trans cHXP_0
            have q1 := (hR.below.cell (p := ⟨bP, 1, none⟩) HLTHXP.out).trans cHXP_1
            have q2 := (hR.below.cell (p := ⟨bP, 2, none⟩) HLTHXP.out).trans cHXP_2
            have q3 := (hR.below.cell (p := ⟨bP, 3, none⟩) HLTHXP.out).trans cHXP_3
            refine spec_ofR rfl (fun KK hK => ?_)
            go_simp
            exact hK.out _ _ (Below.refl _ _) rfl
          | 3, _, _ =>
            intro v w' hR hd
            have e2 : v 2 = .agg #[.string nm, .int .i64 X, .int .i64 Y, .slice A n c] := hd 2 (by decide)
            change SpecOp _ _ _ _ 3 (Act.put (canon _ v _ []) (some 109) (v 2)) w' _
            rw [e2]
            simp only [canon_nil, Act.put, List.setIfInBounds_toArray, List.set_cons_zero, List.set_cons_succ]
            refine spec_ofR rfl (fun KK hK => ?_)
            go_simp
            refine (HRK.out _ (hR.rd HR.out)).mono ?_
            rintro e wn ⟨rfl, hbn⟩
            exact hK.out _ _ hbn rfl
          | 4, _, _ =>
            intro v w' hR hd
            change SpecOp _ _ _ _ 4 (canon _ v _ []) w' _
            simp only [canon_nil]
            have q0 := (hR.below.cell (p := ⟨bP, 0, none⟩) HLTHXP.out).trans cHXP_0
            have q1 := (hR.below.cell (p := ⟨bP, 1, none⟩) HLTHXP.out).trans cHXP_1
            have q2 := (hR.below.cell (p := ⟨bP, 2, none⟩) HLTHXP.out).trans cHXP_2
            have q3 := (hR.below.cell (p := ⟨bP, 3, none⟩) HLTHXP.out).trans cHXP_3
            refine spec_ofR rfl (fun KK hK => ?_)
            go_simp
            exact hK.out _ _ (Below.refl _ _) rfl
          | 5, _, _ =>
            intro v w' hR hd
            have e4 : v 4 = .agg #[.string nm, .int .i64 X, .int .i64 Y, .slice A n c] := hd 4 (by decide)
            change SpecOp _ _ _ _ 5 (Act.put (canon _ v _ []) (some 111) (v 4)) w' _
            rw [e4]
            simp only [canon_nil, Act.put, List.setIfInBounds_toArray, List.set_cons_zero, List.set_cons_succ]
            refine spec_ofR rfl (fun KK hK => ?_)
            go_simp
            refine (HRM.out _ (hR.rd HR.out)).mono ?_
            rintro e wn ⟨rfl, hbn⟩
            exact hK.out _ _ hbn rfl
          | 6, _, _ =>
            intro v w' hR hd
            have e1 : v 1 = .int .i64 en := hd 1 (by decide)
            change SpecOp _ _ _ _ 6 (Act.put (canon _ v _ []) (some 108) (v 1)) w' _
            rw [e1]
            simp only [canon_nil, Act.put, List.setIfInBounds_toArray, List.set_cons_zero, List.set_cons_succ]
            refine spec_ofR rfl (fun KK hK => ?_)
            go_simp
            exact hK.out _ _ (Below.refl _ _) rfl
          | 7, _, _ =>
            intro v w' hR hd
            have e3 : v 3 = .int .i64 pk := hd 3 (by decide)
            change SpecOp _ _ _ _ 7 (Act.put (canon _ v _ []) (some 110) (v 3)) w' _
            rw [e3]
            simp only [canon_nil, Act.put, List.setIfInBounds_toArray, List.set_cons_zero, List.set_cons_succ]
            refine spec_ofR rfl (fun KK hK => ?_)
            go_simp
            exact hK.out _ _ (Below.refl _ _) rfl
          | 8, _, h => exact absurd rfl h
          | i + 9, h, _ => exact absurd h (Nat.not_lt.2 (Nat.le_add_left 9 i))
        case hsto =>
          intro v w' hR hd
          obtain ⟨cs, hblk, hnf, hcz⟩ := hR.blk _ _ _ HXZ3.out (nf_two rfl rfl)
          obtain ⟨x0, x1, rfl⟩ := two_of hcz
          have e5 : v 5 = .agg #[.int .i64 ra, .int .i64 rb] := hd 5 (by decide)
          change SpecOp _ _ _ _ 8 (Act.put (canon _ v _ []) (some 112) (v 5)) w' _
          rw [e5]
          simp only [canon_nil, Act.put, List.setIfInBounds_toArray, List.set_cons_zero, List.set_cons_succ]
          have zb := hblk.lt
          have f0 := hblk.frozen 0; have f1 := hblk.frozen 1
          obtain ⟨y0, y1⟩ := box2 hblk
          refine spec_ofR rfl (fun KK hK => ?_)
          go_simp
          exact hK.out undef _ (rst_set2 hblk hnf (Nat.le_refl _) _ _ rfl rfl) (blk_set2' hblk _ _)
        case hend =>
          intro v w' hR hall hfs
          simp only [putL, Act.put, List.setIfInBounds_toArray, List.set_cons_zero, List.set_cons_succ]
          have e6 : v 6 = .int .i64 en := hall 6 (by decide) (by decide)
          have e7 : v 7 = .int .i64 pk := hall 7 (by decide) (by decide)
          rw [e6, e7]
          clear e6 e7 hall
          clear cHXP_0 cHXP_1 cHXP_2 cHXP_3
          replace HXP := Lib.hid (HXP.out.trans' hR.below HLTHXP.out)
          replace HXQ := Lib.hid (HXQ.out.trans' hR.below HLTHXQ.out)
          replace HXK := Lib.hid (HXK.out.trans' hR.below HLTHXK.out)
          replace HXX1 := Lib.hid (HXX1.out.trans' hR.below HLTHXX1.out)
          replace HXX2 := Lib.hid (HXX2.out.trans' hR.below HLTHXX2.out)
          replace HXM := Lib.hid (HXM.out.trans' hR.below HLTHXM.out)
          replace HXZ1 := Lib.hid (HXZ1.out.trans' hR.below HLTHXZ1.out)
          replace HXZ2 := Lib.hid (HXZ2.out.trans' hR.below HLTHXZ2.out)
          replace HXZ3 := Lib.hid hfs; clear hfs
          replace HR := Lib.hid (hR.rd HR.out)
          replace HR2 := Lib.hid (hR.rd HR2.out)
          replace HLX1 := Lib.hid (hR.rd HLX1.out)
          replace HLX2 := Lib.hid (hR.rd HLX2.out)
          replace HB := Lib.hid (HB.out.trans (below_rst hR HGZ3.out)); clear hR
          obtain ⟨s8, ht⟩ : ∃ s, w' = s := ⟨_, rfl⟩
          rw [ht] at HR HR2 HLX1 HLX2 HXP HXQ HXK HXX1 HXX2 HXM HXZ1 HXZ2 HXZ3 HB ⊢
          clear ht
          obtain ⟨cHXX1_0, cHXX1_1, cHXX1_2, cHXX1_3⟩ := box4 HXX1.out
          obtain ⟨cHXZ1_0, cHXZ1_1, cHXZ1_2, cHXZ1_3⟩ := box4 HXZ1.out
          go_wp2_with fail
          refine (HO1.out _ _ _ _ _ HLX1.out (rd_nil _ _)).mono ?_
          rintro e o1 ⟨rfl, hb⟩
          replace HR := Lib.hid (HR.out.below hb); replace HR2 := Lib.hid (HR2.out.below hb); replace HLX1 := Lib.hid (HLX1.out.below hb); replace HLX2 := Lib.hid (HLX2.out.below hb)
          replace HXP := Lib.hid (HXP.out.below hb); replace HXQ := Lib.hid (HXQ.out.below hb); replace HXK := Lib.hid (HXK.out.below hb); replace HXX1 := Lib.hid (HXX1.out.below hb)
          replace HXX2 := Lib.hid (HXX2.out.below hb); replace HXM := Lib.hid (HXM.out.below hb); replace HXZ1 := Lib.hid (HXZ1.out.below hb); replace HXZ2 := Lib.hid (HXZ2.out.below hb)
          replace HXZ3 := Lib.hid (HXZ3.out.below hb); replace HB := Lib.hid (HB.out.trans (hb.mono HB.out.size))
          clear hb
          clear cHXX1_0 cHXX1_1 cHXX1_2 cHXX1_3 cHXZ1_0 cHXZ1_1 cHXZ1_2 cHXZ1_3
          obtain ⟨cHXX2_0, cHXX2_1, cHXX2_2, cHXX2_3⟩ := box4 HXX2.out
          obtain ⟨cHXZ2_0, cHXZ2_1, cHXZ2_2, cHXZ2_3⟩ := box4 HXZ2.out
          go_wp2_with fail
          refine (HO2.out _ _ _ _ _ HLX2.out (rd_nil _ _)).mono ?_
          rintro e o2 ⟨rfl, hb⟩
          replace HR := Lib.hid (HR.out.below hb); replace HR2 := Lib.hid (HR2.out.below hb); replace HLX1 := Lib.hid (HLX1.out.below hb); replace HLX2 := Lib.hid (HLX2.out.below hb)
          replace HXP := Lib.hid (HXP.out.below hb); replace HXQ := Lib.hid (HXQ.out.below hb); replace HXK := Lib.hid (HXK.out.below hb); replace HXX1 := Lib.hid (HXX1.out.below hb)
          replace HXX2 := Lib.hid (HXX2.out.below hb); replace HXM := Lib.hid (HXM.out.below hb); replace HXZ1 := Lib.hid (HXZ1.out.below hb); replace HXZ2 := Lib.hid (HXZ2.out.below hb)
          replace HXZ3 := Lib.hid (HXZ3.out.below hb); replace HB := Lib.hid (HB.out.trans (hb.mono HB.out.size))
          clear hb
          clear cHXX2_0 cHXX2_1 cHXX2_2 cHXX2_3 cHXZ2_0 cHXZ2_1 cHXZ2_2 cHXZ2_3
          go_wp2_with fail
          refine (number_any _ _ (by first | exact fun h => absurd rfl h | exact fun _ => rfl) _).mono ?_
          rintro e _ ⟨rfl, rfl⟩
          go_wp2_with fail
          refine (number_any _ _ (by first | exact fun h => absurd rfl h | exact fun _ => rfl) _).mono ?_
          rintro e _ ⟨rfl, rfl⟩
          obtain ⟨cHXM_0, cHXM_1⟩ := box2 HXM.out
          obtain ⟨cHXZ3_0, cHXZ3_1⟩ := box2 HXZ3.out
          go_wp2_with fail
          refine (awake_laid _ (HL.out.below HB.out)).mono ?_
          rintro e uz ⟨rfl, hb⟩
          replace HR := Lib.hid (HR.out.below hb); replace HR2 := Lib.hid (HR2.out.below hb); replace HLX1 := Lib.hid (HLX1.out.below hb); replace HLX2 := Lib.hid (HLX2.out.below hb)
          replace HXP := Lib.hid (HXP.out.below hb); replace HXQ := Lib.hid (HXQ.out.below hb); replace HXK := Lib.hid (HXK.out.below hb); replace HXX1 := Lib.hid (HXX1.out.below hb)
          replace HXX2 := Lib.hid (HXX2.out.below hb); replace HXM := Lib.hid (HXM.out.below hb); replace HXZ1 := Lib.hid (HXZ1.out.below hb); replace HXZ2 := Lib.hid (HXZ2.out.below hb)
          replace HXZ3 := Lib.hid (HXZ3.out.below hb); replace HB := Lib.hid (HB.out.trans (hb.mono HB.out.size))
          clear hb
          go_wp2
          go_ret
          exact trueEnd_mk rfl HB.out
end Go.Proofs.YtfgeokeankfplaaGreatDoor
