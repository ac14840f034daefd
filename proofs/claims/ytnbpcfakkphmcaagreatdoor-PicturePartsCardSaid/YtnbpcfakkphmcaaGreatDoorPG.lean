/- Parts of a proof: PictureParts: the walk of the law, by cases. Six ints among the arguments, opened. PictureParts, for any arguments. -/
import Derived.Test.YtnbpcfakkphmcaaGreatDoorPE
import Derived.Test.YtnbpcfakkphmcaaGreatDoorPF
import Derived.Deep.Slices
import Derived.Laws.Cover2
import Derived.Test.YtnbpcfakkphmcaaGreatDoorBw
import Derived.Test.YtnbpcfakkphmcaaGreatDoorBx
namespace Go.Proofs.YtnbpcfakkphmcaaGreatDoor
open Go.RowKit
set_option linter.unusedVariables false
set_option maxRecDepth 100000

set_option maxHeartbeats 8000000 in
theorem parts_00 (nm : ByteArray) (X Y : Int) (l : List Nat) (n4 n5 : Int) (n0 n1 n2 n3 : Int) (z1 : Int) (he1 : atErr (Pic.mk nm X Y l) n4 n5 = z1) (hz1 : z1 ≠ 0) (z2 : Int) (he2 : cropErr (Pic.mk nm X Y l) n0 n1 n2 n3 = z2) (hz2 : z2 ≠ 0) (A : Option Addr) (c : Nat) (w : World) (hlaid : Laid w) (hsh : shortB (Pic.mk nm X Y l) = true) (hA : A = none → l.length = 0 ∧ c = 0) (hcap : l.length ≤ c) (hr : Rd w A (fl l)) : Calls Tryz.prog 4 #[(Pic.mk nm X Y l).val A c, .agg #[.int .i64 n0, .int .i64 n1, .int .i64 n2, .int .i64 n3, .int .i64 n4, .int .i64 n5]] w (TrueEnd w) := by
  obtain ⟨hs0, hl0⟩ := short_facts hsh
  simp only [] at hs0 hl0
  have hs : nm.size ≤ maxLen := Nat.le_trans hs0 (by decide)
  have hl : l.length ≤ maxLen := Nat.le_trans hl0 (by decide)
  have hl4 : l.length ≤ 4096 := Nat.le_trans hl0 (by decide)
  obtain ⟨zb, hzb⟩ : ∃ z, (Pic.mk nm X Y l).err = z := ⟨_, rfl⟩
  obtain ⟨n, hn⟩ : ∃ n, l.length = n := ⟨_, rfl⟩
  have HS : RowKit.Hid (∀ w, Calls Tryz.prog 28 #[.agg #[.string nm, .int .i64 X, .int .i64 Y, .slice A n c]] w (BoolEnd true w)) := Lib.hid (fun w => by have h := shortR_any (Pic.mk nm X Y l) A c w; rw [hsh] at h; rw [← hn]; exact h)
  have HOWN : RowKit.Hid (∀ w, Rd w A (fl l) → Calls Tryz.prog 30 #[.agg #[.string nm, .int .i64 X, .int .i64 Y, .slice A n c]] w fun e w' => ∃ g c', e = .returned (.agg #[.string nm, .int .i64 X, .int .i64 Y, .slice (some ⟨g, 0, none⟩) n c']) ∧ n ≤ c' ∧ Rd w' (some ⟨g, 0, none⟩) (fl l) ∧ Below w.heap.size w w') := Lib.hid (fun w hr => by have h := own_any (Pic.mk nm X Y l) A c w hl4 (by first | exact hA | (intro h; cases h)) hr; rw [← hn]; exact h)
  have HCK : RowKit.Hid (∀ w, Rd w A (fl l) → Calls Tryz.prog 32 #[.agg #[.string nm, .int .i64 X, .int .i64 Y, .slice A n c]] w fun e w' => e = .returned (.int .i64 zb) ∧ Below w.heap.size w w') := Lib.hid (fun w hr => by have h := checkPictureR_any (Pic.mk nm X Y l) A c w hs hl4 hr; rw [hzb] at h; rw [← hn]; exact h)
  have HCP : RowKit.Hid (∀ g c' w, Rd w (some ⟨g, 0, none⟩) (fl l) → Calls Tryz.prog 37 #[.agg #[.string nm, .int .i64 X, .int .i64 Y, .slice (some ⟨g, 0, none⟩) n c']] w fun e w' => e = .returned (.int .i64 zb) ∧ Below w.heap.size w w') := Lib.hid (fun g c' w hr => by have h := checkPicture_any (Pic.mk nm X Y l) (some ⟨g, 0, none⟩) c' w hs hl hr; rw [hzb] at h; rw [← hn]; exact h)
  have HAT : RowKit.Hid (∀ g c' w, n ≤ c' → Rd w (some ⟨g, 0, none⟩) (fl l) → Calls Tryz.prog 29 #[.agg #[.string nm, .int .i64 X, .int .i64 Y, .slice (some ⟨g, 0, none⟩) n c'], .int .i64 n4, .int .i64 n5] w fun e w' => e = .returned (.tuple #[.float .f32 0, .int .i64 z1]) ∧ Below w.heap.size w w') := Lib.hid (fun g c' w hc hr => by have h := at_err (Pic.mk nm X Y l) n4 n5 (some ⟨g, 0, none⟩) c' w hs hl hr z1 he1 hz1; rw [← hn]; exact h)
  have heq : (FloatKind.f32.format.order 0 0 == some .eq) = true := by decide +kernel
  have HF1 : RowKit.Hid (firstE [zb, errIf (decide (n4 < 0) || decide (X ≤ n4)) 10, errIf (decide (n5 < 0) || decide (Y ≤ n5)) 10] = z1) := Lib.hid (by have h := he1; unfold atErr at h; rw [hzb] at h; exact h)
  have HCR : RowKit.Hid (∀ g c' w, n ≤ c' → Rd w (some ⟨g, 0, none⟩) (fl l) → Calls Tryz.prog 31 #[.agg #[.string nm, .int .i64 X, .int .i64 Y, .slice (some ⟨g, 0, none⟩) n c'], .agg #[.int .i64 n0, .int .i64 n1], .agg #[.int .i64 n2, .int .i64 n3]] w fun e w' => e = .returned (.tuple #[.agg #[.string ⟨#[]⟩, .int .i64 0, .int .i64 0, .slice none 0 0], .int .i64 z2]) ∧ Below w.heap.size w w') := Lib.hid (fun g c' w hc hr => by have h := cropped_err (Pic.mk nm X Y l) n0 n1 n2 n3 (some ⟨g, 0, none⟩) c' w hs hl hr z2 he2 hz2; rw [← hn]; exact h)
  have HF2 : RowKit.Hid (firstE [zb, errIf (decide (n0 < 0) || decide (n1 ≤ n0) || decide (X < n1)) 14, errIf (decide (n2 < 0) || decide (n3 ≤ n2) || decide (Y < n3)) 14] = z2) := Lib.hid (by have h := he2; unfold cropErr at h; rw [hzb] at h; exact h)
  rw [show (Pic.mk nm X Y l).val A c = .agg #[.string nm, .int .i64 X, .int .i64 Y, .slice A n c] by unfold Pic.val; rw [hn]]
  have hz1' : (z1 == 0) = false := by simpa using hz1
  have HZ1 := Lib.hid hz1; clear hz1 he1
  have hz2' : (z2 == 0) = false := by simpa using hz2
  have HZ2 := Lib.hid hz2; clear hz2 he2
  clear hs hl hl4 hs0 hl0 hsh hn hzb hcap
  have HR := Lib.hid hr; clear hr
  have HL := Lib.hid hlaid; clear hlaid
  have HB := Lib.hid (Below.refl w.heap.size w)
  go_enter Tryz.func4, Tryz.ntmps4
  go_upto_region 1 with fail
  have hn := Blk.new w 43 #[.string nm, .int .i64 X, .int .i64 Y, .slice A n c]
  have hb : Below w.heap.size w (w.alloc (.cells #[.string nm, .int .i64 X, .int .i64 Y, .slice A n c] 43)) := (Below.refl _ _).alloc (Nat.le_refl _) _
  have hge := HB.out.size
  have hsz : (w.alloc (.cells #[.string nm, .int .i64 X, .int .i64 Y, .slice A n c] 43)).heap.size = w.heap.size + 1 := by simp only [World.size_alloc]
  obtain ⟨bP, hl⟩ : ∃ b, w.heap.size = b := ⟨_, rfl⟩
  generalize w.alloc (.cells #[.string nm, .int .i64 X, .int .i64 Y, .slice A n c] 43) = sa at hn hb hsz ⊢
  rw [hl] at hsz
  replace HR := Lib.hid (HR.out.below hb); replace HB := Lib.hid (HB.out.trans (hb.mono HB.out.size))
  clear hb
  rw [hl] at hn hge
  try rw [hl]
  have HXP := Lib.hid hn; have HGP := Lib.hid hge; clear hn hl hge
  have hn := Blk.new sa 44 #[.int .i64 n0, .int .i64 n1, .int .i64 n2, .int .i64 n3, .int .i64 n4, .int .i64 n5]
  have hb : Below sa.heap.size sa (sa.alloc (.cells #[.int .i64 n0, .int .i64 n1, .int .i64 n2, .int .i64 n3, .int .i64 n4, .int .i64 n5] 44)) := (Below.refl _ _).alloc (Nat.le_refl _) _
  have hge := HB.out.size
  have hlt_HXP := HXP.out.lt
  obtain ⟨bN, hl⟩ : ∃ b, sa.heap.size = b := ⟨_, rfl⟩
  generalize sa.alloc (.cells #[.int .i64 n0, .int .i64 n1, .int .i64 n2, .int .i64 n3, .int .i64 n4, .int .i64 n5] 44) = s0 at hn hb ⊢
  rw [hl] at hsz
  rw [← hsz]
  clear hsz
  replace HR := Lib.hid (HR.out.below hb); replace HXP := Lib.hid (HXP.out.below hb); replace HB := Lib.hid (HB.out.trans (hb.mono HB.out.size))
  clear hb
  rw [hl] at hn hge hlt_HXP
  try rw [hl]
  have HXN := Lib.hid hn; have HGN := Lib.hid hge; clear hn hl hge
  have HNNHXP : RowKit.Hid (¬ bP = bN) := Lib.hid (by omega)
  clear hlt_HXP
  obtain ⟨cHXP_0, cHXP_1, cHXP_2, cHXP_3⟩ := box4 HXP.out
  go_wp2_with fail
  refine (HS.out _).mono ?_
  rintro e s1 ⟨rfl, hb⟩
  replace HR := Lib.hid (HR.out.below hb); replace HXP := Lib.hid (HXP.out.below hb); replace HXN := Lib.hid (HXN.out.below hb); replace HB := Lib.hid (HB.out.trans (hb.mono HB.out.size))
  clear hb
  clear cHXP_0 cHXP_1 cHXP_2 cHXP_3
  obtain ⟨cHXN_0, cHXN_1, cHXN_2, cHXN_3, cHXN_4, cHXN_5⟩ := box6 HXN.out
  go_upto_region 3 with fail
  go_cut [5, 6] from 20 to 29 (fun p e wx => ∃ b d, p = .pointer (some ⟨b, 0, none⟩) ∧ e = .pointer (some ⟨d, 0, none⟩) ∧ s1.heap.size ≤ b ∧ s1.heap.size ≤ d ∧ Blk wx b 47 #[.int .i64 n0, .int .i64 n1] ∧ Blk wx d 47 #[.int .i64 n2, .int .i64 n3] ∧ Below s1.heap.size s1 wx)
  case first =>
    have zN := HXN.out.lt
    go_region_held3 (SK s1)
      (first | exact sk_drew0 _ | exact sk_drew (by assumption) | assumption | exact sk_call (by assumption) (by assumption) | exact sk_alloc (by assumption) _ | exact sk_drew (sk_alloc (sk_refl _) _) | exact sk_drew (sk_alloc (sk_alloc (sk_refl _) _) _))
      (fail)
    all_goals
      go_wp2_with fail
      go_meet
      first
        | exact ⟨_, _, rfl, rfl, Nat.le_refl _, Nat.le_succ _, (blk_two s1 47 #[.int .i64 n0, .int .i64 n1] #[.int .i64 n2, .int .i64 n3]).1, (blk_two s1 47 #[.int .i64 n0, .int .i64 n1] #[.int .i64 n2, .int .i64 n3]).2.1, (blk_two s1 47 #[.int .i64 n0, .int .i64 n1] #[.int .i64 n2, .int .i64 n3]).2.2⟩
        | exact ⟨_, _, rfl, rfl, Nat.le_succ _, Nat.le_refl _, (blk_two s1 47 #[.int .i64 n2, .int .i64 n3] #[.int .i64 n0, .int .i64 n1]).2.1, (blk_two s1 47 #[.int .i64 n2, .int .i64 n3] #[.int .i64 n0, .int .i64 n1]).1, (blk_two s1 47 #[.int .i64 n2, .int .i64 n3] #[.int .i64 n0, .int .i64 n1]).2.2⟩
  case rest =>
    obtain ⟨bC, bR, rfl, rfl, hg1, hg2, hx1, hx2, hfin⟩ := hcut
    replace HR := Lib.hid (HR.out.below hfin); replace HXP := Lib.hid (HXP.out.below hfin); replace HXN := Lib.hid (HXN.out.below hfin); replace HB := Lib.hid (HB.out.trans (hfin.mono HB.out.size))
    clear hfin
    have HXC := Lib.hid hx1; have HXR := Lib.hid hx2; clear hx1 hx2 hg1 hg2
    go_upto_region 4 with fail
    obtain ⟨cHXP_0, cHXP_1, cHXP_2, cHXP_3⟩ := box4 HXP.out
    obtain ⟨cHXN_0, cHXN_1, cHXN_2, cHXN_3, cHXN_4, cHXN_5⟩ := box6 HXN.out
    have zP := HXP.out.lt; have zN := HXN.out.lt
    go_region_held3 (SK wc)
      (first | exact sk_drew0 _ | exact sk_drew (by assumption) | assumption | exact sk_call (by assumption) (by assumption) | exact sk_alloc (by assumption) _)
      (first
        | (go_at_call 30; refine (HOWN.out _ (HR.out.below (And.left (by assumption : SK wc _)))).mono ?_; rintro e wn ⟨g, c', rfl, hcc, hro, hbn⟩; have hch := sk_call (w0 := wc) (by assumption) hbn; have HOA := Lib.hid hro; clear hro)
        | (go_at_call 29; refine (HAT.out g c' _ hcc HOA.out).mono ?_; rintro e wn ⟨rfl, hbn⟩; have hch := sk_call (w0 := wc) (by assumption) hbn))
    have hfin := hch.1
    clear hch hbn zP zN hcc HOA
    clear cHXP_0 cHXP_1 cHXP_2 cHXP_3 cHXN_0 cHXN_1 cHXN_2 cHXN_3 cHXN_4 cHXN_5
    replace HR := Lib.hid (HR.out.below hfin); replace HXP := Lib.hid (HXP.out.below hfin); replace HXN := Lib.hid (HXN.out.below hfin); replace HXC := Lib.hid (HXC.out.below hfin)
    replace HXR := Lib.hid (HXR.out.below hfin); replace HB := Lib.hid (HB.out.trans (hfin.mono HB.out.size))
    clear hfin
    go_upto_region 5 with fail
    obtain ⟨s3, hnew⟩ : ∃ s, wn = s := ⟨_, rfl⟩
    rw [hnew] at HR HXP HXN HXC HXR HB ⊢
    clear hnew
    go_cut [9, 10] from 40 to 47 (fun p e wx => ∃ b, p = .pointer (some ⟨b, 0, none⟩) ∧ e = .int .i64 z2 ∧ s3.heap.size ≤ b ∧ Blk wx b 50 #[.string ⟨#[]⟩, .int .i64 0, .int .i64 0, .slice none 0 0] ∧ Below s3.heap.size s3 wx)
    case first =>
      obtain ⟨cHXP_0, cHXP_1, cHXP_2, cHXP_3⟩ := box4 HXP.out
      obtain ⟨cHXC_0, cHXC_1⟩ := box2 HXC.out
      obtain ⟨cHXR_0, cHXR_1⟩ := box2 HXR.out
      have zP := HXP.out.lt; have zC := HXC.out.lt; have zR := HXR.out.lt
      go_region_held3 (SK s3)
        (first | exact sk_drew0 _ | exact sk_drew (by assumption) | assumption | exact sk_call (by assumption) (by assumption) | exact sk_alloc (by assumption) _ | exact sk_set4 (by assumption) (by first | exact (And.left (by assumption : SK s3 _)).size | exact Nat.le_refl _) _ _ _ _)
        (first
          | (go_at_call 30; refine (HOWN.out _ (HR.out.below (And.left (by assumption : SK s3 _)))).mono ?_; rintro e wn ⟨g, c', rfl, hcc, hro, hbn⟩; have hch := sk_call (w0 := s3) (by assumption) hbn; (first | (have HBOX : RowKit.Hid (Blk wn s3.heap.size 50 #[.string ⟨#[]⟩, .int .i64 0, .int .i64 0, .slice none 0 0]) := Lib.hid ((Blk.new s3.drew 50 #[.string ⟨#[]⟩, .int .i64 0, .int .i64 0, .slice none 0 0]).below hbn)) | (have HBOX := Lib.hid ((Blk.new _ 50 #[.string ⟨#[]⟩, .int .i64 0, .int .i64 0, .slice none 0 0]).below hbn)) | (replace HBOX := Lib.hid (HBOX.out.below hbn)) | skip); have HOA := Lib.hid hro; clear hro)
          | (go_at_call 31; refine (HCR.out g c' _ hcc (by first | exact HOA.out | exact HOA.out.below ((Below.refl _ _).alloc (Nat.le_refl _) _))).mono ?_; rintro e wn ⟨rfl, hbn⟩; have hch := sk_call (w0 := s3) (by assumption) hbn; (first | (have HBOX : RowKit.Hid (Blk wn s3.heap.size 50 #[.string ⟨#[]⟩, .int .i64 0, .int .i64 0, .slice none 0 0]) := Lib.hid ((Blk.new s3.drew 50 #[.string ⟨#[]⟩, .int .i64 0, .int .i64 0, .slice none 0 0]).below hbn)) | (have HBOX := Lib.hid ((Blk.new _ 50 #[.string ⟨#[]⟩, .int .i64 0, .int .i64 0, .slice none 0 0]).below hbn)) | (replace HBOX := Lib.hid (HBOX.out.below hbn)) | skip); (first | (have hbz := HBOX.out; obtain ⟨y0, y1, y2, y3⟩ := box4 hbz; have y4 := hbz.frozen 0; have y5 := hbz.frozen 1; have y6 := hbz.frozen 2; have y7 := hbz.frozen 3; have y8 := hbz.lt; clear hbz) | skip)))
      all_goals
        go_wp2_with fail
        go_meet
        first
          | (have hbz := HBOX.out; exact ⟨_, rfl, rfl, (by first | exact (And.left (by assumption : SK s3 _)).size | exact Nat.le_refl _), blk_set4' hbz (.string ⟨#[]⟩) (.int .i64 0) (.int .i64 0) (.slice none 0 0), below_set4 hch.1 (by first | exact (And.left (by assumption : SK s3 _)).size | exact Nat.le_refl _) (.string ⟨#[]⟩) (.int .i64 0) (.int .i64 0) (.slice none 0 0)⟩)
          | exact ⟨_, rfl, rfl, hch.1.size, Blk.new _ _ _, (by assumption : SK s3 _).1⟩
    case rest =>
      obtain ⟨bD, rfl, rfl, hge8, hx8, hfin⟩ := hcut
      replace HR := Lib.hid (HR.out.below hfin); replace HXP := Lib.hid (HXP.out.below hfin); replace HXN := Lib.hid (HXN.out.below hfin); replace HXC := Lib.hid (HXC.out.below hfin)
      replace HXR := Lib.hid (HXR.out.below hfin); replace HB := Lib.hid (HB.out.trans (hfin.mono HB.out.size))
      clear hfin
      have HXD := Lib.hid hx8; clear hx8 hge8
      obtain ⟨cHXP_0, cHXP_1, cHXP_2, cHXP_3⟩ := box4 HXP.out
      go_wp2_with fail
      refine (HCK.out _ HR.out).mono ?_
      rintro e s4 ⟨rfl, hb⟩
      replace HR := Lib.hid (HR.out.below hb); replace HXP := Lib.hid (HXP.out.below hb); replace HXN := Lib.hid (HXN.out.below hb); replace HXC := Lib.hid (HXC.out.below hb)
      replace HXR := Lib.hid (HXR.out.below hb); replace HXD := Lib.hid (HXD.out.below hb); replace HB := Lib.hid (HB.out.trans (hb.mono HB.out.size))
      clear hb
      clear cHXP_0 cHXP_1 cHXP_2 cHXP_3
      go_upto_region 7 with fail
      go_cut [12, 13] from 50 to 85 (fun a b wx => a = .int .i64 z1 ∧ b = .int .i64 z2 ∧ Below s4.heap.size s4 wx)
      case first =>
        obtain ⟨cHXP_0, cHXP_1, cHXP_2, cHXP_3⟩ := box4 HXP.out
        obtain ⟨cHXN_0, cHXN_1, cHXN_2, cHXN_3, cHXN_4, cHXN_5⟩ := box6 HXN.out
        obtain ⟨cHXC_0, cHXC_1⟩ := box2 HXC.out
        obtain ⟨cHXR_0, cHXR_1⟩ := box2 HXR.out
        have zP := HXP.out.lt; have zN := HXN.out.lt; have zC := HXC.out.lt; have zR := HXR.out.lt
        by_cases hlo1 : n4 < 0 <;> by_cases hlo2 : n5 < 0
        · refine wp_region_facts [Fact.is (.int .i64 (zb)), Fact.is (.pointer (some ⟨bN, 4, none⟩)), Fact.is (.int .i64 (n4)), Fact.is (.bool true), Fact.is (.bool true), Fact.is (undef), Fact.is (undef), Fact.is (undef), Fact.is (undef), Fact.is (undef), Fact.is (.bool true), Fact.is (.int .i64 (errIf true 10)), Fact.is (.pointer (some ⟨bN, 5, none⟩)), Fact.is (.int .i64 (n5)), Fact.is (.bool true), Fact.is (.bool true), Fact.is (undef), Fact.is (undef), Fact.is (undef), Fact.is (undef), Fact.is (undef), Fact.is (.bool true), Fact.is (.int .i64 (errIf true 10)), Fact.ints 3 [zb, errIf true 10, errIf true 10], Fact.is (.int .i64 (z1)), Fact.is (.int .i64 (zb)), Fact.is (.agg #[.int .i64 n0, .int .i64 n1]), Fact.is (.pointer (some ⟨bP, 1, none⟩)), Fact.is (.int .i64 (X)), Fact.is (.int .i64 (errIf (decide (n0 < 0) || decide (n1 ≤ n0) || decide (X < n1)) 14)), Fact.is (.agg #[.int .i64 n2, .int .i64 n3]), Fact.is (.pointer (some ⟨bP, 2, none⟩)), Fact.is (.int .i64 (Y)), Fact.is (.int .i64 (errIf (decide (n2 < 0) || decide (n3 ≤ n2) || decide (Y < n3)) 14)), Fact.ints 3 [zb, errIf (decide (n0 < 0) || decide (n1 ≤ n0) || decide (X < n1)) 14, errIf (decide (n2 < 0) || decide (n3 ≤ n2) || decide (Y < n3)) 14], Fact.is (.int .i64 (z2)), Fact.is (.int .i64 (z1)), Fact.is (.int .i64 (z2))] [[], [], [1], [2], [3], [4], [4, 5], [4], [4, 7], [4, 6, 8], [4, 9], [10], [], [12], [13], [14], [15], [15, 16], [15], [15, 18], [15, 17, 19], [15, 20], [21], [0, 11, 22], [23], [], [], [], [27], [26, 28], [], [], [31], [30, 32], [25, 29, 33], [34], [24], [35]] [(some 50, 0), (some 51, 1), (some 52, 2), (some 53, 3), (some 54, 4), (some 55, 5), (some 56, 6), (some 57, 7), (some 58, 8), (some 59, 9), (some 60, 10), (some 61, 11), (some 62, 12), (some 63, 13), (some 64, 14), (some 65, 15), (some 66, 16), (some 67, 17), (some 68, 18), (some 69, 19), (some 70, 20), (some 71, 21), (some 72, 22), (some 73, 23), (some 74, 24), (some 75, 25), (some 76, 26), (some 77, 27), (some 78, 28), (some 79, 29), (some 80, 30), (some 81, 31), (some 82, 32), (some 83, 33), (some 84, 34), (some 85, 35), (some 12, 36), (some 13, 37)] (by kernel_rfl) (by kernel_rfl) (by kernel_rfl) (by kernel_rfl) (fun _ _ _ _ e h => by have h1 : _ ∧ _ := h; exact ⟨e ▸ h1.1, h1.2⟩) ?hstep ?hend
          case hstep =>
            intro i hi
            match i, hi with
            | 0, _ =>
              intro v w' hR hd
              change SpecOp _ _ _ _ 0 (canon _ v _ []) w' _
              simp only [canon_nil]
              refine spec_of rfl (fun KK hK => ?_)
              go_simp
              exact hK.out _ _ (Below.refl _ _) rfl
            | 1, _ =>
              intro v w' hR hd
              change SpecOp _ _ _ _ 1 (canon _ v _ []) w' _
              simp only [canon_nil]
              refine spec_of rfl (fun KK hK => ?_)
              go_simp
              exact hK.out _ _ (Below.refl _ _) rfl
            | 2, _ =>
              intro v w' hR hd
              have e1 : v 1 = .pointer (some ⟨bN, 4, none⟩) := hd 1 (by decide)
              change SpecOp _ _ _ _ 2 (Act.put (canon _ v _ []) (some 51) (v 1)) w' _
              rw [e1]
              simp only [canon_nil, Act.put, List.setIfInBounds_toArray, List.set_cons_zero, List.set_cons_succ]
              have q0 := (hR.cell (p := ⟨bN, 4, none⟩) zN).trans cHXN_4
              refine spec_of rfl (fun KK hK => ?_)
              go_simp
              exact hK.out _ _ (Below.refl _ _) rfl
            | 3, _ =>
              intro v w' hR hd
              have e2 : v 2 = .int .i64 (n4) := hd 2 (by decide)
              change SpecOp _ _ _ _ 3 (Act.put (canon _ v _ []) (some 52) (v 2)) w' _
              rw [e2]
              simp only [canon_nil, Act.put, List.setIfInBounds_toArray, List.set_cons_zero, List.set_cons_succ]
              refine spec_of rfl (fun KK hK => ?_)
              go_simp
              exact hK.out _ _ (Below.refl _ _) (by first | rfl | exact congrArg Value.bool (decide_eq_true hlo1))
            | 4, _ =>
              intro v w' hR hd
              have e3 : v 3 = .bool true := hd 3 (by decide)
              change SpecOp _ _ _ _ 4 (Act.put (canon _ v _ []) (some 53) (v 3)) w' _
              rw [e3]
              simp only [canon_nil, Act.put, List.setIfInBounds_toArray, List.set_cons_zero, List.set_cons_succ]
              refine spec_of rfl (fun KK hK => ?_)
              go_simp
              exact hK.out _ _ (Below.refl _ _) rfl
            | 5, _ =>
              intro v w' hR hd
              have e4 : v 4 = .bool true := hd 4 (by decide)
              change SpecOp _ _ _ _ 5 (Act.put (canon _ v _ []) (some 54) (v 4)) w' _
              rw [e4]
              simp only [canon_nil, Act.put, List.setIfInBounds_toArray, List.set_cons_zero, List.set_cons_succ]
              refine spec_of rfl (fun KK hK => ?_)
              go_simp
              exact hK.out _ _ (Below.refl _ _) rfl
            | 6, _ =>
              intro v w' hR hd
              have e4 : v 4 = .bool true := hd 4 (by decide)
              have e5 : v 5 = undef := hd 5 (by decide)
              change SpecOp _ _ _ _ 6 (Act.put (Act.put (canon _ v _ []) (some 55) (v 5)) (some 54) (v 4)) w' _
              rw [e4, e5]
              simp only [canon_nil, Act.put, List.setIfInBounds_toArray, List.set_cons_zero, List.set_cons_succ]
              refine spec_of rfl (fun KK hK => ?_)
              go_simp
              exact hK.out _ _ (Below.refl _ _) rfl
            | 7, _ =>
              intro v w' hR hd
              have e4 : v 4 = .bool true := hd 4 (by decide)
              change SpecOp _ _ _ _ 7 (Act.put (canon _ v _ []) (some 54) (v 4)) w' _
              rw [e4]
              simp only [canon_nil, Act.put, List.setIfInBounds_toArray, List.set_cons_zero, List.set_cons_succ]
              refine spec_of rfl (fun KK hK => ?_)
              go_simp
              exact hK.out _ _ (Below.refl _ _) rfl
            | 8, _ =>
              intro v w' hR hd
              have e4 : v 4 = .bool true := hd 4 (by decide)
              have e7 : v 7 = undef := hd 7 (by decide)
              change SpecOp _ _ _ _ 8 (Act.put (Act.put (canon _ v _ []) (some 57) (v 7)) (some 54) (v 4)) w' _
              rw [e4, e7]
              simp only [canon_nil, Act.put, List.setIfInBounds_toArray, List.set_cons_zero, List.set_cons_succ]
              refine spec_of rfl (fun KK hK => ?_)
              go_simp
              exact hK.out _ _ (Below.refl _ _) rfl
            | 9, _ =>
              intro v w' hR hd
              have e4 : v 4 = .bool true := hd 4 (by decide)
              have e6 : v 6 = undef := hd 6 (by decide)
              have e8 : v 8 = undef := hd 8 (by decide)
              change SpecOp _ _ _ _ 9 (Act.put (Act.put (Act.put (canon _ v _ []) (some 58) (v 8)) (some 56) (v 6)) (some 54) (v 4)) w' _
              rw [e4, e6, e8]
              simp only [canon_nil, Act.put, List.setIfInBounds_toArray, List.set_cons_zero, List.set_cons_succ]
              refine spec_of rfl (fun KK hK => ?_)
              go_simp
              exact hK.out _ _ (Below.refl _ _) rfl
            | 10, _ =>
              intro v w' hR hd
              have e4 : v 4 = .bool true := hd 4 (by decide)
              have e9 : v 9 = undef := hd 9 (by decide)
              change SpecOp _ _ _ _ 10 (Act.put (Act.put (canon _ v _ []) (some 59) (v 9)) (some 54) (v 4)) w' _
              rw [e4, e9]
              simp only [canon_nil, Act.put, List.setIfInBounds_toArray, List.set_cons_zero, List.set_cons_succ]
              refine spec_of rfl (fun KK hK => ?_)
              go_simp
              exact hK.out _ _ (Below.refl _ _) rfl
            | 11, _ =>
              intro v w' hR hd
              have e10 : v 10 = .bool true := hd 10 (by decide)
              change SpecOp _ _ _ _ 11 (Act.put (canon _ v _ []) (some 60) (v 10)) w' _
              rw [e10]
              simp only [canon_nil, Act.put, List.setIfInBounds_toArray, List.set_cons_zero, List.set_cons_succ]
              refine spec_of rfl (fun KK hK => ?_)
              go_simp
              refine (when_any _ _ _).mono ?_
              rintro e wn ⟨rfl, rfl⟩
              exact hK.out _ _ (Below.refl _ _) rfl
            | 12, _ =>
              intro v w' hR hd
              change SpecOp _ _ _ _ 12 (canon _ v _ []) w' _
              simp only [canon_nil]
              refine spec_of rfl (fun KK hK => ?_)
              go_simp
              exact hK.out _ _ (Below.refl _ _) rfl
            | 13, _ =>
              intro v w' hR hd
              have e12 : v 12 = .pointer (some ⟨bN, 5, none⟩) := hd 12 (by decide)
              change SpecOp _ _ _ _ 13 (Act.put (canon _ v _ []) (some 62) (v 12)) w' _
              rw [e12]
              simp only [canon_nil, Act.put, List.setIfInBounds_toArray, List.set_cons_zero, List.set_cons_succ]
              have q0 := (hR.cell (p := ⟨bN, 5, none⟩) zN).trans cHXN_5
              refine spec_of rfl (fun KK hK => ?_)
              go_simp
              exact hK.out _ _ (Below.refl _ _) rfl
            | 14, _ =>
              intro v w' hR hd
              have e13 : v 13 = .int .i64 (n5) := hd 13 (by decide)
              change SpecOp _ _ _ _ 14 (Act.put (canon _ v _ []) (some 63) (v 13)) w' _
              rw [e13]
              simp only [canon_nil, Act.put, List.setIfInBounds_toArray, List.set_cons_zero, List.set_cons_succ]
              refine spec_of rfl (fun KK hK => ?_)
              go_simp
              exact hK.out _ _ (Below.refl _ _) (by first | rfl | exact congrArg Value.bool (decide_eq_true hlo2))
            | 15, _ =>
              intro v w' hR hd
              have e14 : v 14 = .bool true := hd 14 (by decide)
              change SpecOp _ _ _ _ 15 (Act.put (canon _ v _ []) (some 64) (v 14)) w' _
              rw [e14]
              simp only [canon_nil, Act.put, List.setIfInBounds_toArray, List.set_cons_zero, List.set_cons_succ]
              refine spec_of rfl (fun KK hK => ?_)
              go_simp
              exact hK.out _ _ (Below.refl _ _) rfl
            | 16, _ =>
              intro v w' hR hd
              have e15 : v 15 = .bool true := hd 15 (by decide)
              change SpecOp _ _ _ _ 16 (Act.put (canon _ v _ []) (some 65) (v 15)) w' _
              rw [e15]
              simp only [canon_nil, Act.put, List.setIfInBounds_toArray, List.set_cons_zero, List.set_cons_succ]
              refine spec_of rfl (fun KK hK => ?_)
              go_simp
              exact hK.out _ _ (Below.refl _ _) rfl
            | 17, _ =>
              intro v w' hR hd
              have e15 : v 15 = .bool true := hd 15 (by decide)
              have e16 : v 16 = undef := hd 16 (by decide)
              change SpecOp _ _ _ _ 17 (Act.put (Act.put (canon _ v _ []) (some 66) (v 16)) (some 65) (v 15)) w' _
              rw [e15, e16]
              simp only [canon_nil, Act.put, List.setIfInBounds_toArray, List.set_cons_zero, List.set_cons_succ]
              refine spec_of rfl (fun KK hK => ?_)
              go_simp
              exact hK.out _ _ (Below.refl _ _) rfl
            | 18, _ =>
              intro v w' hR hd
              have e15 : v 15 = .bool true := hd 15 (by decide)
              change SpecOp _ _ _ _ 18 (Act.put (canon _ v _ []) (some 65) (v 15)) w' _
              rw [e15]
              simp only [canon_nil, Act.put, List.setIfInBounds_toArray, List.set_cons_zero, List.set_cons_succ]
              refine spec_of rfl (fun KK hK => ?_)
              go_simp
              exact hK.out _ _ (Below.refl _ _) rfl
            | 19, _ =>
              intro v w' hR hd
              have e15 : v 15 = .bool true := hd 15 (by decide)
              have e18 : v 18 = undef := hd 18 (by decide)
              change SpecOp _ _ _ _ 19 (Act.put (Act.put (canon _ v _ []) (some 68) (v 18)) (some 65) (v 15)) w' _
              rw [e15, e18]
              simp only [canon_nil, Act.put, List.setIfInBounds_toArray, List.set_cons_zero, List.set_cons_succ]
              refine spec_of rfl (fun KK hK => ?_)
              go_simp
              exact hK.out _ _ (Below.refl _ _) rfl
            | 20, _ =>
              intro v w' hR hd
              have e15 : v 15 = .bool true := hd 15 (by decide)
              have e17 : v 17 = undef := hd 17 (by decide)
              have e19 : v 19 = undef := hd 19 (by decide)
              change SpecOp _ _ _ _ 20 (Act.put (Act.put (Act.put (canon _ v _ []) (some 69) (v 19)) (some 67) (v 17)) (some 65) (v 15)) w' _
              rw [e15, e17, e19]
              simp only [canon_nil, Act.put, List.setIfInBounds_toArray, List.set_cons_zero, List.set_cons_succ]
              refine spec_of rfl (fun KK hK => ?_)
              go_simp
              exact hK.out _ _ (Below.refl _ _) rfl
            | 21, _ =>
              intro v w' hR hd
              have e15 : v 15 = .bool true := hd 15 (by decide)
              have e20 : v 20 = undef := hd 20 (by decide)
              change SpecOp _ _ _ _ 21 (Act.put (Act.put (canon _ v _ []) (some 70) (v 20)) (some 65) (v 15)) w' _
              rw [e15, e20]
              simp only [canon_nil, Act.put, List.setIfInBounds_toArray, List.set_cons_zero, List.set_cons_succ]
              refine spec_of rfl (fun KK hK => ?_)
              go_simp
              exact hK.out _ _ (Below.refl _ _) rfl
            | 22, _ =>
              intro v w' hR hd
              have e21 : v 21 = .bool true := hd 21 (by decide)
              change SpecOp _ _ _ _ 22 (Act.put (canon _ v _ []) (some 71) (v 21)) w' _
              rw [e21]
              simp only [canon_nil, Act.put, List.setIfInBounds_toArray, List.set_cons_zero, List.set_cons_succ]
              refine spec_of rfl (fun KK hK => ?_)
              go_simp
              refine (when_any _ _ _).mono ?_
              rintro e wn ⟨rfl, rfl⟩
              exact hK.out _ _ (Below.refl _ _) rfl
            | 23, _ =>
              intro v w' hR hd
              have e0 : v 0 = .int .i64 (zb) := hd 0 (by decide)
              have e11 : v 11 = .int .i64 (errIf true 10) := hd 11 (by decide)
              have e22 : v 22 = .int .i64 (errIf true 10) := hd 22 (by decide)
              change SpecOp _ _ _ _ 23 (Act.put (Act.put (Act.put (canon _ v _ []) (some 72) (v 22)) (some 61) (v 11)) (some 50) (v 0)) w' _
              rw [e0, e11, e22]
              simp only [canon_nil, Act.put, List.setIfInBounds_toArray, List.set_cons_zero, List.set_cons_succ]
              refine spec_of rfl (fun KK hK => ?_)
              go_simp
              exact hK.out _ _ ((Below.refl _ _).alloc (Nat.le_refl _) _) ⟨_, _, rfl, rd_of_blk (Blk.new _ _ _) rfl⟩
            | 24, _ =>
              intro v w' hR hd
              obtain ⟨A23, k23, e23, r23⟩ : ∃ A c, v 23 = .slice A 3 c ∧ Rd w' A ([zb, errIf true 10, errIf true 10].map (.int .i64)) := hd 23 (by decide)
              change SpecOp _ _ _ _ 24 (Act.put (canon _ v _ []) (some 73) (v 23)) w' _
              rw [e23]
              simp only [canon_nil, Act.put, List.setIfInBounds_toArray, List.set_cons_zero, List.set_cons_succ]
              refine spec_of rfl (fun KK hK => ?_)
              go_simp
              refine (firstL_n _ _ _ [_, _, _] _ rfl (by simp [maxLen]) r23).mono ?_
              rintro e wn ⟨rfl, rfl⟩
              exact hK.out _ _ (Below.refl _ _) (congrArg (Value.int .i64) (show firstE [zb, errIf true 10, errIf true 10] = z1 from by have h := HF1.out; rw [decide_eq_true hlo1, decide_eq_true hlo2] at h; simp only [Bool.true_or] at h; exact h))
            | 25, _ =>
              intro v w' hR hd
              change SpecOp _ _ _ _ 25 (canon _ v _ []) w' _
              simp only [canon_nil]
              refine spec_of rfl (fun KK hK => ?_)
              go_simp
              exact hK.out _ _ (Below.refl _ _) rfl
            | 26, _ =>
              intro v w' hR hd
              change SpecOp _ _ _ _ 26 (canon _ v _ []) w' _
              simp only [canon_nil]
              have q0 := (hR.cell (p := ⟨bC, 0, none⟩) zC).trans cHXC_0
              have q1 := (hR.cell (p := ⟨bC, 1, none⟩) zC).trans cHXC_1
              refine spec_of rfl (fun KK hK => ?_)
              go_simp
              exact hK.out _ _ (Below.refl _ _) rfl
            | 27, _ =>
              intro v w' hR hd
              change SpecOp _ _ _ _ 27 (canon _ v _ []) w' _
              simp only [canon_nil]
              refine spec_of rfl (fun KK hK => ?_)
              go_simp
              exact hK.out _ _ (Below.refl _ _) rfl
            | 28, _ =>
              intro v w' hR hd
              have e27 : v 27 = .pointer (some ⟨bP, 1, none⟩) := hd 27 (by decide)
              change SpecOp _ _ _ _ 28 (Act.put (canon _ v _ []) (some 77) (v 27)) w' _
              rw [e27]
              simp only [canon_nil, Act.put, List.setIfInBounds_toArray, List.set_cons_zero, List.set_cons_succ]
              have q0 := (hR.cell (p := ⟨bP, 1, none⟩) zP).trans cHXP_1
              refine spec_of rfl (fun KK hK => ?_)
              go_simp
              exact hK.out _ _ (Below.refl _ _) rfl
            | 29, _ =>
              intro v w' hR hd
              have e26 : v 26 = .agg #[.int .i64 n0, .int .i64 n1] := hd 26 (by decide)
              have e28 : v 28 = .int .i64 (X) := hd 28 (by decide)
              change SpecOp _ _ _ _ 29 (Act.put (Act.put (canon _ v _ []) (some 78) (v 28)) (some 76) (v 26)) w' _
              rw [e26, e28]
              simp only [canon_nil, Act.put, List.setIfInBounds_toArray, List.set_cons_zero, List.set_cons_succ]
              refine spec_of rfl (fun KK hK => ?_)
              go_simp
              refine (checkFull_any _ _ _ _).mono ?_
              rintro e wn ⟨rfl, hbn⟩
              exact hK.out _ _ hbn rfl
            | 30, _ =>
              intro v w' hR hd
              change SpecOp _ _ _ _ 30 (canon _ v _ []) w' _
              simp only [canon_nil]
              have q0 := (hR.cell (p := ⟨bR, 0, none⟩) zR).trans cHXR_0
              have q1 := (hR.cell (p := ⟨bR, 1, none⟩) zR).trans cHXR_1
              refine spec_of rfl (fun KK hK => ?_)
              go_simp
              exact hK.out _ _ (Below.refl _ _) rfl
            | 31, _ =>
              intro v w' hR hd
              change SpecOp _ _ _ _ 31 (canon _ v _ []) w' _
              simp only [canon_nil]
              refine spec_of rfl (fun KK hK => ?_)
              go_simp
              exact hK.out _ _ (Below.refl _ _) rfl
            | 32, _ =>
              intro v w' hR hd
              have e31 : v 31 = .pointer (some ⟨bP, 2, none⟩) := hd 31 (by decide)
              change SpecOp _ _ _ _ 32 (Act.put (canon _ v _ []) (some 81) (v 31)) w' _
              rw [e31]
              simp only [canon_nil, Act.put, List.setIfInBounds_toArray, List.set_cons_zero, List.set_cons_succ]
              have q0 := (hR.cell (p := ⟨bP, 2, none⟩) zP).trans cHXP_2
              refine spec_of rfl (fun KK hK => ?_)
              go_simp
              exact hK.out _ _ (Below.refl _ _) rfl
            | 33, _ =>
              intro v w' hR hd
              have e30 : v 30 = .agg #[.int .i64 n2, .int .i64 n3] := hd 30 (by decide)
              have e32 : v 32 = .int .i64 (Y) := hd 32 (by decide)
              change SpecOp _ _ _ _ 33 (Act.put (Act.put (canon _ v _ []) (some 82) (v 32)) (some 80) (v 30)) w' _
              rw [e30, e32]
              simp only [canon_nil, Act.put, List.setIfInBounds_toArray, List.set_cons_zero, List.set_cons_succ]
              refine spec_of rfl (fun KK hK => ?_)
              go_simp
              refine (checkFull_any _ _ _ _).mono ?_
              rintro e wn ⟨rfl, hbn⟩
              exact hK.out _ _ hbn rfl
            | 34, _ =>
              intro v w' hR hd
              have e25 : v 25 = .int .i64 (zb) := hd 25 (by decide)
              have e29 : v 29 = .int .i64 (errIf (decide (n0 < 0) || decide (n1 ≤ n0) || decide (X < n1)) 14) := hd 29 (by decide)
              have e33 : v 33 = .int .i64 (errIf (decide (n2 < 0) || decide (n3 ≤ n2) || decide (Y < n3)) 14) := hd 33 (by decide)
              change SpecOp _ _ _ _ 34 (Act.put (Act.put (Act.put (canon _ v _ []) (some 83) (v 33)) (some 79) (v 29)) (some 75) (v 25)) w' _
              rw [e25, e29, e33]
              simp only [canon_nil, Act.put, List.setIfInBounds_toArray, List.set_cons_zero, List.set_cons_succ]
              refine spec_of rfl (fun KK hK => ?_)
              go_simp
              exact hK.out _ _ ((Below.refl _ _).alloc (Nat.le_refl _) _) ⟨_, _, rfl, rd_of_blk (Blk.new _ _ _) rfl⟩
            | 35, _ =>
              intro v w' hR hd
              obtain ⟨A34, k34, e34, r34⟩ : ∃ A c, v 34 = .slice A 3 c ∧ Rd w' A ([zb, errIf (decide (n0 < 0) || decide (n1 ≤ n0) || decide (X < n1)) 14, errIf (decide (n2 < 0) || decide (n3 ≤ n2) || decide (Y < n3)) 14].map (.int .i64)) := hd 34 (by decide)
              change SpecOp _ _ _ _ 35 (Act.put (canon _ v _ []) (some 84) (v 34)) w' _
              rw [e34]
              simp only [canon_nil, Act.put, List.setIfInBounds_toArray, List.set_cons_zero, List.set_cons_succ]
              refine spec_of rfl (fun KK hK => ?_)
              go_simp
              refine (firstL_n _ _ _ [_, _, _] _ rfl (by simp [maxLen]) r34).mono ?_
              rintro e wn ⟨rfl, rfl⟩
              exact hK.out _ _ (Below.refl _ _) (congrArg (Value.int .i64) HF2.out)
            | 36, _ =>
              intro v w' hR hd
              have e24 : v 24 = .int .i64 (z1) := hd 24 (by decide)
              change SpecOp _ _ _ _ 36 (Act.put (canon _ v _ []) (some 74) (v 24)) w' _
              rw [e24]
              simp only [canon_nil, Act.put, List.setIfInBounds_toArray, List.set_cons_zero, List.set_cons_succ]
              refine spec_of rfl (fun KK hK => ?_)
              go_simp
              exact hK.out _ _ (Below.refl _ _) rfl
            | 37, _ =>
              intro v w' hR hd
              have e35 : v 35 = .int .i64 (z2) := hd 35 (by decide)
              change SpecOp _ _ _ _ 37 (Act.put (canon _ v _ []) (some 85) (v 35)) w' _
              rw [e35]
              simp only [canon_nil, Act.put, List.setIfInBounds_toArray, List.set_cons_zero, List.set_cons_succ]
              refine spec_of rfl (fun KK hK => ?_)
              go_simp
              exact hK.out _ _ (Below.refl _ _) rfl
            | i + 38, h => exact absurd h (Nat.not_lt.2 (Nat.le_add_left 38 i))
          case hend =>
            intro v w' hR hall
            simp only [putL, Act.put, List.setIfInBounds_toArray, List.set_cons_zero, List.set_cons_succ]
            have e0 : v 0 = .int .i64 (zb) := hall 0 (by decide)
            have e1 : v 1 = .pointer (some ⟨bN, 4, none⟩) := hall 1 (by decide)
            have e2 : v 2 = .int .i64 (n4) := hall 2 (by decide)
            have e3 : v 3 = .bool true := hall 3 (by decide)
            have e4 : v 4 = .bool true := hall 4 (by decide)
            have e5 : v 5 = undef := hall 5 (by decide)
            have e6 : v 6 = undef := hall 6 (by decide)
            have e7 : v 7 = undef := hall 7 (by decide)
            have e8 : v 8 = undef := hall 8 (by decide)
            have e9 : v 9 = undef := hall 9 (by decide)
            have e10 : v 10 = .bool true := hall 10 (by decide)
            have e11 : v 11 = .int .i64 (errIf true 10) := hall 11 (by decide)
            have e12 : v 12 = .pointer (some ⟨bN, 5, none⟩) := hall 12 (by decide)
            have e13 : v 13 = .int .i64 (n5) := hall 13 (by decide)
            have e14 : v 14 = .bool true := hall 14 (by decide)
            have e15 : v 15 = .bool true := hall 15 (by decide)
            have e16 : v 16 = undef := hall 16 (by decide)
            have e17 : v 17 = undef := hall 17 (by decide)
            have e18 : v 18 = undef := hall 18 (by decide)
            have e19 : v 19 = undef := hall 19 (by decide)
            have e20 : v 20 = undef := hall 20 (by decide)
            have e21 : v 21 = .bool true := hall 21 (by decide)
            have e22 : v 22 = .int .i64 (errIf true 10) := hall 22 (by decide)
            obtain ⟨A23, k23, e23, r23⟩ : ∃ A c, v 23 = .slice A 3 c ∧ Rd w' A ([zb, errIf true 10, errIf true 10].map (.int .i64)) := hall 23 (by decide)
            have e24 : v 24 = .int .i64 (z1) := hall 24 (by decide)
            have e25 : v 25 = .int .i64 (zb) := hall 25 (by decide)
            have e26 : v 26 = .agg #[.int .i64 n0, .int .i64 n1] := hall 26 (by decide)
            have e27 : v 27 = .pointer (some ⟨bP, 1, none⟩) := hall 27 (by decide)
            have e28 : v 28 = .int .i64 (X) := hall 28 (by decide)
            have e29 : v 29 = .int .i64 (errIf (decide (n0 < 0) || decide (n1 ≤ n0) || decide (X < n1)) 14) := hall 29 (by decide)
            have e30 : v 30 = .agg #[.int .i64 n2, .int .i64 n3] := hall 30 (by decide)
            have e31 : v 31 = .pointer (some ⟨bP, 2, none⟩) := hall 31 (by decide)
            have e32 : v 32 = .int .i64 (Y) := hall 32 (by decide)
            have e33 : v 33 = .int .i64 (errIf (decide (n2 < 0) || decide (n3 ≤ n2) || decide (Y < n3)) 14) := hall 33 (by decide)
            obtain ⟨A34, k34, e34, r34⟩ : ∃ A c, v 34 = .slice A 3 c ∧ Rd w' A ([zb, errIf (decide (n0 < 0) || decide (n1 ≤ n0) || decide (X < n1)) 14, errIf (decide (n2 < 0) || decide (n3 ≤ n2) || decide (Y < n3)) 14].map (.int .i64)) := hall 34 (by decide)
            have e35 : v 35 = .int .i64 (z2) := hall 35 (by decide)
            have e36 : v 36 = .int .i64 (z1) := hall 36 (by decide)
            have e37 : v 37 = .int .i64 (z2) := hall 37 (by decide)
            go_wp2_with fail
            go_meet
            exact ⟨by first | rfl | exact e36, by first | rfl | exact e37, hR⟩
        · refine wp_region_facts [Fact.is (.int .i64 (zb)), Fact.is (.pointer (some ⟨bN, 4, none⟩)), Fact.is (.int .i64 (n4)), Fact.is (.bool true), Fact.is (.bool true), Fact.is (undef), Fact.is (undef), Fact.is (undef), Fact.is (undef), Fact.is (undef), Fact.is (.bool true), Fact.is (.int .i64 (errIf true 10)), Fact.is (.pointer (some ⟨bN, 5, none⟩)), Fact.is (.int .i64 (n5)), Fact.is (.bool false), Fact.is (.bool false), Fact.is (.pointer (some ⟨bN, 5, none⟩)), Fact.is (.int .i64 (n5)), Fact.is (.pointer (some ⟨bP, 2, none⟩)), Fact.is (.int .i64 (Y)), Fact.is (.bool (decide (Y ≤ n5))), Fact.is (.bool (decide (Y ≤ n5))), Fact.is (.int .i64 (errIf (decide (Y ≤ n5)) 10)), Fact.ints 3 [zb, errIf true 10, errIf (decide (Y ≤ n5)) 10], Fact.is (.int .i64 (z1)), Fact.is (.int .i64 (zb)), Fact.is (.agg #[.int .i64 n0, .int .i64 n1]), Fact.is (.pointer (some ⟨bP, 1, none⟩)), Fact.is (.int .i64 (X)), Fact.is (.int .i64 (errIf (decide (n0 < 0) || decide (n1 ≤ n0) || decide (X < n1)) 14)), Fact.is (.agg #[.int .i64 n2, .int .i64 n3]), Fact.is (.pointer (some ⟨bP, 2, none⟩)), Fact.is (.int .i64 (Y)), Fact.is (.int .i64 (errIf (decide (n2 < 0) || decide (n3 ≤ n2) || decide (Y < n3)) 14)), Fact.ints 3 [zb, errIf (decide (n0 < 0) || decide (n1 ≤ n0) || decide (X < n1)) 14, errIf (decide (n2 < 0) || decide (n3 ≤ n2) || decide (Y < n3)) 14], Fact.is (.int .i64 (z2)), Fact.is (.int .i64 (z1)), Fact.is (.int .i64 (z2))] [[], [], [1], [2], [3], [4], [4, 5], [4], [4, 7], [4, 6, 8], [4, 9], [10], [], [12], [13], [14], [15], [15, 16], [15], [15, 18], [15, 17, 19], [15, 20], [21], [0, 11, 22], [23], [], [], [], [27], [26, 28], [], [], [31], [30, 32], [25, 29, 33], [34], [24], [35]] [(some 50, 0), (some 51, 1), (some 52, 2), (some 53, 3), (some 54, 4), (some 55, 5), (some 56, 6), (some 57, 7), (some 58, 8), (some 59, 9), (some 60, 10), (some 61, 11), (some 62, 12), (some 63, 13), (some 64, 14), (some 65, 15), (some 66, 16), (some 67, 17), (some 68, 18), (some 69, 19), (some 70, 20), (some 71, 21), (some 72, 22), (some 73, 23), (some 74, 24), (some 75, 25), (some 76, 26), (some 77, 27), (some 78, 28), (some 79, 29), (some 80, 30), (some 81, 31), (some 82, 32), (some 83, 33), (some 84, 34), (some 85, 35), (some 12, 36), (some 13, 37)] (by kernel_rfl) (by kernel_rfl) (by kernel_rfl) (by kernel_rfl) (fun _ _ _ _ e h => by have h1 : _ ∧ _ := h; exact ⟨e ▸ h1.1, h1.2⟩) ?hstep ?hend
          case hstep =>
            intro i hi
            match i, hi with
            | 0, _ =>
              intro v w' hR hd
              change SpecOp _ _ _ _ 0 (canon _ v _ []) w' _
              simp only [canon_nil]
              refine spec_of rfl (fun KK hK => ?_)
              go_simp
              exact hK.out _ _ (Below.refl _ _) rfl
            | 1, _ =>
              intro v w' hR hd
              change SpecOp _ _ _ _ 1 (canon _ v _ []) w' _
              simp only [canon_nil]
              refine spec_of rfl (fun KK hK => ?_)
              go_simp
              exact hK.out _ _ (Below.refl _ _) rfl
            | 2, _ =>
              intro v w' hR hd
              have e1 : v 1 = .pointer (some ⟨bN, 4, none⟩) := hd 1 (by decide)
              change SpecOp _ _ _ _ 2 (Act.put (canon _ v _ []) (some 51) (v 1)) w' _
              rw [e1]
              simp only [canon_nil, Act.put, List.setIfInBounds_toArray, List.set_cons_zero, List.set_cons_succ]
              have q0 := (hR.cell (p := ⟨bN, 4, none⟩) zN).trans cHXN_4
              refine spec_of rfl (fun KK hK => ?_)
              go_simp
              exact hK.out _ _ (Below.refl _ _) rfl
            | 3, _ =>
              intro v w' hR hd
              have e2 : v 2 = .int .i64 (n4) := hd 2 (by decide)
              change SpecOp _ _ _ _ 3 (Act.put (canon _ v _ []) (some 52) (v 2)) w' _
              rw [e2]
              simp only [canon_nil, Act.put, List.setIfInBounds_toArray, List.set_cons_zero, List.set_cons_succ]
              refine spec_of rfl (fun KK hK => ?_)
              go_simp
              exact hK.out _ _ (Below.refl _ _) (by first | rfl | exact congrArg Value.bool (decide_eq_true hlo1))
            | 4, _ =>
              intro v w' hR hd
              have e3 : v 3 = .bool true := hd 3 (by decide)
              change SpecOp _ _ _ _ 4 (Act.put (canon _ v _ []) (some 53) (v 3)) w' _
              rw [e3]
              simp only [canon_nil, Act.put, List.setIfInBounds_toArray, List.set_cons_zero, List.set_cons_succ]
              refine spec_of rfl (fun KK hK => ?_)
              go_simp
              exact hK.out _ _ (Below.refl _ _) rfl
            | 5, _ =>
              intro v w' hR hd
              have e4 : v 4 = .bool true := hd 4 (by decide)
              change SpecOp _ _ _ _ 5 (Act.put (canon _ v _ []) (some 54) (v 4)) w' _
              rw [e4]
              simp only [canon_nil, Act.put, List.setIfInBounds_toArray, List.set_cons_zero, List.set_cons_succ]
              refine spec_of rfl (fun KK hK => ?_)
              go_simp
              exact hK.out _ _ (Below.refl _ _) rfl
            | 6, _ =>
              intro v w' hR hd
              have e4 : v 4 = .bool true := hd 4 (by decide)
              have e5 : v 5 = undef := hd 5 (by decide)
              change SpecOp _ _ _ _ 6 (Act.put (Act.put (canon _ v _ []) (some 55) (v 5)) (some 54) (v 4)) w' _
              rw [e4, e5]
              simp only [canon_nil, Act.put, List.setIfInBounds_toArray, List.set_cons_zero, List.set_cons_succ]
              refine spec_of rfl (fun KK hK => ?_)
              go_simp
              exact hK.out _ _ (Below.refl _ _) rfl
            | 7, _ =>
              intro v w' hR hd
              have e4 : v 4 = .bool true := hd 4 (by decide)
              change SpecOp _ _ _ _ 7 (Act.put (canon _ v _ []) (some 54) (v 4)) w' _
              rw [e4]
              simp only [canon_nil, Act.put, List.setIfInBounds_toArray, List.set_cons_zero, List.set_cons_succ]
              refine spec_of rfl (fun KK hK => ?_)
              go_simp
              exact hK.out _ _ (Below.refl _ _) rfl
            | 8, _ =>
              intro v w' hR hd
              have e4 : v 4 = .bool true := hd 4 (by decide)
              have e7 : v 7 = undef := hd 7 (by decide)
              change SpecOp _ _ _ _ 8 (Act.put (Act.put (canon _ v _ []) (some 57) (v 7)) (some 54) (v 4)) w' _
              rw [e4, e7]
              simp only [canon_nil, Act.put, List.setIfInBounds_toArray, List.set_cons_zero, List.set_cons_succ]
              refine spec_of rfl (fun KK hK => ?_)
              go_simp
              exact hK.out _ _ (Below.refl _ _) rfl
            | 9, _ =>
              intro v w' hR hd
              have e4 : v 4 = .bool true := hd 4 (by decide)
              have e6 : v 6 = undef := hd 6 (by decide)
              have e8 : v 8 = undef := hd 8 (by decide)
              change SpecOp _ _ _ _ 9 (Act.put (Act.put (Act.put (canon _ v _ []) (some 58) (v 8)) (some 56) (v 6)) (some 54) (v 4)) w' _
              rw [e4, e6, e8]
              simp only [canon_nil, Act.put, List.setIfInBounds_toArray, List.set_cons_zero, List.set_cons_succ]
              refine spec_of rfl (fun KK hK => ?_)
              go_simp
              exact hK.out _ _ (Below.refl _ _) rfl
            | 10, _ =>
              intro v w' hR hd
              have e4 : v 4 = .bool true := hd 4 (by decide)
              have e9 : v 9 = undef := hd 9 (by decide)
              change SpecOp _ _ _ _ 10 (Act.put (Act.put (canon _ v _ []) (some 59) (v 9)) (some 54) (v 4)) w' _
              rw [e4, e9]
              simp only [canon_nil, Act.put, List.setIfInBounds_toArray, List.set_cons_zero, List.set_cons_succ]
              refine spec_of rfl (fun KK hK => ?_)
              go_simp
              exact hK.out _ _ (Below.refl _ _) rfl
            | 11, _ =>
              intro v w' hR hd
              have e10 : v 10 = .bool true := hd 10 (by decide)
              change SpecOp _ _ _ _ 11 (Act.put (canon _ v _ []) (some 60) (v 10)) w' _
              rw [e10]
              simp only [canon_nil, Act.put, List.setIfInBounds_toArray, List.set_cons_zero, List.set_cons_succ]
              refine spec_of rfl (fun KK hK => ?_)
              go_simp
              refine (when_any _ _ _).mono ?_
              rintro e wn ⟨rfl, rfl⟩
              exact hK.out _ _ (Below.refl _ _) rfl
            | 12, _ =>
              intro v w' hR hd
              change SpecOp _ _ _ _ 12 (canon _ v _ []) w' _
              simp only [canon_nil]
              refine spec_of rfl (fun KK hK => ?_)
              go_simp
              exact hK.out _ _ (Below.refl _ _) rfl
            | 13, _ =>
              intro v w' hR hd
              have e12 : v 12 = .pointer (some ⟨bN, 5, none⟩) := hd 12 (by decide)
              change SpecOp _ _ _ _ 13 (Act.put (canon _ v _ []) (some 62) (v 12)) w' _
              rw [e12]
              simp only [canon_nil, Act.put, List.setIfInBounds_toArray, List.set_cons_zero, List.set_cons_succ]
              have q0 := (hR.cell (p := ⟨bN, 5, none⟩) zN).trans cHXN_5
              refine spec_of rfl (fun KK hK => ?_)
              go_simp
              exact hK.out _ _ (Below.refl _ _) rfl
            | 14, _ =>
              intro v w' hR hd
              have e13 : v 13 = .int .i64 (n5) := hd 13 (by decide)
              change SpecOp _ _ _ _ 14 (Act.put (canon _ v _ []) (some 63) (v 13)) w' _
              rw [e13]
              simp only [canon_nil, Act.put, List.setIfInBounds_toArray, List.set_cons_zero, List.set_cons_succ]
              refine spec_of rfl (fun KK hK => ?_)
              go_simp
              exact hK.out _ _ (Below.refl _ _) (by first | rfl | exact congrArg Value.bool (decide_eq_false hlo2))
            | 15, _ =>
              intro v w' hR hd
              have e14 : v 14 = .bool false := hd 14 (by decide)
              change SpecOp _ _ _ _ 15 (Act.put (canon _ v _ []) (some 64) (v 14)) w' _
              rw [e14]
              simp only [canon_nil, Act.put, List.setIfInBounds_toArray, List.set_cons_zero, List.set_cons_succ]
              refine spec_of rfl (fun KK hK => ?_)
              go_simp
              exact hK.out _ _ (Below.refl _ _) rfl
            | 16, _ =>
              intro v w' hR hd
              have e15 : v 15 = .bool false := hd 15 (by decide)
              change SpecOp _ _ _ _ 16 (Act.put (canon _ v _ []) (some 65) (v 15)) w' _
              rw [e15]
              simp only [canon_nil, Act.put, List.setIfInBounds_toArray, List.set_cons_zero, List.set_cons_succ]
              refine spec_of rfl (fun KK hK => ?_)
              go_simp
              exact hK.out _ _ (Below.refl _ _) rfl
            | 17, _ =>
              intro v w' hR hd
              have e15 : v 15 = .bool false := hd 15 (by decide)
              have e16 : v 16 = .pointer (some ⟨bN, 5, none⟩) := hd 16 (by decide)
              change SpecOp _ _ _ _ 17 (Act.put (Act.put (canon _ v _ []) (some 66) (v 16)) (some 65) (v 15)) w' _
              rw [e15, e16]
              simp only [canon_nil, Act.put, List.setIfInBounds_toArray, List.set_cons_zero, List.set_cons_succ]
              have q0 := (hR.cell (p := ⟨bN, 5, none⟩) zN).trans cHXN_5
              refine spec_of rfl (fun KK hK => ?_)
              go_simp
              exact hK.out _ _ (Below.refl _ _) rfl
            | 18, _ =>
              intro v w' hR hd
              have e15 : v 15 = .bool false := hd 15 (by decide)
              change SpecOp _ _ _ _ 18 (Act.put (canon _ v _ []) (some 65) (v 15)) w' _
              rw [e15]
              simp only [canon_nil, Act.put, List.setIfInBounds_toArray, List.set_cons_zero, List.set_cons_succ]
              refine spec_of rfl (fun KK hK => ?_)
              go_simp
              exact hK.out _ _ (Below.refl _ _) rfl
            | 19, _ =>
              intro v w' hR hd
              have e15 : v 15 = .bool false := hd 15 (by decide)
              have e18 : v 18 = .pointer (some ⟨bP, 2, none⟩) := hd 18 (by decide)
              change SpecOp _ _ _ _ 19 (Act.put (Act.put (canon _ v _ []) (some 68) (v 18)) (some 65) (v 15)) w' _
              rw [e15, e18]
              simp only [canon_nil, Act.put, List.setIfInBounds_toArray, List.set_cons_zero, List.set_cons_succ]
              have q0 := (hR.cell (p := ⟨bP, 2, none⟩) zP).trans cHXP_2
              refine spec_of rfl (fun KK hK => ?_)
              go_simp
              exact hK.out _ _ (Below.refl _ _) rfl
            | 20, _ =>
              intro v w' hR hd
              have e15 : v 15 = .bool false := hd 15 (by decide)
              have e17 : v 17 = .int .i64 (n5) := hd 17 (by decide)
              have e19 : v 19 = .int .i64 (Y) := hd 19 (by decide)
              change SpecOp _ _ _ _ 20 (Act.put (Act.put (Act.put (canon _ v _ []) (some 69) (v 19)) (some 67) (v 17)) (some 65) (v 15)) w' _
              rw [e15, e17, e19]
              simp only [canon_nil, Act.put, List.setIfInBounds_toArray, List.set_cons_zero, List.set_cons_succ]
              refine spec_of rfl (fun KK hK => ?_)
              go_simp
              exact hK.out _ _ (Below.refl _ _) rfl
            | 21, _ =>
              intro v w' hR hd
              have e15 : v 15 = .bool false := hd 15 (by decide)
              have e20 : v 20 = .bool (decide (Y ≤ n5)) := hd 20 (by decide)
              change SpecOp _ _ _ _ 21 (Act.put (Act.put (canon _ v _ []) (some 70) (v 20)) (some 65) (v 15)) w' _
              rw [e15, e20]
              simp only [canon_nil, Act.put, List.setIfInBounds_toArray, List.set_cons_zero, List.set_cons_succ]
              refine spec_of rfl (fun KK hK => ?_)
              go_simp
              exact hK.out _ _ (Below.refl _ _) rfl
            | 22, _ =>
              intro v w' hR hd
              have e21 : v 21 = .bool (decide (Y ≤ n5)) := hd 21 (by decide)
              change SpecOp _ _ _ _ 22 (Act.put (canon _ v _ []) (some 71) (v 21)) w' _
              rw [e21]
              simp only [canon_nil, Act.put, List.setIfInBounds_toArray, List.set_cons_zero, List.set_cons_succ]
              refine spec_of rfl (fun KK hK => ?_)
              go_simp
              refine (when_any _ _ _).mono ?_
              rintro e wn ⟨rfl, rfl⟩
              exact hK.out _ _ (Below.refl _ _) rfl
            | 23, _ =>
              intro v w' hR hd
              have e0 : v 0 = .int .i64 (zb) := hd 0 (by decide)
              have e11 : v 11 = .int .i64 (errIf true 10) := hd 11 (by decide)
              have e22 : v 22 = .int .i64 (errIf (decide (Y ≤ n5)) 10) := hd 22 (by decide)
              change SpecOp _ _ _ _ 23 (Act.put (Act.put (Act.put (canon _ v _ []) (some 72) (v 22)) (some 61) (v 11)) (some 50) (v 0)) w' _
              rw [e0, e11, e22]
              simp only [canon_nil, Act.put, List.setIfInBounds_toArray, List.set_cons_zero, List.set_cons_succ]
              refine spec_of rfl (fun KK hK => ?_)
              go_simp
              exact hK.out _ _ ((Below.refl _ _).alloc (Nat.le_refl _) _) ⟨_, _, rfl, rd_of_blk (Blk.new _ _ _) rfl⟩
            | 24, _ =>
              intro v w' hR hd
              obtain ⟨A23, k23, e23, r23⟩ : ∃ A c, v 23 = .slice A 3 c ∧ Rd w' A ([zb, errIf true 10, errIf (decide (Y ≤ n5)) 10].map (.int .i64)) := hd 23 (by decide)
              change SpecOp _ _ _ _ 24 (Act.put (canon _ v _ []) (some 73) (v 23)) w' _
              rw [e23]
              simp only [canon_nil, Act.put, List.setIfInBounds_toArray, List.set_cons_zero, List.set_cons_succ]
              refine spec_of rfl (fun KK hK => ?_)
              go_simp
              refine (firstL_n _ _ _ [_, _, _] _ rfl (by simp [maxLen]) r23).mono ?_
              rintro e wn ⟨rfl, rfl⟩
              exact hK.out _ _ (Below.refl _ _) (congrArg (Value.int .i64) (show firstE [zb, errIf true 10, errIf (decide (Y ≤ n5)) 10] = z1 from by have h := HF1.out; rw [decide_eq_true hlo1, decide_eq_false hlo2] at h; simp only [Bool.true_or, Bool.false_or] at h; exact h))
            | 25, _ =>
              intro v w' hR hd
              change SpecOp _ _ _ _ 25 (canon _ v _ []) w' _
              simp only [canon_nil]
              refine spec_of rfl (fun KK hK => ?_)
              go_simp
              exact hK.out _ _ (Below.refl _ _) rfl
            | 26, _ =>
              intro v w' hR hd
              change SpecOp _ _ _ _ 26 (canon _ v _ []) w' _
              simp only [canon_nil]
              have q0 := (hR.cell (p := ⟨bC, 0, none⟩) zC).trans cHXC_0
              have q1 := (hR.cell (p := ⟨bC, 1, none⟩) zC).trans cHXC_1
              refine spec_of rfl (fun KK hK => ?_)
              go_simp
              exact hK.out _ _ (Below.refl _ _) rfl
            | 27, _ =>
              intro v w' hR hd
              change SpecOp _ _ _ _ 27 (canon _ v _ []) w' _
              simp only [canon_nil]
              refine spec_of rfl (fun KK hK => ?_)
              go_simp
              exact hK.out _ _ (Below.refl _ _) rfl
            | 28, _ =>
              intro v w' hR hd
              have e27 : v 27 = .pointer (some ⟨bP, 1, none⟩) := hd 27 (by decide)
              change SpecOp _ _ _ _ 28 (Act.put (canon _ v _ []) (some 77) (v 27)) w' _
              rw [e27]
              simp only [canon_nil, Act.put, List.setIfInBounds_toArray, List.set_cons_zero, List.set_cons_succ]
              have q0 := (hR.cell (p := ⟨bP, 1, none⟩) zP).trans cHXP_1
              refine spec_of rfl (fun KK hK => ?_)
              go_simp
              exact hK.out _ _ (Below.refl _ _) rfl
            | 29, _ =>
              intro v w' hR hd
              have e26 : v 26 = .agg #[.int .i64 n0, .int .i64 n1] := hd 26 (by decide)
              have e28 : v 28 = .int .i64 (X) := hd 28 (by decide)
              change SpecOp _ _ _ _ 29 (Act.put (Act.put (canon _ v _ []) (some 78) (v 28)) (some 76) (v 26)) w' _
              rw [e26, e28]
              simp only [canon_nil, Act.put, List.setIfInBounds_toArray, List.set_cons_zero, List.set_cons_succ]
              refine spec_of rfl (fun KK hK => ?_)
              go_simp
              refine (checkFull_any _ _ _ _).mono ?_
              rintro e wn ⟨rfl, hbn⟩
              exact hK.out _ _ hbn rfl
            | 30, _ =>
              intro v w' hR hd
              change SpecOp _ _ _ _ 30 (canon _ v _ []) w' _
              simp only [canon_nil]
              have q0 := (hR.cell (p := ⟨bR, 0, none⟩) zR).trans cHXR_0
              have q1 := (hR.cell (p := ⟨bR, 1, none⟩) zR).trans cHXR_1
              refine spec_of rfl (fun KK hK => ?_)
              go_simp
              exact hK.out _ _ (Below.refl _ _) rfl
            | 31, _ =>
              intro v w' hR hd
              change SpecOp _ _ _ _ 31 (canon _ v _ []) w' _
              simp only [canon_nil]
              refine spec_of rfl (fun KK hK => ?_)
              go_simp
              exact hK.out _ _ (Below.refl _ _) rfl
            | 32, _ =>
              intro v w' hR hd
              have e31 : v 31 = .pointer (some ⟨bP, 2, none⟩) := hd 31 (by decide)
              change SpecOp _ _ _ _ 32 (Act.put (canon _ v _ []) (some 81) (v 31)) w' _
              rw [e31]
              simp only [canon_nil, Act.put, List.setIfInBounds_toArray, List.set_cons_zero, List.set_cons_succ]
              have q0 := (hR.cell (p := ⟨bP, 2, none⟩) zP).trans cHXP_2
              refine spec_of rfl (fun KK hK => ?_)
              go_simp
              exact hK.out _ _ (Below.refl _ _) rfl
            | 33, _ =>
              intro v w' hR hd
              have e30 : v 30 = .agg #[.int .i64 n2, .int .i64 n3] := hd 30 (by decide)
              have e32 : v 32 = .int .i64 (Y) := hd 32 (by decide)
              change SpecOp _ _ _ _ 33 (Act.put (Act.put (canon _ v _ []) (some 82) (v 32)) (some 80) (v 30)) w' _
              rw [e30, e32]
              simp only [canon_nil, Act.put, List.setIfInBounds_toArray, List.set_cons_zero, List.set_cons_succ]
              refine spec_of rfl (fun KK hK => ?_)
              go_simp
              refine (checkFull_any _ _ _ _).mono ?_
              rintro e wn ⟨rfl, hbn⟩
              exact hK.out _ _ hbn rfl
            | 34, _ =>
              intro v w' hR hd
              have e25 : v 25 = .int .i64 (zb) := hd 25 (by decide)
              have e29 : v 29 = .int .i64 (errIf (decide (n0 < 0) || decide (n1 ≤ n0) || decide (X < n1)) 14) := hd 29 (by decide)
              have e33 : v 33 = .int .i64 (errIf (decide (n2 < 0) || decide (n3 ≤ n2) || decide (Y < n3)) 14) := hd 33 (by decide)
              change SpecOp _ _ _ _ 34 (Act.put (Act.put (Act.put (canon _ v _ []) (some 83) (v 33)) (some 79) (v 29)) (some 75) (v 25)) w' _
              rw [e25, e29, e33]
              simp only [canon_nil, Act.put, List.setIfInBounds_toArray, List.set_cons_zero, List.set_cons_succ]
              refine spec_of rfl (fun KK hK => ?_)
              go_simp
              exact hK.out _ _ ((Below.refl _ _).alloc (Nat.le_refl _) _) ⟨_, _, rfl, rd_of_blk (Blk.new _ _ _) rfl⟩
            | 35, _ =>
              intro v w' hR hd
              obtain ⟨A34, k34, e34, r34⟩ : ∃ A c, v 34 = .slice A 3 c ∧ Rd w' A ([zb, errIf (decide (n0 < 0) || decide (n1 ≤ n0) || decide (X < n1)) 14, errIf (decide (n2 < 0) || decide (n3 ≤ n2) || decide (Y < n3)) 14].map (.int .i64)) := hd 34 (by decide)
              change SpecOp _ _ _ _ 35 (Act.put (canon _ v _ []) (some 84) (v 34)) w' _
              rw [e34]
              simp only [canon_nil, Act.put, List.setIfInBounds_toArray, List.set_cons_zero, List.set_cons_succ]
              refine spec_of rfl (fun KK hK => ?_)
              go_simp
              refine (firstL_n _ _ _ [_, _, _] _ rfl (by simp [maxLen]) r34).mono ?_
              rintro e wn ⟨rfl, rfl⟩
              exact hK.out _ _ (Below.refl _ _) (congrArg (Value.int .i64) HF2.out)
            | 36, _ =>
              intro v w' hR hd
              have e24 : v 24 = .int .i64 (z1) := hd 24 (by decide)
              change SpecOp _ _ _ _ 36 (Act.put (canon _ v _ []) (some 74) (v 24)) w' _
              rw [e24]
              simp only [canon_nil, Act.put, List.setIfInBounds_toArray, List.set_cons_zero, List.set_cons_succ]
              refine spec_of rfl (fun KK hK => ?_)
              go_simp
              exact hK.out _ _ (Below.refl _ _) rfl
            | 37, _ =>
              intro v w' hR hd
              have e35 : v 35 = .int .i64 (z2) := hd 35 (by decide)
              change SpecOp _ _ _ _ 37 (Act.put (canon _ v _ []) (some 85) (v 35)) w' _
              rw [e35]
              simp only [canon_nil, Act.put, List.setIfInBounds_toArray, List.set_cons_zero, List.set_cons_succ]
              refine spec_of rfl (fun KK hK => ?_)
              go_simp
              exact hK.out _ _ (Below.refl _ _) rfl
            | i + 38, h => exact absurd h (Nat.not_lt.2 (Nat.le_add_left 38 i))
          case hend =>
            intro v w' hR hall
            simp only [putL, Act.put, List.setIfInBounds_toArray, List.set_cons_zero, List.set_cons_succ]
            have e0 : v 0 = .int .i64 (zb) := hall 0 (by decide)
            have e1 : v 1 = .pointer (some ⟨bN, 4, none⟩) := hall 1 (by decide)
            have e2 : v 2 = .int .i64 (n4) := hall 2 (by decide)
            have e3 : v 3 = .bool true := hall 3 (by decide)
            have e4 : v 4 = .bool true := hall 4 (by decide)
            have e5 : v 5 = undef := hall 5 (by decide)
            have e6 : v 6 = undef := hall 6 (by decide)
            have e7 : v 7 = undef := hall 7 (by decide)
            have e8 : v 8 = undef := hall 8 (by decide)
            have e9 : v 9 = undef := hall 9 (by decide)
            have e10 : v 10 = .bool true := hall 10 (by decide)
            have e11 : v 11 = .int .i64 (errIf true 10) := hall 11 (by decide)
            have e12 : v 12 = .pointer (some ⟨bN, 5, none⟩) := hall 12 (by decide)
            have e13 : v 13 = .int .i64 (n5) := hall 13 (by decide)
            have e14 : v 14 = .bool false := hall 14 (by decide)
            have e15 : v 15 = .bool false := hall 15 (by decide)
            have e16 : v 16 = .pointer (some ⟨bN, 5, none⟩) := hall 16 (by decide)
            have e17 : v 17 = .int .i64 (n5) := hall 17 (by decide)
            have e18 : v 18 = .pointer (some ⟨bP, 2, none⟩) := hall 18 (by decide)
            have e19 : v 19 = .int .i64 (Y) := hall 19 (by decide)
            have e20 : v 20 = .bool (decide (Y ≤ n5)) := hall 20 (by decide)
            have e21 : v 21 = .bool (decide (Y ≤ n5)) := hall 21 (by decide)
            have e22 : v 22 = .int .i64 (errIf (decide (Y ≤ n5)) 10) := hall 22 (by decide)
            obtain ⟨A23, k23, e23, r23⟩ : ∃ A c, v 23 = .slice A 3 c ∧ Rd w' A ([zb, errIf true 10, errIf (decide (Y ≤ n5)) 10].map (.int .i64)) := hall 23 (by decide)
            have e24 : v 24 = .int .i64 (z1) := hall 24 (by decide)
            have e25 : v 25 = .int .i64 (zb) := hall 25 (by decide)
            have e26 : v 26 = .agg #[.int .i64 n0, .int .i64 n1] := hall 26 (by decide)
            have e27 : v 27 = .pointer (some ⟨bP, 1, none⟩) := hall 27 (by decide)
            have e28 : v 28 = .int .i64 (X) := hall 28 (by decide)
            have e29 : v 29 = .int .i64 (errIf (decide (n0 < 0) || decide (n1 ≤ n0) || decide (X < n1)) 14) := hall 29 (by decide)
            have e30 : v 30 = .agg #[.int .i64 n2, .int .i64 n3] := hall 30 (by decide)
            have e31 : v 31 = .pointer (some ⟨bP, 2, none⟩) := hall 31 (by decide)
            have e32 : v 32 = .int .i64 (Y) := hall 32 (by decide)
            have e33 : v 33 = .int .i64 (errIf (decide (n2 < 0) || decide (n3 ≤ n2) || decide (Y < n3)) 14) := hall 33 (by decide)
            obtain ⟨A34, k34, e34, r34⟩ : ∃ A c, v 34 = .slice A 3 c ∧ Rd w' A ([zb, errIf (decide (n0 < 0) || decide (n1 ≤ n0) || decide (X < n1)) 14, errIf (decide (n2 < 0) || decide (n3 ≤ n2) || decide (Y < n3)) 14].map (.int .i64)) := hall 34 (by decide)
            have e35 : v 35 = .int .i64 (z2) := hall 35 (by decide)
            have e36 : v 36 = .int .i64 (z1) := hall 36 (by decide)
            have e37 : v 37 = .int .i64 (z2) := hall 37 (by decide)
            go_wp2_with fail
            go_meet
            exact ⟨by first | rfl | exact e36, by first | rfl | exact e37, hR⟩
        · refine wp_region_facts [Fact.is (.int .i64 (zb)), Fact.is (.pointer (some ⟨bN, 4, none⟩)), Fact.is (.int .i64 (n4)), Fact.is (.bool false), Fact.is (.bool false), Fact.is (.pointer (some ⟨bN, 4, none⟩)), Fact.is (.int .i64 (n4)), Fact.is (.pointer (some ⟨bP, 1, none⟩)), Fact.is (.int .i64 (X)), Fact.is (.bool (decide (X ≤ n4))), Fact.is (.bool (decide (X ≤ n4))), Fact.is (.int .i64 (errIf (decide (X ≤ n4)) 10)), Fact.is (.pointer (some ⟨bN, 5, none⟩)), Fact.is (.int .i64 (n5)), Fact.is (.bool true), Fact.is (.bool true), Fact.is (undef), Fact.is (undef), Fact.is (undef), Fact.is (undef), Fact.is (undef), Fact.is (.bool true), Fact.is (.int .i64 (errIf true 10)), Fact.ints 3 [zb, errIf (decide (X ≤ n4)) 10, errIf true 10], Fact.is (.int .i64 (z1)), Fact.is (.int .i64 (zb)), Fact.is (.agg #[.int .i64 n0, .int .i64 n1]), Fact.is (.pointer (some ⟨bP, 1, none⟩)), Fact.is (.int .i64 (X)), Fact.is (.int .i64 (errIf (decide (n0 < 0) || decide (n1 ≤ n0) || decide (X < n1)) 14)), Fact.is (.agg #[.int .i64 n2, .int .i64 n3]), Fact.is (.pointer (some ⟨bP, 2, none⟩)), Fact.is (.int .i64 (Y)), Fact.is (.int .i64 (errIf (decide (n2 < 0) || decide (n3 ≤ n2) || decide (Y < n3)) 14)), Fact.ints 3 [zb, errIf (decide (n0 < 0) || decide (n1 ≤ n0) || decide (X < n1)) 14, errIf (decide (n2 < 0) || decide (n3 ≤ n2) || decide (Y < n3)) 14], Fact.is (.int .i64 (z2)), Fact.is (.int .i64 (z1)), Fact.is (.int .i64 (z2))] [[], [], [1], [2], [3], [4], [4, 5], [4], [4, 7], [4, 6, 8], [4, 9], [10], [], [12], [13], [14], [15], [15, 16], [15], [15, 18], [15, 17, 19], [15, 20], [21], [0, 11, 22], [23], [], [], [], [27], [26, 28], [], [], [31], [30, 32], [25, 29, 33], [34], [24], [35]] [(some 50, 0), (some 51, 1), (some 52, 2), (some 53, 3), (some 54, 4), (some 55, 5), (some 56, 6), (some 57, 7), (some 58, 8), (some 59, 9), (some 60, 10), (some 61, 11), (some 62, 12), (some 63, 13), (some 64, 14), (some 65, 15), (some 66, 16), (some 67, 17), (some 68, 18), (some 69, 19), (some 70, 20), (some 71, 21), (some 72, 22), (some 73, 23), (some 74, 24), (some 75, 25), (some 76, 26), (some 77, 27), (some 78, 28), (some 79, 29), (some 80, 30), (some 81, 31), (some 82, 32), (some 83, 33), (some 84, 34), (some 85, 35), (some 12, 36), (some 13, 37)] (by kernel_rfl) (by kernel_rfl) (by kernel_rfl) (by kernel_rfl) (fun _ _ _ _ e h => by have h1 : _ ∧ _ := h; exact ⟨e ▸ h1.1, h1.2⟩) ?hstep ?hend
          case hstep =>
            intro i hi
            match i, hi with
            | 0, _ =>
              intro v w' hR hd
              change SpecOp _ _ _ _ 0 (canon _ v _ []) w' _
              simp only [canon_nil]
              refine spec_of rfl (fun KK hK => ?_)
              go_simp
              exact hK.out _ _ (Below.refl _ _) rfl
            | 1, _ =>
              intro v w' hR hd
              change SpecOp _ _ _ _ 1 (canon _ v _ []) w' _
              simp only [canon_nil]
              refine spec_of rfl (fun KK hK => ?_)
              go_simp
              exact hK.out _ _ (Below.refl _ _) rfl
            | 2, _ =>
              intro v w' hR hd
              have e1 : v 1 = .pointer (some ⟨bN, 4, none⟩) := hd 1 (by decide)
              change SpecOp _ _ _ _ 2 (Act.put (canon _ v _ []) (some 51) (v 1)) w' _
              rw [e1]
              simp only [canon_nil, Act.put, List.setIfInBounds_toArray, List.set_cons_zero, List.set_cons_succ]
              have q0 := (hR.cell (p := ⟨bN, 4, none⟩) zN).trans cHXN_4
              refine spec_of rfl (fun KK hK => ?_)
              go_simp
              exact hK.out _ _ (Below.refl _ _) rfl
            | 3, _ =>
              intro v w' hR hd
              have e2 : v 2 = .int .i64 (n4) := hd 2 (by decide)
              change SpecOp _ _ _ _ 3 (Act.put (canon _ v _ []) (some 52) (v 2)) w' _
              rw [e2]
              simp only [canon_nil, Act.put, List.setIfInBounds_toArray, List.set_cons_zero, List.set_cons_succ]
              refine spec_of rfl (fun KK hK => ?_)
              go_simp
              exact hK.out _ _ (Below.refl _ _) (by first | rfl | exact congrArg Value.bool (decide_eq_false hlo1))
            | 4, _ =>
              intro v w' hR hd
              have e3 : v 3 = .bool false := hd 3 (by decide)
              change SpecOp _ _ _ _ 4 (Act.put (canon _ v _ []) (some 53) (v 3)) w' _
              rw [e3]
              simp only [canon_nil, Act.put, List.setIfInBounds_toArray, List.set_cons_zero, List.set_cons_succ]
              refine spec_of rfl (fun KK hK => ?_)
              go_simp
              exact hK.out _ _ (Below.refl _ _) rfl
            | 5, _ =>
              intro v w' hR hd
              have e4 : v 4 = .bool false := hd 4 (by decide)
              change SpecOp _ _ _ _ 5 (Act.put (canon _ v _ []) (some 54) (v 4)) w' _
              rw [e4]
              simp only [canon_nil, Act.put, List.setIfInBounds_toArray, List.set_cons_zero, List.set_cons_succ]
              refine spec_of rfl (fun KK hK => ?_)
              go_simp
              exact hK.out _ _ (Below.refl _ _) rfl
            | 6, _ =>
              intro v w' hR hd
              have e4 : v 4 = .bool false := hd 4 (by decide)
              have e5 : v 5 = .pointer (some ⟨bN, 4, none⟩) := hd 5 (by decide)
              change SpecOp _ _ _ _ 6 (Act.put (Act.put (canon _ v _ []) (some 55) (v 5)) (some 54) (v 4)) w' _
              rw [e4, e5]
              simp only [canon_nil, Act.put, List.setIfInBounds_toArray, List.set_cons_zero, List.set_cons_succ]
              have q0 := (hR.cell (p := ⟨bN, 4, none⟩) zN).trans cHXN_4
              refine spec_of rfl (fun KK hK => ?_)
              go_simp
              exact hK.out _ _ (Below.refl _ _) rfl
            | 7, _ =>
              intro v w' hR hd
              have e4 : v 4 = .bool false := hd 4 (by decide)
              change SpecOp _ _ _ _ 7 (Act.put (canon _ v _ []) (some 54) (v 4)) w' _
              rw [e4]
              simp only [canon_nil, Act.put, List.setIfInBounds_toArray, List.set_cons_zero, List.set_cons_succ]
              refine spec_of rfl (fun KK hK => ?_)
              go_simp
              exact hK.out _ _ (Below.refl _ _) rfl
            | 8, _ =>
              intro v w' hR hd
              have e4 : v 4 = .bool false := hd 4 (by decide)
              have e7 : v 7 = .pointer (some ⟨bP, 1, none⟩) := hd 7 (by decide)
              change SpecOp _ _ _ _ 8 (Act.put (Act.put (canon _ v _ []) (some 57) (v 7)) (some 54) (v 4)) w' _
              rw [e4, e7]
              simp only [canon_nil, Act.put, List.setIfInBounds_toArray, List.set_cons_zero, List.set_cons_succ]
              have q0 := (hR.cell (p := ⟨bP, 1, none⟩) zP).trans cHXP_1
              refine spec_of rfl (fun KK hK => ?_)
              go_simp
              exact hK.out _ _ (Below.refl _ _) rfl
            | 9, _ =>
              intro v w' hR hd
              have e4 : v 4 = .bool false := hd 4 (by decide)
              have e6 : v 6 = .int .i64 (n4) := hd 6 (by decide)
              have e8 : v 8 = .int .i64 (X) := hd 8 (by decide)
              change SpecOp _ _ _ _ 9 (Act.put (Act.put (Act.put (canon _ v _ []) (some 58) (v 8)) (some 56) (v 6)) (some 54) (v 4)) w' _
              rw [e4, e6, e8]
              simp only [canon_nil, Act.put, List.setIfInBounds_toArray, List.set_cons_zero, List.set_cons_succ]
              refine spec_of rfl (fun KK hK => ?_)
              go_simp
              exact hK.out _ _ (Below.refl _ _) rfl
            | 10, _ =>
              intro v w' hR hd
              have e4 : v 4 = .bool false := hd 4 (by decide)
              have e9 : v 9 = .bool (decide (X ≤ n4)) := hd 9 (by decide)
              change SpecOp _ _ _ _ 10 (Act.put (Act.put (canon _ v _ []) (some 59) (v 9)) (some 54) (v 4)) w' _
              rw [e4, e9]
              simp only [canon_nil, Act.put, List.setIfInBounds_toArray, List.set_cons_zero, List.set_cons_succ]
              refine spec_of rfl (fun KK hK => ?_)
              go_simp
              exact hK.out _ _ (Below.refl _ _) rfl
            | 11, _ =>
              intro v w' hR hd
              have e10 : v 10 = .bool (decide (X ≤ n4)) := hd 10 (by decide)
              change SpecOp _ _ _ _ 11 (Act.put (canon _ v _ []) (some 60) (v 10)) w' _
              rw [e10]
              simp only [canon_nil, Act.put, List.setIfInBounds_toArray, List.set_cons_zero, List.set_cons_succ]
              refine spec_of rfl (fun KK hK => ?_)
              go_simp
              refine (when_any _ _ _).mono ?_
              rintro e wn ⟨rfl, rfl⟩
              exact hK.out _ _ (Below.refl _ _) rfl
            | 12, _ =>
              intro v w' hR hd
              change SpecOp _ _ _ _ 12 (canon _ v _ []) w' _
              simp only [canon_nil]
              refine spec_of rfl (fun KK hK => ?_)
              go_simp
              exact hK.out _ _ (Below.refl _ _) rfl
            | 13, _ =>
              intro v w' hR hd
              have e12 : v 12 = .pointer (some ⟨bN, 5, none⟩) := hd 12 (by decide)
              change SpecOp _ _ _ _ 13 (Act.put (canon _ v _ []) (some 62) (v 12)) w' _
              rw [e12]
              simp only [canon_nil, Act.put, List.setIfInBounds_toArray, List.set_cons_zero, List.set_cons_succ]
              have q0 := (hR.cell (p := ⟨bN, 5, none⟩) zN).trans cHXN_5
              refine spec_of rfl (fun KK hK => ?_)
              go_simp
              exact hK.out _ _ (Below.refl _ _) rfl
            | 14, _ =>
              intro v w' hR hd
              have e13 : v 13 = .int .i64 (n5) := hd 13 (by decide)
              change SpecOp _ _ _ _ 14 (Act.put (canon _ v _ []) (some 63) (v 13)) w' _
              rw [e13]
              simp only [canon_nil, Act.put, List.setIfInBounds_toArray, List.set_cons_zero, List.set_cons_succ]
              refine spec_of rfl (fun KK hK => ?_)
              go_simp
              exact hK.out _ _ (Below.refl _ _) (by first | rfl | exact congrArg Value.bool (decide_eq_true hlo2))
            | 15, _ =>
              intro v w' hR hd
              have e14 : v 14 = .bool true := hd 14 (by decide)
              change SpecOp _ _ _ _ 15 (Act.put (canon _ v _ []) (some 64) (v 14)) w' _
              rw [e14]
              simp only [canon_nil, Act.put, List.setIfInBounds_toArray, List.set_cons_zero, List.set_cons_succ]
              refine spec_of rfl (fun KK hK => ?_)
              go_simp
              exact hK.out _ _ (Below.refl _ _) rfl
            | 16, _ =>
              intro v w' hR hd
              have e15 : v 15 = .bool true := hd 15 (by decide)
              change SpecOp _ _ _ _ 16 (Act.put (canon _ v _ []) (some 65) (v 15)) w' _
              rw [e15]
              simp only [canon_nil, Act.put, List.setIfInBounds_toArray, List.set_cons_zero, List.set_cons_succ]
              refine spec_of rfl (fun KK hK => ?_)
              go_simp
              exact hK.out _ _ (Below.refl _ _) rfl
            | 17, _ =>
              intro v w' hR hd
              have e15 : v 15 = .bool true := hd 15 (by decide)
              have e16 : v 16 = undef := hd 16 (by decide)
              change SpecOp _ _ _ _ 17 (Act.put (Act.put (canon _ v _ []) (some 66) (v 16)) (some 65) (v 15)) w' _
              rw [e15, e16]
              simp only [canon_nil, Act.put, List.setIfInBounds_toArray, List.set_cons_zero, List.set_cons_succ]
              refine spec_of rfl (fun KK hK => ?_)
              go_simp
              exact hK.out _ _ (Below.refl _ _) rfl
            | 18, _ =>
              intro v w' hR hd
              have e15 : v 15 = .bool true := hd 15 (by decide)
              change SpecOp _ _ _ _ 18 (Act.put (canon _ v _ []) (some 65) (v 15)) w' _
              rw [e15]
              simp only [canon_nil, Act.put, List.setIfInBounds_toArray, List.set_cons_zero, List.set_cons_succ]
              refine spec_of rfl (fun KK hK => ?_)
              go_simp
              exact hK.out _ _ (Below.refl _ _) rfl
            | 19, _ =>
              intro v w' hR hd
              have e15 : v 15 = .bool true := hd 15 (by decide)
              have e18 : v 18 = undef := hd 18 (by decide)
              change SpecOp _ _ _ _ 19 (Act.put (Act.put (canon _ v _ []) (some 68) (v 18)) (some 65) (v 15)) w' _
              rw [e15, e18]
              simp only [canon_nil, Act.put, List.setIfInBounds_toArray, List.set_cons_zero, List.set_cons_succ]
              refine spec_of rfl (fun KK hK => ?_)
              go_simp
              exact hK.out _ _ (Below.refl _ _) rfl
            | 20, _ =>
              intro v w' hR hd
              have e15 : v 15 = .bool true := hd 15 (by decide)
              have e17 : v 17 = undef := hd 17 (by decide)
              have e19 : v 19 = undef := hd 19 (by decide)
              change SpecOp _ _ _ _ 20 (Act.put (Act.put (Act.put (canon _ v _ []) (some 69) (v 19)) (some 67) (v 17)) (some 65) (v 15)) w' _
              rw [e15, e17, e19]
              simp only [canon_nil, Act.put, List.setIfInBounds_toArray, List.set_cons_zero, List.set_cons_succ]
              refine spec_of rfl (fun KK hK => ?_)
              go_simp
              exact hK.out _ _ (Below.refl _ _) rfl
            | 21, _ =>
              intro v w' hR hd
              have e15 : v 15 = .bool true := hd 15 (by decide)
              have e20 : v 20 = undef := hd 20 (by decide)
              change SpecOp _ _ _ _ 21 (Act.put (Act.put (canon _ v _ []) (some 70) (v 20)) (some 65) (v 15)) w' _
              rw [e15, e20]
              simp only [canon_nil, Act.put, List.setIfInBounds_toArray, List.set_cons_zero, List.set_cons_succ]
              refine spec_of rfl (fun KK hK => ?_)
              go_simp
              exact hK.out _ _ (Below.refl _ _) rfl
            | 22, _ =>
              intro v w' hR hd
              have e21 : v 21 = .bool true := hd 21 (by decide)
              change SpecOp _ _ _ _ 22 (Act.put (canon _ v _ []) (some 71) (v 21)) w' _
              rw [e21]
              simp only [canon_nil, Act.put, List.setIfInBounds_toArray, List.set_cons_zero, List.set_cons_succ]
              refine spec_of rfl (fun KK hK => ?_)
              go_simp
              refine (when_any _ _ _).mono ?_
              rintro e wn ⟨rfl, rfl⟩
              exact hK.out _ _ (Below.refl _ _) rfl
            | 23, _ =>
              intro v w' hR hd
              have e0 : v 0 = .int .i64 (zb) := hd 0 (by decide)
              have e11 : v 11 = .int .i64 (errIf (decide (X ≤ n4)) 10) := hd 11 (by decide)
              have e22 : v 22 = .int .i64 (errIf true 10) := hd 22 (by decide)
              change SpecOp _ _ _ _ 23 (Act.put (Act.put (Act.put (canon _ v _ []) (some 72) (v 22)) (some 61) (v 11)) (some 50) (v 0)) w' _
              rw [e0, e11, e22]
              simp only [canon_nil, Act.put, List.setIfInBounds_toArray, List.set_cons_zero, List.set_cons_succ]
              refine spec_of rfl (fun KK hK => ?_)
              go_simp
              exact hK.out _ _ ((Below.refl _ _).alloc (Nat.le_refl _) _) ⟨_, _, rfl, rd_of_blk (Blk.new _ _ _) rfl⟩
            | 24, _ =>
              intro v w' hR hd
              obtain ⟨A23, k23, e23, r23⟩ : ∃ A c, v 23 = .slice A 3 c ∧ Rd w' A ([zb, errIf (decide (X ≤ n4)) 10, errIf true 10].map (.int .i64)) := hd 23 (by decide)
              change SpecOp _ _ _ _ 24 (Act.put (canon _ v _ []) (some 73) (v 23)) w' _
              rw [e23]
              simp only [canon_nil, Act.put, List.setIfInBounds_toArray, List.set_cons_zero, List.set_cons_succ]
              refine spec_of rfl (fun KK hK => ?_)
              go_simp
              refine (firstL_n _ _ _ [_, _, _] _ rfl (by simp [maxLen]) r23).mono ?_
              rintro e wn ⟨rfl, rfl⟩
              exact hK.out _ _ (Below.refl _ _) (congrArg (Value.int .i64) (show firstE [zb, errIf (decide (X ≤ n4)) 10, errIf true 10] = z1 from by have h := HF1.out; rw [decide_eq_false hlo1, decide_eq_true hlo2] at h; simp only [Bool.true_or, Bool.false_or] at h; exact h))
            | 25, _ =>
              intro v w' hR hd
              change SpecOp _ _ _ _ 25 (canon _ v _ []) w' _
              simp only [canon_nil]
              refine spec_of rfl (fun KK hK => ?_)
              go_simp
              exact hK.out _ _ (Below.refl _ _) rfl
            | 26, _ =>
              intro v w' hR hd
              change SpecOp _ _ _ _ 26 (canon _ v _ []) w' _
              simp only [canon_nil]
              have q0 := (hR.cell (p := ⟨bC, 0, none⟩) zC).trans cHXC_0
              have q1 := (hR.cell (p := ⟨bC, 1, none⟩) zC).trans cHXC_1
              refine spec_of rfl (fun KK hK => ?_)
              go_simp
              exact hK.out _ _ (Below.refl _ _) rfl
            | 27, _ =>
              intro v w' hR hd
              change SpecOp _ _ _ _ 27 (canon _ v _ []) w' _
              simp only [canon_nil]
              refine spec_of rfl (fun KK hK => ?_)
              go_simp
              exact hK.out _ _ (Below.refl _ _) rfl
            | 28, _ =>
              intro v w' hR hd
              have e27 : v 27 = .pointer (some ⟨bP, 1, none⟩) := hd 27 (by decide)
              change SpecOp _ _ _ _ 28 (Act.put (canon _ v _ []) (some 77) (v 27)) w' _
              rw [e27]
              simp only [canon_nil, Act.put, List.setIfInBounds_toArray, List.set_cons_zero, List.set_cons_succ]
              have q0 := (hR.cell (p := ⟨bP, 1, none⟩) zP).trans cHXP_1
              refine spec_of rfl (fun KK hK => ?_)
              go_simp
              exact hK.out _ _ (Below.refl _ _) rfl
            | 29, _ =>
              intro v w' hR hd
              have e26 : v 26 = .agg #[.int .i64 n0, .int .i64 n1] := hd 26 (by decide)
              have e28 : v 28 = .int .i64 (X) := hd 28 (by decide)
              change SpecOp _ _ _ _ 29 (Act.put (Act.put (canon _ v _ []) (some 78) (v 28)) (some 76) (v 26)) w' _
              rw [e26, e28]
              simp only [canon_nil, Act.put, List.setIfInBounds_toArray, List.set_cons_zero, List.set_cons_succ]
              refine spec_of rfl (fun KK hK => ?_)
              go_simp
              refine (checkFull_any _ _ _ _).mono ?_
              rintro e wn ⟨rfl, hbn⟩
              exact hK.out _ _ hbn rfl
            | 30, _ =>
              intro v w' hR hd
              change SpecOp _ _ _ _ 30 (canon _ v _ []) w' _
              simp only [canon_nil]
              have q0 := (hR.cell (p := ⟨bR, 0, none⟩) zR).trans cHXR_0
              have q1 := (hR.cell (p := ⟨bR, 1, none⟩) zR).trans cHXR_1
              refine spec_of rfl (fun KK hK => ?_)
              go_simp
              exact hK.out _ _ (Below.refl _ _) rfl
            | 31, _ =>
              intro v w' hR hd
              change SpecOp _ _ _ _ 31 (canon _ v _ []) w' _
              simp only [canon_nil]
              refine spec_of rfl (fun KK hK => ?_)
              go_simp
              exact hK.out _ _ (Below.refl _ _) rfl
            | 32, _ =>
              intro v w' hR hd
              have e31 : v 31 = .pointer (some ⟨bP, 2, none⟩) := hd 31 (by decide)
              change SpecOp _ _ _ _ 32 (Act.put (canon _ v _ []) (some 81) (v 31)) w' _
              rw [e31]
              simp only [canon_nil, Act.put, List.setIfInBounds_toArray, List.set_cons_zero, List.set_cons_succ]
              have q0 := (hR.cell (p := ⟨bP, 2, none⟩) zP).trans cHXP_2
              refine spec_of rfl (fun KK hK => ?_)
              go_simp
              exact hK.out _ _ (Below.refl _ _) rfl
            | 33, _ =>
              intro v w' hR hd
              have e30 : v 30 = .agg #[.int .i64 n2, .int .i64 n3] := hd 30 (by decide)
              have e32 : v 32 = .int .i64 (Y) := hd 32 (by decide)
              change SpecOp _ _ _ _ 33 (Act.put (Act.put (canon _ v _ []) (some 82) (v 32)) (some 80) (v 30)) w' _
              rw [e30, e32]
              simp only [canon_nil, Act.put, List.setIfInBounds_toArray, List.set_cons_zero, List.set_cons_succ]
              refine spec_of rfl (fun KK hK => ?_)
              go_simp
              refine (checkFull_any _ _ _ _).mono ?_
              rintro e wn ⟨rfl, hbn⟩
              exact hK.out _ _ hbn rfl
            | 34, _ =>
              intro v w' hR hd
              have e25 : v 25 = .int .i64 (zb) := hd 25 (by decide)
              have e29 : v 29 = .int .i64 (errIf (decide (n0 < 0) || decide (n1 ≤ n0) || decide (X < n1)) 14) := hd 29 (by decide)
              have e33 : v 33 = .int .i64 (errIf (decide (n2 < 0) || decide (n3 ≤ n2) || decide (Y < n3)) 14) := hd 33 (by decide)
              change SpecOp _ _ _ _ 34 (Act.put (Act.put (Act.put (canon _ v _ []) (some 83) (v 33)) (some 79) (v 29)) (some 75) (v 25)) w' _
              rw [e25, e29, e33]
              simp only [canon_nil, Act.put, List.setIfInBounds_toArray, List.set_cons_zero, List.set_cons_succ]
              refine spec_of rfl (fun KK hK => ?_)
              go_simp
              exact hK.out _ _ ((Below.refl _ _).alloc (Nat.le_refl _) _) ⟨_, _, rfl, rd_of_blk (Blk.new _ _ _) rfl⟩
            | 35, _ =>
              intro v w' hR hd
              obtain ⟨A34, k34, e34, r34⟩ : ∃ A c, v 34 = .slice A 3 c ∧ Rd w' A ([zb, errIf (decide (n0 < 0) || decide (n1 ≤ n0) || decide (X < n1)) 14, errIf (decide (n2 < 0) || decide (n3 ≤ n2) || decide (Y < n3)) 14].map (.int .i64)) := hd 34 (by decide)
              change SpecOp _ _ _ _ 35 (Act.put (canon _ v _ []) (some 84) (v 34)) w' _
              rw [e34]
              simp only [canon_nil, Act.put, List.setIfInBounds_toArray, List.set_cons_zero, List.set_cons_succ]
              refine spec_of rfl (fun KK hK => ?_)
              go_simp
              refine (firstL_n _ _ _ [_, _, _] _ rfl (by simp [maxLen]) r34).mono ?_
              rintro e wn ⟨rfl, rfl⟩
              exact hK.out _ _ (Below.refl _ _) (congrArg (Value.int .i64) HF2.out)
            | 36, _ =>
              intro v w' hR hd
              have e24 : v 24 = .int .i64 (z1) := hd 24 (by decide)
              change SpecOp _ _ _ _ 36 (Act.put (canon _ v _ []) (some 74) (v 24)) w' _
              rw [e24]
              simp only [canon_nil, Act.put, List.setIfInBounds_toArray, List.set_cons_zero, List.set_cons_succ]
              refine spec_of rfl (fun KK hK => ?_)
              go_simp
              exact hK.out _ _ (Below.refl _ _) rfl
            | 37, _ =>
              intro v w' hR hd
              have e35 : v 35 = .int .i64 (z2) := hd 35 (by decide)
              change SpecOp _ _ _ _ 37 (Act.put (canon _ v _ []) (some 85) (v 35)) w' _
              rw [e35]
              simp only [canon_nil, Act.put, List.setIfInBounds_toArray, List.set_cons_zero, List.set_cons_succ]
              refine spec_of rfl (fun KK hK => ?_)
              go_simp
              exact hK.out _ _ (Below.refl _ _) rfl
            | i + 38, h => exact absurd h (Nat.not_lt.2 (Nat.le_add_left 38 i))
          case hend =>
            intro v w' hR hall
            simp only [putL, Act.put, List.setIfInBounds_toArray, List.set_cons_zero, List.set_cons_succ]
            have e0 : v 0 = .int .i64 (zb) := hall 0 (by decide)
            have e1 : v 1 = .pointer (some ⟨bN, 4, none⟩) := hall 1 (by decide)
            have e2 : v 2 = .int .i64 (n4) := hall 2 (by decide)
            have e3 : v 3 = .bool false := hall 3 (by decide)
            have e4 : v 4 = .bool false := hall 4 (by decide)
            have e5 : v 5 = .pointer (some ⟨bN, 4, none⟩) := hall 5 (by decide)
            have e6 : v 6 = .int .i64 (n4) := hall 6 (by decide)
            have e7 : v 7 = .pointer (some ⟨bP, 1, none⟩) := hall 7 (by decide)
            have e8 : v 8 = .int .i64 (X) := hall 8 (by decide)
            have e9 : v 9 = .bool (decide (X ≤ n4)) := hall 9 (by decide)
            have e10 : v 10 = .bool (decide (X ≤ n4)) := hall 10 (by decide)
            have e11 : v 11 = .int .i64 (errIf (decide (X ≤ n4)) 10) := hall 11 (by decide)
            have e12 : v 12 = .pointer (some ⟨bN, 5, none⟩) := hall 12 (by decide)
            have e13 : v 13 = .int .i64 (n5) := hall 13 (by decide)
            have e14 : v 14 = .bool true := hall 14 (by decide)
            have e15 : v 15 = .bool true := hall 15 (by decide)
            have e16 : v 16 = undef := hall 16 (by decide)
            have e17 : v 17 = undef := hall 17 (by decide)
            have e18 : v 18 = undef := hall 18 (by decide)
            have e19 : v 19 = undef := hall 19 (by decide)
            have e20 : v 20 = undef := hall 20 (by decide)
            have e21 : v 21 = .bool true := hall 21 (by decide)
            have e22 : v 22 = .int .i64 (errIf true 10) := hall 22 (by decide)
            obtain ⟨A23, k23, e23, r23⟩ : ∃ A c, v 23 = .slice A 3 c ∧ Rd w' A ([zb, errIf (decide (X ≤ n4)) 10, errIf true 10].map (.int .i64)) := hall 23 (by decide)
            have e24 : v 24 = .int .i64 (z1) := hall 24 (by decide)
            have e25 : v 25 = .int .i64 (zb) := hall 25 (by decide)
            have e26 : v 26 = .agg #[.int .i64 n0, .int .i64 n1] := hall 26 (by decide)
            have e27 : v 27 = .pointer (some ⟨bP, 1, none⟩) := hall 27 (by decide)
            have e28 : v 28 = .int .i64 (X) := hall 28 (by decide)
            have e29 : v 29 = .int .i64 (errIf (decide (n0 < 0) || decide (n1 ≤ n0) || decide (X < n1)) 14) := hall 29 (by decide)
            have e30 : v 30 = .agg #[.int .i64 n2, .int .i64 n3] := hall 30 (by decide)
            have e31 : v 31 = .pointer (some ⟨bP, 2, none⟩) := hall 31 (by decide)
            have e32 : v 32 = .int .i64 (Y) := hall 32 (by decide)
            have e33 : v 33 = .int .i64 (errIf (decide (n2 < 0) || decide (n3 ≤ n2) || decide (Y < n3)) 14) := hall 33 (by decide)
            obtain ⟨A34, k34, e34, r34⟩ : ∃ A c, v 34 = .slice A 3 c ∧ Rd w' A ([zb, errIf (decide (n0 < 0) || decide (n1 ≤ n0) || decide (X < n1)) 14, errIf (decide (n2 < 0) || decide (n3 ≤ n2) || decide (Y < n3)) 14].map (.int .i64)) := hall 34 (by decide)
            have e35 : v 35 = .int .i64 (z2) := hall 35 (by decide)
            have e36 : v 36 = .int .i64 (z1) := hall 36 (by decide)
            have e37 : v 37 = .int .i64 (z2) := hall 37 (by decide)
            go_wp2_with fail
            go_meet
            exact ⟨by first | rfl | exact e36, by first | rfl | exact e37, hR⟩
        · refine wp_region_facts [Fact.is (.int .i64 (zb)), Fact.is (.pointer (some ⟨bN, 4, none⟩)), Fact.is (.int .i64 (n4)), Fact.is (.bool false), Fact.is (.bool false), Fact.is (.pointer (some ⟨bN, 4, none⟩)), Fact.is (.int .i64 (n4)), Fact.is (.pointer (some ⟨bP, 1, none⟩)), Fact.is (.int .i64 (X)), Fact.is (.bool (decide (X ≤ n4))), Fact.is (.bool (decide (X ≤ n4))), Fact.is (.int .i64 (errIf (decide (X ≤ n4)) 10)), Fact.is (.pointer (some ⟨bN, 5, none⟩)), Fact.is (.int .i64 (n5)), Fact.is (.bool false), Fact.is (.bool false), Fact.is (.pointer (some ⟨bN, 5, none⟩)), Fact.is (.int .i64 (n5)), Fact.is (.pointer (some ⟨bP, 2, none⟩)), Fact.is (.int .i64 (Y)), Fact.is (.bool (decide (Y ≤ n5))), Fact.is (.bool (decide (Y ≤ n5))), Fact.is (.int .i64 (errIf (decide (Y ≤ n5)) 10)), Fact.ints 3 [zb, errIf (decide (X ≤ n4)) 10, errIf (decide (Y ≤ n5)) 10], Fact.is (.int .i64 (z1)), Fact.is (.int .i64 (zb)), Fact.is (.agg #[.int .i64 n0, .int .i64 n1]), Fact.is (.pointer (some ⟨bP, 1, none⟩)), Fact.is (.int .i64 (X)), Fact.is (.int .i64 (errIf (decide (n0 < 0) || decide (n1 ≤ n0) || decide (X < n1)) 14)), Fact.is (.agg #[.int .i64 n2, .int .i64 n3]), Fact.is (.pointer (some ⟨bP, 2, none⟩)), Fact.is (.int .i64 (Y)), Fact.is (.int .i64 (errIf (decide (n2 < 0) || decide (n3 ≤ n2) || decide (Y < n3)) 14)), Fact.ints 3 [zb, errIf (decide (n0 < 0) || decide (n1 ≤ n0) || decide (X < n1)) 14, errIf (decide (n2 < 0) || decide (n3 ≤ n2) || decide (Y < n3)) 14], Fact.is (.int .i64 (z2)), Fact.is (.int .i64 (z1)), Fact.is (.int .i64 (z2))] [[], [], [1], [2], [3], [4], [4, 5], [4], [4, 7], [4, 6, 8], [4, 9], [10], [], [12], [13], [14], [15], [15, 16], [15], [15, 18], [15, 17, 19], [15, 20], [21], [0, 11, 22], [23], [], [], [], [27], [26, 28], [], [], [31], [30, 32], [25, 29, 33], [34], [24], [35]] [(some 50, 0), (some 51, 1), (some 52, 2), (some 53, 3), (some 54, 4), (some 55, 5), (some 56, 6), (some 57, 7), (some 58, 8), (some 59, 9), (some 60, 10), (some 61, 11), (some 62, 12), (some 63, 13), (some 64, 14), (some 65, 15), (some 66, 16), (some 67, 17), (some 68, 18), (some 69, 19), (some 70, 20), (some 71, 21), (some 72, 22), (some 73, 23), (some 74, 24), (some 75, 25), (some 76, 26), (some 77, 27), (some 78, 28), (some 79, 29), (some 80, 30), (some 81, 31), (some 82, 32), (some 83, 33), (some 84, 34), (some 85, 35), (some 12, 36), (some 13, 37)] (by kernel_rfl) (by kernel_rfl) (by kernel_rfl) (by kernel_rfl) (fun _ _ _ _ e h => by have h1 : _ ∧ _ := h; exact ⟨e ▸ h1.1, h1.2⟩) ?hstep ?hend
          case hstep =>
            intro i hi
            match i, hi with
            | 0, _ =>
              intro v w' hR hd
              change SpecOp _ _ _ _ 0 (canon _ v _ []) w' _
              simp only [canon_nil]
              refine spec_of rfl (fun KK hK => ?_)
              go_simp
              exact hK.out _ _ (Below.refl _ _) rfl
            | 1, _ =>
              intro v w' hR hd
              change SpecOp _ _ _ _ 1 (canon _ v _ []) w' _
              simp only [canon_nil]
              refine spec_of rfl (fun KK hK => ?_)
              go_simp
              exact hK.out _ _ (Below.refl _ _) rfl
            | 2, _ =>
              intro v w' hR hd
              have e1 : v 1 = .pointer (some ⟨bN, 4, none⟩) := hd 1 (by decide)
              change SpecOp _ _ _ _ 2 (Act.put (canon _ v _ []) (some 51) (v 1)) w' _
              rw [e1]
              simp only [canon_nil, Act.put, List.setIfInBounds_toArray, List.set_cons_zero, List.set_cons_succ]
              have q0 := (hR.cell (p := ⟨bN, 4, none⟩) zN).trans cHXN_4
              refine spec_of rfl (fun KK hK => ?_)
              go_simp
              exact hK.out _ _ (Below.refl _ _) rfl
            | 3, _ =>
              intro v w' hR hd
              have e2 : v 2 = .int .i64 (n4) := hd 2 (by decide)
              change SpecOp _ _ _ _ 3 (Act.put (canon _ v _ []) (some 52) (v 2)) w' _
              rw [e2]
              simp only [canon_nil, Act.put, List.setIfInBounds_toArray, List.set_cons_zero, List.set_cons_succ]
              refine spec_of rfl (fun KK hK => ?_)
              go_simp
              exact hK.out _ _ (Below.refl _ _) (by first | rfl | exact congrArg Value.bool (decide_eq_false hlo1))
            | 4, _ =>
              intro v w' hR hd
              have e3 : v 3 = .bool false := hd 3 (by decide)
              change SpecOp _ _ _ _ 4 (Act.put (canon _ v _ []) (some 53) (v 3)) w' _
              rw [e3]
              simp only [canon_nil, Act.put, List.setIfInBounds_toArray, List.set_cons_zero, List.set_cons_succ]
              refine spec_of rfl (fun KK hK => ?_)
              go_simp
              exact hK.out _ _ (Below.refl _ _) rfl
            | 5, _ =>
              intro v w' hR hd
              have e4 : v 4 = .bool false := hd 4 (by decide)
              change SpecOp _ _ _ _ 5 (Act.put (canon _ v _ []) (some 54) (v 4)) w' _
              rw [e4]
              simp only [canon_nil, Act.put, List.setIfInBounds_toArray, List.set_cons_zero, List.set_cons_succ]
              refine spec_of rfl (fun KK hK => ?_)
              go_simp
              exact hK.out _ _ (Below.refl _ _) rfl
            | 6, _ =>
              intro v w' hR hd
              have e4 : v 4 = .bool false := hd 4 (by decide)
              have e5 : v 5 = .pointer (some ⟨bN, 4, none⟩) := hd 5 (by decide)
              change SpecOp _ _ _ _ 6 (Act.put (Act.put (canon _ v _ []) (some 55) (v 5)) (some 54) (v 4)) w' _
              rw [e4, e5]
              simp only [canon_nil, Act.put, List.setIfInBounds_toArray, List.set_cons_zero, List.set_cons_succ]
              have q0 := (hR.cell (p := ⟨bN, 4, none⟩) zN).trans cHXN_4
              refine spec_of rfl (fun KK hK => ?_)
              go_simp
              exact hK.out _ _ (Below.refl _ _) rfl
            | 7, _ =>
              intro v w' hR hd
              have e4 : v 4 = .bool false := hd 4 (by decide)
              change SpecOp _ _ _ _ 7 (Act.put (canon _ v _ []) (some 54) (v 4)) w' _
              rw [e4]
              simp only [canon_nil, Act.put, List.setIfInBounds_toArray, List.set_cons_zero, List.set_cons_succ]
              refine spec_of rfl (fun KK hK => ?_)
              go_simp
              exact hK.out _ _ (Below.refl _ _) rfl
            | 8, _ =>
              intro v w' hR hd
              have e4 : v 4 = .bool false := hd 4 (by decide)
              have e7 : v 7 = .pointer (some ⟨bP, 1, none⟩) := hd 7 (by decide)
              change SpecOp _ _ _ _ 8 (Act.put (Act.put (canon _ v _ []) (some 57) (v 7)) (some 54) (v 4)) w' _
              rw [e4, e7]
              simp only [canon_nil, Act.put, List.setIfInBounds_toArray, List.set_cons_zero, List.set_cons_succ]
              have q0 := (hR.cell (p := ⟨bP, 1, none⟩) zP).trans cHXP_1
              refine spec_of rfl (fun KK hK => ?_)
              go_simp
              exact hK.out _ _ (Below.refl _ _) rfl
            | 9, _ =>
              intro v w' hR hd
              have e4 : v 4 = .bool false := hd 4 (by decide)
              have e6 : v 6 = .int .i64 (n4) := hd 6 (by decide)
              have e8 : v 8 = .int .i64 (X) := hd 8 (by decide)
              change SpecOp _ _ _ _ 9 (Act.put (Act.put (Act.put (canon _ v _ []) (some 58) (v 8)) (some 56) (v 6)) (some 54) (v 4)) w' _
              rw [e4, e6, e8]
              simp only [canon_nil, Act.put, List.setIfInBounds_toArray, List.set_cons_zero, List.set_cons_succ]
              refine spec_of rfl (fun KK hK => ?_)
              go_simp
              exact hK.out _ _ (Below.refl _ _) rfl
            | 10, _ =>
              intro v w' hR hd
              have e4 : v 4 = .bool false := hd 4 (by decide)
              have e9 : v 9 = .bool (decide (X ≤ n4)) := hd 9 (by decide)
              change SpecOp _ _ _ _ 10 (Act.put (Act.put (canon _ v _ []) (some 59) (v 9)) (some 54) (v 4)) w' _
              rw [e4, e9]
              simp only [canon_nil, Act.put, List.setIfInBounds_toArray, List.set_cons_zero, List.set_cons_succ]
              refine spec_of rfl (fun KK hK => ?_)
              go_simp
              exact hK.out _ _ (Below.refl _ _) rfl
            | 11, _ =>
              intro v w' hR hd
              have e10 : v 10 = .bool (decide (X ≤ n4)) := hd 10 (by decide)
              change SpecOp _ _ _ _ 11 (Act.put (canon _ v _ []) (some 60) (v 10)) w' _
              rw [e10]
              simp only [canon_nil, Act.put, List.setIfInBounds_toArray, List.set_cons_zero, List.set_cons_succ]
              refine spec_of rfl (fun KK hK => ?_)
              go_simp
              refine (when_any _ _ _).mono ?_
              rintro e wn ⟨rfl, rfl⟩
              exact hK.out _ _ (Below.refl _ _) rfl
            | 12, _ =>
              intro v w' hR hd
              change SpecOp _ _ _ _ 12 (canon _ v _ []) w' _
              simp only [canon_nil]
              refine spec_of rfl (fun KK hK => ?_)
              go_simp
              exact hK.out _ _ (Below.refl _ _) rfl
            | 13, _ =>
              intro v w' hR hd
              have e12 : v 12 = .pointer (some ⟨bN, 5, none⟩) := hd 12 (by decide)
              change SpecOp _ _ _ _ 13 (Act.put (canon _ v _ []) (some 62) (v 12)) w' _
              rw [e12]
              simp only [canon_nil, Act.put, List.setIfInBounds_toArray, List.set_cons_zero, List.set_cons_succ]
              have q0 := (hR.cell (p := ⟨bN, 5, none⟩) zN).trans cHXN_5
              refine spec_of rfl (fun KK hK => ?_)
              go_simp
              exact hK.out _ _ (Below.refl _ _) rfl
            | 14, _ =>
              intro v w' hR hd
              have e13 : v 13 = .int .i64 (n5) := hd 13 (by decide)
              change SpecOp _ _ _ _ 14 (Act.put (canon _ v _ []) (some 63) (v 13)) w' _
              rw [e13]
              simp only [canon_nil, Act.put, List.setIfInBounds_toArray, List.set_cons_zero, List.set_cons_succ]
              refine spec_of rfl (fun KK hK => ?_)
              go_simp
              exact hK.out _ _ (Below.refl _ _) (by first | rfl | exact congrArg Value.bool (decide_eq_false hlo2))
            | 15, _ =>
              intro v w' hR hd
              have e14 : v 14 = .bool false := hd 14 (by decide)
              change SpecOp _ _ _ _ 15 (Act.put (canon _ v _ []) (some 64) (v 14)) w' _
              rw [e14]
              simp only [canon_nil, Act.put, List.setIfInBounds_toArray, List.set_cons_zero, List.set_cons_succ]
              refine spec_of rfl (fun KK hK => ?_)
              go_simp
              exact hK.out _ _ (Below.refl _ _) rfl
            | 16, _ =>
              intro v w' hR hd
              have e15 : v 15 = .bool false := hd 15 (by decide)
              change SpecOp _ _ _ _ 16 (Act.put (canon _ v _ []) (some 65) (v 15)) w' _
              rw [e15]
              simp only [canon_nil, Act.put, List.setIfInBounds_toArray, List.set_cons_zero, List.set_cons_succ]
              refine spec_of rfl (fun KK hK => ?_)
              go_simp
              exact hK.out _ _ (Below.refl _ _) rfl
            | 17, _ =>
              intro v w' hR hd
              have e15 : v 15 = .bool false := hd 15 (by decide)
              have e16 : v 16 = .pointer (some ⟨bN, 5, none⟩) := hd 16 (by decide)
              change SpecOp _ _ _ _ 17 (Act.put (Act.put (canon _ v _ []) (some 66) (v 16)) (some 65) (v 15)) w' _
              rw [e15, e16]
              simp only [canon_nil, Act.put, List.setIfInBounds_toArray, List.set_cons_zero, List.set_cons_succ]
              have q0 := (hR.cell (p := ⟨bN, 5, none⟩) zN).trans cHXN_5
              refine spec_of rfl (fun KK hK => ?_)
              go_simp
              exact hK.out _ _ (Below.refl _ _) rfl
            | 18, _ =>
              intro v w' hR hd
              have e15 : v 15 = .bool false := hd 15 (by decide)
              change SpecOp _ _ _ _ 18 (Act.put (canon _ v _ []) (some 65) (v 15)) w' _
              rw [e15]
              simp only [canon_nil, Act.put, List.setIfInBounds_toArray, List.set_cons_zero, List.set_cons_succ]
              refine spec_of rfl (fun KK hK => ?_)
              go_simp
              exact hK.out _ _ (Below.refl _ _) rfl
            | 19, _ =>
              intro v w' hR hd
              have e15 : v 15 = .bool false := hd 15 (by decide)
              have e18 : v 18 = .pointer (some ⟨bP, 2, none⟩) := hd 18 (by decide)
              change SpecOp _ _ _ _ 19 (Act.put (Act.put (canon _ v _ []) (some 68) (v 18)) (some 65) (v 15)) w' _
              rw [e15, e18]
              simp only [canon_nil, Act.put, List.setIfInBounds_toArray, List.set_cons_zero, List.set_cons_succ]
              have q0 := (hR.cell (p := ⟨bP, 2, none⟩) zP).trans cHXP_2
              refine spec_of rfl (fun KK hK => ?_)
              go_simp
              exact hK.out _ _ (Below.refl _ _) rfl
            | 20, _ =>
              intro v w' hR hd
              have e15 : v 15 = .bool false := hd 15 (by decide)
              have e17 : v 17 = .int .i64 (n5) := hd 17 (by decide)
              have e19 : v 19 = .int .i64 (Y) := hd 19 (by decide)
              change SpecOp _ _ _ _ 20 (Act.put (Act.put (Act.put (canon _ v _ []) (some 69) (v 19)) (some 67) (v 17)) (some 65) (v 15)) w' _
              rw [e15, e17, e19]
              simp only [canon_nil, Act.put, List.setIfInBounds_toArray, List.set_cons_zero, List.set_cons_succ]
              refine spec_of rfl (fun KK hK => ?_)
              go_simp
              exact hK.out _ _ (Below.refl _ _) rfl
            | 21, _ =>
              intro v w' hR hd
              have e15 : v 15 = .bool false := hd 15 (by decide)
              have e20 : v 20 = .bool (decide (Y ≤ n5)) := hd 20 (by decide)
              change SpecOp _ _ _ _ 21 (Act.put (Act.put (canon _ v _ []) (some 70) (v 20)) (some 65) (v 15)) w' _
              rw [e15, e20]
              simp only [canon_nil, Act.put, List.setIfInBounds_toArray, List.set_cons_zero, List.set_cons_succ]
              refine spec_of rfl (fun KK hK => ?_)
              go_simp
              exact hK.out _ _ (Below.refl _ _) rfl
            | 22, _ =>
              intro v w' hR hd
              have e21 : v 21 = .bool (decide (Y ≤ n5)) := hd 21 (by decide)
              change SpecOp _ _ _ _ 22 (Act.put (canon _ v _ []) (some 71) (v 21)) w' _
              rw [e21]
              simp only [canon_nil, Act.put, List.setIfInBounds_toArray, List.set_cons_zero, List.set_cons_succ]
              refine spec_of rfl (fun KK hK => ?_)
              go_simp
              refine (when_any _ _ _).mono ?_
              rintro e wn ⟨rfl, rfl⟩
              exact hK.out _ _ (Below.refl _ _) rfl
            | 23, _ =>
              intro v w' hR hd
              have e0 : v 0 = .int .i64 (zb) := hd 0 (by decide)
              have e11 : v 11 = .int .i64 (errIf (decide (X ≤ n4)) 10) := hd 11 (by decide)
              have e22 : v 22 = .int .i64 (errIf (decide (Y ≤ n5)) 10) := hd 22 (by decide)
              change SpecOp _ _ _ _ 23 (Act.put (Act.put (Act.put (canon _ v _ []) (some 72) (v 22)) (some 61) (v 11)) (some 50) (v 0)) w' _
              rw [e0, e11, e22]
              simp only [canon_nil, Act.put, List.setIfInBounds_toArray, List.set_cons_zero, List.set_cons_succ]
              refine spec_of rfl (fun KK hK => ?_)
              go_simp
              exact hK.out _ _ ((Below.refl _ _).alloc (Nat.le_refl _) _) ⟨_, _, rfl, rd_of_blk (Blk.new _ _ _) rfl⟩
            | 24, _ =>
              intro v w' hR hd
              obtain ⟨A23, k23, e23, r23⟩ : ∃ A c, v 23 = .slice A 3 c ∧ Rd w' A ([zb, errIf (decide (X ≤ n4)) 10, errIf (decide (Y ≤ n5)) 10].map (.int .i64)) := hd 23 (by decide)
              change SpecOp _ _ _ _ 24 (Act.put (canon _ v _ []) (some 73) (v 23)) w' _
              rw [e23]
              simp only [canon_nil, Act.put, List.setIfInBounds_toArray, List.set_cons_zero, List.set_cons_succ]
              refine spec_of rfl (fun KK hK => ?_)
              go_simp
              refine (firstL_n _ _ _ [_, _, _] _ rfl (by simp [maxLen]) r23).mono ?_
              rintro e wn ⟨rfl, rfl⟩
              exact hK.out _ _ (Below.refl _ _) (congrArg (Value.int .i64) (show firstE [zb, errIf (decide (X ≤ n4)) 10, errIf (decide (Y ≤ n5)) 10] = z1 from by have h := HF1.out; rw [decide_eq_false hlo1, decide_eq_false hlo2] at h; simp only [Bool.false_or] at h; exact h))
            | 25, _ =>
              intro v w' hR hd
              change SpecOp _ _ _ _ 25 (canon _ v _ []) w' _
              simp only [canon_nil]
              refine spec_of rfl (fun KK hK => ?_)
              go_simp
              exact hK.out _ _ (Below.refl _ _) rfl
            | 26, _ =>
              intro v w' hR hd
              change SpecOp _ _ _ _ 26 (canon _ v _ []) w' _
              simp only [canon_nil]
              have q0 := (hR.cell (p := ⟨bC, 0, none⟩) zC).trans cHXC_0
              have q1 := (hR.cell (p := ⟨bC, 1, none⟩) zC).trans cHXC_1
              refine spec_of rfl (fun KK hK => ?_)
              go_simp
              exact hK.out _ _ (Below.refl _ _) rfl
            | 27, _ =>
              intro v w' hR hd
              change SpecOp _ _ _ _ 27 (canon _ v _ []) w' _
              simp only [canon_nil]
              refine spec_of rfl (fun KK hK => ?_)
              go_simp
              exact hK.out _ _ (Below.refl _ _) rfl
            | 28, _ =>
              intro v w' hR hd
              have e27 : v 27 = .pointer (some ⟨bP, 1, none⟩) := hd 27 (by decide)
              change SpecOp _ _ _ _ 28 (Act.put (canon _ v _ []) (some 77) (v 27)) w' _
              rw [e27]
              simp only [canon_nil, Act.put, List.setIfInBounds_toArray, List.set_cons_zero, List.set_cons_succ]
              have q0 := (hR.cell (p := ⟨bP, 1, none⟩) zP).trans cHXP_1
              refine spec_of rfl (fun KK hK => ?_)
              go_simp
              exact hK.out _ _ (Below.refl _ _) rfl
            | 29, _ =>
              intro v w' hR hd
              have e26 : v 26 = .agg #[.int .i64 n0, .int .i64 n1] := hd 26 (by decide)
              have e28 : v 28 = .int .i64 (X) := hd 28 (by decide)
              change SpecOp _ _ _ _ 29 (Act.put (Act.put (canon _ v _ []) (some 78) (v 28)) (some 76) (v 26)) w' _
              rw [e26, e28]
              simp only [canon_nil, Act.put, List.setIfInBounds_toArray, List.set_cons_zero, List.set_cons_succ]
              refine spec_of rfl (fun KK hK => ?_)
              go_simp
              refine (checkFull_any _ _ _ _).mono ?_
              rintro e wn ⟨rfl, hbn⟩
              exact hK.out _ _ hbn rfl
            | 30, _ =>
              intro v w' hR hd
              change SpecOp _ _ _ _ 30 (canon _ v _ []) w' _
              simp only [canon_nil]
              have q0 := (hR.cell (p := ⟨bR, 0, none⟩) zR).trans cHXR_0
              have q1 := (hR.cell (p := ⟨bR, 1, none⟩) zR).trans cHXR_1
              refine spec_of rfl (fun KK hK => ?_)
              go_simp
              exact hK.out _ _ (Below.refl _ _) rfl
            | 31, _ =>
              intro v w' hR hd
              change SpecOp _ _ _ _ 31 (canon _ v _ []) w' _
              simp only [canon_nil]
              refine spec_of rfl (fun KK hK => ?_)
              go_simp
              exact hK.out _ _ (Below.refl _ _) rfl
            | 32, _ =>
              intro v w' hR hd
              have e31 : v 31 = .pointer (some ⟨bP, 2, none⟩) := hd 31 (by decide)
              change SpecOp _ _ _ _ 32 (Act.put (canon _ v _ []) (some 81) (v 31)) w' _
              rw [e31]
              simp only [canon_nil, Act.put, List.setIfInBounds_toArray, List.set_cons_zero, List.set_cons_succ]
              have q0 := (hR.cell (p := ⟨bP, 2, none⟩) zP).trans cHXP_2
              refine spec_of rfl (fun KK hK => ?_)
              go_simp
              exact hK.out _ _ (Below.refl _ _) rfl
            | 33, _ =>
              intro v w' hR hd
              have e30 : v 30 = .agg #[.int .i64 n2, .int .i64 n3] := hd 30 (by decide)
              have e32 : v 32 = .int .i64 (Y) := hd 32 (by decide)
              change SpecOp _ _ _ _ 33 (Act.put (Act.put (canon _ v _ []) (some 82) (v 32)) (some 80) (v 30)) w' _
              rw [e30, e32]
              simp only [canon_nil, Act.put, List.setIfInBounds_toArray, List.set_cons_zero, List.set_cons_succ]
              refine spec_of rfl (fun KK hK => ?_)
              go_simp
              refine (checkFull_any _ _ _ _).mono ?_
              rintro e wn ⟨rfl, hbn⟩
              exact hK.out _ _ hbn rfl
            | 34, _ =>
              intro v w' hR hd
              have e25 : v 25 = .int .i64 (zb) := hd 25 (by decide)
              have e29 : v 29 = .int .i64 (errIf (decide (n0 < 0) || decide (n1 ≤ n0) || decide (X < n1)) 14) := hd 29 (by decide)
              have e33 : v 33 = .int .i64 (errIf (decide (n2 < 0) || decide (n3 ≤ n2) || decide (Y < n3)) 14) := hd 33 (by decide)
              change SpecOp _ _ _ _ 34 (Act.put (Act.put (Act.put (canon _ v _ []) (some 83) (v 33)) (some 79) (v 29)) (some 75) (v 25)) w' _
              rw [e25, e29, e33]
              simp only [canon_nil, Act.put, List.setIfInBounds_toArray, List.set_cons_zero, List.set_cons_succ]
              refine spec_of rfl (fun KK hK => ?_)
              go_simp
              exact hK.out _ _ ((Below.refl _ _).alloc (Nat.le_refl _) _) ⟨_, _, rfl, rd_of_blk (Blk.new _ _ _) rfl⟩
            | 35, _ =>
              intro v w' hR hd
              obtain ⟨A34, k34, e34, r34⟩ : ∃ A c, v 34 = .slice A 3 c ∧ Rd w' A ([zb, errIf (decide (n0 < 0) || decide (n1 ≤ n0) || decide (X < n1)) 14, errIf (decide (n2 < 0) || decide (n3 ≤ n2) || decide (Y < n3)) 14].map (.int .i64)) := hd 34 (by decide)
              change SpecOp _ _ _ _ 35 (Act.put (canon _ v _ []) (some 84) (v 34)) w' _
              rw [e34]
              simp only [canon_nil, Act.put, List.setIfInBounds_toArray, List.set_cons_zero, List.set_cons_succ]
              refine spec_of rfl (fun KK hK => ?_)
              go_simp
              refine (firstL_n _ _ _ [_, _, _] _ rfl (by simp [maxLen]) r34).mono ?_
              rintro e wn ⟨rfl, rfl⟩
              exact hK.out _ _ (Below.refl _ _) (congrArg (Value.int .i64) HF2.out)
            | 36, _ =>
              intro v w' hR hd
              have e24 : v 24 = .int .i64 (z1) := hd 24 (by decide)
              change SpecOp _ _ _ _ 36 (Act.put (canon _ v _ []) (some 74) (v 24)) w' _
              rw [e24]
              simp only [canon_nil, Act.put, List.setIfInBounds_toArray, List.set_cons_zero, List.set_cons_succ]
              refine spec_of rfl (fun KK hK => ?_)
              go_simp
              exact hK.out _ _ (Below.refl _ _) rfl
            | 37, _ =>
              intro v w' hR hd
              have e35 : v 35 = .int .i64 (z2) := hd 35 (by decide)
              change SpecOp _ _ _ _ 37 (Act.put (canon _ v _ []) (some 85) (v 35)) w' _
              rw [e35]
              simp only [canon_nil, Act.put, List.setIfInBounds_toArray, List.set_cons_zero, List.set_cons_succ]
              refine spec_of rfl (fun KK hK => ?_)
              go_simp
              exact hK.out _ _ (Below.refl _ _) rfl
            | i + 38, h => exact absurd h (Nat.not_lt.2 (Nat.le_add_left 38 i))
          case hend =>
            intro v w' hR hall
            simp only [putL, Act.put, List.setIfInBounds_toArray, List.set_cons_zero, List.set_cons_succ]
            have e0 : v 0 = .int .i64 (zb) := hall 0 (by decide)
            have e1 : v 1 = .pointer (some ⟨bN, 4, none⟩) := hall 1 (by decide)
            have e2 : v 2 = .int .i64 (n4) := hall 2 (by decide)
            have e3 : v 3 = .bool false := hall 3 (by decide)
            have e4 : v 4 = .bool false := hall 4 (by decide)
            have e5 : v 5 = .pointer (some ⟨bN, 4, none⟩) := hall 5 (by decide)
            have e6 : v 6 = .int .i64 (n4) := hall 6 (by decide)
            have e7 : v 7 = .pointer (some ⟨bP, 1, none⟩) := hall 7 (by decide)
            have e8 : v 8 = .int .i64 (X) := hall 8 (by decide)
            have e9 : v 9 = .bool (decide (X ≤ n4)) := hall 9 (by decide)
            have e10 : v 10 = .bool (decide (X ≤ n4)) := hall 10 (by decide)
            have e11 : v 11 = .int .i64 (errIf (decide (X ≤ n4)) 10) := hall 11 (by decide)
            have e12 : v 12 = .pointer (some ⟨bN, 5, none⟩) := hall 12 (by decide)
            have e13 : v 13 = .int .i64 (n5) := hall 13 (by decide)
            have e14 : v 14 = .bool false := hall 14 (by decide)
            have e15 : v 15 = .bool false := hall 15 (by decide)
            have e16 : v 16 = .pointer (some ⟨bN, 5, none⟩) := hall 16 (by decide)
            have e17 : v 17 = .int .i64 (n5) := hall 17 (by decide)
            have e18 : v 18 = .pointer (some ⟨bP, 2, none⟩) := hall 18 (by decide)
            have e19 : v 19 = .int .i64 (Y) := hall 19 (by decide)
            have e20 : v 20 = .bool (decide (Y ≤ n5)) := hall 20 (by decide)
            have e21 : v 21 = .bool (decide (Y ≤ n5)) := hall 21 (by decide)
            have e22 : v 22 = .int .i64 (errIf (decide (Y ≤ n5)) 10) := hall 22 (by decide)
            obtain ⟨A23, k23, e23, r23⟩ : ∃ A c, v 23 = .slice A 3 c ∧ Rd w' A ([zb, errIf (decide (X ≤ n4)) 10, errIf (decide (Y ≤ n5)) 10].map (.int .i64)) := hall 23 (by decide)
            have e24 : v 24 = .int .i64 (z1) := hall 24 (by decide)
            have e25 : v 25 = .int .i64 (zb) := hall 25 (by decide)
            have e26 : v 26 = .agg #[.int .i64 n0, .int .i64 n1] := hall 26 (by decide)
            have e27 : v 27 = .pointer (some ⟨bP, 1, none⟩) := hall 27 (by decide)
            have e28 : v 28 = .int .i64 (X) := hall 28 (by decide)
            have e29 : v 29 = .int .i64 (errIf (decide (n0 < 0) || decide (n1 ≤ n0) || decide (X < n1)) 14) := hall 29 (by decide)
            have e30 : v 30 = .agg #[.int .i64 n2, .int .i64 n3] := hall 30 (by decide)
            have e31 : v 31 = .pointer (some ⟨bP, 2, none⟩) := hall 31 (by decide)
            have e32 : v 32 = .int .i64 (Y) := hall 32 (by decide)
            have e33 : v 33 = .int .i64 (errIf (decide (n2 < 0) || decide (n3 ≤ n2) || decide (Y < n3)) 14) := hall 33 (by decide)
            obtain ⟨A34, k34, e34, r34⟩ : ∃ A c, v 34 = .slice A 3 c ∧ Rd w' A ([zb, errIf (decide (n0 < 0) || decide (n1 ≤ n0) || decide (X < n1)) 14, errIf (decide (n2 < 0) || decide (n3 ≤ n2) || decide (Y < n3)) 14].map (.int .i64)) := hall 34 (by decide)
            have e35 : v 35 = .int .i64 (z2) := hall 35 (by decide)
            have e36 : v 36 = .int .i64 (z1) := hall 36 (by decide)
            have e37 : v 37 = .int .i64 (z2) := hall 37 (by decide)
            go_wp2_with fail
            go_meet
            exact ⟨by first | rfl | exact e36, by first | rfl | exact e37, hR⟩
      case rest =>
        obtain ⟨rfl, rfl, hfin⟩ := hcut
        replace HR := Lib.hid (HR.out.below hfin); replace HXP := Lib.hid (HXP.out.below hfin); replace HXN := Lib.hid (HXN.out.below hfin); replace HXC := Lib.hid (HXC.out.below hfin)
        replace HXR := Lib.hid (HXR.out.below hfin); replace HXD := Lib.hid (HXD.out.below hfin); replace HB := Lib.hid (HB.out.trans (hfin.mono HB.out.size))
        clear hfin
        go_upto_region 10 with fail
        have hn := Blk.new wc 43 #[.string ⟨#[]⟩, .int .i64 0, .int .i64 0, .slice none 0 0]
        have hb : Below wc.heap.size wc (wc.alloc (.cells #[.string ⟨#[]⟩, .int .i64 0, .int .i64 0, .slice none 0 0] 43)) := (Below.refl _ _).alloc (Nat.le_refl _) _
        have hge := HB.out.size
        have hlt_HXP := HXP.out.lt
        have hlt_HXN := HXN.out.lt
        have hlt_HXC := HXC.out.lt
        have hlt_HXR := HXR.out.lt
        have hlt_HXD := HXD.out.lt
        obtain ⟨bZ, hl⟩ : ∃ b, wc.heap.size = b := ⟨_, rfl⟩
        generalize wc.alloc (.cells #[.string ⟨#[]⟩, .int .i64 0, .int .i64 0, .slice none 0 0] 43) = t1 at hn hb ⊢
        replace HR := Lib.hid (HR.out.below hb); replace HXP := Lib.hid (HXP.out.below hb); replace HXN := Lib.hid (HXN.out.below hb); replace HXC := Lib.hid (HXC.out.below hb)
        replace HXR := Lib.hid (HXR.out.below hb); replace HXD := Lib.hid (HXD.out.below hb); replace HB := Lib.hid (HB.out.trans (hb.mono HB.out.size))
        clear hb
        rw [hl] at hn hge hlt_HXP hlt_HXN hlt_HXC hlt_HXR hlt_HXD
        try rw [hl]
        have HXZ := Lib.hid hn; have HGZ := Lib.hid hge; clear hn hl hge
        have HNZHXP : RowKit.Hid (¬ bP = bZ) := Lib.hid (by omega); have HNZHXN : RowKit.Hid (¬ bN = bZ) := Lib.hid (by omega); have HNZHXC : RowKit.Hid (¬ bC = bZ) := Lib.hid (by omega); have HNZHXR : RowKit.Hid (¬ bR = bZ) := Lib.hid (by omega); have HNZHXD : RowKit.Hid (¬ bD = bZ) := Lib.hid (by omega)
        clear hlt_HXP hlt_HXN hlt_HXC hlt_HXR hlt_HXD
        obtain ⟨cHXP_0, cHXP_1, cHXP_2, cHXP_3⟩ := box4 HXP.out
        go_wp2_with fail
        refine (HOWN.out _ HR.out).mono ?_
        rintro e t5 ⟨g2, c2, rfl, hcc2, hrd, hb⟩
        replace HR := Lib.hid (HR.out.below hb); replace HXP := Lib.hid (HXP.out.below hb); replace HXN := Lib.hid (HXN.out.below hb); replace HXC := Lib.hid (HXC.out.below hb)
        replace HXR := Lib.hid (HXR.out.below hb); replace HXD := Lib.hid (HXD.out.below hb); replace HXZ := Lib.hid (HXZ.out.below hb); replace HB := Lib.hid (HB.out.trans (hb.mono HB.out.size))
        clear hb
        have HO := Lib.hid hrd; clear hrd
        clear cHXP_0 cHXP_1 cHXP_2 cHXP_3
        go_wp2_with fail
        refine (HCP.out g2 c2 _ HO.out).mono ?_
        rintro e t6 ⟨rfl, hb⟩
        replace HR := Lib.hid (HR.out.below hb); replace HO := Lib.hid (HO.out.below hb); replace HXP := Lib.hid (HXP.out.below hb); replace HXN := Lib.hid (HXN.out.below hb)
        replace HXC := Lib.hid (HXC.out.below hb); replace HXR := Lib.hid (HXR.out.below hb); replace HXD := Lib.hid (HXD.out.below hb); replace HXZ := Lib.hid (HXZ.out.below hb)
        replace HB := Lib.hid (HB.out.trans (hb.mono HB.out.size))
        clear hb
        clear hcc2
        clear HO
        obtain ⟨cHXD_0, cHXD_1, cHXD_2, cHXD_3⟩ := box4 HXD.out
        obtain ⟨cHXZ_0, cHXZ_1, cHXZ_2, cHXZ_3⟩ := box4 HXZ.out
        go_wp2_with fail
        refine (one_bad ⟨#[]⟩ 0 0 none 0 0 z2 HZ2.out _).mono ?_
        rintro e t7 ⟨rfl, hb⟩
        replace HR := Lib.hid (HR.out.below hb); replace HXP := Lib.hid (HXP.out.below hb); replace HXN := Lib.hid (HXN.out.below hb); replace HXC := Lib.hid (HXC.out.below hb)
        replace HXR := Lib.hid (HXR.out.below hb); replace HXD := Lib.hid (HXD.out.below hb); replace HXZ := Lib.hid (HXZ.out.below hb); replace HB := Lib.hid (HB.out.trans (hb.mono HB.out.size))
        clear hb
        clear cHXD_0 cHXD_1 cHXD_2 cHXD_3 cHXZ_0 cHXZ_1 cHXZ_2 cHXZ_3
        go_wp2_with fail
        refine (awake_laid _ (HL.out.below HB.out)).mono ?_
        rintro e uz ⟨rfl, hb⟩
        replace HR := Lib.hid (HR.out.below hb); replace HXP := Lib.hid (HXP.out.below hb); replace HXN := Lib.hid (HXN.out.below hb); replace HXC := Lib.hid (HXC.out.below hb)
        replace HXR := Lib.hid (HXR.out.below hb); replace HXD := Lib.hid (HXD.out.below hb); replace HXZ := Lib.hid (HXZ.out.below hb); replace HB := Lib.hid (HB.out.trans (hb.mono HB.out.size))
        clear hb
        go_wp2
        go_ret
        exact trueEnd_mk rfl HB.out
end Go.Proofs.YtnbpcfakkphmcaaGreatDoor
namespace Go.Proofs.YtnbpcfakkphmcaaGreatDoor
open Go.ChangeShapes Go.WideShapes Go.ChangeAt Go.WideMaps Go.WideElems Go.RowKit
set_option linter.unusedVariables false
set_option maxRecDepth 100000
theorem c44 : Tryz.prog.cellsOf 44 = 6 := by kernel_rfl
theorem open_six {H : Type} {enc : TypeId × Value → H} {W : World} {r : Reach} {b0 base : Nat} {sp : Nat → Bool} {held : Bool} {v : Value} {d : DataW H} {ps : List MemPlace} (hval : Value.okWide Tryz.prog W r b0 44 v) (hd : DataW.Trod enc Tryz.prog W base sp held 44 v d ps) :
    ∃ n0 n1 n2 n3 n4 n5 : Int, v = .agg #[.int .i64 n0, .int .i64 n1, .int .i64 n2, .int .i64 n3, .int .i64 n4, .int .i64 n5] := by
  obtain ⟨cs, rfl, hsz, _⟩ : ∃ cs, v = .agg cs ∧ cs.size = Tryz.prog.cellsOf 44 ∧ Row.okWide Tryz.prog W r b0 44 cs := by
    simpa [Value.okWide, Tryz.underlying44] using hval
  rw [c44] at hsz
  obtain ⟨l⟩ := cs
  obtain ⟨fuel, hf⟩ := hd
  obtain ⟨xs, m, _, _, _, hn, hel⟩ := DataW.trod_array Tryz.underlying44 hf
  rw [c3] at hel
  match l, hsz with
  | [a0, a1, a2, a3, a4, a5], _ =>
    have key : ∀ i, i < 6 → ∃ n : Int, ([a0, a1, a2, a3, a4, a5].drop (i * 1)).take 1 = [.int .i64 n] := fun i hi => by
      have h1 := hel i hi
      have h2 : xs[i]? = some (xs[i]'(by omega)) := List.getElem?_eq_getElem (by omega)
      rw [h2] at h1
      obtain ⟨k, e, _, w⟩ := DataW.trod_int Tryz.underlying3 h1
      exact ⟨k, e⟩
    obtain ⟨n0, e0⟩ := key 0 (by omega)
    obtain ⟨n1, e1⟩ := key 1 (by omega)
    obtain ⟨n2, e2⟩ := key 2 (by omega)
    obtain ⟨n3, e3⟩ := key 3 (by omega)
    obtain ⟨n4, e4⟩ := key 4 (by omega)
    obtain ⟨n5, e5⟩ := key 5 (by omega)
    simp at e0 e1 e2 e3 e4 e5
    exact ⟨n0, n1, n2, n3, n4, n5, by rw [e0, e1, e2, e3, e4, e5]⟩
end Go.Proofs.YtnbpcfakkphmcaaGreatDoor
namespace Go.Proofs.YtnbpcfakkphmcaaGreatDoor
open Go.RowKit
set_option linter.unusedVariables false
set_option maxRecDepth 100000
theorem at_zero {p : Pic} {x y : Int} (h : atErr p x y = 0) : p.err = 0 ∧ (0 ≤ x ∧ x < p.w) ∧ 0 ≤ y ∧ y < p.h := by
  have h0 := firstE_zero h
  have h1 := errIf_zero (by decide) (h0 _ (by simp : errIf (decide (x < 0) || decide (p.w ≤ x)) 10 ∈ _))
  have h2 := errIf_zero (by decide) (h0 _ (by simp : errIf (decide (y < 0) || decide (p.h ≤ y)) 10 ∈ _))
  simp at h1 h2
  exact ⟨h0 _ (by simp), by omega, by omega⟩
theorem crop_zero {p : Pic} {a b a' b' : Int} (h : cropErr p a b a' b' = 0) : p.err = 0 ∧ (0 ≤ a ∧ a < b ∧ b ≤ p.w) ∧ 0 ≤ a' ∧ a' < b' ∧ b' ≤ p.h := by
  have h0 := firstE_zero h
  have h1 := errIf_zero (by decide) (h0 _ (by simp : errIf (decide (a < 0) || decide (b ≤ a) || decide (p.w < b)) 14 ∈ _))
  have h2 := errIf_zero (by decide) (h0 _ (by simp : errIf (decide (a' < 0) || decide (b' ≤ a') || decide (p.h < b')) 14 ∈ _))
  simp at h1 h2
  exact ⟨h0 _ (by simp), by omega, by omega⟩
theorem parts_any (p : Pic) (n0 n1 n2 n3 n4 n5 : Int) (A : Option Addr) (c : Nat) (w : World) (hlaid : Laid w) (hA : A = none → p.l.length = 0 ∧ c = 0) (hcap : p.l.length ≤ c) (hs : p.name.size ≤ maxLen) (hr : Rd w A (fl p.l)) :
    Calls Tryz.prog 4 #[p.val A c, .agg #[.int .i64 n0, .int .i64 n1, .int .i64 n2, .int .i64 n3, .int .i64 n4, .int .i64 n5]] w (TrueEnd w) := by
  by_cases hsh : shortB p = true
  · obtain ⟨nm, X, Y, l⟩ := p
    by_cases h1 : atErr ⟨nm, X, Y, l⟩ n4 n5 = 0 <;> by_cases h2 : cropErr ⟨nm, X, Y, l⟩ n0 n1 n2 n3 = 0
    · obtain ⟨he, hx, hy⟩ := at_zero h1
      obtain ⟨_, hc, hd⟩ := crop_zero h2
      have hp := ok_of he
      simp only [] at hx hy hc hd
      obtain ⟨W, rfl⟩ : ∃ W : Nat, X = W := ⟨X.toNat, by omega⟩
      obtain ⟨H, rfl⟩ : ∃ H : Nat, Y = H := ⟨Y.toNat, by omega⟩
      obtain ⟨cf, rfl⟩ : ∃ n : Nat, n0 = n := ⟨n0.toNat, by omega⟩
      obtain ⟨rf, rfl⟩ : ∃ n : Nat, n2 = n := ⟨n2.toNat, by omega⟩
      obtain ⟨M, rfl⟩ : ∃ n : Nat, n1 = (cf : Int) + n := ⟨(n1 - cf).toNat, by omega⟩
      obtain ⟨K, rfl⟩ : ∃ n : Nat, n3 = (rf : Int) + n := ⟨(n3 - rf).toNat, by omega⟩
      exact parts_11 nm W H l hp n4.toNat n5.toNat (by omega) (by omega) n4 n5 (by omega) (by omega) cf M rf K (by omega) (by omega) A c w hlaid hsh hA hcap hr
    · obtain ⟨he, hx, hy⟩ := at_zero h1
      have hp := ok_of he
      simp only [] at hx hy
      obtain ⟨W, rfl⟩ : ∃ W : Nat, X = W := ⟨X.toNat, by omega⟩
      obtain ⟨H, rfl⟩ : ∃ H : Nat, Y = H := ⟨Y.toNat, by omega⟩
      exact parts_10 nm W H l hp n4.toNat n5.toNat (by omega) (by omega) n4 n5 (by omega) (by omega) n0 n1 n2 n3 _ rfl h2 A c w hlaid hsh hA hcap hr
    · obtain ⟨he, hc, hd⟩ := crop_zero h2
      have hp := ok_of he
      simp only [] at hc hd
      obtain ⟨W, rfl⟩ : ∃ W : Nat, X = W := ⟨X.toNat, by omega⟩
      obtain ⟨H, rfl⟩ : ∃ H : Nat, Y = H := ⟨Y.toNat, by omega⟩
      obtain ⟨cf, rfl⟩ : ∃ n : Nat, n0 = n := ⟨n0.toNat, by omega⟩
      obtain ⟨rf, rfl⟩ : ∃ n : Nat, n2 = n := ⟨n2.toNat, by omega⟩
      obtain ⟨M, rfl⟩ : ∃ n : Nat, n1 = (cf : Int) + n := ⟨(n1 - cf).toNat, by omega⟩
      obtain ⟨K, rfl⟩ : ∃ n : Nat, n3 = (rf : Int) + n := ⟨(n3 - rf).toNat, by omega⟩
      exact parts_01 nm W H l hp n4 n5 cf M rf K (by omega) (by omega) _ rfl h1 A c w hlaid hsh hA hcap hr
    · exact parts_00 nm X Y l n4 n5 n0 n1 n2 n3 _ rfl h1 _ rfl h2 A c w hlaid hsh hA hcap hr
  · exact parts_long p n0 n1 n2 n3 n4 n5 A c w hlaid (by simpa using hsh)
end Go.Proofs.YtnbpcfakkphmcaaGreatDoor
