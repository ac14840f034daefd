/- PictureBasics: the walk of the law. -/
import Derived.Test.YthbdiifinkbcnaaGreatDoorAu
import Derived.Test.YthbdiifinkbcnaaGreatDoorAv
namespace Go.Proofs.YthbdiifinkbcnaaGreatDoor
open Go.RowKit
set_option linter.unusedVariables false
theorem checkRatioE_any (a b : Int) (ha : -9223372036854775808 ≤ a ∧ a ≤ 9223372036854775807) (hb : -9223372036854775808 ≤ b ∧ b ≤ 9223372036854775807) (w : World) :
    Calls Tryz.prog 22 #[.agg #[.int .i64 a, .int .i64 b]] w fun e w' => e = .returned (.int .i64 (ratioE a b)) ∧ Below w.heap.size w w' := checkRatio_any a b ha hb w
theorem ints_same (A A2 : Option Addr) (c c2 n : Nat) (l : List Int) (w : World) (hl : l.length = n) (hn : n ≤ maxLen) (hr : Rd w A (l.map (Value.int .i64))) (hr2 : Rd w A2 (l.map (Value.int .i64))) : Calls Tryz.prog 21 #[.slice A n c, .slice A2 n c2] w fun e w' => e = .returned (.bool true) ∧ Below w.heap.size w w' := by
  have hs : sameI l l = true := by simp [sameI]
  have h1 := sameInts_any A A2 c c2 l l w (by rw [hl]; exact hn) (by rw [hl]; exact hn) hr hr2
  rw [hl, hs] at h1
  exact h1
/-- What the laid variables give: the powers' cells, the table of powers of ten. -/
def Laid (w : World) : Prop := (∀ i, i < 4 → w.cell? ⟨1, i * 2, none⟩ = some (.int .i64 (pwR i)) ∧ w.cell? ⟨1, i * 2 + 1, none⟩ = some (.int .i64 (pwI i))) ∧ 1 < w.heap.size ∧ Lib.TabIs Tryz.prog w "internal/strconv.uint64pow10" .u64 Lib.pow10Tab
theorem Laid.below {w w' : World} (h : Laid w) (hb : Below w.heap.size w w') : Laid w' := ⟨fun i hi => ⟨(hb.cell (p := ⟨1, i * 2, none⟩) h.2.1).trans (h.1 i hi).1, (hb.cell (p := ⟨1, i * 2 + 1, none⟩) h.2.1).trans (h.1 i hi).2⟩, Nat.lt_of_lt_of_le h.2.1 hb.size, Lib.tabBelow_of_tabIs h.2.2 _ hb⟩
theorem awake_laid (w : World) (h : Laid w) : Calls Tryz.prog 14 #[] w fun e w' => e = .returned (.bool true) ∧ Below w.heap.size w w' := awake_any w h.1 h.2.1 h.2.2
set_option maxRecDepth 100000 in
set_option maxHeartbeats 2000000 in
theorem basics_walk (s : ByteArray) (n0 n1 n2 n3 : Int) (x : Nat) (hs : s.size ≤ maxLen)
    (h2 : -9223372036854775808 ≤ n2 ∧ n2 ≤ 9223372036854775807) (h3 : -9223372036854775808 ≤ n3 ∧ n3 ≤ 9223372036854775807) (w : World) (hlaid : Laid w) :
    Calls Tryz.prog 3 #[.string s, .agg #[.int .i64 n0, .int .i64 n1, .int .i64 n2, .int .i64 n3], .float .f32 x] w fun e w' => e = .returned (.bool true) ∧ Below w.heap.size w w' := by
  have HL := Lib.hid hlaid; clear hlaid
  go_enter Tryz.func3, Tryz.ntmps3
  go_upto_region 1 with fail
  have hn := Blk.new w 22 #[.int .i64 n0, .int .i64 n1, .int .i64 n2, .int .i64 n3]
  have hb := (Below.refl w.heap.size w).alloc (Nat.le_refl _) (.cells #[.int .i64 n0, .int .i64 n1, .int .i64 n2, .int .i64 n3] 22)
  obtain ⟨b0, hl⟩ : ∃ b, w.heap.size = b := ⟨_, rfl⟩
  generalize w.alloc (.cells #[.int .i64 n0, .int .i64 n1, .int .i64 n2, .int .i64 n3] 22) = u0 at hn hb ⊢
  have HB := Lib.hid hb; clear hb
  rw [hl] at hn ⊢
  have HX := Lib.hid hn; clear hn hl
  obtain ⟨c0, c1, c2, c3⟩ := box4 HX.out

  by_cases hlong : 60 < (s.size : Int)
  · go_wp2_with fail
    refine (awake_laid _ (HL.out.below HB.out)).mono ?_
    rintro e u1 ⟨rfl, hb1⟩
    go_wp2
    go_ret
    exact ⟨rfl, HB.out.trans (hb1.mono HB.out.size)⟩
  · by_cases hmid : 40 < n1 ∧ n1 ≤ 256
    · obtain ⟨hm1, hm2⟩ := hmid
      go_wp2_with fail
      refine (awake_laid _ (HL.out.below HB.out)).mono ?_
      rintro e u1 ⟨rfl, hb1⟩
      go_wp2
      go_ret
      exact ⟨rfl, HB.out.trans (hb1.mono HB.out.size)⟩
    · by_cases hgood : (1 ≤ n0 ∧ n0 ≤ 2147483646) ∧ 0 ≤ n1 ∧ n1 ≤ 40
      · obtain ⟨⟨k1, k2⟩, k3, k4⟩ := hgood
        obtain ⟨n, rfl⟩ : ∃ n : Nat, n1 = (n : Int) := ⟨n1.toNat, by omega⟩
        have hmid1 : ¬ (40 : Int) < (n : Int) := by omega
        clear hmid
        go_upto_region 3 with fail
        go_wp2_with fail
        refine (draw_ok n0 n ⟨k1, k2⟩ (by omega) _).mono ?_
        rintro e u1 ⟨ad, rfl, hrd, hb1⟩
        replace HX := Lib.hid (HX.out.below hb1); have HB1 := Lib.hid (HB.out.trans (hb1.mono HB.out.size)); have HA := Lib.hid hrd
        clear hrd hb1 HB c0 c1 c2 c3
        obtain ⟨c0, c1, c2, c3⟩ := box4 HX.out
        have hz := HX.out.lt
        go_upto_region 4 with fail
        have HF : RowKit.Hid (firstE [outs n0 1 2147483646, outs (n : Int) 0 256] = 0) := Lib.hid (by simp [firstE, outs, errIf]; omega)
        go_region_held3 (SK u1)
          (first | exact sk_drew0 _ | exact sk_drew (by assumption) | assumption | exact sk_call (by assumption) (by assumption) | exact sk_alloc (by assumption) _)
          (first
            | (go_at_call 17; refine (checkRange_any _ _ _ _).mono ?_; rintro e wn ⟨rfl, rfl⟩)
            | (go_at_call 16; refine (firstL_n _ _ _ [_, _] _ rfl (by simp [maxLen]) (by exact rd_of_blk (Blk.new _ _ _) rfl)).mono ?_; rintro e wn ⟨rfl, rfl⟩))
        rw [HF.out]
        have hch := sk_drew (sk_alloc (sk_refl u1) (.cells #[.int .i64 (outs n0 1 2147483646), .int .i64 (outs (n : Int) 0 256)] 3))
        generalize (u1.alloc (.cells #[.int .i64 (outs n0 1 2147483646), .int .i64 (outs (n : Int) 0 256)] 3)).drew = u15 at hch ⊢
        replace HX := Lib.hid (HX.out.below hch.1); replace HB1 := Lib.hid (HB1.out.trans (hch.1.mono HB1.out.size)); replace HA := Lib.hid (HA.out.below hch.1)
        clear hch c0 c1 c2 c3 hz
        obtain ⟨c0, c1, c2, c3⟩ := box4 HX.out
        go_wp2_with fail
        refine (drawR_ok n0 n ⟨k1, k2⟩ (by omega) _).mono ?_
        rintro e u2 ⟨A2, cc, rfl, hrd, hb2⟩
        replace HX := Lib.hid (HX.out.below hb2); have HB2 := Lib.hid (HB1.out.trans (hb2.mono HB1.out.size)); replace HA := Lib.hid (HA.out.below hb2); have HA2 := Lib.hid hrd
        clear hrd hb2 HB1
        clear c0 c1 c2 c3
        obtain ⟨c0, c1, c2, c3⟩ := box4 HX.out
        go_upto_region 9 with fail
        have hn1 := Blk.new u2 33 #[.int .i64 n2, .int .i64 n3]
        have hb := (Below.refl u2.heap.size u2).alloc (Nat.le_refl _) (.cells #[.int .i64 n2, .int .i64 n3] 33)
        obtain ⟨b1, hl⟩ : ∃ b, u2.heap.size = b := ⟨_, rfl⟩
        generalize u2.alloc (.cells #[.int .i64 n2, .int .i64 n3] 33) = w0 at hn1 hb ⊢
        rw [hl] at hn1 ⊢
        have HB3 := Lib.hid (HB2.out.trans (hb.mono HB2.out.size)); have HA3 := Lib.hid (HA.out.below hb); have HA23 := Lib.hid (HA2.out.below hb)
        clear HB2 HA HA2 hb c0 c1 c2 c3 HX hl
        have m0 : w0.cell? ⟨b1, 0, none⟩ = some (.int .i64 n2) := hn1.cell 0
        have m1 : w0.cell? ⟨b1, 1, none⟩ = some (.int .i64 n3) := hn1.cell 1
        have hz := hn1.lt; clear hn1
        go_region_held3 (SK w0)
          (first | exact sk_drew0 _ | exact sk_drew (by assumption) | assumption | exact sk_call (by assumption) (by assumption) | exact sk_alloc (by assumption) _)
          (first
            | (go_at_call 19; refine (isName_any s _ hs).mono ?_; rintro e wn ⟨rfl, hbn⟩; have hch := sk_call (w0 := w0) (by assumption) hbn)
            | (go_at_call 20; refine (isNameR_any s _ hs).mono ?_; rintro e wn ⟨rfl, rfl⟩)
            | (go_at_call 21; refine (ints_same _ _ _ _ n (drawL n0 n) _ (drawL_length n0 n) (by unfold maxLen; omega) (HA3.out.below (And.left (by assumption : SK w0 _))) (HA23.out.below (And.left (by assumption : SK w0 _)))).mono ?_; rintro e wn ⟨rfl, hbn⟩; have hch := sk_call (w0 := w0) (by assumption) hbn)
            | (go_at_call 22; refine (checkRatioE_any _ _ h2 h3 _).mono ?_; rintro e wn ⟨rfl, hbn⟩; have hch := sk_call (w0 := w0) (by assumption) hbn)
            | (go_at_call 23; refine (checkRatioR_any _ _ h2 h3 _).mono ?_; rintro e wn ⟨rfl, hbn⟩; have hch := sk_call (w0 := w0) (by assumption) hbn)
            | (go_at_call 24; refine (checkSample_any _ _).mono ?_; rintro e wn ⟨rfl, hbn⟩; have hch := sk_call (w0 := w0) (by assumption) hbn)
            | (go_at_call 25; refine (checkSampleR_any _ _).mono ?_; rintro e wn ⟨rfl, hbn⟩; have hch := sk_call (w0 := w0) (by assumption) hbn)
            | (go_at_call 14; refine (awake_laid _ (HL.out.below (HB3.out.trans ((And.left (by assumption : SK w0 _)).mono HB3.out.size)))).mono ?_; rintro e wn ⟨rfl, hbn⟩; have hch := sk_call (w0 := w0) (by assumption) hbn))
        have hfin := sk_call (w0 := w0) (by assumption) hbn
        go_wp2
        go_ret
        exact ⟨rfl, HB3.out.trans (hfin.1.mono HB3.out.size)⟩
      · have hne : firstE [outs n0 1 2147483646, outs n1 0 256] ≠ 0 := by
          intro h0
          have h1 := firstE_zero h0
          have ha := outs_zero (h1 (outs n0 1 2147483646) (by simp))
          have hb := outs_zero (h1 (outs n1 0 256) (by simp))
          exact hgood ⟨ha, hb.1, by omega⟩
        have hde := draw_err n0 n1 hne
        obtain ⟨z, hz⟩ : ∃ z, firstE [outs n0 1 2147483646, outs n1 0 256] = z := ⟨_, rfl⟩
        rw [hz] at hne hde
        have HDE := Lib.hid hde; have HF := Lib.hid hz; clear hde hz hgood
        have hz' : (z == 0) = false := by simpa using hne
        have hpart : 40 < n1 ∧ ¬ n1 ≤ 256 ∨ ¬ 40 < n1 := by omega
        clear hmid
        rcases hpart with ⟨p1, p2⟩ | p1
        all_goals
          go_upto_region 3 with fail
          go_wp2_with fail
          refine (HDE.out _).mono ?_
          rintro e u1 ⟨rfl, hb1⟩
          replace HX := Lib.hid (HX.out.below hb1); have HB1 := Lib.hid (HB.out.trans (hb1.mono HB.out.size)); clear hb1 HB c0 c1 c2 c3
          obtain ⟨c0, c1, c2, c3⟩ := box4 HX.out
          have hz := HX.out.lt
          go_upto_region 4 with fail
          go_region_held3 (SK u1)
            (first | exact sk_drew0 _ | exact sk_drew (by assumption) | assumption | exact sk_call (by assumption) (by assumption) | exact sk_alloc (by assumption) _)
            (first
              | (go_at_call 17; refine (checkRange_any _ _ _ _).mono ?_; rintro e wn ⟨rfl, rfl⟩)
              | (go_at_call 16; refine (firstL_n _ _ _ [_, _] _ rfl (by simp [maxLen]) (by exact rd_of_blk (Blk.new _ _ _) rfl)).mono ?_; rintro e wn ⟨rfl, rfl⟩))
          rw [HF.out]
          have hch := sk_drew (sk_alloc (sk_refl u1) (.cells #[.int .i64 (outs n0 1 2147483646), .int .i64 (outs n1 0 256)] 3))
          generalize (u1.alloc (.cells #[.int .i64 (outs n0 1 2147483646), .int .i64 (outs n1 0 256)] 3)).drew = u2 at hch ⊢
          replace HX := Lib.hid (HX.out.below hch.1); have HB2 := Lib.hid (HB1.out.trans (hch.1.mono HB1.out.size))
          clear hch HB1 hz
          have HA : RowKit.Hid (Rd u2 none (([] : List Int).map (Value.int .i64))) := Lib.hid (fun h => absurd h (by simp))
          have HA2 := HA
          clear c0 c1 c2 c3
          obtain ⟨c0, c1, c2, c3⟩ := box4 HX.out
          go_upto_region 9 with fail
          have hn1 := Blk.new u2 33 #[.int .i64 n2, .int .i64 n3]
          have hb := (Below.refl u2.heap.size u2).alloc (Nat.le_refl _) (.cells #[.int .i64 n2, .int .i64 n3] 33)
          obtain ⟨b1, hl⟩ : ∃ b, u2.heap.size = b := ⟨_, rfl⟩
          generalize u2.alloc (.cells #[.int .i64 n2, .int .i64 n3] 33) = w0 at hn1 hb ⊢
          rw [hl] at hn1 ⊢
          have HB3 := Lib.hid (HB2.out.trans (hb.mono HB2.out.size)); have HA3 := Lib.hid (HA.out.below hb); have HA23 := Lib.hid (HA2.out.below hb)
          clear HB2 HA HA2 hb c0 c1 c2 c3 HX hl
          have m0 : w0.cell? ⟨b1, 0, none⟩ = some (.int .i64 n2) := hn1.cell 0
          have m1 : w0.cell? ⟨b1, 1, none⟩ = some (.int .i64 n3) := hn1.cell 1
          have hz := hn1.lt; clear hn1
          go_region_held3 (SK w0)
            (first | exact sk_drew0 _ | exact sk_drew (by assumption) | assumption | exact sk_call (by assumption) (by assumption) | exact sk_alloc (by assumption) _)
            (first
              | (go_at_call 19; refine (isName_any s _ hs).mono ?_; rintro e wn ⟨rfl, hbn⟩; have hch := sk_call (w0 := w0) (by assumption) hbn)
              | (go_at_call 20; refine (isNameR_any s _ hs).mono ?_; rintro e wn ⟨rfl, rfl⟩)
              | (go_at_call 21; refine (ints_same _ _ _ _ 0 [] _ rfl (by decide) (HA3.out.below (And.left (by assumption : SK w0 _))) (HA23.out.below (And.left (by assumption : SK w0 _)))).mono ?_; rintro e wn ⟨rfl, hbn⟩; have hch := sk_call (w0 := w0) (by assumption) hbn)
              | (go_at_call 22; refine (checkRatioE_any _ _ h2 h3 _).mono ?_; rintro e wn ⟨rfl, hbn⟩; have hch := sk_call (w0 := w0) (by assumption) hbn)
              | (go_at_call 23; refine (checkRatioR_any _ _ h2 h3 _).mono ?_; rintro e wn ⟨rfl, hbn⟩; have hch := sk_call (w0 := w0) (by assumption) hbn)
              | (go_at_call 24; refine (checkSample_any _ _).mono ?_; rintro e wn ⟨rfl, hbn⟩; have hch := sk_call (w0 := w0) (by assumption) hbn)
              | (go_at_call 25; refine (checkSampleR_any _ _).mono ?_; rintro e wn ⟨rfl, hbn⟩; have hch := sk_call (w0 := w0) (by assumption) hbn)
              | (go_at_call 14; refine (awake_laid _ (HL.out.below (HB3.out.trans ((And.left (by assumption : SK w0 _)).mono HB3.out.size)))).mono ?_; rintro e wn ⟨rfl, hbn⟩; have hch := sk_call (w0 := w0) (by assumption) hbn))
          have hfin := sk_call (w0 := w0) (by assumption) hbn
          go_wp2
          go_ret
          exact ⟨rfl, HB3.out.trans (hfin.1.mono HB3.out.size)⟩

end Go.Proofs.YthbdiifinkbcnaaGreatDoor
