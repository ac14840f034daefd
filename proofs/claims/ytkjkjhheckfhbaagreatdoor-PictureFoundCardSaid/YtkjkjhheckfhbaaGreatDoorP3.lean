/- Parts of a proof: 'awake' returns true. PictureBasics: the walk of the law. -/
import Derived.Test.YtkjkjhheckfhbaaGreatDoorP1
import Derived.Laws.Cover3
import Derived.Test.YtkjkjhheckfhbaaGreatDoorAv
namespace Go.Proofs.YtkjkjhheckfhbaaGreatDoor
open Go.RowKit
set_option linter.unusedVariables false
attribute [local go_sem] run_store_float run_store_complex
set_option maxRecDepth 100000 in
set_option maxHeartbeats 2000000 in
theorem awake_any (w : World) (hP : ∀ i, i < 4 → w.cell? ⟨1, i * 2, none⟩ = some (.int .i64 (pwR i)) ∧ w.cell? ⟨1, i * 2 + 1, none⟩ = some (.int .i64 (pwI i))) (hP1 : 1 < w.heap.size) (htab : Lib.TabIs Tryz.prog w "internal/strconv.uint64pow10" .u64 Lib.pow10Tab) : Calls Tryz.prog 16 #[] w fun e w' => e = .returned (.bool true) ∧ Below w.heap.size w w' := by
  have HPP := Lib.hid hP; have HTAB := Lib.hid (Lib.tabBelow_of_tabIs htab); clear hP htab
  have HB := Lib.hid (Below.refl w.heap.size w)
  go_enter Tryz.func16, Tryz.ntmps16
  go_wp2_with fail
  refine (small_any _).mono ?_
  rintro e u2 ⟨g1, rfl, -, hg, hb⟩
  replace HB := Lib.hid (HB.out.trans (hb.mono HB.out.size))
  have HGg1 := Lib.hid hg; clear hg hb
  go_wp2_with fail
  refine (ex_at g1 _ HGg1.out).mono ?_
  rintro e u3 ⟨rfl, hb⟩
  replace HB := Lib.hid (HB.out.trans (hb.mono HB.out.size))
  replace HGg1 := Lib.hid (HGg1.out.below hb)
  clear hb
  clear HGg1
  go_wp2_with fail
  refine (small_any _).mono ?_
  rintro e u5 ⟨g4, rfl, -, hg, hb⟩
  replace HB := Lib.hid (HB.out.trans (hb.mono HB.out.size))
  have HGg4 := Lib.hid hg; clear hg hb
  go_wp2_with fail
  refine (ex_cropped g4 _ HGg4.out).mono ?_
  rintro e u6 ⟨k1, rfl, hr, hb⟩
  replace HB := Lib.hid (HB.out.trans (hb.mono HB.out.size))
  replace HGg4 := Lib.hid (HGg4.out.below hb)
  have HRc := Lib.hid hr; clear hr
  clear hb
  clear HGg4
  go_wp2_with fail
  have hn := Blk.new u6 50 #[.string pName, .int .i64 2, .int .i64 1, .slice (some ⟨k1, 0, none⟩) 2 2]
  have hb := (Below.refl u6.heap.size u6).alloc (Nat.le_refl _) (.cells #[.string pName, .int .i64 2, .int .i64 1, .slice (some ⟨k1, 0, none⟩) 2 2] 50)
  obtain ⟨b8, hl⟩ : ∃ b, u6.heap.size = b := ⟨_, rfl⟩
  generalize (u6.alloc (.cells #[.string pName, .int .i64 2, .int .i64 1, .slice (some ⟨k1, 0, none⟩) 2 2] 50)) = u7 at hn hb ⊢
  rw [hl] at hn ⊢
  replace HB := Lib.hid (HB.out.trans (hb.mono HB.out.size))
  replace HRc := Lib.hid (HRc.out.below hb)
  have HXc := Lib.hid hn; clear hn hb hl
  refine (small_any _).mono ?_
  rintro e u10 ⟨g9, rfl, -, hg, hb⟩
  replace HB := Lib.hid (HB.out.trans (hb.mono HB.out.size))
  replace HRc := Lib.hid (HRc.out.below hb)
  replace HXc := Lib.hid (HXc.out.below hb)
  have HGg9 := Lib.hid hg; clear hg hb
  go_wp2_with fail
  refine (ex_flipped g9 _ HGg9.out).mono ?_
  rintro e u11 ⟨k2, rfl, hr, hb⟩
  replace HB := Lib.hid (HB.out.trans (hb.mono HB.out.size))
  replace HRc := Lib.hid (HRc.out.below hb)
  replace HXc := Lib.hid (HXc.out.below hb)
  replace HGg9 := Lib.hid (HGg9.out.below hb)
  have HRf := Lib.hid hr; clear hr
  clear hb
  clear HGg9
  go_wp2_with fail
  have hn := Blk.new u11 50 #[.string pName, .int .i64 3, .int .i64 2, .slice (some ⟨k2, 0, none⟩) 6 6]
  have hb := (Below.refl u11.heap.size u11).alloc (Nat.le_refl _) (.cells #[.string pName, .int .i64 3, .int .i64 2, .slice (some ⟨k2, 0, none⟩) 6 6] 50)
  obtain ⟨b13, hl⟩ : ∃ b, u11.heap.size = b := ⟨_, rfl⟩
  generalize (u11.alloc (.cells #[.string pName, .int .i64 3, .int .i64 2, .slice (some ⟨k2, 0, none⟩) 6 6] 50)) = u12 at hn hb ⊢
  rw [hl] at hn ⊢
  replace HB := Lib.hid (HB.out.trans (hb.mono HB.out.size))
  replace HRc := Lib.hid (HRc.out.below hb)
  replace HXc := Lib.hid (HXc.out.below hb)
  replace HRf := Lib.hid (HRf.out.below hb)
  have HXf := Lib.hid hn; clear hn hb hl
  refine (small_any _).mono ?_
  rintro e u15 ⟨g14, rfl, -, hg, hb⟩
  replace HB := Lib.hid (HB.out.trans (hb.mono HB.out.size))
  replace HRc := Lib.hid (HRc.out.below hb)
  replace HXc := Lib.hid (HXc.out.below hb)
  replace HRf := Lib.hid (HRf.out.below hb)
  replace HXf := Lib.hid (HXf.out.below hb)
  have HGg14 := Lib.hid hg; clear hg hb
  go_wp2_with fail
  refine (ex_transposed g14 _ HGg14.out).mono ?_
  rintro e u16 ⟨k3, rfl, hr, hb⟩
  replace HB := Lib.hid (HB.out.trans (hb.mono HB.out.size))
  replace HRc := Lib.hid (HRc.out.below hb)
  replace HXc := Lib.hid (HXc.out.below hb)
  replace HRf := Lib.hid (HRf.out.below hb)
  replace HXf := Lib.hid (HXf.out.below hb)
  replace HGg14 := Lib.hid (HGg14.out.below hb)
  have HRt := Lib.hid hr; clear hr
  clear hb
  clear HGg14
  go_wp2_with fail
  have hn := Blk.new u16 50 #[.string pName, .int .i64 2, .int .i64 3, .slice (some ⟨k3, 0, none⟩) 6 6]
  have hb := (Below.refl u16.heap.size u16).alloc (Nat.le_refl _) (.cells #[.string pName, .int .i64 2, .int .i64 3, .slice (some ⟨k3, 0, none⟩) 6 6] 50)
  obtain ⟨b18, hl⟩ : ∃ b, u16.heap.size = b := ⟨_, rfl⟩
  generalize (u16.alloc (.cells #[.string pName, .int .i64 2, .int .i64 3, .slice (some ⟨k3, 0, none⟩) 6 6] 50)) = u17 at hn hb ⊢
  rw [hl] at hn ⊢
  replace HB := Lib.hid (HB.out.trans (hb.mono HB.out.size))
  replace HRc := Lib.hid (HRc.out.below hb)
  replace HXc := Lib.hid (HXc.out.below hb)
  replace HRf := Lib.hid (HRf.out.below hb)
  replace HXf := Lib.hid (HXf.out.below hb)
  replace HRt := Lib.hid (HRt.out.below hb)
  have HXt := Lib.hid hn; clear hn hb hl
  refine (small_any _).mono ?_
  rintro e u20 ⟨g19, rfl, -, hg, hb⟩
  replace HB := Lib.hid (HB.out.trans (hb.mono HB.out.size))
  replace HRc := Lib.hid (HRc.out.below hb)
  replace HXc := Lib.hid (HXc.out.below hb)
  replace HRf := Lib.hid (HRf.out.below hb)
  replace HXf := Lib.hid (HXf.out.below hb)
  replace HRt := Lib.hid (HRt.out.below hb)
  replace HXt := Lib.hid (HXt.out.below hb)
  have HGg19 := Lib.hid hg; clear hg hb
  go_wp2_with fail
  refine (small_any _).mono ?_
  rintro e u22 ⟨g21, rfl, -, hg, hb⟩
  replace HB := Lib.hid (HB.out.trans (hb.mono HB.out.size))
  replace HRc := Lib.hid (HRc.out.below hb)
  replace HXc := Lib.hid (HXc.out.below hb)
  replace HRf := Lib.hid (HRf.out.below hb)
  replace HXf := Lib.hid (HXf.out.below hb)
  replace HRt := Lib.hid (HRt.out.below hb)
  replace HXt := Lib.hid (HXt.out.below hb)
  replace HGg19 := Lib.hid (HGg19.out.below hb)
  have HGg21 := Lib.hid hg; clear hg hb
  go_wp2_with fail
  refine (ex_beside g19 g21 _ HGg19.out HGg21.out).mono ?_
  rintro e u23 ⟨k4, rfl, hr, hb⟩
  replace HB := Lib.hid (HB.out.trans (hb.mono HB.out.size))
  replace HRc := Lib.hid (HRc.out.below hb)
  replace HXc := Lib.hid (HXc.out.below hb)
  replace HRf := Lib.hid (HRf.out.below hb)
  replace HXf := Lib.hid (HXf.out.below hb)
  replace HRt := Lib.hid (HRt.out.below hb)
  replace HXt := Lib.hid (HXt.out.below hb)
  replace HGg19 := Lib.hid (HGg19.out.below hb)
  replace HGg21 := Lib.hid (HGg21.out.below hb)
  have HRb := Lib.hid hr; clear hr
  clear hb
  clear HGg19
  clear HGg21
  go_wp2_with fail
  have hn := Blk.new u23 50 #[.string pName, .int .i64 6, .int .i64 2, .slice (some ⟨k4, 0, none⟩) 12 12]
  have hb := (Below.refl u23.heap.size u23).alloc (Nat.le_refl _) (.cells #[.string pName, .int .i64 6, .int .i64 2, .slice (some ⟨k4, 0, none⟩) 12 12] 50)
  obtain ⟨b25, hl⟩ : ∃ b, u23.heap.size = b := ⟨_, rfl⟩
  generalize (u23.alloc (.cells #[.string pName, .int .i64 6, .int .i64 2, .slice (some ⟨k4, 0, none⟩) 12 12] 50)) = u24 at hn hb ⊢
  rw [hl] at hn ⊢
  replace HB := Lib.hid (HB.out.trans (hb.mono HB.out.size))
  replace HRc := Lib.hid (HRc.out.below hb)
  replace HXc := Lib.hid (HXc.out.below hb)
  replace HRf := Lib.hid (HRf.out.below hb)
  replace HXf := Lib.hid (HXf.out.below hb)
  replace HRt := Lib.hid (HRt.out.below hb)
  replace HXt := Lib.hid (HXt.out.below hb)
  replace HRb := Lib.hid (HRb.out.below hb)
  have HXb := Lib.hid hn; clear hn hb hl
  refine (small_any _).mono ?_
  rintro e u27 ⟨g26, rfl, -, hg, hb⟩
  replace HB := Lib.hid (HB.out.trans (hb.mono HB.out.size))
  replace HRc := Lib.hid (HRc.out.below hb)
  replace HXc := Lib.hid (HXc.out.below hb)
  replace HRf := Lib.hid (HRf.out.below hb)
  replace HXf := Lib.hid (HXf.out.below hb)
  replace HRt := Lib.hid (HRt.out.below hb)
  replace HXt := Lib.hid (HXt.out.below hb)
  replace HRb := Lib.hid (HRb.out.below hb)
  replace HXb := Lib.hid (HXb.out.below hb)
  have HGg26 := Lib.hid hg; clear hg hb
  go_wp2_with fail
  refine (ex_fields g26 _ HGg26.out).mono ?_
  rintro e u28 ⟨ka, kb, rfl, hr1, hr2, hb⟩
  replace HB := Lib.hid (HB.out.trans (hb.mono HB.out.size))
  replace HRc := Lib.hid (HRc.out.below hb)
  replace HXc := Lib.hid (HXc.out.below hb)
  replace HRf := Lib.hid (HRf.out.below hb)
  replace HXf := Lib.hid (HXf.out.below hb)
  replace HRt := Lib.hid (HRt.out.below hb)
  replace HXt := Lib.hid (HXt.out.below hb)
  replace HRb := Lib.hid (HRb.out.below hb)
  replace HXb := Lib.hid (HXb.out.below hb)
  replace HGg26 := Lib.hid (HGg26.out.below hb)
  have HRka := Lib.hid hr1; clear hr1
  have HRkb := Lib.hid hr2; clear hr2
  clear hb
  clear HGg26
  go_wp2_with fail
  have hn := Blk.new u28 67 #[.string pName, .int .i64 3, .int .i64 1, .slice (some ⟨ka, 0, none⟩) 3 3, .string pName, .int .i64 3, .int .i64 1, .slice (some ⟨kb, 0, none⟩) 3 3]
  have hb := (Below.refl u28.heap.size u28).alloc (Nat.le_refl _) (.cells #[.string pName, .int .i64 3, .int .i64 1, .slice (some ⟨ka, 0, none⟩) 3 3, .string pName, .int .i64 3, .int .i64 1, .slice (some ⟨kb, 0, none⟩) 3 3] 67)
  obtain ⟨b30, hl⟩ : ∃ b, u28.heap.size = b := ⟨_, rfl⟩
  generalize (u28.alloc (.cells #[.string pName, .int .i64 3, .int .i64 1, .slice (some ⟨ka, 0, none⟩) 3 3, .string pName, .int .i64 3, .int .i64 1, .slice (some ⟨kb, 0, none⟩) 3 3] 67)) = u29 at hn hb ⊢
  rw [hl] at hn ⊢
  replace HB := Lib.hid (HB.out.trans (hb.mono HB.out.size))
  replace HRc := Lib.hid (HRc.out.below hb)
  replace HXc := Lib.hid (HXc.out.below hb)
  replace HRf := Lib.hid (HRf.out.below hb)
  replace HXf := Lib.hid (HXf.out.below hb)
  replace HRt := Lib.hid (HRt.out.below hb)
  replace HXt := Lib.hid (HXt.out.below hb)
  replace HRb := Lib.hid (HRb.out.below hb)
  replace HXb := Lib.hid (HXb.out.below hb)
  replace HRka := Lib.hid (HRka.out.below hb)
  replace HRkb := Lib.hid (HRkb.out.below hb)
  have HXl := Lib.hid hn; clear hn hb hl
  refine (ex_woven _ _ _ HRka.out HRkb.out).mono ?_
  rintro e u31 ⟨k5, rfl, hr, hb⟩
  replace HB := Lib.hid (HB.out.trans (hb.mono HB.out.size))
  replace HRc := Lib.hid (HRc.out.below hb)
  replace HXc := Lib.hid (HXc.out.below hb)
  replace HRf := Lib.hid (HRf.out.below hb)
  replace HXf := Lib.hid (HXf.out.below hb)
  replace HRt := Lib.hid (HRt.out.below hb)
  replace HXt := Lib.hid (HXt.out.below hb)
  replace HRb := Lib.hid (HRb.out.below hb)
  replace HXb := Lib.hid (HXb.out.below hb)
  replace HRka := Lib.hid (HRka.out.below hb)
  replace HRkb := Lib.hid (HRkb.out.below hb)
  replace HXl := Lib.hid (HXl.out.below hb)
  have HRw := Lib.hid hr; clear hr
  clear hb
  go_upto_region 8 with fail
  have hn := Blk.new u31 50 #[.string pName, .int .i64 3, .int .i64 2, .slice (some ⟨k5, 0, none⟩) 6 6]
  have hb := (Below.refl u31.heap.size u31).alloc (Nat.le_refl _) (.cells #[.string pName, .int .i64 3, .int .i64 2, .slice (some ⟨k5, 0, none⟩) 6 6] 50)
  obtain ⟨b33, hl⟩ : ∃ b, u31.heap.size = b := ⟨_, rfl⟩
  generalize (u31.alloc (.cells #[.string pName, .int .i64 3, .int .i64 2, .slice (some ⟨k5, 0, none⟩) 6 6] 50)) = u32 at hn hb ⊢
  rw [hl] at hn ⊢
  replace HB := Lib.hid (HB.out.trans (hb.mono HB.out.size))
  replace HRc := Lib.hid (HRc.out.below hb)
  replace HXc := Lib.hid (HXc.out.below hb)
  replace HRf := Lib.hid (HRf.out.below hb)
  replace HXf := Lib.hid (HXf.out.below hb)
  replace HRt := Lib.hid (HRt.out.below hb)
  replace HXt := Lib.hid (HXt.out.below hb)
  replace HRb := Lib.hid (HRb.out.below hb)
  replace HXb := Lib.hid (HXb.out.below hb)
  replace HRka := Lib.hid (HRka.out.below hb)
  replace HRkb := Lib.hid (HRkb.out.below hb)
  replace HXl := Lib.hid (HXl.out.below hb)
  replace HRw := Lib.hid (HRw.out.below hb)
  have HXw := Lib.hid hn; clear hn hb hl
  obtain ⟨c0, c1, c2, c3⟩ := box4 HXc.out
  go_wp2_with fail
  have hb0 := (Below.refl u32.heap.size u32).alloc (Nat.le_refl _) (.cells #[.float .f32 1084227584, .float .f32 1086324736] 23)
  refine (has_true 2 1 _ 2 2 _ [1084227584, 1086324736] [1084227584, 1086324736] _ rfl rfl (by decide) (by decide +kernel) (HRc.out.below hb0) (Blk.new u32 23 _)).mono ?_
  rintro e u34 ⟨rfl, hb1⟩
  have hb := hb0.trans (hb1.mono hb0.size); clear hb0 hb1
  replace HB := Lib.hid (HB.out.trans (hb.mono HB.out.size))
  replace HRc := Lib.hid (HRc.out.below hb)
  replace HXc := Lib.hid (HXc.out.below hb)
  replace HRf := Lib.hid (HRf.out.below hb)
  replace HXf := Lib.hid (HXf.out.below hb)
  replace HRt := Lib.hid (HRt.out.below hb)
  replace HXt := Lib.hid (HXt.out.below hb)
  replace HRb := Lib.hid (HRb.out.below hb)
  replace HXb := Lib.hid (HXb.out.below hb)
  replace HRka := Lib.hid (HRka.out.below hb)
  replace HRkb := Lib.hid (HRkb.out.below hb)
  replace HXl := Lib.hid (HXl.out.below hb)
  replace HRw := Lib.hid (HRw.out.below hb)
  replace HXw := Lib.hid (HXw.out.below hb)
  clear hb c0 c1 c2 c3
  clear HXc
  clear HRc
  obtain ⟨c0, c1, c2, c3⟩ := box4 HXf.out
  go_wp2_with fail
  have hb0 := (Below.refl u34.heap.size u34).alloc (Nat.le_refl _) (.cells #[.float .f32 1077936128, .float .f32 1073741824, .float .f32 1065353216, .float .f32 1086324736, .float .f32 1084227584, .float .f32 1082130432] 23)
  refine (has_true 3 2 _ 6 6 _ [1077936128, 1073741824, 1065353216, 1086324736, 1084227584, 1082130432] [1077936128, 1073741824, 1065353216, 1086324736, 1084227584, 1082130432] _ rfl rfl (by decide) (by decide +kernel) (HRf.out.below hb0) (Blk.new u34 23 _)).mono ?_
  rintro e u35 ⟨rfl, hb1⟩
  have hb := hb0.trans (hb1.mono hb0.size); clear hb0 hb1
  replace HB := Lib.hid (HB.out.trans (hb.mono HB.out.size))
  replace HRf := Lib.hid (HRf.out.below hb)
  replace HXf := Lib.hid (HXf.out.below hb)
  replace HRt := Lib.hid (HRt.out.below hb)
  replace HXt := Lib.hid (HXt.out.below hb)
  replace HRb := Lib.hid (HRb.out.below hb)
  replace HXb := Lib.hid (HXb.out.below hb)
  replace HRka := Lib.hid (HRka.out.below hb)
  replace HRkb := Lib.hid (HRkb.out.below hb)
  replace HXl := Lib.hid (HXl.out.below hb)
  replace HRw := Lib.hid (HRw.out.below hb)
  replace HXw := Lib.hid (HXw.out.below hb)
  clear hb c0 c1 c2 c3
  clear HXf
  clear HRf
  obtain ⟨c0, c1, c2, c3⟩ := box4 HXt.out
  go_wp2_with fail
  have hb0 := (Below.refl u35.heap.size u35).alloc (Nat.le_refl _) (.cells #[.float .f32 1065353216, .float .f32 1082130432, .float .f32 1073741824, .float .f32 1084227584, .float .f32 1077936128, .float .f32 1086324736] 23)
  refine (has_true 2 3 _ 6 6 _ [1065353216, 1082130432, 1073741824, 1084227584, 1077936128, 1086324736] [1065353216, 1082130432, 1073741824, 1084227584, 1077936128, 1086324736] _ rfl rfl (by decide) (by decide +kernel) (HRt.out.below hb0) (Blk.new u35 23 _)).mono ?_
  rintro e u36 ⟨rfl, hb1⟩
  have hb := hb0.trans (hb1.mono hb0.size); clear hb0 hb1
  replace HB := Lib.hid (HB.out.trans (hb.mono HB.out.size))
  replace HRt := Lib.hid (HRt.out.below hb)
  replace HXt := Lib.hid (HXt.out.below hb)
  replace HRb := Lib.hid (HRb.out.below hb)
  replace HXb := Lib.hid (HXb.out.below hb)
  replace HRka := Lib.hid (HRka.out.below hb)
  replace HRkb := Lib.hid (HRkb.out.below hb)
  replace HXl := Lib.hid (HXl.out.below hb)
  replace HRw := Lib.hid (HRw.out.below hb)
  replace HXw := Lib.hid (HXw.out.below hb)
  clear hb c0 c1 c2 c3
  clear HXt
  clear HRt
  obtain ⟨c0, c1, c2, c3⟩ := box4 HXb.out
  go_wp2_with fail
  have hb0 := (Below.refl u36.heap.size u36).alloc (Nat.le_refl _) (.cells #[.float .f32 1065353216, .float .f32 1073741824, .float .f32 1077936128, .float .f32 1065353216, .float .f32 1073741824, .float .f32 1077936128, .float .f32 1082130432, .float .f32 1084227584, .float .f32 1086324736, .float .f32 1082130432, .float .f32 1084227584, .float .f32 1086324736] 23)
  refine (has_true 6 2 _ 12 12 _ [1065353216, 1073741824, 1077936128, 1065353216, 1073741824, 1077936128, 1082130432, 1084227584, 1086324736, 1082130432, 1084227584, 1086324736] [1065353216, 1073741824, 1077936128, 1065353216, 1073741824, 1077936128, 1082130432, 1084227584, 1086324736, 1082130432, 1084227584, 1086324736] _ rfl rfl (by decide) (by decide +kernel) (HRb.out.below hb0) (Blk.new u36 23 _)).mono ?_
  rintro e u37 ⟨rfl, hb1⟩
  have hb := hb0.trans (hb1.mono hb0.size); clear hb0 hb1
  replace HB := Lib.hid (HB.out.trans (hb.mono HB.out.size))
  replace HRb := Lib.hid (HRb.out.below hb)
  replace HXb := Lib.hid (HXb.out.below hb)
  replace HRka := Lib.hid (HRka.out.below hb)
  replace HRkb := Lib.hid (HRkb.out.below hb)
  replace HXl := Lib.hid (HXl.out.below hb)
  replace HRw := Lib.hid (HRw.out.below hb)
  replace HXw := Lib.hid (HXw.out.below hb)
  clear hb c0 c1 c2 c3
  clear HXb
  clear HRb
  obtain ⟨c0, c1, c2, c3, c4, c5, c6, c7⟩ := box8 HXl.out
  go_wp2_with fail
  have hb0 := (Below.refl u37.heap.size u37).alloc (Nat.le_refl _) (.cells #[.float .f32 1065353216, .float .f32 1073741824, .float .f32 1077936128] 23)
  refine (has_true 3 1 _ 3 3 _ [1065353216, 1073741824, 1077936128] [1065353216, 1073741824, 1077936128] _ rfl rfl (by decide) (by decide +kernel) (HRka.out.below hb0) (Blk.new u37 23 _)).mono ?_
  rintro e u38 ⟨rfl, hb1⟩
  have hb := hb0.trans (hb1.mono hb0.size); clear hb0 hb1
  replace HB := Lib.hid (HB.out.trans (hb.mono HB.out.size))
  replace HRka := Lib.hid (HRka.out.below hb)
  replace HRkb := Lib.hid (HRkb.out.below hb)
  replace HXl := Lib.hid (HXl.out.below hb)
  replace HRw := Lib.hid (HRw.out.below hb)
  replace HXw := Lib.hid (HXw.out.below hb)
  clear hb c0 c1 c2 c3 c4 c5 c6 c7
  clear HRka
  obtain ⟨c0, c1, c2, c3, c4, c5, c6, c7⟩ := box8 HXl.out
  go_wp2_with fail
  have hb0 := (Below.refl u38.heap.size u38).alloc (Nat.le_refl _) (.cells #[.float .f32 1082130432, .float .f32 1084227584, .float .f32 1086324736] 23)
  refine (has_true 3 1 _ 3 3 _ [1082130432, 1084227584, 1086324736] [1082130432, 1084227584, 1086324736] _ rfl rfl (by decide) (by decide +kernel) (HRkb.out.below hb0) (Blk.new u38 23 _)).mono ?_
  rintro e u39 ⟨rfl, hb1⟩
  have hb := hb0.trans (hb1.mono hb0.size); clear hb0 hb1
  replace HB := Lib.hid (HB.out.trans (hb.mono HB.out.size))
  replace HRkb := Lib.hid (HRkb.out.below hb)
  replace HXl := Lib.hid (HXl.out.below hb)
  replace HRw := Lib.hid (HRw.out.below hb)
  replace HXw := Lib.hid (HXw.out.below hb)
  clear hb c0 c1 c2 c3 c4 c5 c6 c7
  clear HXl
  clear HRkb
  obtain ⟨c0, c1, c2, c3⟩ := box4 HXw.out
  go_wp2_with fail
  have hb0 := (Below.refl u39.heap.size u39).alloc (Nat.le_refl _) (.cells #[.float .f32 1065353216, .float .f32 1073741824, .float .f32 1077936128, .float .f32 1082130432, .float .f32 1084227584, .float .f32 1086324736] 23)
  refine (has_true 3 2 _ 6 6 _ [1065353216, 1073741824, 1077936128, 1082130432, 1084227584, 1086324736] [1065353216, 1073741824, 1077936128, 1082130432, 1084227584, 1086324736] _ rfl rfl (by decide) (by decide +kernel) (HRw.out.below hb0) (Blk.new u39 23 _)).mono ?_
  rintro e u40 ⟨rfl, hb1⟩
  have hb := hb0.trans (hb1.mono hb0.size); clear hb0 hb1
  replace HB := Lib.hid (HB.out.trans (hb.mono HB.out.size))
  replace HRw := Lib.hid (HRw.out.below hb)
  replace HXw := Lib.hid (HXw.out.below hb)
  clear hb c0 c1 c2 c3
  clear HXw
  clear HRw
  go_wp2_with fail
  refine (small_any _).mono ?_
  rintro e u42 ⟨g41, rfl, -, hg, hb⟩
  replace HB := Lib.hid (HB.out.trans (hb.mono HB.out.size))
  have HGg41 := Lib.hid hg; clear hg hb
  go_wp2_with fail
  refine (ex_energy g41 _ HGg41.out).mono ?_
  rintro e u43 ⟨rfl, hb⟩
  replace HB := Lib.hid (HB.out.trans (hb.mono HB.out.size))
  replace HGg41 := Lib.hid (HGg41.out.below hb)
  clear hb
  clear HGg41
  go_wp2_with fail
  refine (small_any _).mono ?_
  rintro e u45 ⟨g44, rfl, -, hg, hb⟩
  replace HB := Lib.hid (HB.out.trans (hb.mono HB.out.size))
  have HGg44 := Lib.hid hg; clear hg hb
  go_wp2_with fail
  refine (ex_peak g44 _ HGg44.out).mono ?_
  rintro e u46 ⟨rfl, hb⟩
  replace HB := Lib.hid (HB.out.trans (hb.mono HB.out.size))
  replace HGg44 := Lib.hid (HGg44.out.below hb)
  clear hb
  clear HGg44
  go_wp2_with fail
  refine (small_any _).mono ?_
  rintro e u48 ⟨g47, rfl, -, hg, hb⟩
  replace HB := Lib.hid (HB.out.trans (hb.mono HB.out.size))
  have HGg47 := Lib.hid hg; clear hg hb
  go_wp2_with fail
  refine (ex_mean g47 _ HGg47.out).mono ?_
  rintro e u49 ⟨rfl, hb⟩
  replace HB := Lib.hid (HB.out.trans (hb.mono HB.out.size))
  replace HGg47 := Lib.hid (HGg47.out.below hb)
  clear hb
  clear HGg47
  go_upto_region 13 with fail
  have hn := Blk.new u49 33 #[.int .i64 7, .int .i64 2]
  have hb := (Below.refl u49.heap.size u49).alloc (Nat.le_refl _) (.cells #[.int .i64 7, .int .i64 2] 33)
  obtain ⟨b51, hl⟩ : ∃ b, u49.heap.size = b := ⟨_, rfl⟩
  generalize (u49.alloc (.cells #[.int .i64 7, .int .i64 2] 33)) = u50 at hn hb ⊢
  rw [hl] at hn ⊢
  replace HB := Lib.hid (HB.out.trans (hb.mono HB.out.size))
  have HXm := Lib.hid hn; clear hn hb hl
  go_wp2_with fail
  have hb0 := (Below.refl u50.heap.size u50).alloc (Nat.le_refl _) (.cells #[.float .f32 1031798784, .float .f32 3179282432] 23)
  refine (ex_scaled _ _ (rd_of_blk (Blk.new u50 23 #[.float .f32 1031798784, .float .f32 3179282432]) rfl)).mono ?_
  rintro e u52 ⟨ad6, rfl, hr, hb1⟩
  have hb := hb0.trans (hb1.mono hb0.size); clear hb0 hb1
  replace HB := Lib.hid (HB.out.trans (hb.mono HB.out.size))
  replace HXm := Lib.hid (HXm.out.below hb)
  have HRs := Lib.hid hr; clear hr
  clear hb
  go_wp2_with fail
  have hn := Blk.new u52 50 #[.string pName, .int .i64 2, .int .i64 1, .slice (some ad6) 2 2]
  have hb := (Below.refl u52.heap.size u52).alloc (Nat.le_refl _) (.cells #[.string pName, .int .i64 2, .int .i64 1, .slice (some ad6) 2 2] 50)
  obtain ⟨b54, hl⟩ : ∃ b, u52.heap.size = b := ⟨_, rfl⟩
  generalize (u52.alloc (.cells #[.string pName, .int .i64 2, .int .i64 1, .slice (some ad6) 2 2] 50)) = u53 at hn hb ⊢
  rw [hl] at hn ⊢
  replace HB := Lib.hid (HB.out.trans (hb.mono HB.out.size))
  replace HXm := Lib.hid (HXm.out.below hb)
  replace HRs := Lib.hid (HRs.out.below hb)
  have HXs := Lib.hid hn; clear hn hb hl
  refine (ex_four _ (fun i hi => ⟨(HB.out.cell (p := ⟨1, i * 2, none⟩) hP1).trans (HPP.out i hi).1, (HB.out.cell (p := ⟨1, i * 2 + 1, none⟩) hP1).trans (HPP.out i hi).2⟩) (Nat.lt_of_lt_of_le hP1 HB.out.size)).mono ?_
  rintro e u55 ⟨rfl, hb⟩
  replace HB := Lib.hid (HB.out.trans (hb.mono HB.out.size))
  replace HXm := Lib.hid (HXm.out.below hb)
  replace HRs := Lib.hid (HRs.out.below hb)
  replace HXs := Lib.hid (HXs.out.below hb)
  clear hb
  go_upto_region 15 with fail
  have hn := Blk.new u55 138 #[.complex .f32 1092616192 0, .complex .f32 3221225472 1073741824, .complex .f32 3221225472 0, .complex .f32 3221225472 3221225472]
  have hb := (Below.refl u55.heap.size u55).alloc (Nat.le_refl _) (.cells #[.complex .f32 1092616192 0, .complex .f32 3221225472 1073741824, .complex .f32 3221225472 0, .complex .f32 3221225472 3221225472] 138)
  obtain ⟨b57, hl⟩ : ∃ b, u55.heap.size = b := ⟨_, rfl⟩
  generalize (u55.alloc (.cells #[.complex .f32 1092616192 0, .complex .f32 3221225472 1073741824, .complex .f32 3221225472 0, .complex .f32 3221225472 3221225472] 138)) = u56 at hn hb ⊢
  rw [hl] at hn ⊢
  replace HB := Lib.hid (HB.out.trans (hb.mono HB.out.size))
  replace HXm := Lib.hid (HXm.out.below hb)
  replace HRs := Lib.hid (HRs.out.below hb)
  replace HXs := Lib.hid (HXs.out.below hb)
  have HXp := Lib.hid hn; clear hn hb hl
  have m0 := HXm.out.cell 0; have m1 := HXm.out.cell 1
  simp only [List.getElem?_toArray, List.getElem?_cons_zero, List.getElem?_cons_succ] at m0 m1
  obtain ⟨c0, c1, c2, c3⟩ := box4 HXs.out
  have hq1 := eq_ratio; have hq2 := eq_panel
  go_wp2_with fail
  clear hq1 hq2 m0 m1
  have hb0 := (Below.refl u56.heap.size u56).alloc (Nat.le_refl _) (.cells #[.float .f32 1031798784, .float .f32 0] 23)
  refine (has_true 2 1 _ 2 2 _ [1031798784, 0] [1031798784, 0] _ rfl rfl (by decide) (by decide +kernel) (HRs.out.below hb0) (Blk.new u56 23 _)).mono ?_
  rintro e u58 ⟨rfl, hb1⟩
  have hb := hb0.trans (hb1.mono hb0.size); clear hb0 hb1
  replace HB := Lib.hid (HB.out.trans (hb.mono HB.out.size))
  replace HXm := Lib.hid (HXm.out.below hb)
  replace HRs := Lib.hid (HRs.out.below hb)
  replace HXs := Lib.hid (HXs.out.below hb)
  replace HXp := Lib.hid (HXp.out.below hb)
  clear hb c0 c1 c2 c3
  clear HXs
  clear HRs
  clear HXm
  obtain ⟨c0, c1, c2, c3⟩ := box4 HXp.out
  have hq2 := eq_panel
  go_wp2_with fail
  clear hq2 c0 c1 c2 c3
  clear HXp
  refine (ex_encode _).mono ?_
  rintro e u59 ⟨rfl, hb⟩
  replace HB := Lib.hid (HB.out.trans (hb.mono HB.out.size))
  clear hb
  go_upto_region 18 with fail
  have hn := Blk.new u59 85 #[.int .u8 171, .int .u8 1, .int .u8 2, .int .u8 3, .int .u8 0, .int .u8 0, .int .u8 0, .int .u8 0, .int .u8 0, .int .u8 0, .int .u8 0, .int .u8 0, .int .u8 0, .int .u8 0, .int .u8 92, .int .u8 211]
  have hb := (Below.refl u59.heap.size u59).alloc (Nat.le_refl _) (.cells #[.int .u8 171, .int .u8 1, .int .u8 2, .int .u8 3, .int .u8 0, .int .u8 0, .int .u8 0, .int .u8 0, .int .u8 0, .int .u8 0, .int .u8 0, .int .u8 0, .int .u8 0, .int .u8 0, .int .u8 92, .int .u8 211] 85)
  obtain ⟨b61, hl⟩ : ∃ b, u59.heap.size = b := ⟨_, rfl⟩
  generalize (u59.alloc (.cells #[.int .u8 171, .int .u8 1, .int .u8 2, .int .u8 3, .int .u8 0, .int .u8 0, .int .u8 0, .int .u8 0, .int .u8 0, .int .u8 0, .int .u8 0, .int .u8 0, .int .u8 0, .int .u8 0, .int .u8 92, .int .u8 211] 85)) = u60 at hn hb ⊢
  rw [hl] at hn ⊢
  replace HB := Lib.hid (HB.out.trans (hb.mono HB.out.size))
  have HXfr := Lib.hid hn; clear hn hb hl
  go_wp2_with fail
  have hb0 := (Below.refl u60.heap.size u60).alloc (Nat.le_refl _) (.cells #[.int .i64 9, .int .i64 254, .int .u8 0, .int .u8 0, .int .u8 0, .int .u8 0, .int .u8 0, .int .u8 0, .int .u8 0, .int .u8 0, .int .u8 0, .int .u8 0, .int .i64 8, .int .i64 0, .int .u8 0, .int .u8 0, .int .u8 0, .int .u8 0, .int .u8 0, .int .u8 0, .int .u8 0, .int .u8 0, .int .u8 0, .int .u8 0, .int .i64 9, .int .i64 1, .int .u8 0, .int .u8 0, .int .u8 0, .int .u8 0, .int .u8 0, .int .u8 0, .int .u8 0, .int .u8 0, .int .u8 0, .int .u8 0] 92)
  refine (ex_lost _ _ (by exact rd_of_blk (Blk.new _ _ _) rfl)).mono ?_
  rintro e u62 ⟨A8, n8, rfl, hr, hb1⟩
  have hb := hb0.trans (hb1.mono hb0.size); clear hb0 hb1
  replace HB := Lib.hid (HB.out.trans (hb.mono HB.out.size))
  replace HXfr := Lib.hid (HXfr.out.below hb)
  have HRlo := Lib.hid hr; clear hr
  clear hb
  go_upto_region 19 with fail
  obtain ⟨i0, hi, hz0, hz1, hz2⟩ := info_parts info_u8
  have hnb := HXfr.out.alloc (.cells #[.int .u8 7, .int .u8 171] 5)
  have how := own_two u62 (.int .u8 7) (.int .u8 171)
  have hb0 := (Below.refl u62.heap.size u62).alloc (Nat.le_refl _) (.cells #[.int .u8 7, .int .u8 171] 5)
  have HNB := Lib.hid hnb; have HOW := Lib.hid how; have HB0 := Lib.hid hb0; clear hnb how hb0
  go_wp2_with (at_builtin; go_must (refine wpList_append_own_at _ (by rfl) (.tmp 214) (.tmp 215) 106 (by rfl) u62.heap.size 5 i0 (.int .u8 0) 1 1 Tryz.underlying106 hi hz0 hz1 hz2 (by rfl) (by decide) (.slice (some ⟨u62.heap.size, 0, none⟩) 2 2) 2 [.int .u8 7, .int .u8 171] (by rfl) HOW.out ⟨b61, 0, none⟩ 16 16 [.int .u8 171, .int .u8 1, .int .u8 2, .int .u8 3, .int .u8 0, .int .u8 0, .int .u8 0, .int .u8 0, .int .u8 0, .int .u8 0, .int .u8 0, .int .u8 0, .int .u8 0, .int .u8 0, .int .u8 92, .int .u8 211] (by rfl) (by rfl) (World.news_of_block HNB.out) (by simp [Value.oneCell']) (by unfold maxLen; omega) (by omega) (by simp) ?_); intro v' u63 hown hgrow hnil hat; clear hnil hat; obtain ⟨g9, c9, rfl, hc9⟩ := own_cons hown (by omega))
  have hb := HB0.out.grown hgrow (by simp) (fun k hk => by cases hk; exact Nat.le_refl _)
  replace HB := Lib.hid (HB.out.trans (hb.mono HB.out.size))
  replace HXfr := Lib.hid (HXfr.out.below hb)
  replace HRlo := Lib.hid (HRlo.out.below hb)
  have HRst : RowKit.Hid (BRd u63.heap.size u63 (some ⟨g9, 0, none⟩) stream18) := Lib.hid (brd_of_own hown rfl)
  clear hb hown hgrow HNB HOW HB0 hi hz0 hz1 hz2
  refine (ex_received _ c9 _ hc9 HRst.out).mono ?_
  rintro e u64 ⟨A1, n1, A2, n2, rfl, hr, hb⟩
  replace HB := Lib.hid (HB.out.trans (hb.mono HB.out.size))
  replace HXfr := Lib.hid (HXfr.out.below hb)
  replace HRlo := Lib.hid (HRlo.out.below hb)
  have HRsk := Lib.hid hr; clear hr
  clear hb
  clear HRst; go_upto_region 20 with fail
  go_wp2_with fail
  have hb0 := (Below.refl u64.heap.size u64).alloc (Nat.le_refl _) (.cells #[.float .f32 3204448256] 23)
  refine (ex_pack _ _ (by exact rd_of_blk (Blk.new _ _ _) rfl)).mono ?_
  rintro e u65 ⟨gp, cp, rfl, hcp, hca, hb1⟩
  have hb := hb0.trans (hb1.mono hb0.size); clear hb0 hb1
  replace HB := Lib.hid (HB.out.trans (hb.mono HB.out.size))
  replace HXfr := Lib.hid (HXfr.out.below hb)
  replace HRlo := Lib.hid (HRlo.out.below hb)
  replace HRsk := Lib.hid (HRsk.out.below hb)
  have HCA := Lib.hid hca; clear hca
  clear hb
  go_wp2_with fail
  have hb0 := (Below.refl u65.heap.size u65).alloc (Nat.le_refl _) (.cells #[.float .f32 3204448256] 23)
  refine (ex_print _ _ (by exact rd_of_blk (Blk.new _ _ _) rfl) (HTAB.out _ (HB.out.trans (hb0.mono HB.out.size)))).mono ?_
  rintro e u66 ⟨rfl, hb1⟩
  have hb := hb0.trans (hb1.mono hb0.size); clear hb0 hb1
  replace HB := Lib.hid (HB.out.trans (hb.mono HB.out.size))
  replace HXfr := Lib.hid (HXfr.out.below hb)
  replace HRlo := Lib.hid (HRlo.out.below hb)
  replace HRsk := Lib.hid (HRsk.out.below hb)
  replace HCA := Lib.hid (HCA.out.below hb)
  clear hb
  go_upto_region 22 with fail
  have hc := fun i => HXfr.out.cell i
  have f0 := HXfr.out.cell 0
  have f1 := HXfr.out.cell 1
  have f2 := HXfr.out.cell 2
  have f3 := HXfr.out.cell 3
  have f4 := HXfr.out.cell 4
  have f5 := HXfr.out.cell 5
  have f6 := HXfr.out.cell 6
  have f7 := HXfr.out.cell 7
  have f8 := HXfr.out.cell 8
  have f9 := HXfr.out.cell 9
  have f10 := HXfr.out.cell 10
  have f11 := HXfr.out.cell 11
  have f12 := HXfr.out.cell 12
  have f13 := HXfr.out.cell 13
  simp only [List.getElem?_toArray, List.getElem?_cons_zero, List.getElem?_cons_succ] at f0 f1 f2 f3 f4 f5 f6 f7 f8 f9 f10 f11 f12 f13
  have hq := eq_begin; clear hc
  have hat := fun W => run_arrayAt (P := Tryz.prog) W 153 5 14 (some ⟨b61, 0, none⟩) 14 16 Tryz.underlying153 (Nat.le_refl _)
  go_wp2_with fail
  clear hq hat f0 f1 f2 f3 f4 f5 f6 f7 f8 f9 f10 f11 f12 f13
  clear HXfr
  have hb0 := (Below.refl u66.heap.size u66).alloc (Nat.le_refl _) (.cells #[.int .i64 255, .int .i64 0] 3)
  refine (ints_true _ _ _ _ (HRlo.out.below hb0) (Blk.new u66 3 _)).mono ?_
  rintro e u67 ⟨rfl, hb1⟩
  have hb := hb0.trans (hb1.mono hb0.size); clear hb0 hb1
  replace HB := Lib.hid (HB.out.trans (hb.mono HB.out.size))
  replace HRlo := Lib.hid (HRlo.out.below hb)
  replace HRsk := Lib.hid (HRsk.out.below hb)
  replace HCA := Lib.hid (HCA.out.below hb)
  clear hb
  clear HRlo
  go_wp2_with fail
  have hb0 := (Below.refl u67.heap.size u67).alloc (Nat.le_refl _) (.cells #[.int .i64 0, .int .i64 2] 47)
  refine (spans_true _ _ _ _ (HRsk.out.below hb0) (Blk.new u67 47 _)).mono ?_
  rintro e u68 ⟨rfl, hb1⟩
  have hb := hb0.trans (hb1.mono hb0.size); clear hb0 hb1
  replace HB := Lib.hid (HB.out.trans (hb.mono HB.out.size))
  replace HRsk := Lib.hid (HRsk.out.below hb)
  replace HCA := Lib.hid (HCA.out.below hb)
  clear hb
  clear HRsk
  have hcv := code_text _ gp cp HCA.out
  go_wp2_with fail
  refine (ex_check _ _ (by exact brd_of_blk (Blk.new _ _ _) [] rfl)).mono ?_
  rintro e uz ⟨rfl, rfl⟩
  clear hcv
  go_wp2
  go_ret
  exact ⟨rfl, HB.out.alloc HB.out.size _⟩

end Go.Proofs.YtkjkjhheckfhbaaGreatDoor
namespace Go.Proofs.YtkjkjhheckfhbaaGreatDoor
open Go.RowKit
set_option linter.unusedVariables false
theorem checkRatioE_any (a b : Int) (ha : -9223372036854775808 ≤ a ∧ a ≤ 9223372036854775807) (hb : -9223372036854775808 ≤ b ∧ b ≤ 9223372036854775807) (w : World) :
    Calls Tryz.prog 24 #[.agg #[.int .i64 a, .int .i64 b]] w fun e w' => e = .returned (.int .i64 (ratioE a b)) ∧ Below w.heap.size w w' := checkRatio_any a b ha hb w
theorem ints_same (A A2 : Option Addr) (c c2 n : Nat) (l : List Int) (w : World) (hl : l.length = n) (hn : n ≤ maxLen) (hr : Rd w A (l.map (Value.int .i64))) (hr2 : Rd w A2 (l.map (Value.int .i64))) : Calls Tryz.prog 23 #[.slice A n c, .slice A2 n c2] w fun e w' => e = .returned (.bool true) ∧ Below w.heap.size w w' := by
  have hs : sameI l l = true := by simp [sameI]
  have h1 := sameInts_any A A2 c c2 l l w (by rw [hl]; exact hn) (by rw [hl]; exact hn) hr hr2
  rw [hl, hs] at h1
  exact h1
/-- What the laid variables give: the powers' cells, the table of powers of ten. -/
def Laid (w : World) : Prop := (∀ i, i < 4 → w.cell? ⟨1, i * 2, none⟩ = some (.int .i64 (pwR i)) ∧ w.cell? ⟨1, i * 2 + 1, none⟩ = some (.int .i64 (pwI i))) ∧ 1 < w.heap.size ∧ Lib.TabIs Tryz.prog w "internal/strconv.uint64pow10" .u64 Lib.pow10Tab
theorem Laid.below {w w' : World} (h : Laid w) (hb : Below w.heap.size w w') : Laid w' := ⟨fun i hi => ⟨(hb.cell (p := ⟨1, i * 2, none⟩) h.2.1).trans (h.1 i hi).1, (hb.cell (p := ⟨1, i * 2 + 1, none⟩) h.2.1).trans (h.1 i hi).2⟩, Nat.lt_of_lt_of_le h.2.1 hb.size, Lib.tabBelow_of_tabIs h.2.2 _ hb⟩
theorem awake_laid (w : World) (h : Laid w) : Calls Tryz.prog 16 #[] w fun e w' => e = .returned (.bool true) ∧ Below w.heap.size w w' := awake_any w h.1 h.2.1 h.2.2
set_option maxRecDepth 100000 in
set_option maxHeartbeats 2000000 in
theorem basics_walk (s : ByteArray) (n0 n1 n2 n3 : Int) (x : Nat) (hs : s.size ≤ maxLen)
    (h2 : -9223372036854775808 ≤ n2 ∧ n2 ≤ 9223372036854775807) (h3 : -9223372036854775808 ≤ n3 ∧ n3 ≤ 9223372036854775807) (w : World) (hlaid : Laid w) :
    Calls Tryz.prog 3 #[.string s, .agg #[.int .i64 n0, .int .i64 n1, .int .i64 n2, .int .i64 n3], .float .f32 x] w fun e w' => e = .returned (.bool true) ∧ Below w.heap.size w w' := by
  have HL := Lib.hid hlaid; clear hlaid
  go_enter Tryz.func3, Tryz.ntmps3
  go_upto_region 1 with fail
  have hn := Blk.new w 22 #[.int .i64 n0, .int .i64 n1, .int .i64 n2, .int .i64 n3]
  have hb := (Below.refl w.heap.size w).alloc (Nat.le_refl _) (.cells #[.int .i64 n0, .int .i64 n1, .int .i64 n2, .int .i64 n3] 22)
  obtain ⟨b0, hl⟩ : ∃ b, w.heap.size = b := ⟨_, rfl⟩
  generalize w.alloc (.cells #[.int .i64 n0, .int .i64 n1, .int .i64 n2, .int .i64 n3] 22) = u0 at hn hb ⊢
  have HB := Lib.hid hb; clear hb
  rw [hl] at hn ⊢
  have HX := Lib.hid hn; clear hn hl
  obtain ⟨c0, c1, c2, c3⟩ := box4 HX.out

  by_cases hlong : 60 < (s.size : Int)
  · go_wp2_with fail
    refine (awake_laid _ (HL.out.below HB.out)).mono ?_
    rintro e u1 ⟨rfl, hb1⟩
    go_wp2
    go_ret
    exact ⟨rfl, HB.out.trans (hb1.mono HB.out.size)⟩
  · by_cases hmid : 40 < n1 ∧ n1 ≤ 256
    · obtain ⟨hm1, hm2⟩ := hmid
      go_wp2_with fail
      refine (awake_laid _ (HL.out.below HB.out)).mono ?_
      rintro e u1 ⟨rfl, hb1⟩
      go_wp2
      go_ret
      exact ⟨rfl, HB.out.trans (hb1.mono HB.out.size)⟩
    · by_cases hgood : (1 ≤ n0 ∧ n0 ≤ 2147483646) ∧ 0 ≤ n1 ∧ n1 ≤ 40
      · obtain ⟨⟨k1, k2⟩, k3, k4⟩ := hgood
        obtain ⟨n, rfl⟩ : ∃ n : Nat, n1 = (n : Int) := ⟨n1.toNat, by omega⟩
        have hmid1 : ¬ (40 : Int) < (n : Int) := by omega
        clear hmid
        go_upto_region 3 with fail
        go_wp2_with fail
        refine (draw_ok n0 n ⟨k1, k2⟩ (by omega) _).mono ?_
        rintro e u1 ⟨ad, rfl, hrd, hb1⟩
        replace HX := Lib.hid (HX.out.below hb1); have HB1 := Lib.hid (HB.out.trans (hb1.mono HB.out.size)); have HA := Lib.hid hrd
        clear hrd hb1 HB c0 c1 c2 c3
        obtain ⟨c0, c1, c2, c3⟩ := box4 HX.out
        have hz := HX.out.lt
        go_upto_region 4 with fail
        have HF : RowKit.Hid (firstE [outs n0 1 2147483646, outs (n : Int) 0 256] = 0) := Lib.hid (by simp [firstE, outs, errIf]; omega)
        go_region_held3 (SK u1)
          (first | exact sk_drew0 _ | exact sk_drew (by assumption) | assumption | exact sk_call (by assumption) (by assumption) | exact sk_alloc (by assumption) _)
          (first
            | (go_at_call 19; refine (checkRange_any _ _ _ _).mono ?_; rintro e wn ⟨rfl, rfl⟩)
            | (go_at_call 18; refine (firstL_n _ _ _ [_, _] _ rfl (by simp [maxLen]) (by exact rd_of_blk (Blk.new _ _ _) rfl)).mono ?_; rintro e wn ⟨rfl, rfl⟩))
        rw [HF.out]
        have hch := sk_drew (sk_alloc (sk_refl u1) (.cells #[.int .i64 (outs n0 1 2147483646), .int .i64 (outs (n : Int) 0 256)] 3))
        generalize (u1.alloc (.cells #[.int .i64 (outs n0 1 2147483646), .int .i64 (outs (n : Int) 0 256)] 3)).drew = u15 at hch ⊢
        replace HX := Lib.hid (HX.out.below hch.1); replace HB1 := Lib.hid (HB1.out.trans (hch.1.mono HB1.out.size)); replace HA := Lib.hid (HA.out.below hch.1)
        clear hch c0 c1 c2 c3 hz
        obtain ⟨c0, c1, c2, c3⟩ := box4 HX.out
        go_wp2_with fail
        refine (drawR_ok n0 n ⟨k1, k2⟩ (by omega) _).mono ?_
        rintro e u2 ⟨A2, cc, rfl, hrd, hb2⟩
        replace HX := Lib.hid (HX.out.below hb2); have HB2 := Lib.hid (HB1.out.trans (hb2.mono HB1.out.size)); replace HA := Lib.hid (HA.out.below hb2); have HA2 := Lib.hid hrd
        clear hrd hb2 HB1
        clear c0 c1 c2 c3
        obtain ⟨c0, c1, c2, c3⟩ := box4 HX.out
        go_upto_region 9 with fail
        have hn1 := Blk.new u2 33 #[.int .i64 n2, .int .i64 n3]
        have hb := (Below.refl u2.heap.size u2).alloc (Nat.le_refl _) (.cells #[.int .i64 n2, .int .i64 n3] 33)
        obtain ⟨b1, hl⟩ : ∃ b, u2.heap.size = b := ⟨_, rfl⟩
        generalize u2.alloc (.cells #[.int .i64 n2, .int .i64 n3] 33) = w0 at hn1 hb ⊢
        rw [hl] at hn1 ⊢
        have HB3 := Lib.hid (HB2.out.trans (hb.mono HB2.out.size)); have HA3 := Lib.hid (HA.out.below hb); have HA23 := Lib.hid (HA2.out.below hb)
        clear HB2 HA HA2 hb c0 c1 c2 c3 HX hl
        have m0 : w0.cell? ⟨b1, 0, none⟩ = some (.int .i64 n2) := hn1.cell 0
        have m1 : w0.cell? ⟨b1, 1, none⟩ = some (.int .i64 n3) := hn1.cell 1
        have hz := hn1.lt; clear hn1
        go_region_held3 (SK w0)
          (first | exact sk_drew0 _ | exact sk_drew (by assumption) | assumption | exact sk_call (by assumption) (by assumption) | exact sk_alloc (by assumption) _)
          (first
            | (go_at_call 21; refine (isName_any s _ hs).mono ?_; rintro e wn ⟨rfl, hbn⟩; have hch := sk_call (w0 := w0) (by assumption) hbn)
            | (go_at_call 22; refine (isNameR_any s _ hs).mono ?_; rintro e wn ⟨rfl, rfl⟩)
            | (go_at_call 23; refine (ints_same _ _ _ _ n (drawL n0 n) _ (drawL_length n0 n) (by unfold maxLen; omega) (HA3.out.below (And.left (by assumption : SK w0 _))) (HA23.out.below (And.left (by assumption : SK w0 _)))).mono ?_; rintro e wn ⟨rfl, hbn⟩; have hch := sk_call (w0 := w0) (by assumption) hbn)
            | (go_at_call 24; refine (checkRatioE_any _ _ h2 h3 _).mono ?_; rintro e wn ⟨rfl, hbn⟩; have hch := sk_call (w0 := w0) (by assumption) hbn)
            | (go_at_call 25; refine (checkRatioR_any _ _ h2 h3 _).mono ?_; rintro e wn ⟨rfl, hbn⟩; have hch := sk_call (w0 := w0) (by assumption) hbn)
            | (go_at_call 26; refine (checkSample_any _ _).mono ?_; rintro e wn ⟨rfl, hbn⟩; have hch := sk_call (w0 := w0) (by assumption) hbn)
            | (go_at_call 27; refine (checkSampleR_any _ _).mono ?_; rintro e wn ⟨rfl, hbn⟩; have hch := sk_call (w0 := w0) (by assumption) hbn)
            | (go_at_call 16; refine (awake_laid _ (HL.out.below (HB3.out.trans ((And.left (by assumption : SK w0 _)).mono HB3.out.size)))).mono ?_; rintro e wn ⟨rfl, hbn⟩; have hch := sk_call (w0 := w0) (by assumption) hbn))
        have hfin := sk_call (w0 := w0) (by assumption) hbn
        go_wp2
        go_ret
        exact ⟨rfl, HB3.out.trans (hfin.1.mono HB3.out.size)⟩
      · have hne : firstE [outs n0 1 2147483646, outs n1 0 256] ≠ 0 := by
          intro h0
          have h1 := firstE_zero h0
          have ha := outs_zero (h1 (outs n0 1 2147483646) (by simp))
          have hb := outs_zero (h1 (outs n1 0 256) (by simp))
          exact hgood ⟨ha, hb.1, by omega⟩
        have hde := draw_err n0 n1 hne
        obtain ⟨z, hz⟩ : ∃ z, firstE [outs n0 1 2147483646, outs n1 0 256] = z := ⟨_, rfl⟩
        rw [hz] at hne hde
        have HDE := Lib.hid hde; have HF := Lib.hid hz; clear hde hz hgood
        have hz' : (z == 0) = false := by simpa using hne
        have hpart : 40 < n1 ∧ ¬ n1 ≤ 256 ∨ ¬ 40 < n1 := by omega
        clear hmid
        rcases hpart with ⟨p1, p2⟩ | p1
        all_goals
          go_upto_region 3 with fail
          go_wp2_with fail
          refine (HDE.out _).mono ?_
          rintro e u1 ⟨rfl, hb1⟩
          replace HX := Lib.hid (HX.out.below hb1); have HB1 := Lib.hid (HB.out.trans (hb1.mono HB.out.size)); clear hb1 HB c0 c1 c2 c3
          obtain ⟨c0, c1, c2, c3⟩ := box4 HX.out
          have hz := HX.out.lt
          go_upto_region 4 with fail
          go_region_held3 (SK u1)
            (first | exact sk_drew0 _ | exact sk_drew (by assumption) | assumption | exact sk_call (by assumption) (by assumption) | exact sk_alloc (by assumption) _)
            (first
              | (go_at_call 19; refine (checkRange_any _ _ _ _).mono ?_; rintro e wn ⟨rfl, rfl⟩)
              | (go_at_call 18; refine (firstL_n _ _ _ [_, _] _ rfl (by simp [maxLen]) (by exact rd_of_blk (Blk.new _ _ _) rfl)).mono ?_; rintro e wn ⟨rfl, rfl⟩))
          rw [HF.out]
          have hch := sk_drew (sk_alloc (sk_refl u1) (.cells #[.int .i64 (outs n0 1 2147483646), .int .i64 (outs n1 0 256)] 3))
          generalize (u1.alloc (.cells #[.int .i64 (outs n0 1 2147483646), .int .i64 (outs n1 0 256)] 3)).drew = u2 at hch ⊢
          replace HX := Lib.hid (HX.out.below hch.1); have HB2 := Lib.hid (HB1.out.trans (hch.1.mono HB1.out.size))
          clear hch HB1 hz
          have HA : RowKit.Hid (Rd u2 none (([] : List Int).map (Value.int .i64))) := Lib.hid (fun h => absurd h (by simp))
          have HA2 := HA
          clear c0 c1 c2 c3
          obtain ⟨c0, c1, c2, c3⟩ := box4 HX.out
          go_upto_region 9 with fail
          have hn1 := Blk.new u2 33 #[.int .i64 n2, .int .i64 n3]
          have hb := (Below.refl u2.heap.size u2).alloc (Nat.le_refl _) (.cells #[.int .i64 n2, .int .i64 n3] 33)
          obtain ⟨b1, hl⟩ : ∃ b, u2.heap.size = b := ⟨_, rfl⟩
          generalize u2.alloc (.cells #[.int .i64 n2, .int .i64 n3] 33) = w0 at hn1 hb ⊢
          rw [hl] at hn1 ⊢
          have HB3 := Lib.hid (HB2.out.trans (hb.mono HB2.out.size)); have HA3 := Lib.hid (HA.out.below hb); have HA23 := Lib.hid (HA2.out.below hb)
          clear HB2 HA HA2 hb c0 c1 c2 c3 HX hl
          have m0 : w0.cell? ⟨b1, 0, none⟩ = some (.int .i64 n2) := hn1.cell 0
          have m1 : w0.cell? ⟨b1, 1, none⟩ = some (.int .i64 n3) := hn1.cell 1
          have hz := hn1.lt; clear hn1
          go_region_held3 (SK w0)
            (first | exact sk_drew0 _ | exact sk_drew (by assumption) | assumption | exact sk_call (by assumption) (by assumption) | exact sk_alloc (by assumption) _)
            (first
              | (go_at_call 21; refine (isName_any s _ hs).mono ?_; rintro e wn ⟨rfl, hbn⟩; have hch := sk_call (w0 := w0) (by assumption) hbn)
              | (go_at_call 22; refine (isNameR_any s _ hs).mono ?_; rintro e wn ⟨rfl, rfl⟩)
              | (go_at_call 23; refine (ints_same _ _ _ _ 0 [] _ rfl (by decide) (HA3.out.below (And.left (by assumption : SK w0 _))) (HA23.out.below (And.left (by assumption : SK w0 _)))).mono ?_; rintro e wn ⟨rfl, hbn⟩; have hch := sk_call (w0 := w0) (by assumption) hbn)
              | (go_at_call 24; refine (checkRatioE_any _ _ h2 h3 _).mono ?_; rintro e wn ⟨rfl, hbn⟩; have hch := sk_call (w0 := w0) (by assumption) hbn)
              | (go_at_call 25; refine (checkRatioR_any _ _ h2 h3 _).mono ?_; rintro e wn ⟨rfl, hbn⟩; have hch := sk_call (w0 := w0) (by assumption) hbn)
              | (go_at_call 26; refine (checkSample_any _ _).mono ?_; rintro e wn ⟨rfl, hbn⟩; have hch := sk_call (w0 := w0) (by assumption) hbn)
              | (go_at_call 27; refine (checkSampleR_any _ _).mono ?_; rintro e wn ⟨rfl, hbn⟩; have hch := sk_call (w0 := w0) (by assumption) hbn)
              | (go_at_call 16; refine (awake_laid _ (HL.out.below (HB3.out.trans ((And.left (by assumption : SK w0 _)).mono HB3.out.size)))).mono ?_; rintro e wn ⟨rfl, hbn⟩; have hch := sk_call (w0 := w0) (by assumption) hbn))
          have hfin := sk_call (w0 := w0) (by assumption) hbn
          go_wp2
          go_ret
          exact ⟨rfl, HB3.out.trans (hfin.1.mono HB3.out.size)⟩

end Go.Proofs.YtkjkjhheckfhbaaGreatDoor
