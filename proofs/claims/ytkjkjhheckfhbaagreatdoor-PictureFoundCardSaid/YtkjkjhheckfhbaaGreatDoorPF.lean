/- Parts of a proof: The packet of a frame. The packet at a place of a stream. A place behind ascending spans. -/
import Derived.Test.YtkjkjhheckfhbaaGreatDoorPE
import Derived.Test.YtkjkjhheckfhbaaGreatDoorAb
import Derived.Maps.AppendAt
import Derived.Laws.OwnMore
namespace Go.Proofs.YtkjkjhheckfhbaaGreatDoor
open Go.RowKit
set_option linter.unusedVariables false
theorem run_equalIn_frame (a0 a1 a2 a3 a4 a5 a6 a7 a8 a9 a10 a11 a12 a13 a14 a15 b0 b1 b2 b3 b4 b5 b6 b7 b8 b9 b10 b11 b12 b13 b14 b15 : Int) (w : World) : (Op.equalIn 10000 85 (.agg #[.int .u8 a0, .int .u8 a1, .int .u8 a2, .int .u8 a3, .int .u8 a4, .int .u8 a5, .int .u8 a6, .int .u8 a7, .int .u8 a8, .int .u8 a9, .int .u8 a10, .int .u8 a11, .int .u8 a12, .int .u8 a13, .int .u8 a14, .int .u8 a15]) (.agg #[.int .u8 b0, .int .u8 b1, .int .u8 b2, .int .u8 b3, .int .u8 b4, .int .u8 b5, .int .u8 b6, .int .u8 b7, .int .u8 b8, .int .u8 b9, .int .u8 b10, .int .u8 b11, .int .u8 b12, .int .u8 b13, .int .u8 b14, .int .u8 b15])).run Tryz.prog w = .ok (decide ([a0, a1, a2, a3, a4, a5, a6, a7, a8, a9, a10, a11, a12, a13, a14, a15] = [b0, b1, b2, b3, b4, b5, b6, b7, b8, b9, b10, b11, b12, b13, b14, b15])) w := by
  have hn := Tryz.sizeOf5
  have h := eqElems_u8 9998 [a0, a1, a2, a3, a4, a5, a6, a7, a8, a9, a10, a11, a12, a13, a14, a15] [b0, b1, b2, b3, b4, b5, b6, b7, b8, b9, b10, b11, b12, b13, b14, b15] 16 rfl rfl 16 0 rfl w
  rw [show (10000 : Nat) = 9998 + 1 + 1 from rfl, run_equalIn_array w (9998 + 1) 85 5 16 1 _ _ Tryz.underlying85 hn]
  exact h
def goodEnd (P : U8) (S : Int) (f13 f14 f15 : U8) : Prop := P.1 = f13.1 ∧ S / 256 = f14.1 ∧ S % 256 = f15.1
set_option maxRecDepth 100000 in
set_option maxHeartbeats 2000000 in
theorem decode_sync (f1 f2 f3 f4 f5 f6 f7 f8 f9 f10 f11 f12 f13 f14 f15 : U8) (w : World) : Calls Tryz.prog 65 #[.agg #[.int .u8 171, .int .u8 f1.1, .int .u8 f2.1, .int .u8 f3.1, .int .u8 f4.1, .int .u8 f5.1, .int .u8 f6.1, .int .u8 f7.1, .int .u8 f8.1, .int .u8 f9.1, .int .u8 f10.1, .int .u8 f11.1, .int .u8 f12.1, .int .u8 f13.1, .int .u8 f14.1, .int .u8 f15.1]] w fun e w' => ∃ (P : U8) (S : Int), xorF [f1, f2, f3, f4, f5, f6, f7, f8, f9, f10, f11, f12] 0 = P.1 ∧ rollF 251 65521 [u171, f1, f2, f3, f4, f5, f6, f7, f8, f9, f10, f11, f12, P] 1 = S ∧ ((goodEnd P S f13 f14 f15 ∧ e = .returned (.tuple #[.agg #[.int .i64 f1.1, .int .i64 f2.1, .int .u8 f3.1, .int .u8 f4.1, .int .u8 f5.1, .int .u8 f6.1, .int .u8 f7.1, .int .u8 f8.1, .int .u8 f9.1, .int .u8 f10.1, .int .u8 f11.1, .int .u8 f12.1], .int .i64 0])) ∨ (¬ goodEnd P S f13 f14 f15 ∧ e = .returned (.tuple #[.agg #[.int .i64 0, .int .i64 0, .int .u8 0, .int .u8 0, .int .u8 0, .int .u8 0, .int .u8 0, .int .u8 0, .int .u8 0, .int .u8 0, .int .u8 0, .int .u8 0], .int .i64 27]))) ∧ Below w.heap.size w w' := by
  go_enter Tryz.func65, Tryz.ntmps65
  go_upto_region 1 with fail
  have hx0 := ((Blk.new w 85 #[.int .u8 171, .int .u8 f1.1, .int .u8 f2.1, .int .u8 f3.1, .int .u8 f4.1, .int .u8 f5.1, .int .u8 f6.1, .int .u8 f7.1, .int .u8 f8.1, .int .u8 f9.1, .int .u8 f10.1, .int .u8 f11.1, .int .u8 f12.1, .int .u8 f13.1, .int .u8 f14.1, .int .u8 f15.1]).alloc (.cells #[.int .i64 0, .int .i64 0, .int .u8 0, .int .u8 0, .int .u8 0, .int .u8 0, .int .u8 0, .int .u8 0, .int .u8 0, .int .u8 0, .int .u8 0, .int .u8 0] 92))
  have hx1 := (Blk.new (w.alloc (.cells #[.int .u8 171, .int .u8 f1.1, .int .u8 f2.1, .int .u8 f3.1, .int .u8 f4.1, .int .u8 f5.1, .int .u8 f6.1, .int .u8 f7.1, .int .u8 f8.1, .int .u8 f9.1, .int .u8 f10.1, .int .u8 f11.1, .int .u8 f12.1, .int .u8 f13.1, .int .u8 f14.1, .int .u8 f15.1] 85)) 92 #[.int .i64 0, .int .i64 0, .int .u8 0, .int .u8 0, .int .u8 0, .int .u8 0, .int .u8 0, .int .u8 0, .int .u8 0, .int .u8 0, .int .u8 0, .int .u8 0])
  simp only [World.size_alloc] at hx1
  have hb0 := (((Below.refl w.heap.size w).alloc (Nat.le_refl _) (.cells #[.int .u8 171, .int .u8 f1.1, .int .u8 f2.1, .int .u8 f3.1, .int .u8 f4.1, .int .u8 f5.1, .int .u8 f6.1, .int .u8 f7.1, .int .u8 f8.1, .int .u8 f9.1, .int .u8 f10.1, .int .u8 f11.1, .int .u8 f12.1, .int .u8 f13.1, .int .u8 f14.1, .int .u8 f15.1] 85)).alloc (by simp only [World.size_alloc]; omega) (.cells #[.int .i64 0, .int .i64 0, .int .u8 0, .int .u8 0, .int .u8 0, .int .u8 0, .int .u8 0, .int .u8 0, .int .u8 0, .int .u8 0, .int .u8 0, .int .u8 0] 92))
  generalize ((w.alloc (.cells #[.int .u8 171, .int .u8 f1.1, .int .u8 f2.1, .int .u8 f3.1, .int .u8 f4.1, .int .u8 f5.1, .int .u8 f6.1, .int .u8 f7.1, .int .u8 f8.1, .int .u8 f9.1, .int .u8 f10.1, .int .u8 f11.1, .int .u8 f12.1, .int .u8 f13.1, .int .u8 f14.1, .int .u8 f15.1] 85)).alloc (.cells #[.int .i64 0, .int .i64 0, .int .u8 0, .int .u8 0, .int .u8 0, .int .u8 0, .int .u8 0, .int .u8 0, .int .u8 0, .int .u8 0, .int .u8 0, .int .u8 0] 92)) = w0 at hx0 hx1 hb0 ⊢
  have HX0_0 := Lib.hid hx0
  have HX1_0 := Lib.hid hx1
  have HB_0 := Lib.hid hb0
  clear hx0 hx1 hb0
  have k0 := HX0_0.out.cell 0
  have k1 := HX0_0.out.cell 1
  have k2 := HX0_0.out.cell 2
  have k3 := HX0_0.out.cell 3
  have k4 := HX0_0.out.cell 4
  have k5 := HX0_0.out.cell 5
  have k6 := HX0_0.out.cell 6
  have k7 := HX0_0.out.cell 7
  have k8 := HX0_0.out.cell 8
  have k9 := HX0_0.out.cell 9
  have k10 := HX0_0.out.cell 10
  have k11 := HX0_0.out.cell 11
  have k12 := HX0_0.out.cell 12
  have k13 := HX0_0.out.cell 13
  have k14 := HX0_0.out.cell 14
  have k15 := HX0_0.out.cell 15
  simp only [List.getElem?_toArray, List.getElem?_cons_zero, List.getElem?_cons_succ] at k0 k1 k2 k3 k4 k5 k6 k7 k8 k9 k10 k11 k12 k13 k14 k15
  have z0 : w.heap.size < w0.heap.size := HX0_0.out.lt
  have z1 : w.heap.size + 1 < w0.heap.size := HX1_0.out.lt
  go_upto_region 4 with fail
  have hf := Blk.new w0 92 #[.int .i64 f1.1, .int .i64 f2.1, .int .u8 0, .int .u8 0, .int .u8 0, .int .u8 0, .int .u8 0, .int .u8 0, .int .u8 0, .int .u8 0, .int .u8 0, .int .u8 0]
  have hx0 := HX0_0.out.alloc (.cells #[.int .i64 f1.1, .int .i64 f2.1, .int .u8 0, .int .u8 0, .int .u8 0, .int .u8 0, .int .u8 0, .int .u8 0, .int .u8 0, .int .u8 0, .int .u8 0, .int .u8 0] 92)
  have hx1 := HX1_0.out.alloc (.cells #[.int .i64 f1.1, .int .i64 f2.1, .int .u8 0, .int .u8 0, .int .u8 0, .int .u8 0, .int .u8 0, .int .u8 0, .int .u8 0, .int .u8 0, .int .u8 0, .int .u8 0] 92)
  have hb := HB_0.out.alloc HB_0.out.size (.cells #[.int .i64 f1.1, .int .i64 f2.1, .int .u8 0, .int .u8 0, .int .u8 0, .int .u8 0, .int .u8 0, .int .u8 0, .int .u8 0, .int .u8 0, .int .u8 0, .int .u8 0] 92)
  clear k0 k1 k2 k3 k4 k5 k6 k7 k8 k9 k10 k11 k12 k13 k14 k15
  obtain ⟨b3, hb3e⟩ : ∃ b, w0.heap.size = b := ⟨_, rfl⟩
  rw [hb3e] at hf z0 z1 ⊢
  clear hb3e
  generalize w0.alloc (.cells #[.int .i64 f1.1, .int .i64 f2.1, .int .u8 0, .int .u8 0, .int .u8 0, .int .u8 0, .int .u8 0, .int .u8 0, .int .u8 0, .int .u8 0, .int .u8 0, .int .u8 0] 92) = w2 at hf hx0 hx1 hb ⊢
  have HF2 := Lib.hid hf; have HX0_2 := Lib.hid hx0; have HX1_2 := Lib.hid hx1; have HB_2 := Lib.hid hb
  clear hf hx0 hx1 hb HX0_0 HX1_0 HB_0
  have hsrc : ∀ j v, ([.int .u8 f3.1, .int .u8 f4.1, .int .u8 f5.1, .int .u8 f6.1, .int .u8 f7.1, .int .u8 f8.1, .int .u8 f9.1, .int .u8 f10.1, .int .u8 f11.1, .int .u8 f12.1] : List Value)[j]? = some v → w2.cell? ((⟨w.heap.size, 3, none⟩ : Addr).add j) = some v := fun j v hj => by
    have h := HX0_2.out.cell (3 + j)
    have e : (⟨w.heap.size, 3, none⟩ : Addr).add j = ⟨w.heap.size, 3 + j, none⟩ := by unfold Addr.add; split <;> simp_all
    rw [e, h]
    match j, hj with
    | 0, hj => exact hj
    | 1, hj => exact hj
    | 2, hj => exact hj
    | 3, hj => exact hj
    | 4, hj => exact hj
    | 5, hj => exact hj
    | 6, hj => exact hj
    | 7, hj => exact hj
    | 8, hj => exact hj
    | 9, hj => exact hj
    | (n + 10), hj => simp at hj
  have HSRC := Lib.hid hsrc
  clear hsrc
  go_region_held3 (fun w' => True) (go_keep)
    (first
      | (refine upon_copy_blk 106 106 3 5 Tryz.underlying106 (by kernel_rfl) b3 2 10 10 ⟨w.heap.size, 3, none⟩ 10 13 #[.int .i64 f1.1, .int .i64 f2.1, .int .u8 0, .int .u8 0, .int .u8 0, .int .u8 0, .int .u8 0, .int .u8 0, .int .u8 0, .int .u8 0, .int .u8 0, .int .u8 0] 92 (by exact HF2.out) [.int .u8 f3.1, .int .u8 f4.1, .int .u8 f5.1, .int .u8 f6.1, .int .u8 f7.1, .int .u8 f8.1, .int .u8 f9.1, .int .u8 f10.1, .int .u8 f11.1, .int .u8 f12.1] rfl (by exact HSRC.out) (by simp) (by simp [Value.oneCell']) #[.int .i64 f1.1, .int .i64 f2.1, .int .u8 f3.1, .int .u8 f4.1, .int .u8 f5.1, .int .u8 f6.1, .int .u8 f7.1, .int .u8 f8.1, .int .u8 f9.1, .int .u8 f10.1, .int .u8 f11.1, .int .u8 f12.1] rfl ?_; intro wn2 hbk hon; have y1 := trivial))
  have HX0_3 := Lib.hid (Only.far (g := b3) (k := w.heap.size) hon (by exact HX0_2.out) (by omega))
  have HX1_3 := Lib.hid (Only.far (g := b3) (k := w.heap.size + 1) hon (by exact HX1_2.out) (by omega))
  have HB_3 := Lib.hid (Only.below (g := b3) (B := w.heap.size) hon (by exact HB_2.out.drew) (by omega))
  have HF3 : RowKit.Hid (Blk wn2 b3 92 #[.int .i64 f1.1, .int .i64 f2.1, .int .u8 f3.1, .int .u8 f4.1, .int .u8 f5.1, .int .u8 f6.1, .int .u8 f7.1, .int .u8 f8.1, .int .u8 f9.1, .int .u8 f10.1, .int .u8 f11.1, .int .u8 f12.1]) := hbk
  have z3 : b3 < wn2.heap.size := HF3.out.lt
  clear hbk hon y1 HSRC HF2 HX1_2 HB_2 HX0_2
  have q0 := HF3.out.cell 0
  have q1 := HF3.out.cell 1
  have q2 := HF3.out.cell 2
  have q3 := HF3.out.cell 3
  have q4 := HF3.out.cell 4
  have q5 := HF3.out.cell 5
  have q6 := HF3.out.cell 6
  have q7 := HF3.out.cell 7
  have q8 := HF3.out.cell 8
  have q9 := HF3.out.cell 9
  have q10 := HF3.out.cell 10
  have q11 := HF3.out.cell 11
  simp only [List.getElem?_toArray, List.getElem?_cons_zero, List.getElem?_cons_succ] at q0 q1 q2 q3 q4 q5 q6 q7 q8 q9 q10 q11
  go_wp2_with fail
  refine (encode_ok f1 f2 f3 f4 f5 f6 f7 f8 f9 f10 f11 f12 wn2).mono ?_
  rintro e w4 ⟨P, S, hP, hS, rfl, hb4⟩
  have hSb := rollF_bd 251 65521 (by omega) [u171, f1, f2, f3, f4, f5, f6, f7, f8, f9, f10, f11, f12, P] 1 (by omega)
  rw [hS] at hSb
  have HP := Lib.hid hP; have HS := Lib.hid hS
  have HX0_4 := Lib.hid (HX0_3.out.below hb4)
  have HX1_4 := Lib.hid (HX1_3.out.below hb4)
  have HF4 := Lib.hid (HF3.out.below hb4)
  have HB_4 := Lib.hid (HB_3.out.trans (hb4.mono HB_3.out.size))
  clear q0 q1 q2 q3 q4 q5 q6 q7 q8 q9 q10 q11 hb4 hP hS HX0_3 HX1_3 HF3 HB_3
  go_upto_region 6 with fail
  have hx0 := HX0_4.out.alloc (.cells #[.int .u8 171, .int .u8 f1.1, .int .u8 f2.1, .int .u8 f3.1, .int .u8 f4.1, .int .u8 f5.1, .int .u8 f6.1, .int .u8 f7.1, .int .u8 f8.1, .int .u8 f9.1, .int .u8 f10.1, .int .u8 f11.1, .int .u8 f12.1, .int .u8 P.1, .int .u8 (S / 256), .int .u8 (S % 256)] 85)
  have hx1 := HX1_4.out.alloc (.cells #[.int .u8 171, .int .u8 f1.1, .int .u8 f2.1, .int .u8 f3.1, .int .u8 f4.1, .int .u8 f5.1, .int .u8 f6.1, .int .u8 f7.1, .int .u8 f8.1, .int .u8 f9.1, .int .u8 f10.1, .int .u8 f11.1, .int .u8 f12.1, .int .u8 P.1, .int .u8 (S / 256), .int .u8 (S % 256)] 85)
  have hf := HF4.out.alloc (.cells #[.int .u8 171, .int .u8 f1.1, .int .u8 f2.1, .int .u8 f3.1, .int .u8 f4.1, .int .u8 f5.1, .int .u8 f6.1, .int .u8 f7.1, .int .u8 f8.1, .int .u8 f9.1, .int .u8 f10.1, .int .u8 f11.1, .int .u8 f12.1, .int .u8 P.1, .int .u8 (S / 256), .int .u8 (S % 256)] 85)
  have he := Blk.new w4 85 #[.int .u8 171, .int .u8 f1.1, .int .u8 f2.1, .int .u8 f3.1, .int .u8 f4.1, .int .u8 f5.1, .int .u8 f6.1, .int .u8 f7.1, .int .u8 f8.1, .int .u8 f9.1, .int .u8 f10.1, .int .u8 f11.1, .int .u8 f12.1, .int .u8 P.1, .int .u8 (S / 256), .int .u8 (S % 256)]
  have hb := HB_4.out.alloc HB_4.out.size (.cells #[.int .u8 171, .int .u8 f1.1, .int .u8 f2.1, .int .u8 f3.1, .int .u8 f4.1, .int .u8 f5.1, .int .u8 f6.1, .int .u8 f7.1, .int .u8 f8.1, .int .u8 f9.1, .int .u8 f10.1, .int .u8 f11.1, .int .u8 f12.1, .int .u8 P.1, .int .u8 (S / 256), .int .u8 (S % 256)] 85)
  have z4 : b3 < w4.heap.size := HF4.out.lt
  obtain ⟨b4, hb4e⟩ : ∃ b, w4.heap.size = b := ⟨_, rfl⟩
  rw [hb4e] at he z4 ⊢
  clear hb4e
  generalize w4.alloc (.cells #[.int .u8 171, .int .u8 f1.1, .int .u8 f2.1, .int .u8 f3.1, .int .u8 f4.1, .int .u8 f5.1, .int .u8 f6.1, .int .u8 f7.1, .int .u8 f8.1, .int .u8 f9.1, .int .u8 f10.1, .int .u8 f11.1, .int .u8 f12.1, .int .u8 P.1, .int .u8 (S / 256), .int .u8 (S % 256)] 85) = w5 at hf hx0 hx1 hb he ⊢
  have HX0 := Lib.hid hx0; have HX1 := Lib.hid hx1; have HF := Lib.hid hf; have HE := Lib.hid he; have HB := Lib.hid hb
  clear hf hx0 hx1 hb he HX0_4 HX1_4 HF4 HB_4
  have k0 := HX0.out.cell 0
  have k1 := HX0.out.cell 1
  have k2 := HX0.out.cell 2
  have k3 := HX0.out.cell 3
  have k4 := HX0.out.cell 4
  have k5 := HX0.out.cell 5
  have k6 := HX0.out.cell 6
  have k7 := HX0.out.cell 7
  have k8 := HX0.out.cell 8
  have k9 := HX0.out.cell 9
  have k10 := HX0.out.cell 10
  have k11 := HX0.out.cell 11
  have k12 := HX0.out.cell 12
  have k13 := HX0.out.cell 13
  have k14 := HX0.out.cell 14
  have k15 := HX0.out.cell 15
  simp only [List.getElem?_toArray, List.getElem?_cons_zero, List.getElem?_cons_succ] at k0 k1 k2 k3 k4 k5 k6 k7 k8 k9 k10 k11 k12 k13 k14 k15
  have e0 := HE.out.cell 0
  have e1 := HE.out.cell 1
  have e2 := HE.out.cell 2
  have e3 := HE.out.cell 3
  have e4 := HE.out.cell 4
  have e5 := HE.out.cell 5
  have e6 := HE.out.cell 6
  have e7 := HE.out.cell 7
  have e8 := HE.out.cell 8
  have e9 := HE.out.cell 9
  have e10 := HE.out.cell 10
  have e11 := HE.out.cell 11
  have e12 := HE.out.cell 12
  have e13 := HE.out.cell 13
  have e14 := HE.out.cell 14
  have e15 := HE.out.cell 15
  simp only [List.getElem?_toArray, List.getElem?_cons_zero, List.getElem?_cons_succ] at e0 e1 e2 e3 e4 e5 e6 e7 e8 e9 e10 e11 e12 e13 e14 e15
  have q0 := HF.out.cell 0
  have q1 := HF.out.cell 1
  have q2 := HF.out.cell 2
  have q3 := HF.out.cell 3
  have q4 := HF.out.cell 4
  have q5 := HF.out.cell 5
  have q6 := HF.out.cell 6
  have q7 := HF.out.cell 7
  have q8 := HF.out.cell 8
  have q9 := HF.out.cell 9
  have q10 := HF.out.cell 10
  have q11 := HF.out.cell 11
  simp only [List.getElem?_toArray, List.getElem?_cons_zero, List.getElem?_cons_succ] at q0 q1 q2 q3 q4 q5 q6 q7 q8 q9 q10 q11
  have r0 := HX1.out.cell 0
  have r1 := HX1.out.cell 1
  have r2 := HX1.out.cell 2
  have r3 := HX1.out.cell 3
  have r4 := HX1.out.cell 4
  have r5 := HX1.out.cell 5
  have r6 := HX1.out.cell 6
  have r7 := HX1.out.cell 7
  have r8 := HX1.out.cell 8
  have r9 := HX1.out.cell 9
  have r10 := HX1.out.cell 10
  have r11 := HX1.out.cell 11
  simp only [List.getElem?_toArray, List.getElem?_cons_zero, List.getElem?_cons_succ] at r0 r1 r2 r3 r4 r5 r6 r7 r8 r9 r10 r11
  have rf0 := HX1.out.frozen 0
  have rf1 := HX1.out.frozen 1
  have rf2 := HX1.out.frozen 2
  have rf3 := HX1.out.frozen 3
  have rf4 := HX1.out.frozen 4
  have rf5 := HX1.out.frozen 5
  have rf6 := HX1.out.frozen 6
  have rf7 := HX1.out.frozen 7
  have rf8 := HX1.out.frozen 8
  have rf9 := HX1.out.frozen 9
  have rf10 := HX1.out.frozen 10
  have rf11 := HX1.out.frozen 11
  by_cases hg : goodEnd P S f13 f14 f15
  · have hr : (Op.equalIn 10000 85 (.agg #[.int .u8 171, .int .u8 f1.1, .int .u8 f2.1, .int .u8 f3.1, .int .u8 f4.1, .int .u8 f5.1, .int .u8 f6.1, .int .u8 f7.1, .int .u8 f8.1, .int .u8 f9.1, .int .u8 f10.1, .int .u8 f11.1, .int .u8 f12.1, .int .u8 P.1, .int .u8 (S / 256), .int .u8 (S % 256)]) (.agg #[.int .u8 171, .int .u8 f1.1, .int .u8 f2.1, .int .u8 f3.1, .int .u8 f4.1, .int .u8 f5.1, .int .u8 f6.1, .int .u8 f7.1, .int .u8 f8.1, .int .u8 f9.1, .int .u8 f10.1, .int .u8 f11.1, .int .u8 f12.1, .int .u8 f13.1, .int .u8 f14.1, .int .u8 f15.1])).run Tryz.prog w5 = .ok true w5 := by
      rw [run_equalIn_frame, hg.1, hg.2.1, hg.2.2, decide_eq_true rfl]
    go_wp2
    refine bodyPost_ret (v := .tuple #[.agg #[.int .i64 f1.1, .int .i64 f2.1, .int .u8 f3.1, .int .u8 f4.1, .int .u8 f5.1, .int .u8 f6.1, .int .u8 f7.1, .int .u8 f8.1, .int .u8 f9.1, .int .u8 f10.1, .int .u8 f11.1, .int .u8 f12.1], .int .i64 0]) (by simp [results, Tryz.results65, go_sem, r0, r1, r2, r3, r4, r5, r6, r7, r8, r9, r10, r11]) rfl ⟨P, S, HP.out, HS.out, .inl ⟨hg, rfl⟩, ?_⟩
    exact ((((((((((((HB.out.setCell (p := ⟨w.heap.size + 1, 0, none⟩) (by simp) _).setCell (p := ⟨w.heap.size + 1, 1, none⟩) (by simp) _).setCell (p := ⟨w.heap.size + 1, 2, none⟩) (by simp) _).setCell (p := ⟨w.heap.size + 1, 3, none⟩) (by simp) _).setCell (p := ⟨w.heap.size + 1, 4, none⟩) (by simp) _).setCell (p := ⟨w.heap.size + 1, 5, none⟩) (by simp) _).setCell (p := ⟨w.heap.size + 1, 6, none⟩) (by simp) _).setCell (p := ⟨w.heap.size + 1, 7, none⟩) (by simp) _).setCell (p := ⟨w.heap.size + 1, 8, none⟩) (by simp) _).setCell (p := ⟨w.heap.size + 1, 9, none⟩) (by simp) _).setCell (p := ⟨w.heap.size + 1, 10, none⟩) (by simp) _).setCell (p := ⟨w.heap.size + 1, 11, none⟩) (by simp) _)
  · have hr : (Op.equalIn 10000 85 (.agg #[.int .u8 171, .int .u8 f1.1, .int .u8 f2.1, .int .u8 f3.1, .int .u8 f4.1, .int .u8 f5.1, .int .u8 f6.1, .int .u8 f7.1, .int .u8 f8.1, .int .u8 f9.1, .int .u8 f10.1, .int .u8 f11.1, .int .u8 f12.1, .int .u8 P.1, .int .u8 (S / 256), .int .u8 (S % 256)]) (.agg #[.int .u8 171, .int .u8 f1.1, .int .u8 f2.1, .int .u8 f3.1, .int .u8 f4.1, .int .u8 f5.1, .int .u8 f6.1, .int .u8 f7.1, .int .u8 f8.1, .int .u8 f9.1, .int .u8 f10.1, .int .u8 f11.1, .int .u8 f12.1, .int .u8 f13.1, .int .u8 f14.1, .int .u8 f15.1])).run Tryz.prog w5 = .ok false w5 := by
      rw [run_equalIn_frame, decide_eq_false (fun h => hg (by simp only [List.cons.injEq, true_and, and_true] at h; exact h))]
    go_wp2
    refine bodyPost_ret (v := .tuple #[.agg #[.int .i64 0, .int .i64 0, .int .u8 0, .int .u8 0, .int .u8 0, .int .u8 0, .int .u8 0, .int .u8 0, .int .u8 0, .int .u8 0, .int .u8 0, .int .u8 0], .int .i64 27]) (by simp [results, Tryz.results65, go_sem, r0, r1, r2, r3, r4, r5, r6, r7, r8, r9, r10, r11]) rfl ⟨P, S, HP.out, HS.out, .inr ⟨hg, rfl⟩, ?_⟩
    exact ((((((((((((HB.out.setCell (p := ⟨w.heap.size + 1, 0, none⟩) (by simp) _).setCell (p := ⟨w.heap.size + 1, 1, none⟩) (by simp) _).setCell (p := ⟨w.heap.size + 1, 2, none⟩) (by simp) _).setCell (p := ⟨w.heap.size + 1, 3, none⟩) (by simp) _).setCell (p := ⟨w.heap.size + 1, 4, none⟩) (by simp) _).setCell (p := ⟨w.heap.size + 1, 5, none⟩) (by simp) _).setCell (p := ⟨w.heap.size + 1, 6, none⟩) (by simp) _).setCell (p := ⟨w.heap.size + 1, 7, none⟩) (by simp) _).setCell (p := ⟨w.heap.size + 1, 8, none⟩) (by simp) _).setCell (p := ⟨w.heap.size + 1, 9, none⟩) (by simp) _).setCell (p := ⟨w.heap.size + 1, 10, none⟩) (by simp) _).setCell (p := ⟨w.heap.size + 1, 11, none⟩) (by simp) _)
set_option maxRecDepth 100000 in
theorem decode_form (f0 f1 f2 f3 f4 f5 f6 f7 f8 f9 f10 f11 f12 f13 f14 f15 : U8) (h0 : f0.1 ≠ 171) (w : World) : Calls Tryz.prog 65 #[.agg #[.int .u8 f0.1, .int .u8 f1.1, .int .u8 f2.1, .int .u8 f3.1, .int .u8 f4.1, .int .u8 f5.1, .int .u8 f6.1, .int .u8 f7.1, .int .u8 f8.1, .int .u8 f9.1, .int .u8 f10.1, .int .u8 f11.1, .int .u8 f12.1, .int .u8 f13.1, .int .u8 f14.1, .int .u8 f15.1]] w fun e w' => e = .returned (.tuple #[.agg #[.int .i64 0, .int .i64 0, .int .u8 0, .int .u8 0, .int .u8 0, .int .u8 0, .int .u8 0, .int .u8 0, .int .u8 0, .int .u8 0, .int .u8 0, .int .u8 0], .int .i64 1]) ∧ Below w.heap.size w w' := by
  have hd0 := decide_eq_false h0
  go_enter Tryz.func65, Tryz.ntmps65
  go_upto_region 1 with fail
  have hx0 := ((Blk.new w 85 #[.int .u8 f0.1, .int .u8 f1.1, .int .u8 f2.1, .int .u8 f3.1, .int .u8 f4.1, .int .u8 f5.1, .int .u8 f6.1, .int .u8 f7.1, .int .u8 f8.1, .int .u8 f9.1, .int .u8 f10.1, .int .u8 f11.1, .int .u8 f12.1, .int .u8 f13.1, .int .u8 f14.1, .int .u8 f15.1]).alloc (.cells #[.int .i64 0, .int .i64 0, .int .u8 0, .int .u8 0, .int .u8 0, .int .u8 0, .int .u8 0, .int .u8 0, .int .u8 0, .int .u8 0, .int .u8 0, .int .u8 0] 92))
  have hx1 := (Blk.new (w.alloc (.cells #[.int .u8 f0.1, .int .u8 f1.1, .int .u8 f2.1, .int .u8 f3.1, .int .u8 f4.1, .int .u8 f5.1, .int .u8 f6.1, .int .u8 f7.1, .int .u8 f8.1, .int .u8 f9.1, .int .u8 f10.1, .int .u8 f11.1, .int .u8 f12.1, .int .u8 f13.1, .int .u8 f14.1, .int .u8 f15.1] 85)) 92 #[.int .i64 0, .int .i64 0, .int .u8 0, .int .u8 0, .int .u8 0, .int .u8 0, .int .u8 0, .int .u8 0, .int .u8 0, .int .u8 0, .int .u8 0, .int .u8 0])
  simp only [World.size_alloc] at hx1
  have hb0 := (((Below.refl w.heap.size w).alloc (Nat.le_refl _) (.cells #[.int .u8 f0.1, .int .u8 f1.1, .int .u8 f2.1, .int .u8 f3.1, .int .u8 f4.1, .int .u8 f5.1, .int .u8 f6.1, .int .u8 f7.1, .int .u8 f8.1, .int .u8 f9.1, .int .u8 f10.1, .int .u8 f11.1, .int .u8 f12.1, .int .u8 f13.1, .int .u8 f14.1, .int .u8 f15.1] 85)).alloc (by simp only [World.size_alloc]; omega) (.cells #[.int .i64 0, .int .i64 0, .int .u8 0, .int .u8 0, .int .u8 0, .int .u8 0, .int .u8 0, .int .u8 0, .int .u8 0, .int .u8 0, .int .u8 0, .int .u8 0] 92))
  generalize ((w.alloc (.cells #[.int .u8 f0.1, .int .u8 f1.1, .int .u8 f2.1, .int .u8 f3.1, .int .u8 f4.1, .int .u8 f5.1, .int .u8 f6.1, .int .u8 f7.1, .int .u8 f8.1, .int .u8 f9.1, .int .u8 f10.1, .int .u8 f11.1, .int .u8 f12.1, .int .u8 f13.1, .int .u8 f14.1, .int .u8 f15.1] 85)).alloc (.cells #[.int .i64 0, .int .i64 0, .int .u8 0, .int .u8 0, .int .u8 0, .int .u8 0, .int .u8 0, .int .u8 0, .int .u8 0, .int .u8 0, .int .u8 0, .int .u8 0] 92)) = w0 at hx0 hx1 hb0 ⊢
  have HB := Lib.hid hb0
  have k0 := hx0.cell 0
  have z1 : w.heap.size + 1 < w0.heap.size := hx1.lt
  have HX1 := Lib.hid hx1
  clear hx0 hx1 hb0
  have r0 := HX1.out.cell 0
  have r1 := HX1.out.cell 1
  have r2 := HX1.out.cell 2
  have r3 := HX1.out.cell 3
  have r4 := HX1.out.cell 4
  have r5 := HX1.out.cell 5
  have r6 := HX1.out.cell 6
  have r7 := HX1.out.cell 7
  have r8 := HX1.out.cell 8
  have r9 := HX1.out.cell 9
  have r10 := HX1.out.cell 10
  have r11 := HX1.out.cell 11
  simp only [List.getElem?_toArray, List.getElem?_cons_zero, List.getElem?_cons_succ] at r0 r1 r2 r3 r4 r5 r6 r7 r8 r9 r10 r11
  simp only [List.getElem?_toArray, List.getElem?_cons_zero] at k0
  have rf0 := HX1.out.frozen 0
  have rf1 := HX1.out.frozen 1
  have rf2 := HX1.out.frozen 2
  have rf3 := HX1.out.frozen 3
  have rf4 := HX1.out.frozen 4
  have rf5 := HX1.out.frozen 5
  have rf6 := HX1.out.frozen 6
  have rf7 := HX1.out.frozen 7
  have rf8 := HX1.out.frozen 8
  have rf9 := HX1.out.frozen 9
  have rf10 := HX1.out.frozen 10
  have rf11 := HX1.out.frozen 11
  go_wp2
  refine bodyPost_ret (v := .tuple #[.agg #[.int .i64 0, .int .i64 0, .int .u8 0, .int .u8 0, .int .u8 0, .int .u8 0, .int .u8 0, .int .u8 0, .int .u8 0, .int .u8 0, .int .u8 0, .int .u8 0], .int .i64 1]) (by simp [results, Tryz.results65, go_sem, r0, r1, r2, r3, r4, r5, r6, r7, r8, r9, r10, r11]) rfl ⟨rfl, ?_⟩
  exact ((((((((((((HB.out.setCell (p := ⟨w.heap.size + 1, 0, none⟩) (by simp) _).setCell (p := ⟨w.heap.size + 1, 1, none⟩) (by simp) _).setCell (p := ⟨w.heap.size + 1, 2, none⟩) (by simp) _).setCell (p := ⟨w.heap.size + 1, 3, none⟩) (by simp) _).setCell (p := ⟨w.heap.size + 1, 4, none⟩) (by simp) _).setCell (p := ⟨w.heap.size + 1, 5, none⟩) (by simp) _).setCell (p := ⟨w.heap.size + 1, 6, none⟩) (by simp) _).setCell (p := ⟨w.heap.size + 1, 7, none⟩) (by simp) _).setCell (p := ⟨w.heap.size + 1, 8, none⟩) (by simp) _).setCell (p := ⟨w.heap.size + 1, 9, none⟩) (by simp) _).setCell (p := ⟨w.heap.size + 1, 10, none⟩) (by simp) _).setCell (p := ⟨w.heap.size + 1, 11, none⟩) (by simp) _)

end Go.Proofs.YtkjkjhheckfhbaaGreatDoor
namespace Go.Proofs.YtkjkjhheckfhbaaGreatDoor
open Go.RowKit
set_option linter.unusedVariables false
/-- Whether sixteen bytes are a frame. -/
def goodB (l : List U8) : Bool := decide ((l.getD 0 u0).1 = 171 ∧ xorF ((l.drop 1).take 12) 0 = (l.getD 13 u0).1 ∧ rollF 251 65521 (l.take 14) 1 / 256 = (l.getD 14 u0).1 ∧ rollF 251 65521 (l.take 14) 1 % 256 = (l.getD 15 u0).1)
def pkV : Bool → List U8 → Value
  | true, l => .agg (#[.int .i64 (l.getD 1 u0).1, .int .i64 (l.getD 2 u0).1] ++ ((((l.drop 3).take 10).map (fun b => Value.int .u8 b.1)).toArray))
  | false, _ => .agg #[.int .i64 0, .int .i64 0, .int .u8 0, .int .u8 0, .int .u8 0, .int .u8 0, .int .u8 0, .int .u8 0, .int .u8 0, .int .u8 0, .int .u8 0, .int .u8 0]
def errD (l : List U8) : Int := if goodB l = true then 0 else if (l.getD 0 u0).1 = 171 then 27 else 1
theorem errD_good {l : List U8} (h : goodB l = true) : errD l = 0 := if_pos h
theorem errD_bad {l : List U8} (h : goodB l = false) : errD l ≠ 0 := by unfold errD; rw [h]; split <;> simp_all; split <;> simp
theorem decode_any (f0 f1 f2 f3 f4 f5 f6 f7 f8 f9 f10 f11 f12 f13 f14 f15 : U8) (w : World) : Calls Tryz.prog 65 #[.agg #[.int .u8 f0.1, .int .u8 f1.1, .int .u8 f2.1, .int .u8 f3.1, .int .u8 f4.1, .int .u8 f5.1, .int .u8 f6.1, .int .u8 f7.1, .int .u8 f8.1, .int .u8 f9.1, .int .u8 f10.1, .int .u8 f11.1, .int .u8 f12.1, .int .u8 f13.1, .int .u8 f14.1, .int .u8 f15.1]] w fun e w' => e = .returned (.tuple #[pkV (goodB [f0, f1, f2, f3, f4, f5, f6, f7, f8, f9, f10, f11, f12, f13, f14, f15]) [f0, f1, f2, f3, f4, f5, f6, f7, f8, f9, f10, f11, f12, f13, f14, f15], .int .i64 (errD [f0, f1, f2, f3, f4, f5, f6, f7, f8, f9, f10, f11, f12, f13, f14, f15])]) ∧ Below w.heap.size w w' := by
  by_cases h0 : f0.1 = 171
  · have e0 : f0 = u171 := Subtype.ext h0
    subst e0
    refine (decode_sync f1 f2 f3 f4 f5 f6 f7 f8 f9 f10 f11 f12 f13 f14 f15 w).mono ?_
    rintro e w' ⟨P, S, hP, hS, hr, hb⟩
    refine ⟨?_, hb⟩
    have key : goodB [u171, f1, f2, f3, f4, f5, f6, f7, f8, f9, f10, f11, f12, f13, f14, f15] = true ↔ goodEnd P S f13 f14 f15 := by
      unfold goodB goodEnd
      simp only [decide_eq_true_eq, List.getD_cons_zero, List.getD_cons_succ, List.drop_succ_cons, List.drop_zero, List.take_succ_cons, List.take_zero]
      rw [hP]
      constructor
      · rintro ⟨_, h1, h2, h3⟩
        have : f13 = P := Subtype.ext h1.symm
        subst this
        rw [hS] at h2 h3
        exact ⟨rfl, h2, h3⟩
      · rintro ⟨h1, h2, h3⟩
        have : P = f13 := Subtype.ext h1
        subst this
        rw [hS]
        exact ⟨rfl, rfl, h2, h3⟩
    rcases hr with ⟨hg, rfl⟩ | ⟨hg, rfl⟩
    · rw [errD_good (key.2 hg), key.2 hg]; rfl
    · have hb0 : goodB [u171, f1, f2, f3, f4, f5, f6, f7, f8, f9, f10, f11, f12, f13, f14, f15] = false := by
        cases h : goodB [u171, f1, f2, f3, f4, f5, f6, f7, f8, f9, f10, f11, f12, f13, f14, f15] with
        | true => exact absurd (key.1 h) hg
        | false => rfl
      unfold errD
      rw [hb0]; rfl
  · refine (decode_form f0 f1 f2 f3 f4 f5 f6 f7 f8 f9 f10 f11 f12 f13 f14 f15 h0 w).mono ?_
    rintro e w' ⟨rfl, hb⟩
    have hb0 : goodB [f0, f1, f2, f3, f4, f5, f6, f7, f8, f9, f10, f11, f12, f13, f14, f15] = false := decide_eq_false (fun h => h0 h.1)
    refine ⟨?_, hb⟩
    unfold errD
    rw [hb0, if_neg (by simp), List.getD_cons_zero, if_neg h0]; rfl
set_option maxRecDepth 100000 in
theorem packetAt_short (A : Option Addr) (n cap at_ : Nat) (hn : n ≤ 1000000) (ha : at_ ≤ n) (hs : n - at_ < 16) (w : World) : Calls Tryz.prog 134 #[.slice A n cap, .int .i64 at_] w fun e w' => e = .returned (.tuple #[pkV false [], .bool false]) ∧ Below w.heap.size w w' := by
  go_enter Tryz.func134, Tryz.ntmps134
  go_upto_region 1 with fail
  have hx1 := (Blk.new w 92 #[.int .i64 0, .int .i64 0, .int .u8 0, .int .u8 0, .int .u8 0, .int .u8 0, .int .u8 0, .int .u8 0, .int .u8 0, .int .u8 0, .int .u8 0, .int .u8 0])
  have hb0 := ((Below.refl w.heap.size w).alloc (Nat.le_refl _) (.cells #[.int .i64 0, .int .i64 0, .int .u8 0, .int .u8 0, .int .u8 0, .int .u8 0, .int .u8 0, .int .u8 0, .int .u8 0, .int .u8 0, .int .u8 0, .int .u8 0] 92))
  generalize (w.alloc (.cells #[.int .i64 0, .int .i64 0, .int .u8 0, .int .u8 0, .int .u8 0, .int .u8 0, .int .u8 0, .int .u8 0, .int .u8 0, .int .u8 0, .int .u8 0, .int .u8 0] 92)) = w0 at hx1 hb0 ⊢
  have HB := Lib.hid hb0
  have z1 : w.heap.size < w0.heap.size := hx1.lt
  have HX1 := Lib.hid hx1
  clear hx1 hb0
  have r0 := HX1.out.cell 0
  have r1 := HX1.out.cell 1
  have r2 := HX1.out.cell 2
  have r3 := HX1.out.cell 3
  have r4 := HX1.out.cell 4
  have r5 := HX1.out.cell 5
  have r6 := HX1.out.cell 6
  have r7 := HX1.out.cell 7
  have r8 := HX1.out.cell 8
  have r9 := HX1.out.cell 9
  have r10 := HX1.out.cell 10
  have r11 := HX1.out.cell 11
  simp only [List.getElem?_toArray, List.getElem?_cons_zero, List.getElem?_cons_succ] at r0 r1 r2 r3 r4 r5 r6 r7 r8 r9 r10 r11
  have rf0 := HX1.out.frozen 0
  have rf1 := HX1.out.frozen 1
  have rf2 := HX1.out.frozen 2
  have rf3 := HX1.out.frozen 3
  have rf4 := HX1.out.frozen 4
  have rf5 := HX1.out.frozen 5
  have rf6 := HX1.out.frozen 6
  have rf7 := HX1.out.frozen 7
  have rf8 := HX1.out.frozen 8
  have rf9 := HX1.out.frozen 9
  have rf10 := HX1.out.frozen 10
  have rf11 := HX1.out.frozen 11
  go_wp2
  refine bodyPost_ret (v := .tuple #[.agg #[.int .i64 0, .int .i64 0, .int .u8 0, .int .u8 0, .int .u8 0, .int .u8 0, .int .u8 0, .int .u8 0, .int .u8 0, .int .u8 0, .int .u8 0, .int .u8 0], .bool false]) (by simp [results, Tryz.results134, go_sem, r0, r1, r2, r3, r4, r5, r6, r7, r8, r9, r10, r11]) rfl ⟨rfl, ?_⟩
  exact ((((((((((((HB.out.setCell (p := ⟨w.heap.size, 0, none⟩) (by simp) _).setCell (p := ⟨w.heap.size, 1, none⟩) (by simp) _).setCell (p := ⟨w.heap.size, 2, none⟩) (by simp) _).setCell (p := ⟨w.heap.size, 3, none⟩) (by simp) _).setCell (p := ⟨w.heap.size, 4, none⟩) (by simp) _).setCell (p := ⟨w.heap.size, 5, none⟩) (by simp) _).setCell (p := ⟨w.heap.size, 6, none⟩) (by simp) _).setCell (p := ⟨w.heap.size, 7, none⟩) (by simp) _).setCell (p := ⟨w.heap.size, 8, none⟩) (by simp) _).setCell (p := ⟨w.heap.size, 9, none⟩) (by simp) _).setCell (p := ⟨w.heap.size, 10, none⟩) (by simp) _).setCell (p := ⟨w.heap.size, 11, none⟩) (by simp) _)
set_option maxRecDepth 100000 in
set_option maxHeartbeats 2000000 in
theorem packetAt_full (A : Option Addr) (bs : List U8) (cap at_ : Nat) (hn : bs.length ≤ 1000000) (hc : bs.length ≤ cap) (ha : at_ + 16 ≤ bs.length) (f0 f1 f2 f3 f4 f5 f6 f7 f8 f9 f10 f11 f12 f13 f14 f15 : U8) (hl : (bs.drop at_).take 16 = [f0, f1, f2, f3, f4, f5, f6, f7, f8, f9, f10, f11, f12, f13, f14, f15]) (w : World) (hL : BRd w.heap.size w A bs) :
    Calls Tryz.prog 134 #[.slice A bs.length cap, .int .i64 at_] w fun e w' => e = .returned (.tuple #[pkV (goodB [f0, f1, f2, f3, f4, f5, f6, f7, f8, f9, f10, f11, f12, f13, f14, f15]) [f0, f1, f2, f3, f4, f5, f6, f7, f8, f9, f10, f11, f12, f13, f14, f15], .bool (goodB [f0, f1, f2, f3, f4, f5, f6, f7, f8, f9, f10, f11, f12, f13, f14, f15])]) ∧ Below w.heap.size w w' := by
  obtain ⟨ad, rfl, hbl, hcc⟩ := hL (by omega)
  have hget : ∀ j, j < 16 → bs.getD (at_ + j) u0 = ([f0, f1, f2, f3, f4, f5, f6, f7, f8, f9, f10, f11, f12, f13, f14, f15] : List U8).getD j u0 := fun j hj => by
    rw [← hl]
    simp [List.getD, List.getElem?_drop, hj]
  have HCC := Lib.hid hcc
  have HG := Lib.hid hget
  have HLL := Lib.hid hl
  clear hl hL hcc hget
  obtain ⟨n, hne⟩ : ∃ n, bs.length = n := ⟨_, rfl⟩
  have HN := Lib.hid hne
  rw [hne] at hn hc ha ⊢
  clear hne
  have hmin : (16 : Nat) = Nat.min (n - at_) 16 := (Nat.min_eq_right (by omega)).symm
  have HM := Lib.hid hmin; clear hmin
  have i0 : (0 : Int) ≤ ↑at_ := by omega
  have i1 : (↑at_ : Int) ≤ ↑n := by omega
  have i2 : (↑n : Int) ≤ ↑cap := by omega
  go_enter Tryz.func134, Tryz.ntmps134
  go_upto_region 1 with fail
  have hx1 := (Blk.new w 92 #[.int .i64 0, .int .i64 0, .int .u8 0, .int .u8 0, .int .u8 0, .int .u8 0, .int .u8 0, .int .u8 0, .int .u8 0, .int .u8 0, .int .u8 0, .int .u8 0])
  have hb0 := ((Below.refl w.heap.size w).alloc (Nat.le_refl _) (.cells #[.int .i64 0, .int .i64 0, .int .u8 0, .int .u8 0, .int .u8 0, .int .u8 0, .int .u8 0, .int .u8 0, .int .u8 0, .int .u8 0, .int .u8 0, .int .u8 0] 92))
  generalize (w.alloc (.cells #[.int .i64 0, .int .i64 0, .int .u8 0, .int .u8 0, .int .u8 0, .int .u8 0, .int .u8 0, .int .u8 0, .int .u8 0, .int .u8 0, .int .u8 0, .int .u8 0] 92)) = w0 at hx1 hb0 ⊢
  have HB := Lib.hid hb0
  have z1 : w.heap.size < w0.heap.size := hx1.lt
  have HX1 := Lib.hid hx1
  clear hx1 hb0
  go_upto_region 4 with fail
  have hf := Blk.new w0 85 #[.int .u8 0, .int .u8 0, .int .u8 0, .int .u8 0, .int .u8 0, .int .u8 0, .int .u8 0, .int .u8 0, .int .u8 0, .int .u8 0, .int .u8 0, .int .u8 0, .int .u8 0, .int .u8 0, .int .u8 0, .int .u8 0]
  have hx1 := HX1.out.alloc (.cells #[.int .u8 0, .int .u8 0, .int .u8 0, .int .u8 0, .int .u8 0, .int .u8 0, .int .u8 0, .int .u8 0, .int .u8 0, .int .u8 0, .int .u8 0, .int .u8 0, .int .u8 0, .int .u8 0, .int .u8 0, .int .u8 0] 85)
  have hb := HB.out.alloc HB.out.size (.cells #[.int .u8 0, .int .u8 0, .int .u8 0, .int .u8 0, .int .u8 0, .int .u8 0, .int .u8 0, .int .u8 0, .int .u8 0, .int .u8 0, .int .u8 0, .int .u8 0, .int .u8 0, .int .u8 0, .int .u8 0, .int .u8 0] 85)
  obtain ⟨b3, hb3e⟩ : ∃ b, w0.heap.size = b := ⟨_, rfl⟩
  rw [hb3e] at hf z1 ⊢
  clear hb3e
  generalize w0.alloc (.cells #[.int .u8 0, .int .u8 0, .int .u8 0, .int .u8 0, .int .u8 0, .int .u8 0, .int .u8 0, .int .u8 0, .int .u8 0, .int .u8 0, .int .u8 0, .int .u8 0, .int .u8 0, .int .u8 0, .int .u8 0, .int .u8 0] 85) = w2 at hf hx1 hb ⊢
  have hsrc : ∀ j v, ([.int .u8 f0.1, .int .u8 f1.1, .int .u8 f2.1, .int .u8 f3.1, .int .u8 f4.1, .int .u8 f5.1, .int .u8 f6.1, .int .u8 f7.1, .int .u8 f8.1, .int .u8 f9.1, .int .u8 f10.1, .int .u8 f11.1, .int .u8 f12.1, .int .u8 f13.1, .int .u8 f14.1, .int .u8 f15.1] : List Value)[j]? = some v → w2.cell? ((ad.add at_).add j) = some v := fun j v hj => by
    have h : j < 16 → w2.cell? ((ad.add at_).add j) = some (.int .u8 (([f0, f1, f2, f3, f4, f5, f6, f7, f8, f9, f10, f11, f12, f13, f14, f15] : List U8).getD j u0).1) := fun h16 => by
      rw [Addr.add_add, hb.cell (by rw [block_of_add]; exact hbl), HCC.out (at_ + j) (by rw [HN.out]; omega), HG.out j h16]
    match j, hj with
    | 0, hj => exact (h (by omega)).trans hj
    | 1, hj => exact (h (by omega)).trans hj
    | 2, hj => exact (h (by omega)).trans hj
    | 3, hj => exact (h (by omega)).trans hj
    | 4, hj => exact (h (by omega)).trans hj
    | 5, hj => exact (h (by omega)).trans hj
    | 6, hj => exact (h (by omega)).trans hj
    | 7, hj => exact (h (by omega)).trans hj
    | 8, hj => exact (h (by omega)).trans hj
    | 9, hj => exact (h (by omega)).trans hj
    | 10, hj => exact (h (by omega)).trans hj
    | 11, hj => exact (h (by omega)).trans hj
    | 12, hj => exact (h (by omega)).trans hj
    | 13, hj => exact (h (by omega)).trans hj
    | 14, hj => exact (h (by omega)).trans hj
    | 15, hj => exact (h (by omega)).trans hj
    | (n + 16), hj => simp at hj
  have HF2 := Lib.hid hf; have HX1_2 := Lib.hid hx1; have HB_2 := Lib.hid hb
  have HSRC := Lib.hid hsrc
  clear hf hx1 hb hsrc HX1 HB
  go_region_held3 (fun w' => True) (go_keep)
    (first
      | (refine upon_copy_blk 106 106 3 5 Tryz.underlying106 (by kernel_rfl) b3 0 16 16 (ad.add at_) (n - at_) (cap - at_) #[.int .u8 0, .int .u8 0, .int .u8 0, .int .u8 0, .int .u8 0, .int .u8 0, .int .u8 0, .int .u8 0, .int .u8 0, .int .u8 0, .int .u8 0, .int .u8 0, .int .u8 0, .int .u8 0, .int .u8 0, .int .u8 0] 85 (by exact HF2.out) [.int .u8 f0.1, .int .u8 f1.1, .int .u8 f2.1, .int .u8 f3.1, .int .u8 f4.1, .int .u8 f5.1, .int .u8 f6.1, .int .u8 f7.1, .int .u8 f8.1, .int .u8 f9.1, .int .u8 f10.1, .int .u8 f11.1, .int .u8 f12.1, .int .u8 f13.1, .int .u8 f14.1, .int .u8 f15.1] (by exact HM.out) (by exact HSRC.out) (by simp) (by simp [Value.oneCell']) #[.int .u8 f0.1, .int .u8 f1.1, .int .u8 f2.1, .int .u8 f3.1, .int .u8 f4.1, .int .u8 f5.1, .int .u8 f6.1, .int .u8 f7.1, .int .u8 f8.1, .int .u8 f9.1, .int .u8 f10.1, .int .u8 f11.1, .int .u8 f12.1, .int .u8 f13.1, .int .u8 f14.1, .int .u8 f15.1] rfl ?_; intro wn2 hbk hon; have y1 := trivial))
  have HX1_3 := Lib.hid (Only.far (g := b3) (k := w.heap.size) hon (by exact HX1_2.out) (by omega))
  have HB_3 := Lib.hid (Only.below (g := b3) (B := w.heap.size) hon (by exact HB_2.out.drew) (by omega))
  have HF3 : RowKit.Hid (Blk wn2 b3 85 #[.int .u8 f0.1, .int .u8 f1.1, .int .u8 f2.1, .int .u8 f3.1, .int .u8 f4.1, .int .u8 f5.1, .int .u8 f6.1, .int .u8 f7.1, .int .u8 f8.1, .int .u8 f9.1, .int .u8 f10.1, .int .u8 f11.1, .int .u8 f12.1, .int .u8 f13.1, .int .u8 f14.1, .int .u8 f15.1]) := hbk
  have z3 : b3 < wn2.heap.size := HF3.out.lt
  clear hbk hon y1 HSRC HF2 HX1_2 HB_2
  have q0 := HF3.out.cell 0
  have q1 := HF3.out.cell 1
  have q2 := HF3.out.cell 2
  have q3 := HF3.out.cell 3
  have q4 := HF3.out.cell 4
  have q5 := HF3.out.cell 5
  have q6 := HF3.out.cell 6
  have q7 := HF3.out.cell 7
  have q8 := HF3.out.cell 8
  have q9 := HF3.out.cell 9
  have q10 := HF3.out.cell 10
  have q11 := HF3.out.cell 11
  have q12 := HF3.out.cell 12
  have q13 := HF3.out.cell 13
  have q14 := HF3.out.cell 14
  have q15 := HF3.out.cell 15
  simp only [List.getElem?_toArray, List.getElem?_cons_zero, List.getElem?_cons_succ] at q0 q1 q2 q3 q4 q5 q6 q7 q8 q9 q10 q11 q12 q13 q14 q15
  go_wp2_with fail
  refine (decode_any f0 f1 f2 f3 f4 f5 f6 f7 f8 f9 f10 f11 f12 f13 f14 f15 wn2).mono ?_
  rintro e w4 ⟨rfl, hb4⟩
  have HX1_4 := Lib.hid (HX1_3.out.below hb4)
  have HB_4 := Lib.hid (HB_3.out.trans (hb4.mono HB_3.out.size))
  clear q0 q1 q2 q3 q4 q5 q6 q7 q8 q9 q10 q11 q12 q13 q14 q15 hb4 HX1_3 HF3 HB_3
  cases hg : goodB [f0, f1, f2, f3, f4, f5, f6, f7, f8, f9, f10, f11, f12, f13, f14, f15] with
  | false =>
    have hx0 := errD_bad hg
    generalize errD [f0, f1, f2, f3, f4, f5, f6, f7, f8, f9, f10, f11, f12, f13, f14, f15] = x at hx0 ⊢
    have hx1 := decide_eq_false hx0
    have hx2 : (x == 0) = false := by simpa using hx0
    rw [show pkV false [f0, f1, f2, f3, f4, f5, f6, f7, f8, f9, f10, f11, f12, f13, f14, f15] = .agg #[.int .i64 0, .int .i64 0, .int .u8 0, .int .u8 0, .int .u8 0, .int .u8 0, .int .u8 0, .int .u8 0, .int .u8 0, .int .u8 0, .int .u8 0, .int .u8 0] from rfl]
    go_upto_region 6 with fail
    have hx1 := HX1_4.out.alloc (.cells #[.int .i64 0, .int .i64 0, .int .u8 0, .int .u8 0, .int .u8 0, .int .u8 0, .int .u8 0, .int .u8 0, .int .u8 0, .int .u8 0, .int .u8 0, .int .u8 0] 92)
    have he := Blk.new w4 92 #[.int .i64 0, .int .i64 0, .int .u8 0, .int .u8 0, .int .u8 0, .int .u8 0, .int .u8 0, .int .u8 0, .int .u8 0, .int .u8 0, .int .u8 0, .int .u8 0]
    have hb := HB_4.out.alloc HB_4.out.size (.cells #[.int .i64 0, .int .i64 0, .int .u8 0, .int .u8 0, .int .u8 0, .int .u8 0, .int .u8 0, .int .u8 0, .int .u8 0, .int .u8 0, .int .u8 0, .int .u8 0] 92)
    have z4 : w.heap.size < w4.heap.size := HX1_4.out.lt
    obtain ⟨b4, hb4e⟩ : ∃ b, w4.heap.size = b := ⟨_, rfl⟩
    rw [hb4e] at he z4 ⊢
    clear hb4e
    generalize w4.alloc (.cells #[.int .i64 0, .int .i64 0, .int .u8 0, .int .u8 0, .int .u8 0, .int .u8 0, .int .u8 0, .int .u8 0, .int .u8 0, .int .u8 0, .int .u8 0, .int .u8 0] 92) = w5 at hx1 hb he ⊢
    have HX1 := Lib.hid hx1; have HE := Lib.hid he; have HB := Lib.hid hb
    clear hx1 hb he HX1_4 HB_4
    have r0 := HX1.out.cell 0
    have r1 := HX1.out.cell 1
    have r2 := HX1.out.cell 2
    have r3 := HX1.out.cell 3
    have r4 := HX1.out.cell 4
    have r5 := HX1.out.cell 5
    have r6 := HX1.out.cell 6
    have r7 := HX1.out.cell 7
    have r8 := HX1.out.cell 8
    have r9 := HX1.out.cell 9
    have r10 := HX1.out.cell 10
    have r11 := HX1.out.cell 11
    simp only [List.getElem?_toArray, List.getElem?_cons_zero, List.getElem?_cons_succ] at r0 r1 r2 r3 r4 r5 r6 r7 r8 r9 r10 r11
    have rf0 := HX1.out.frozen 0
    have rf1 := HX1.out.frozen 1
    have rf2 := HX1.out.frozen 2
    have rf3 := HX1.out.frozen 3
    have rf4 := HX1.out.frozen 4
    have rf5 := HX1.out.frozen 5
    have rf6 := HX1.out.frozen 6
    have rf7 := HX1.out.frozen 7
    have rf8 := HX1.out.frozen 8
    have rf9 := HX1.out.frozen 9
    have rf10 := HX1.out.frozen 10
    have rf11 := HX1.out.frozen 11
    have e0 := HE.out.cell 0
    have e1 := HE.out.cell 1
    have e2 := HE.out.cell 2
    have e3 := HE.out.cell 3
    have e4 := HE.out.cell 4
    have e5 := HE.out.cell 5
    have e6 := HE.out.cell 6
    have e7 := HE.out.cell 7
    have e8 := HE.out.cell 8
    have e9 := HE.out.cell 9
    have e10 := HE.out.cell 10
    have e11 := HE.out.cell 11
    simp only [List.getElem?_toArray, List.getElem?_cons_zero, List.getElem?_cons_succ] at e0 e1 e2 e3 e4 e5 e6 e7 e8 e9 e10 e11
    go_wp2
    refine bodyPost_ret (v := .tuple #[.agg #[.int .i64 0, .int .i64 0, .int .u8 0, .int .u8 0, .int .u8 0, .int .u8 0, .int .u8 0, .int .u8 0, .int .u8 0, .int .u8 0, .int .u8 0, .int .u8 0], .bool false]) (by simp [results, Tryz.results134, go_sem, r0, r1, r2, r3, r4, r5, r6, r7, r8, r9, r10, r11]) rfl ⟨(by rw [hg]; rfl), ?_⟩
    exact ((((((((((((HB.out.setCell (p := ⟨w.heap.size, 0, none⟩) (by simp) _).setCell (p := ⟨w.heap.size, 1, none⟩) (by simp) _).setCell (p := ⟨w.heap.size, 2, none⟩) (by simp) _).setCell (p := ⟨w.heap.size, 3, none⟩) (by simp) _).setCell (p := ⟨w.heap.size, 4, none⟩) (by simp) _).setCell (p := ⟨w.heap.size, 5, none⟩) (by simp) _).setCell (p := ⟨w.heap.size, 6, none⟩) (by simp) _).setCell (p := ⟨w.heap.size, 7, none⟩) (by simp) _).setCell (p := ⟨w.heap.size, 8, none⟩) (by simp) _).setCell (p := ⟨w.heap.size, 9, none⟩) (by simp) _).setCell (p := ⟨w.heap.size, 10, none⟩) (by simp) _).setCell (p := ⟨w.heap.size, 11, none⟩) (by simp) _)
  | true =>
    rw [errD_good hg]
    rw [show pkV true [f0, f1, f2, f3, f4, f5, f6, f7, f8, f9, f10, f11, f12, f13, f14, f15] = .agg #[.int .i64 f1.1, .int .i64 f2.1, .int .u8 f3.1, .int .u8 f4.1, .int .u8 f5.1, .int .u8 f6.1, .int .u8 f7.1, .int .u8 f8.1, .int .u8 f9.1, .int .u8 f10.1, .int .u8 f11.1, .int .u8 f12.1] from rfl]
    go_upto_region 6 with fail
    have hx1 := HX1_4.out.alloc (.cells #[.int .i64 f1.1, .int .i64 f2.1, .int .u8 f3.1, .int .u8 f4.1, .int .u8 f5.1, .int .u8 f6.1, .int .u8 f7.1, .int .u8 f8.1, .int .u8 f9.1, .int .u8 f10.1, .int .u8 f11.1, .int .u8 f12.1] 92)
    have he := Blk.new w4 92 #[.int .i64 f1.1, .int .i64 f2.1, .int .u8 f3.1, .int .u8 f4.1, .int .u8 f5.1, .int .u8 f6.1, .int .u8 f7.1, .int .u8 f8.1, .int .u8 f9.1, .int .u8 f10.1, .int .u8 f11.1, .int .u8 f12.1]
    have hb := HB_4.out.alloc HB_4.out.size (.cells #[.int .i64 f1.1, .int .i64 f2.1, .int .u8 f3.1, .int .u8 f4.1, .int .u8 f5.1, .int .u8 f6.1, .int .u8 f7.1, .int .u8 f8.1, .int .u8 f9.1, .int .u8 f10.1, .int .u8 f11.1, .int .u8 f12.1] 92)
    have z4 : w.heap.size < w4.heap.size := HX1_4.out.lt
    obtain ⟨b4, hb4e⟩ : ∃ b, w4.heap.size = b := ⟨_, rfl⟩
    rw [hb4e] at he z4 ⊢
    clear hb4e
    generalize w4.alloc (.cells #[.int .i64 f1.1, .int .i64 f2.1, .int .u8 f3.1, .int .u8 f4.1, .int .u8 f5.1, .int .u8 f6.1, .int .u8 f7.1, .int .u8 f8.1, .int .u8 f9.1, .int .u8 f10.1, .int .u8 f11.1, .int .u8 f12.1] 92) = w5 at hx1 hb he ⊢
    have HX1 := Lib.hid hx1; have HE := Lib.hid he; have HB := Lib.hid hb
    clear hx1 hb he HX1_4 HB_4
    have r0 := HX1.out.cell 0
    have r1 := HX1.out.cell 1
    have r2 := HX1.out.cell 2
    have r3 := HX1.out.cell 3
    have r4 := HX1.out.cell 4
    have r5 := HX1.out.cell 5
    have r6 := HX1.out.cell 6
    have r7 := HX1.out.cell 7
    have r8 := HX1.out.cell 8
    have r9 := HX1.out.cell 9
    have r10 := HX1.out.cell 10
    have r11 := HX1.out.cell 11
    simp only [List.getElem?_toArray, List.getElem?_cons_zero, List.getElem?_cons_succ] at r0 r1 r2 r3 r4 r5 r6 r7 r8 r9 r10 r11
    have rf0 := HX1.out.frozen 0
    have rf1 := HX1.out.frozen 1
    have rf2 := HX1.out.frozen 2
    have rf3 := HX1.out.frozen 3
    have rf4 := HX1.out.frozen 4
    have rf5 := HX1.out.frozen 5
    have rf6 := HX1.out.frozen 6
    have rf7 := HX1.out.frozen 7
    have rf8 := HX1.out.frozen 8
    have rf9 := HX1.out.frozen 9
    have rf10 := HX1.out.frozen 10
    have rf11 := HX1.out.frozen 11
    have e0 := HE.out.cell 0
    have e1 := HE.out.cell 1
    have e2 := HE.out.cell 2
    have e3 := HE.out.cell 3
    have e4 := HE.out.cell 4
    have e5 := HE.out.cell 5
    have e6 := HE.out.cell 6
    have e7 := HE.out.cell 7
    have e8 := HE.out.cell 8
    have e9 := HE.out.cell 9
    have e10 := HE.out.cell 10
    have e11 := HE.out.cell 11
    simp only [List.getElem?_toArray, List.getElem?_cons_zero, List.getElem?_cons_succ] at e0 e1 e2 e3 e4 e5 e6 e7 e8 e9 e10 e11
    go_wp2
    refine bodyPost_ret (v := .tuple #[.agg #[.int .i64 f1.1, .int .i64 f2.1, .int .u8 f3.1, .int .u8 f4.1, .int .u8 f5.1, .int .u8 f6.1, .int .u8 f7.1, .int .u8 f8.1, .int .u8 f9.1, .int .u8 f10.1, .int .u8 f11.1, .int .u8 f12.1], .bool true]) (by simp [results, Tryz.results134, go_sem, r0, r1, r2, r3, r4, r5, r6, r7, r8, r9, r10, r11]) rfl ⟨(by rw [hg]; rfl), ?_⟩
    exact ((((((((((((HB.out.setCell (p := ⟨w.heap.size, 0, none⟩) (by simp) _).setCell (p := ⟨w.heap.size, 1, none⟩) (by simp) _).setCell (p := ⟨w.heap.size, 2, none⟩) (by simp) _).setCell (p := ⟨w.heap.size, 3, none⟩) (by simp) _).setCell (p := ⟨w.heap.size, 4, none⟩) (by simp) _).setCell (p := ⟨w.heap.size, 5, none⟩) (by simp) _).setCell (p := ⟨w.heap.size, 6, none⟩) (by simp) _).setCell (p := ⟨w.heap.size, 7, none⟩) (by simp) _).setCell (p := ⟨w.heap.size, 8, none⟩) (by simp) _).setCell (p := ⟨w.heap.size, 9, none⟩) (by simp) _).setCell (p := ⟨w.heap.size, 10, none⟩) (by simp) _).setCell (p := ⟨w.heap.size, 11, none⟩) (by simp) _)

end Go.Proofs.YtkjkjhheckfhbaaGreatDoor
namespace Go.Proofs.YtkjkjhheckfhbaaGreatDoor
open Go.RowKit
set_option linter.unusedVariables false
theorem info_span : (Tryz.prog.info? 47).map (fun i => (i.zero, i.size, i.bytes)) = some (some (.agg #[.int .i64 0, .int .i64 0]), 2, 16) := by kernel_rfl
def spansC (l : List (Int × Int)) : List Value := l.flatMap (fun p => [.int .i64 p.1, .int .i64 p.2])
theorem spansC_len (l : List (Int × Int)) : (spansC l).length = l.length * 2 := by
  induction l with
  | nil => rfl
  | cons a l ih => simp [spansC] at ih ⊢; omega
theorem spansC_app (l m : List (Int × Int)) : spansC (l ++ m) = spansC l ++ spansC m := by simp [spansC]
abbrev WPost (B : Nat) (v : Value) (n : Nat) (l : List (Int × Int)) (w : World) (e : Ending) (w' : World) : Prop := ∃ v', e = .returned v' ∧ w'.ownsRow B 47 2 v' n (spansC l) ∧ w.grownBy w' v.ownBlock ∧ (v'.ownBlock = v.ownBlock ∨ ∃ h, w.heap.size ≤ h ∧ v'.ownBlock = some h)
set_option maxRecDepth 100000 in
theorem withPlace_nil (B at_ : Nat) (hat : at_ ≤ 1000000) (w : World) (hB : B ≤ w.heap.size) :
    Calls Tryz.prog 135 #[.slice none 0 0, .int .i64 at_] w fun e w' => WPost B (.slice none 0 0) 1 [(↑at_, ↑at_ + 1)] w e w' := by
  obtain ⟨i0, hi, hz0, hz1, hz2⟩ := info_parts info_span
  go_enter Tryz.func135, Tryz.ntmps135
  go_wp2_with (at_builtin; go_must (refine wpList_append_own_at _ (by rfl) (.tmp 30) (.tmp 35) 107 (by rfl) B 47 i0 (.agg #[.int .i64 0, .int .i64 0]) 2 16 Tryz.underlying107 hi hz0 hz1 hz2 (by rfl) (by decide) (.slice none 0 0) 0 [] (by rfl) (World.ownsRow_nil _ _ _ _) ⟨w.heap.size, 0, none⟩ 1 1 (spansC [(↑at_, ↑at_ + 1)]) rfl rfl (World.news_of_block (heap_alloc_new w _)) (by simp [spansC, Value.oneCell']) (by unfold maxLen; omega) (by omega) (by simp; omega) ?_); intro v' w1 hown1 hgrow hnil hat1)
  have hg : w.grownBy w1 (Value.slice none 0 0).ownBlock := ⟨hgrow.os, hgrow.tape, hgrow.output, Nat.le_trans (by simp) hgrow.size, fun i hi hne => (hgrow.block i (by simp; omega) hne).trans (Below.heap_alloc w _ i hi)⟩
  go_ret
  refine ⟨v', rfl, hown1, hg, ?_⟩
  rcases hat1 with h | h
  · exact .inl h
  · exact .inr ⟨_, by simp, h⟩
set_option maxRecDepth 100000 in
theorem withPlace_app (B at_ g cap : Nat) (l : List (Int × Int)) (a b : Int) (hat : at_ ≤ 1000000) (hl : l.length ≤ 1000000) (hb : b ≠ ↑at_) (w : World) (hown : w.ownsRow B 47 2 (.slice (some ⟨g, 0, none⟩) (l.length + 1) cap) (l.length + 1) (spansC (l ++ [(a, b)]))) (hB : B ≤ w.heap.size) :
    Calls Tryz.prog 135 #[.slice (some ⟨g, 0, none⟩) (l.length + 1) cap, .int .i64 at_] w fun e w' => WPost B (.slice (some ⟨g, 0, none⟩) (l.length + 1) cap) (l.length + 2) ((l ++ [(a, b)]) ++ [((↑at_ : Int), (↑at_ : Int) + 1)]) w e w' := by
  obtain ⟨i0, hi, hz0, hz1, hz2⟩ := info_parts info_span
  have hc := hown.cellAt (l.length * 2 + 1) (by omega)
  have hcv : (spansC (l ++ [(a, b)]))[l.length * 2 + 1]? = some (.int .i64 b) := by
    rw [spansC_app, List.getElem?_append_right (by rw [spansC_len]; omega), spansC_len, Nat.add_sub_cancel_left]; rfl
  rw [hcv] at hc
  clear hcv
  have hb1 : (b == ↑at_) = false := by simpa using hb
  have hb2 := decide_eq_false hb
  have HO := Lib.hid hown; clear hown
  have HL := Lib.hid (spansC_app (l ++ [(a, b)]) [((↑at_ : Int), (↑at_ : Int) + 1)])
  obtain ⟨n, hn⟩ : ∃ n, l.length = n := ⟨_, rfl⟩
  obtain ⟨xs, hxs⟩ : ∃ xs, spansC (l ++ [(a, b)]) = xs := ⟨_, rfl⟩
  rw [hxs, hn] at HO
  rw [hxs] at HL
  rw [hn] at hc hl ⊢
  have HXS := Lib.hid hxs; have HN := Lib.hid hn
  clear hxs hn
  go_enter Tryz.func135, Tryz.ntmps135
  go_wp2_with (at_builtin; go_must (refine wpList_append_own_at _ (by rfl) (.tmp 30) (.tmp 35) 107 (by rfl) B 47 i0 (.agg #[.int .i64 0, .int .i64 0]) 2 16 Tryz.underlying107 hi hz0 hz1 hz2 (by rfl) (by decide) (.slice (some ⟨g, 0, none⟩) (n + 1) cap) (n + 1) xs (by rfl) (HO.out.alloc _) ⟨w.heap.size, 0, none⟩ 1 1 (spansC [(↑at_, ↑at_ + 1)]) rfl rfl (World.news_of_block (heap_alloc_new w _)) (by simp [spansC, Value.oneCell']) (by unfold maxLen; omega) (by omega) (by simp; omega) ?_); intro v' w1 hown1 hgrow hnil hat1)
  have hg : w.grownBy w1 (Value.slice (some ⟨g, 0, none⟩) (n + 1) cap).ownBlock := ⟨hgrow.os, hgrow.tape, hgrow.output, Nat.le_trans (by simp) hgrow.size, fun i hi hne => (hgrow.block i (by simp; omega) hne).trans (Below.heap_alloc w _ i hi)⟩
  go_ret
  refine ⟨v', rfl, by rw [HL.out]; exact hown1, hg, ?_⟩
  rcases hat1 with h | h
  · exact .inl h
  · exact .inr ⟨_, by simp, h⟩
set_option maxRecDepth 100000 in
theorem withPlace_up (B at_ g cap : Nat) (l : List (Int × Int)) (a : Int) (hat : at_ ≤ 1000000) (hl : l.length ≤ 1000000) (w : World) (hown : w.ownsRow B 47 2 (.slice (some ⟨g, 0, none⟩) (l.length + 1) cap) (l.length + 1) (spansC (l ++ [(a, (↑at_ : Int))]))) (hB : B ≤ w.heap.size) :
    Calls Tryz.prog 135 #[.slice (some ⟨g, 0, none⟩) (l.length + 1) cap, .int .i64 at_] w fun e w' => WPost B (.slice (some ⟨g, 0, none⟩) (l.length + 1) cap) (l.length + 1) (l ++ [(a, (↑at_ : Int) + 1)]) w e w' := by
  have hc := hown.cellAt (l.length * 2 + 1) (by omega)
  have hcv : (spansC (l ++ [(a, (↑at_ : Int))]))[l.length * 2 + 1]? = some (.int .i64 (↑at_ : Int)) := by
    rw [spansC_app, List.getElem?_append_right (by rw [spansC_len]; omega), spansC_len, Nat.add_sub_cancel_left]; rfl
  rw [hcv] at hc
  clear hcv
  have hs : (spansC (l ++ [(a, (↑at_ : Int))])).set (l.length * 2 + 1) (.int .i64 ((↑at_ : Int) + 1)) = spansC (l ++ [(a, (↑at_ : Int) + 1)]) := by
    rw [spansC_app, spansC_app, List.set_append_right _ _ (by rw [spansC_len]; omega), spansC_len, Nat.add_sub_cancel_left]; rfl
  have hfr := hown.frozenAt (l.length * 2 + 1)
  have hst := hown.stored (l.length * 2 + 1) (.int .i64 ((↑at_ : Int) + 1))
  rw [hs] at hst
  have HST := Lib.hid hst
  clear hst hs hown
  obtain ⟨n, hn⟩ : ∃ n, l.length = n := ⟨_, rfl⟩
  rw [hn] at HST hc hfr hl ⊢
  clear hn
  go_enter Tryz.func135, Tryz.ntmps135
  go_wp2
  go_ret
  exact ⟨_, rfl, HST.out.1, HST.out.2, .inl rfl⟩

end Go.Proofs.YtkjkjhheckfhbaaGreatDoor
