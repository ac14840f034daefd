/- Parts of a proof: The error of a packet, and the frame of a packet. What stays as it is through a drawn region; the check of a ratio. The permutation by a key. Samples of integers, a picture with other levels. A scaled picture. -/
import Derived.Test.YthbdiifinkbcnaaGreatDoorT5
import Derived.Test.YthbdiifinkbcnaaGreatDoorT2
import Derived.Test.YthbdiifinkbcnaaGreatDoorT3
namespace Go.Proofs.YthbdiifinkbcnaaGreatDoor
open Go.RowKit
set_option linter.unusedVariables false
def pkErr (ki co : Int) : Int := firstE [outs ki 0 255, outs co 0 255]
set_option maxRecDepth 100000 in
theorem packetError_any (ki co d0 d1 d2 d3 d4 d5 d6 d7 d8 d9 : Int) (w : World) : Calls Tryz.prog 125 #[.agg #[.int .i64 ki, .int .i64 co, .int .u8 d0, .int .u8 d1, .int .u8 d2, .int .u8 d3, .int .u8 d4, .int .u8 d5, .int .u8 d6, .int .u8 d7, .int .u8 d8, .int .u8 d9]] w fun e w' => e = .returned (.int .i64 (pkErr ki co)) ∧ Below w.heap.size w w' := by
  go_enter Tryz.func125, Tryz.ntmps125
  go_wp2_with fail
  have hx0 := (Blk.new w 92 #[.int .i64 ki, .int .i64 co, .int .u8 d0, .int .u8 d1, .int .u8 d2, .int .u8 d3, .int .u8 d4, .int .u8 d5, .int .u8 d6, .int .u8 d7, .int .u8 d8, .int .u8 d9])
  have hb0 := ((Below.refl w.heap.size w).alloc (Nat.le_refl _) (.cells #[.int .i64 ki, .int .i64 co, .int .u8 d0, .int .u8 d1, .int .u8 d2, .int .u8 d3, .int .u8 d4, .int .u8 d5, .int .u8 d6, .int .u8 d7, .int .u8 d8, .int .u8 d9] 92))
  generalize (w.alloc (.cells #[.int .i64 ki, .int .i64 co, .int .u8 d0, .int .u8 d1, .int .u8 d2, .int .u8 d3, .int .u8 d4, .int .u8 d5, .int .u8 d6, .int .u8 d7, .int .u8 d8, .int .u8 d9] 92)) = w0 at hx0 hb0 ⊢
  have HX0_0 := Lib.hid hx0
  have HB_0 := Lib.hid hb0
  clear hx0 hb0
  have k0_0 := HX0_0.out.cell 0
  have k0_1 := HX0_0.out.cell 1
  have k0_2 := HX0_0.out.cell 2
  have k0_3 := HX0_0.out.cell 3
  have k0_4 := HX0_0.out.cell 4
  have k0_5 := HX0_0.out.cell 5
  have k0_6 := HX0_0.out.cell 6
  have k0_7 := HX0_0.out.cell 7
  have k0_8 := HX0_0.out.cell 8
  have k0_9 := HX0_0.out.cell 9
  have k0_10 := HX0_0.out.cell 10
  have k0_11 := HX0_0.out.cell 11
  simp only [List.getElem?_toArray, List.getElem?_cons_zero, List.getElem?_cons_succ] at k0_0 k0_1 k0_2 k0_3 k0_4 k0_5 k0_6 k0_7 k0_8 k0_9 k0_10 k0_11
  clear k0_2 k0_3 k0_4 k0_5 k0_6 k0_7 k0_8 k0_9 k0_10 k0_11
  go_region_held3 (fun w' => w'.cell? ⟨w.heap.size, 0, none⟩ = some (.int .i64 ki) ∧ w'.cell? ⟨w.heap.size, 1, none⟩ = some (.int .i64 co)) (go_keep)
    (first
      | (go_at_call 95; refine (outside_any _ _ _ _).mono ?_; rintro e w' ⟨rfl, rfl⟩)
      | (go_at_call 94; refine (first_n _ _ _ [outs ki 0 255, outs co 0 255] _ rfl (by simp [maxLen]) (by exact rd_of_blk (Blk.new w0 _ _) rfl)).mono ?_; rintro e w' ⟨rfl, rfl⟩))
  go_wp2
  go_ret
  exact ⟨rfl, (HB_0.out.alloc HB_0.out.size _).drew⟩
theorem brd_of_blk {w : World} {g off : Nat} {t : TypeId} {cs : Array Value} {bs : List U8} (h : Blk w g t cs) (post : List Value) (hx : cs.toList.drop off = bs.map (fun b => Value.int .u8 b.1) ++ post) : BRd w.heap.size w (some ⟨g, off, none⟩) bs := fun _ =>
  ⟨_, rfl, h.lt, fun j hj => by
    have e : (⟨g, off, none⟩ : Addr).add j = ⟨g, off + j, none⟩ := by unfold Addr.add; split <;> simp_all
    rw [e, h.cell (off + j), ← Array.getElem?_toList, ← List.getElem?_drop, hx, List.getElem?_append_left (by simpa using hj)]
    simp [List.getD, hj]⟩
def u171 : U8 := ⟨171, by decide⟩
theorem xor_bd (a b : Int) : 0 ≤ bits .xor .u8 a b ∧ bits .xor .u8 a b ≤ 255 := by
  have h : bits .xor .u8 a b = IntKind.u8.wrap ((BitVec.ofInt 8 a ^^^ BitVec.ofInt 8 b).toNat : Int) := rfl
  rw [h, IntKind.wrap_u8]
  omega
theorem xorF_bd (l : List U8) (x : Int) (hx : 0 ≤ x ∧ x ≤ 255) : 0 ≤ xorF l x ∧ xorF l x ≤ 255 := by
  induction l generalizing x with
  | nil => exact hx
  | cons a l ih => exact ih _ (xor_bd _ _)
set_option maxRecDepth 100000 in
set_option maxHeartbeats 2000000 in
theorem encode_ok (ki co : U8) (d0 d1 d2 d3 d4 d5 d6 d7 d8 d9 : U8) (w : World) : Calls Tryz.prog 62 #[.agg #[.int .i64 ki.1, .int .i64 co.1, .int .u8 d0.1, .int .u8 d1.1, .int .u8 d2.1, .int .u8 d3.1, .int .u8 d4.1, .int .u8 d5.1, .int .u8 d6.1, .int .u8 d7.1, .int .u8 d8.1, .int .u8 d9.1]] w fun e w' => ∃ (P : U8) (S : Int), xorF [ki, co, d0, d1, d2, d3, d4, d5, d6, d7, d8, d9] 0 = P.1 ∧ rollF 251 65521 [u171, ki, co, d0, d1, d2, d3, d4, d5, d6, d7, d8, d9, P] 1 = S ∧ e = .returned (.tuple #[.agg #[.int .u8 171, .int .u8 ki.1, .int .u8 co.1, .int .u8 d0.1, .int .u8 d1.1, .int .u8 d2.1, .int .u8 d3.1, .int .u8 d4.1, .int .u8 d5.1, .int .u8 d6.1, .int .u8 d7.1, .int .u8 d8.1, .int .u8 d9.1, .int .u8 P.1, .int .u8 (S / 256), .int .u8 (S % 256)], .int .i64 0]) ∧ Below w.heap.size w w' := by
  have he : pkErr ki.1 co.1 = 0 := by
    have h1 := ki.2
    have h2 := co.2
    have e1 : outs ki.1 0 255 = 0 := by unfold outs; rw [decide_eq_false (by omega), decide_eq_false (by omega)]; rfl
    have e2 : outs co.1 0 255 = 0 := by unfold outs; rw [decide_eq_false (by omega), decide_eq_false (by omega)]; rfl
    unfold pkErr; rw [e1, e2]; rfl
  have HE := Lib.hid he; clear he
  have hki := ki.2
  have hco := co.2
  go_enter Tryz.func62, Tryz.ntmps62
  go_wp2_with fail
  have hx0 := ((Blk.new w 92 #[.int .i64 ki.1, .int .i64 co.1, .int .u8 d0.1, .int .u8 d1.1, .int .u8 d2.1, .int .u8 d3.1, .int .u8 d4.1, .int .u8 d5.1, .int .u8 d6.1, .int .u8 d7.1, .int .u8 d8.1, .int .u8 d9.1]).alloc (.cells #[.int .u8 0, .int .u8 0, .int .u8 0, .int .u8 0, .int .u8 0, .int .u8 0, .int .u8 0, .int .u8 0, .int .u8 0, .int .u8 0, .int .u8 0, .int .u8 0, .int .u8 0, .int .u8 0, .int .u8 0, .int .u8 0] 85))
  have hx1 := (Blk.new (w.alloc (.cells #[.int .i64 ki.1, .int .i64 co.1, .int .u8 d0.1, .int .u8 d1.1, .int .u8 d2.1, .int .u8 d3.1, .int .u8 d4.1, .int .u8 d5.1, .int .u8 d6.1, .int .u8 d7.1, .int .u8 d8.1, .int .u8 d9.1] 92)) 85 #[.int .u8 0, .int .u8 0, .int .u8 0, .int .u8 0, .int .u8 0, .int .u8 0, .int .u8 0, .int .u8 0, .int .u8 0, .int .u8 0, .int .u8 0, .int .u8 0, .int .u8 0, .int .u8 0, .int .u8 0, .int .u8 0])
  simp only [World.size_alloc] at hx1
  have hb0 := (((Below.refl w.heap.size w).alloc (Nat.le_refl _) (.cells #[.int .i64 ki.1, .int .i64 co.1, .int .u8 d0.1, .int .u8 d1.1, .int .u8 d2.1, .int .u8 d3.1, .int .u8 d4.1, .int .u8 d5.1, .int .u8 d6.1, .int .u8 d7.1, .int .u8 d8.1, .int .u8 d9.1] 92)).alloc (by simp only [World.size_alloc]; omega) (.cells #[.int .u8 0, .int .u8 0, .int .u8 0, .int .u8 0, .int .u8 0, .int .u8 0, .int .u8 0, .int .u8 0, .int .u8 0, .int .u8 0, .int .u8 0, .int .u8 0, .int .u8 0, .int .u8 0, .int .u8 0, .int .u8 0] 85))
  generalize ((w.alloc (.cells #[.int .i64 ki.1, .int .i64 co.1, .int .u8 d0.1, .int .u8 d1.1, .int .u8 d2.1, .int .u8 d3.1, .int .u8 d4.1, .int .u8 d5.1, .int .u8 d6.1, .int .u8 d7.1, .int .u8 d8.1, .int .u8 d9.1] 92)).alloc (.cells #[.int .u8 0, .int .u8 0, .int .u8 0, .int .u8 0, .int .u8 0, .int .u8 0, .int .u8 0, .int .u8 0, .int .u8 0, .int .u8 0, .int .u8 0, .int .u8 0, .int .u8 0, .int .u8 0, .int .u8 0, .int .u8 0] 85)) = w0 at hx0 hx1 hb0 ⊢
  have HX0_0 := Lib.hid hx0
  have HX1_0 := Lib.hid hx1
  have HB_0 := Lib.hid hb0
  clear hx0 hx1 hb0
  have hch : Below w0.heap.size w0 w0 := Below.refl _ _
  refine (packetError_any _ _ _ _ _ _ _ _ _ _ _ _ _).mono ?_
  rw [HE.out]
  rintro e wn ⟨rfl, hch⟩
  have HX0_1 := Lib.hid (HX0_0.out.below hch)
  have HX1_1 := Lib.hid (HX1_0.out.below hch)
  have HB_1 := Lib.hid (HB_0.out.trans (hch.mono HB_0.out.size))
  clear hch
  have k0_0 := HX0_1.out.cell 0
  have k0_1 := HX0_1.out.cell 1
  have k0_2 := HX0_1.out.cell 2
  have k0_3 := HX0_1.out.cell 3
  have k0_4 := HX0_1.out.cell 4
  have k0_5 := HX0_1.out.cell 5
  have k0_6 := HX0_1.out.cell 6
  have k0_7 := HX0_1.out.cell 7
  have k0_8 := HX0_1.out.cell 8
  have k0_9 := HX0_1.out.cell 9
  have k0_10 := HX0_1.out.cell 10
  have k0_11 := HX0_1.out.cell 11
  simp only [List.getElem?_toArray, List.getElem?_cons_zero, List.getElem?_cons_succ] at k0_0 k0_1 k0_2 k0_3 k0_4 k0_5 k0_6 k0_7 k0_8 k0_9 k0_10 k0_11
  have z0 : w.heap.size < wn.heap.size := HX0_1.out.lt
  have z1 : w.heap.size + 1 < wn.heap.size := HX1_1.out.lt
  go_wp2_with fail
  have hf := Blk.new wn 85 #[.int .u8 171, .int .u8 ki.1, .int .u8 co.1, .int .u8 0, .int .u8 0, .int .u8 0, .int .u8 0, .int .u8 0, .int .u8 0, .int .u8 0, .int .u8 0, .int .u8 0, .int .u8 0, .int .u8 0, .int .u8 0, .int .u8 0]
  have hx0 := HX0_1.out.alloc (.cells #[.int .u8 171, .int .u8 ki.1, .int .u8 co.1, .int .u8 0, .int .u8 0, .int .u8 0, .int .u8 0, .int .u8 0, .int .u8 0, .int .u8 0, .int .u8 0, .int .u8 0, .int .u8 0, .int .u8 0, .int .u8 0, .int .u8 0] 85)
  have hx1 := HX1_1.out.alloc (.cells #[.int .u8 171, .int .u8 ki.1, .int .u8 co.1, .int .u8 0, .int .u8 0, .int .u8 0, .int .u8 0, .int .u8 0, .int .u8 0, .int .u8 0, .int .u8 0, .int .u8 0, .int .u8 0, .int .u8 0, .int .u8 0, .int .u8 0] 85)
  have hb := HB_1.out.alloc HB_1.out.size (.cells #[.int .u8 171, .int .u8 ki.1, .int .u8 co.1, .int .u8 0, .int .u8 0, .int .u8 0, .int .u8 0, .int .u8 0, .int .u8 0, .int .u8 0, .int .u8 0, .int .u8 0, .int .u8 0, .int .u8 0, .int .u8 0, .int .u8 0] 85)
  clear k0_0 k0_1 k0_2 k0_3 k0_4 k0_5 k0_6 k0_7 k0_8 k0_9 k0_10 k0_11
  obtain ⟨b3, hb3e⟩ : ∃ b, wn.heap.size = b := ⟨_, rfl⟩
  rw [hb3e] at hf z0 z1 ⊢
  clear hb3e
  generalize wn.alloc (.cells #[.int .u8 171, .int .u8 ki.1, .int .u8 co.1, .int .u8 0, .int .u8 0, .int .u8 0, .int .u8 0, .int .u8 0, .int .u8 0, .int .u8 0, .int .u8 0, .int .u8 0, .int .u8 0, .int .u8 0, .int .u8 0, .int .u8 0] 85) = w2 at hf hx0 hx1 hb ⊢
  have HF2 := Lib.hid hf; have HX0_2 := Lib.hid hx0; have HX1_2 := Lib.hid hx1; have HB_2 := Lib.hid hb
  clear hf hx0 hx1 hb HX0_1 HX1_1 HB_1 HX0_0 HX1_0 HB_0
  have hsrc : ∀ j v, ([.int .u8 d0.1, .int .u8 d1.1, .int .u8 d2.1, .int .u8 d3.1, .int .u8 d4.1, .int .u8 d5.1, .int .u8 d6.1, .int .u8 d7.1, .int .u8 d8.1, .int .u8 d9.1] : List Value)[j]? = some v → w2.cell? ((⟨w.heap.size, 2, none⟩ : Addr).add j) = some v := fun j v hj => by
    have h := HX0_2.out.cell (2 + j)
    have e : (⟨w.heap.size, 2, none⟩ : Addr).add j = ⟨w.heap.size, 2 + j, none⟩ := by unfold Addr.add; split <;> simp_all
    rw [e, h]
    match j, hj with
    | 0, hj => exact hj
    | 1, hj => exact hj
    | 2, hj => exact hj
    | 3, hj => exact hj
    | 4, hj => exact hj
    | 5, hj => exact hj
    | 6, hj => exact hj
    | 7, hj => exact hj
    | 8, hj => exact hj
    | 9, hj => exact hj
    | (n + 10), hj => simp at hj
  have HSRC := Lib.hid hsrc
  clear hsrc
  have y0 : w2.cell? ⟨w.heap.size, 0, none⟩ = some (.int .i64 ki.1) := HX0_2.out.cell 0
  go_region_held3 (fun w' => w'.cell? ⟨w.heap.size, 0, none⟩ = some (.int .i64 ki.1)) (go_keep)
    (first
      | (refine upon_copy_blk 106 106 3 5 Tryz.underlying106 (by kernel_rfl) b3 3 10 13 ⟨w.heap.size, 2, none⟩ 10 10 #[.int .u8 171, .int .u8 ki.1, .int .u8 co.1, .int .u8 0, .int .u8 0, .int .u8 0, .int .u8 0, .int .u8 0, .int .u8 0, .int .u8 0, .int .u8 0, .int .u8 0, .int .u8 0, .int .u8 0, .int .u8 0, .int .u8 0] 85 (by exact HF2.out) [.int .u8 d0.1, .int .u8 d1.1, .int .u8 d2.1, .int .u8 d3.1, .int .u8 d4.1, .int .u8 d5.1, .int .u8 d6.1, .int .u8 d7.1, .int .u8 d8.1, .int .u8 d9.1] rfl (by exact HSRC.out) (by simp) (by simp [Value.oneCell']) #[.int .u8 171, .int .u8 ki.1, .int .u8 co.1, .int .u8 d0.1, .int .u8 d1.1, .int .u8 d2.1, .int .u8 d3.1, .int .u8 d4.1, .int .u8 d5.1, .int .u8 d6.1, .int .u8 d7.1, .int .u8 d8.1, .int .u8 d9.1, .int .u8 0, .int .u8 0, .int .u8 0] rfl ?_; intro wn2 hbk hon; have y1 := hon.cell (p := ⟨w.heap.size, 0, none⟩) (v := .int .i64 ki.1) (by simp; omega) (by assumption)))
  have HX1_3 := Lib.hid (Only.far (g := b3) (k := w.heap.size + 1) hon (by exact HX1_2.out) (by omega))
  have HB_3 := Lib.hid (Only.below (g := b3) (B := w.heap.size) hon (by exact HB_2.out.drew) (by omega))
  have HF3 : RowKit.Hid (Blk wn2 b3 85 #[.int .u8 171, .int .u8 ki.1, .int .u8 co.1, .int .u8 d0.1, .int .u8 d1.1, .int .u8 d2.1, .int .u8 d3.1, .int .u8 d4.1, .int .u8 d5.1, .int .u8 d6.1, .int .u8 d7.1, .int .u8 d8.1, .int .u8 d9.1, .int .u8 0, .int .u8 0, .int .u8 0]) := hbk
  have z3 : b3 < wn2.heap.size := HF3.out.lt
  clear hbk hon y0 y1 HSRC HF2 HX1_2 HB_2 HX0_2 hch
  go_wp2_with fail
  refine (parity_any (some ⟨b3, 1, none⟩) 15 [ki, co, d0, d1, d2, d3, d4, d5, d6, d7, d8, d9] (by simp) wn2 (brd_of_blk HF3.out [.int .u8 0, .int .u8 0, .int .u8 0] rfl)).mono ?_
  rintro e w4 ⟨rfl, hb4⟩
  obtain ⟨P, hP⟩ : ∃ P : U8, xorF [ki, co, d0, d1, d2, d3, d4, d5, d6, d7, d8, d9] 0 = P.1 := ⟨⟨xorF [ki, co, d0, d1, d2, d3, d4, d5, d6, d7, d8, d9] 0, xorF_bd [ki, co, d0, d1, d2, d3, d4, d5, d6, d7, d8, d9] 0 (by decide)⟩, rfl⟩
  rw [hP]
  have HP := Lib.hid hP
  clear hP
  have hf4 := HF3.out.below hb4
  have HX1_4 := Lib.hid (HX1_3.out.below hb4)
  have HB_4 := Lib.hid (HB_3.out.trans (hb4.mono HB_3.out.size))
  have g13 := hf4.cell 13
  have f13 := hf4.frozen 13
  have HF4 := Lib.hid hf4
  clear hf4 hb4
  simp only [List.getElem?_toArray, List.getElem?_cons_zero, List.getElem?_cons_succ] at g13
  go_wp2_with fail
  have hf5 := HF4.out.set_ 13 (.int .u8 P.1)
  have hx5 := HX1_4.out.far (p := ⟨b3, 13, none⟩) (by simp; omega) (.int .u8 P.1)
  have hb5 := HB_4.out.setCell (p := ⟨b3, 13, none⟩) (by simp; omega) (.int .u8 P.1)
  have hf5' : Blk (w4.setCell ⟨b3, 13, none⟩ (.int .u8 P.1)) b3 85 #[.int .u8 171, .int .u8 ki.1, .int .u8 co.1, .int .u8 d0.1, .int .u8 d1.1, .int .u8 d2.1, .int .u8 d3.1, .int .u8 d4.1, .int .u8 d5.1, .int .u8 d6.1, .int .u8 d7.1, .int .u8 d8.1, .int .u8 d9.1, .int .u8 P.1, .int .u8 0, .int .u8 0] := hf5
  clear g13 f13 hf5
  generalize w4.setCell ⟨b3, 13, none⟩ (.int .u8 P.1) = w5 at hf5' hx5 hb5 ⊢
  refine (check_any (some ⟨b3, 0, none⟩) 16 [u171, ki, co, d0, d1, d2, d3, d4, d5, d6, d7, d8, d9, P] 251 65521 (by omega) (by omega) (by simp) w5 (brd_of_blk hf5' [.int .u8 0, .int .u8 0] rfl)).mono ?_
  rintro e w6 ⟨rfl, hb6⟩
  obtain ⟨S, hS⟩ : ∃ S, rollF 251 65521 [u171, ki, co, d0, d1, d2, d3, d4, d5, d6, d7, d8, d9, P] 1 = S := ⟨_, rfl⟩
  have hSb := rollF_bd 251 65521 (by omega) [u171, ki, co, d0, d1, d2, d3, d4, d5, d6, d7, d8, d9, P] 1 (by omega)
  rw [hS] at hSb ⊢
  have HS := Lib.hid hS
  clear hS
  have hf6 := hf5'.below hb6
  have HX1_6 := Lib.hid (hx5.below hb6)
  have HB_6 := Lib.hid (hb5.trans (hb6.mono hb5.size))
  have g0 := hf6.cell 0
  have g1 := hf6.cell 1
  have g2 := hf6.cell 2
  have g3 := hf6.cell 3
  have g4 := hf6.cell 4
  have g5 := hf6.cell 5
  have g6 := hf6.cell 6
  have g7 := hf6.cell 7
  have g8 := hf6.cell 8
  have g9 := hf6.cell 9
  have g10 := hf6.cell 10
  have g11 := hf6.cell 11
  have g12 := hf6.cell 12
  have g13 := hf6.cell 13
  have g14 := hf6.cell 14
  have g15 := hf6.cell 15
  have e0 := HX1_6.out.cell 0
  have ef0 := HX1_6.out.frozen 0
  have e1 := HX1_6.out.cell 1
  have ef1 := HX1_6.out.frozen 1
  have e2 := HX1_6.out.cell 2
  have ef2 := HX1_6.out.frozen 2
  have e3 := HX1_6.out.cell 3
  have ef3 := HX1_6.out.frozen 3
  have e4 := HX1_6.out.cell 4
  have ef4 := HX1_6.out.frozen 4
  have e5 := HX1_6.out.cell 5
  have ef5 := HX1_6.out.frozen 5
  have e6 := HX1_6.out.cell 6
  have ef6 := HX1_6.out.frozen 6
  have e7 := HX1_6.out.cell 7
  have ef7 := HX1_6.out.frozen 7
  have e8 := HX1_6.out.cell 8
  have ef8 := HX1_6.out.frozen 8
  have e9 := HX1_6.out.cell 9
  have ef9 := HX1_6.out.frozen 9
  have e10 := HX1_6.out.cell 10
  have ef10 := HX1_6.out.frozen 10
  have e11 := HX1_6.out.cell 11
  have ef11 := HX1_6.out.frozen 11
  have e12 := HX1_6.out.cell 12
  have ef12 := HX1_6.out.frozen 12
  have e13 := HX1_6.out.cell 13
  have ef13 := HX1_6.out.frozen 13
  have e14 := HX1_6.out.cell 14
  have ef14 := HX1_6.out.frozen 14
  have e15 := HX1_6.out.cell 15
  have ef15 := HX1_6.out.frozen 15
  have f14 := hf6.frozen 14
  have f15 := hf6.frozen 15
  have HF6 := Lib.hid hf6
  clear hf6 hb6 hf5' hx5 hb5
  simp only [List.getElem?_toArray, List.getElem?_cons_zero, List.getElem?_cons_succ] at g0 g1 g2 g3 g4 g5 g6 g7 g8 g9 g10 g11 g12 g13 g14 g15 e0 e1 e2 e3 e4 e5 e6 e7 e8 e9 e10 e11 e12 e13 e14 e15
  go_wp2
  refine bodyPost_ret (v := .tuple #[.agg #[.int .u8 171, .int .u8 ki.1, .int .u8 co.1, .int .u8 d0.1, .int .u8 d1.1, .int .u8 d2.1, .int .u8 d3.1, .int .u8 d4.1, .int .u8 d5.1, .int .u8 d6.1, .int .u8 d7.1, .int .u8 d8.1, .int .u8 d9.1, .int .u8 P.1, .int .u8 (S / 256), .int .u8 (S % 256)], .int .i64 0]) (by simp [results, Tryz.results62, go_sem, e0, e1, e2, e3, e4, e5, e6, e7, e8, e9, e10, e11, e12, e13, e14, e15]) rfl ⟨P, S, HP.out, HS.out, rfl, ?_⟩
  exact ((((((((((((((((((HB_6.out.setCell (p := ⟨b3, 14, none⟩) (by simp; omega) _).setCell (p := ⟨b3, 15, none⟩) (by simp; omega) _).setCell (p := ⟨w.heap.size + 1, 0, none⟩) (by simp) _).setCell (p := ⟨w.heap.size + 1, 1, none⟩) (by simp) _).setCell (p := ⟨w.heap.size + 1, 2, none⟩) (by simp) _).setCell (p := ⟨w.heap.size + 1, 3, none⟩) (by simp) _).setCell (p := ⟨w.heap.size + 1, 4, none⟩) (by simp) _).setCell (p := ⟨w.heap.size + 1, 5, none⟩) (by simp) _).setCell (p := ⟨w.heap.size + 1, 6, none⟩) (by simp) _).setCell (p := ⟨w.heap.size + 1, 7, none⟩) (by simp) _).setCell (p := ⟨w.heap.size + 1, 8, none⟩) (by simp) _).setCell (p := ⟨w.heap.size + 1, 9, none⟩) (by simp) _).setCell (p := ⟨w.heap.size + 1, 10, none⟩) (by simp) _).setCell (p := ⟨w.heap.size + 1, 11, none⟩) (by simp) _).setCell (p := ⟨w.heap.size + 1, 12, none⟩) (by simp) _).setCell (p := ⟨w.heap.size + 1, 13, none⟩) (by simp) _).setCell (p := ⟨w.heap.size + 1, 14, none⟩) (by simp) _).setCell (p := ⟨w.heap.size + 1, 15, none⟩) (by simp) _)


end Go.Proofs.YthbdiifinkbcnaaGreatDoor
namespace Go.Proofs.YthbdiifinkbcnaaGreatDoor
open Go.RowKit
set_option linter.unusedVariables false
/-- What was there is as it was. -/
abbrev SK (w0 w : World) : Prop := Below w0.heap.size w0 w ∧ (∀ b o, b < w0.heap.size → w.cell? ⟨b, o, none⟩ = w0.cell? ⟨b, o, none⟩) ∧ (∀ b o, b < w0.heap.size → w.frozen? ⟨b, o, none⟩ = w0.frozen? ⟨b, o, none⟩)
theorem sk_of {w0 w : World} (h : Below w0.heap.size w0 w) : SK w0 w := ⟨h, fun b o hb => h.cell (p := ⟨b, o, none⟩) hb, fun b o hb => h.frozen (p := ⟨b, o, none⟩) hb⟩
theorem sk_refl (w0 : World) : SK w0 w0 := sk_of (Below.refl _ _)
theorem sk_drew0 (w0 : World) : SK w0 w0.drew := sk_of (Below.refl _ _).drew
theorem sk_drew {w0 w : World} (h : SK w0 w) : SK w0 w.drew := sk_of h.1.drew
theorem sk_call {w0 w w' : World} (h : SK w0 w) (hb : Below w.heap.size w w') : SK w0 w' := sk_of (h.1.trans (hb.mono h.1.size))
theorem sk_alloc {w0 w : World} (h : SK w0 w) (o : Obj) : SK w0 (w.alloc o) := sk_of (h.1.alloc h.1.size o)
theorem sk_set {w0 w : World} (h : SK w0 w) {p : Addr} (hp : w0.heap.size ≤ p.block) (v : Value) : SK w0 (w.setCell p v) := sk_of (h.1.setCell hp v)
theorem bcell {W w1 : World} (hb : Below W.heap.size W w1) : (∀ b o, b < W.heap.size → w1.cell? ⟨b, o, none⟩ = W.cell? ⟨b, o, none⟩) ∧ (∀ b o, b < W.heap.size → w1.frozen? ⟨b, o, none⟩ = W.frozen? ⟨b, o, none⟩) :=
  ⟨fun b o h => hb.cell (p := ⟨b, o, none⟩) h, fun b o h => hb.frozen (p := ⟨b, o, none⟩) h⟩
theorem checkRatio_any (a b : Int) (ha : -9223372036854775808 ≤ a ∧ a ≤ 9223372036854775807) (hb : -9223372036854775808 ≤ b ∧ b ≤ 9223372036854775807) (w : World) :
    Calls Tryz.prog 22 #[.agg #[.int .i64 a, .int .i64 b]] w fun e w' => e = .returned (.int .i64 (firstE [outs a (-999999999) 999999999, outs b 1 999999999, errIf (decide (1 < wrap64 (Int.gcd a b))) 1])) ∧ Below w.heap.size w w' := by
  go_enter Tryz.func22, Tryz.ntmps22
  go_wp2_with fail
  have hbx := Blk.new w 33 #[.int .i64 a, .int .i64 b]
  have hb0 : Below w.heap.size w (w.alloc (.cells #[.int .i64 a, .int .i64 b] 33)) := (Below.refl _ _).alloc (Nat.le_refl _) _
  generalize w.alloc (.cells #[.int .i64 a, .int .i64 b] 33) = w0 at hbx hb0 ⊢
  have c0 : w0.cell? ⟨w.heap.size, 0, none⟩ = some (.int .i64 a) := hbx.cell 0
  have c1 : w0.cell? ⟨w.heap.size, 1, none⟩ = some (.int .i64 b) := hbx.cell 1
  have hz := hbx.lt
  have HB0 := Lib.hid hb0; clear hb0 hbx
  go_region_held3 (SK w0)
    (first | exact sk_drew0 _ | assumption | exact sk_call (by assumption) (by assumption) | exact sk_alloc (by assumption) _)
    (first
      | (go_at_call 95; refine (outside_any _ _ _ _).mono ?_; rintro e wn ⟨rfl, rfl⟩)
      | (go_at_call 101; refine (errorIf_any _ _ _).mono ?_; rintro e wn ⟨rfl, rfl⟩)
      | (go_at_call 102; refine (divisor_any _ _ ha hb _).mono ?_; rintro e wn ⟨rfl, hbn⟩; have hch := sk_call (w0 := w0) (by assumption) hbn)
      | (go_at_call 94; refine (first_n _ _ _ [_, _, _] _ rfl (by simp [maxLen]) (by exact rd_of_blk (Blk.new _ _ _) rfl)).mono ?_; rintro e wn ⟨rfl, rfl⟩))
  go_wp2
  go_ret
  exact ⟨rfl, HB0.out.trans ((sk_alloc hch _).1.mono HB0.out.size)⟩

end Go.Proofs.YthbdiifinkbcnaaGreatDoor
namespace Go.Proofs.YthbdiifinkbcnaaGreatDoor
open Go.RowKit
set_option linter.unusedVariables false
def swapI (l : List Int) (i j : Nat) : List Int := (l.set i (l.getD j 0)).set j (l.getD i 0)
def drawX (x : Int) : Int := 1226874159 * x % 2147483647
def drawGo : Nat → Int → List Int → List Int
  | 0, _, l => l
  | i + 1, x, l => drawGo i (drawX x) (swapI l (i + 1) (drawX x % ((i : Int) + 2)).toNat)
def upI (n : Nat) : List Int := (List.range n).map (fun k : Nat => (k : Int))
def drawL (key : Int) (n : Nat) : List Int := drawGo (n - 1) key (upI n)
def intsV (l : List Int) : Array Value := (l.map (Value.int .i64)).toArray
theorem swapI_length (l : List Int) (i j : Nat) : (swapI l i j).length = l.length := by simp [swapI]
theorem drawGo_length (i : Nat) (x : Int) (l : List Int) : (drawGo i x l).length = l.length := by
  induction i generalizing x l with
  | zero => rfl
  | succ i ih => rw [drawGo, ih, swapI_length]
theorem drawL_length (key : Int) (n : Nat) : (drawL key n).length = n := by simp [drawL, drawGo_length, upI]
theorem intsV_set (l : List Int) (i : Nat) (u : Int) : (intsV l).setIfInBounds i (.int .i64 u) = intsV (l.set i u) := by
  simp [intsV, List.map_set]
theorem intsV_get (l : List Int) (i : Nat) (h : i < l.length) : (intsV l)[i]? = some (.int .i64 (l.getD i 0)) := by
  simp [intsV, List.getD, h]
theorem fill_up (n : Nat) : fillN (fun j => .int .i64 (j : Int)) (.int .i64 0) n n = intsV (upI n) := by
  unfold fillN intsV upI
  apply Array.ext_getElem?
  intro i
  by_cases h : i < n <;> simp [h]
theorem drawX_bd (x : Int) (h : 0 ≤ x) : 0 ≤ drawX x ∧ drawX x ≤ 2147483646 := by unfold drawX; omega
theorem drawGo_pos (M : Nat) (x : Int) (l : List Int) (h : 1 ≤ M) : drawGo M x l = drawGo (M - 1) (drawX x) (swapI l M (drawX x % ((M : Int) + 1)).toNat) := by
  obtain ⟨m, rfl⟩ : ∃ m, M = m + 1 := ⟨M - 1, by omega⟩
  rw [drawGo]
  have : ((m + 1 : Nat) : Int) + 1 = (m : Int) + 2 := by omega
  rw [this]; rfl
theorem rd_ints {w : World} {g : Nat} {t : TypeId} {l : List Int} (h : Blk w g t (intsV l)) : Rd w (some ⟨g, 0, none⟩) (l.map (Value.int .i64)) := rd_of_blk h (by simp [intsV])
theorem info_int : (Tryz.prog.info? 3).map (fun i => (i.zero, i.size, i.bytes)) = some (some (.int .i64 0), 1, 8) := by kernel_rfl
set_option maxRecDepth 100000 in
theorem draw_ok (key : Int) (n : Nat) (hk : 1 ≤ key ∧ key ≤ 2147483646) (hn : n ≤ 256) (w : World) :
    Calls Tryz.prog 15 #[.int .i64 key, .int .i64 (n : Int)] w fun e w' => ∃ ad, e = .returned (.tuple #[.slice (some ad) n n, .int .i64 0]) ∧ Rd w' (some ad) ((drawL key n).map (Value.int .i64)) ∧ Below w.heap.size w w' := by
  have hmk := fun W => Go.run_make_row' (P := Tryz.prog) 25 3 (.int .i64 0) 8 Tryz.underlying25 info_int rfl .i64 .i64 n (by omega) (by omega) W
  have ho : outs key 1 2147483646 = 0 := by simp [outs, errIf]; omega
  have ho2 : outs (n : Int) 0 256 = 0 := by simp [outs, errIf]; omega
  have HO := Lib.hid ho; have HO2 := Lib.hid ho2; clear ho ho2
  have HMK := Lib.hid hmk; clear hmk
  go_enter Tryz.func15, Tryz.ntmps15
  go_wp2_with (first
      | (go_at_call 95; refine (outside_any _ _ _ _).mono ?_; rintro e wn ⟨rfl, rfl⟩)
      | (go_at_call 94; refine (first_n _ _ _ [_, _] _ rfl (by simp [maxLen]) (by exact rd_of_blk (Blk.new _ _ _) rfl)).mono ?_; rintro e wn ⟨rfl, rfl⟩; rw [show firstE [outs key 1 2147483646, outs (n : Int) 0 256] = 0 by simp [firstE, HO.out, HO2.out]]; have hmk := HMK.out))
  have hb0 : Below w.heap.size w ((w.alloc (.cells #[.int .i64 (outs key 1 2147483646), .int .i64 (outs (n : Int) 0 256)] 26)).alloc (.cells (madeCells #[.int .i64 0] n) 3)) := ((Below.refl _ _).alloc (Nat.le_refl _) _).alloc (by simp) _
  have hbx := Blk.new (w.alloc (.cells #[.int .i64 (outs key 1 2147483646), .int .i64 (outs (n : Int) 0 256)] 26)) 3 (madeCells #[.int .i64 0] n)
  simp only [World.size_alloc] at hbx
  generalize (w.alloc (.cells #[.int .i64 (outs key 1 2147483646), .int .i64 (outs (n : Int) 0 256)] 26)).alloc (.cells (madeCells #[.int .i64 0] n) 3) = w0 at hb0 hbx ⊢
  have HB0 := Lib.hid hb0; have HX0 := Lib.hid hbx; clear hb0 hbx hmk
  go_loopw [24] (fun i wr => ∃ k : Nat, k ≤ n ∧ i = .int .i64 k ∧ Blk wr (w.heap.size + 1) 3 (fillN (fun j => .int .i64 (j : Int)) (.int .i64 0) n k) ∧ Below w.heap.size w wr) (fun i _ => n - (intOf i).toNat)
  case atStart => exact ⟨0, by omega, rfl, by have := HX0.out; rw [fill_zero (fun j => .int .i64 (j : Int))] at this; exact this, HB0.out⟩
  case round =>
    obtain ⟨k, hkn, rfl, hb, hbel⟩ := hrel
    by_cases hlt : k < n
    · have hcell := hb.cell k
      rw [fill_get, if_pos hlt, if_neg (by omega)] at hcell
      have hfr := hb.frozen k
      have hset := hb.set_ k (.int .i64 (k : Int))
      rw [fill_set (fun j => .int .i64 (j : Int))] at hset
      have HS := Lib.hid hset; have HBel := Lib.hid hbel
      clear hset hbel hb
      go_wp2
      go_roundw
      case rel => exact ⟨k + 1, by omega, by go_num, HS.out, HBel.out.setCell (by simp) _⟩
      case measure => simp [intOf]; omega
    · have : k = n := by omega
      subst this
      rw [fill_up] at hb
      have HB := Lib.hid hb; have HBel := Lib.hid hbel; clear hb hbel
      go_wp2
      go_loopw [9, 10] (fun xv iv wr => ∃ (i x : Int) (l : List Int), l.length = k ∧ xv = .int .i64 x ∧ iv = .int .i64 i ∧ (0 ≤ x ∧ x ≤ 2147483646) ∧ (-1 ≤ i ∧ i < k ∧ (0 ≤ i ∨ k = 0)) ∧ drawGo i.toNat x l = drawL key k ∧ Blk wr (w.heap.size + 1) 3 (intsV l) ∧ Below w.heap.size w wr) (fun _ iv _ => (intOf iv).toNat)
      case atStart => exact ⟨_, key, upI k, by simp [upI], rfl, rfl, by omega, by omega, by unfold drawL; congr 1; omega, HB.out, HBel.out⟩
      case round =>
        obtain ⟨i, x, l, hll, rfl, rfl, hx, hi, hgo, hb, hbel⟩ := hrel
        have HGO := Lib.hid hgo; have HLL := Lib.hid hll; clear hgo hll
        by_cases h1 : 1 ≤ i
        · obtain ⟨M, rfl⟩ : ∃ M : Nat, i = (M : Int) := ⟨i.toNat, by omega⟩
          have hM1 : 1 ≤ M := by omega
          obtain ⟨y, hy⟩ : ∃ y, 1226874159 * x % 2147483647 = y := ⟨_, rfl⟩
          have hyb : 0 ≤ y ∧ y ≤ 2147483646 := by omega
          obtain ⟨j, hj⟩ : ∃ j : Nat, y % ((M : Int) + 1) = (j : Int) := ⟨(y % ((M : Int) + 1)).toNat, by have := Int.emod_nonneg y (b := (M : Int) + 1) (by omega); omega⟩
          have hjb : j < M + 1 := by have := Int.emod_lt_of_pos y (b := (M : Int) + 1) (by omega); omega
          have hMl : M < l.length := by have := HLL.out; omega
          have hjl : j < l.length := by have := HLL.out; omega
          have HGO2 : RowKit.Hid (drawGo (M - 1) y (swapI l M j) = drawL key k) := Lib.hid (by
            rw [← HGO.out, Int.toNat_natCast, drawGo_pos M x l hM1]; unfold drawX; rw [hy, hj, Int.toNat_natCast])
          have fM := hb.frozen M
          have fj := hb.frozen j
          have HBel := Lib.hid hbel
          have hll2 : l.length = k := HLL.out
          have hkk : (M : Int) < (k : Int) := by omega
          have hjk : (j : Int) < (k : Int) := by omega
          have HLL2 := Lib.hid hll2
          have cM := (hb.cell M).trans (intsV_get l M hMl)
          clear hll2 hbel
          by_cases hjm : j = M
          · subst hjm
            have hsw := (hb.set_ j (.int .i64 (l.getD j 0)))
            rw [intsV_set] at hsw
            have hsw := hsw.set_ j (.int .i64 (l.getD j 0))
            rw [intsV_set] at hsw
            have HSW := Lib.hid hsw
            have HSI : RowKit.Hid (swapI l j j = (l.set j (l.getD j 0)).set j (l.getD j 0)) := Lib.hid rfl
            clear hb hsw
            generalize l.getD j 0 = a at cM HSW HSI
            go_wp2
            go_region
            go_wp2
            go_roundw
            case rel => exact ⟨_, y, (l.set j a).set j a, by simp; exact HLL2.out, by rw [hy], rfl, by omega, by omega, by rw [← HGO2.out, HSI.out]; congr 1; omega, HSW.out, ((HBel.out.setCell (p := ⟨w.heap.size + 1, _, none⟩) (by simp) _).setCell (p := ⟨w.heap.size + 1, _, none⟩) (by simp) _).drew⟩
            case measure => simp [intOf]; omega
          · have cj := (hb.cell j).trans (intsV_get l j hjl)
            have hsw := (hb.set_ M (.int .i64 (l.getD j 0)))
            rw [intsV_set] at hsw
            have hsw := hsw.set_ j (.int .i64 (l.getD M 0))
            rw [intsV_set] at hsw
            have HSW := Lib.hid hsw
            have HSI : RowKit.Hid (swapI l M j = (l.set M (l.getD j 0)).set j (l.getD M 0)) := Lib.hid rfl
            clear hb hsw
            generalize l.getD M 0 = a at cM HSW HSI
            generalize l.getD j 0 = b at cj HSW HSI
            have hjm' : ¬ M = j := fun h => hjm h.symm
            go_wp2
            go_region
            go_wp2
            go_roundw
            case rel => exact ⟨_, y, (l.set M b).set j a, by simp; exact HLL2.out, by rw [hy], rfl, by omega, by omega, by rw [← HGO2.out, HSI.out]; congr 1; omega, HSW.out, ((HBel.out.setCell (p := ⟨w.heap.size + 1, _, none⟩) (by simp) _).setCell (p := ⟨w.heap.size + 1, _, none⟩) (by simp) _).drew⟩
            case measure => simp [intOf]; omega
        · have hz : i.toNat = 0 := by omega
          have HG3 : RowKit.Hid (l = drawL key k) := Lib.hid (by rw [← HGO.out, hz]; rfl)
          have HB3 := Lib.hid hb; have HBel := Lib.hid hbel
          clear hb hbel hz
          go_wp2
          go_ret2
          exact ⟨_, rfl, by rw [← HG3.out]; exact rd_ints HB3.out, HBel.out⟩
set_option maxRecDepth 100000 in
theorem draw_err (key n : Int) (hne : firstE [outs key 1 2147483646, outs n 0 256] ≠ 0) (w : World) :
    Calls Tryz.prog 15 #[.int .i64 key, .int .i64 n] w fun e w' => e = .returned (.tuple #[.slice none 0 0, .int .i64 (firstE [outs key 1 2147483646, outs n 0 256])]) ∧ Below w.heap.size w w' := by
  have hne' : (firstE [outs key 1 2147483646, outs n 0 256] != 0) = true := by simpa using hne
  clear hne
  go_enter Tryz.func15, Tryz.ntmps15
  go_wp2_with (first
      | (go_at_call 95; refine (outside_any _ _ _ _).mono ?_; rintro e wn ⟨rfl, rfl⟩)
      | (go_at_call 94; refine (first_n _ _ _ [_, _] _ rfl (by simp [maxLen]) (by exact rd_of_blk (Blk.new _ _ _) rfl)).mono ?_; rintro e wn ⟨rfl, rfl⟩))
  go_ret2
  exact ⟨rfl, (Below.refl _ _).alloc (Nat.le_refl _) _⟩

end Go.Proofs.YthbdiifinkbcnaaGreatDoor
namespace Go.Proofs.YthbdiifinkbcnaaGreatDoor
open Go.RowKit
set_option linter.unusedVariables false
attribute [local go_sem] run_store_float
set_option maxRecDepth 100000 in
theorem mapII2_any (A : Option Addr) (c : Nat) (l : List Int) (F : FuncId) (p q : Addr) (g : Int → Int) (w : World) (hl : l.length ≤ 4096) (hr : Rd w A (l.map (Value.int .i64))) (hcf : Enters Tryz.prog F)
    (hF : ∀ x ∈ l, ∀ wx, Below w.heap.size w wx → Calls Tryz.prog F #[.int .i64 x, .pointer (some p), .pointer (some q)] wx fun e w' => e = .returned (Value.int .i64 (g x)) ∧ Below wx.heap.size wx w') :
    Calls Tryz.prog 117 #[.slice A l.length c, .func (.func F) #[] #[.pointer (some p), .pointer (some q)]] w fun e w' => ∃ ad, e = .returned (.slice (some ad) l.length l.length) ∧ Rd w' (some ad) (l.map (fun x => Value.int .i64 (g x))) ∧ Below w.heap.size w w' := by
  have HF := Lib.hid hF; clear hF
  have HR := Lib.hid hr; clear hr
  unfold Enters at hcf
  have hmk := fun W => Go.run_make_row' (P := Tryz.prog) 25 3 (.int .i64 0) 8 Tryz.underlying25 info_mapFI rfl .i64 .i64 l.length (by omega) (by omega) W
  go_enter Tryz.func117, Tryz.ntmps117
  go_wp2
  go_loopw [13] (fun i wr => ∃ k : Nat, k ≤ l.length ∧ i = .int .i64 k ∧ Blk wr w.heap.size 3 (fillN (fun j => Value.int .i64 (g (l.getD j 0))) (.int .i64 0) l.length k) ∧ Below w.heap.size w wr) (fun i _ => l.length - (intOf i).toNat)
  case atStart => exact ⟨0, by omega, rfl, by rw [← fill_zero]; exact Blk.new _ _ _, (Below.refl _ _).alloc (Nat.le_refl _) _⟩
  case round =>
    obtain ⟨k, hk, rfl, hb, hbel⟩ := hrel
    by_cases hlt : k < l.length
    · obtain ⟨x, hx⟩ : ∃ x, l.getD k 0 = x := ⟨_, rfl⟩
      have hxm : x ∈ l := by rw [← hx]; simp [List.getD, hlt]
      obtain ⟨ad, rfl, hbl, hc⟩ := HR.out.get (k := k) (u := (Value.int .i64) x) (by rw [← hx]; simp [List.getD, hlt])
      have hc' := (hbel.cell (by rw [block_of_add]; exact hbl)).trans hc
      have hs := hbel.size
      have HB := Lib.hid hb; clear hb
      have HBel := Lib.hid hbel; clear hbel
      have HX := Lib.hid hx; clear hx
      clear hc hmk
      go_wp2_with fail
      refine (HF.out x hxm _ HBel.out).mono ?_
      rintro e w1 ⟨rfl, hb1⟩
      have hblk := HB.out.below hb1
      have hcell := hblk.cell k
      rw [fill_get, if_pos hlt, if_neg (by omega)] at hcell
      have hfr := hblk.frozen k
      have hset := hblk.set_ k (Value.int .i64 (g x))
      have hfs := fill_set (fun j => Value.int .i64 (g (l.getD j 0))) (.int .i64 0) l.length k
      simp only [HX.out] at hfs
      rw [hfs] at hset
      have hbel1 := (HBel.out.trans (hb1.mono HBel.out.size)).setCell (p := ⟨w.heap.size, k, none⟩) (Nat.le_refl _) (Value.int .i64 (g x))
      have HS := Lib.hid hset; have HB1 := Lib.hid hbel1
      clear hset hbel1 hblk hb1 hfs
      go_wp2
      go_roundw
      case rel => exact ⟨k + 1, by omega, by go_num, HS.out, HB1.out⟩
      case measure => simp [intOf]; omega
    · have : k = l.length := by omega
      subst this
      go_wp2
      go_ret
      refine ⟨_, rfl, fun _ => ⟨_, rfl, hb.lt, fun j u hj => ?_⟩, hbel⟩
      have hjl : j < l.length := by simpa using (List.getElem?_eq_some_iff.1 hj).1
      have h2 := hb.cell j
      rw [fill_get, if_pos hjl, if_pos hjl] at h2
      simp [hjl] at hj
      subst hj
      simp [hjl] at h2
      unfold Addr.add
      split
      · rename_i h0; subst h0; exact h2
      · simpa using h2


def largeB (n : Int) : Bool := decide (n < -16384) || decide (16384 < n)
theorem isLargeB (n : Int) (b : Bool) (h : largeB n = b) (w : World) : Calls Tryz.prog 192 #[.int .i64 n] w fun e w' => e = .returned (.bool b) ∧ w = w' := by
  subst h; exact isLarge_any n w
theorem indexLarge_any (A : Option Addr) (c : Nat) (l : List Int) (w : World) (hl : l.length ≤ 4096) (hr : Rd w A (l.map (Value.int .i64))) :
    Calls Tryz.prog 205 #[.slice A l.length c, .func (.func 192) #[] #[]] w fun e w' => (∃ n : Int, e = .returned (.int .i64 n) ∧ decide (0 ≤ n) = l.any largeB) ∧ w = w' := by
  have HR := Lib.hid hr; clear hr
  go_enter Tryz.func205, Tryz.ntmps205
  go_wp2
  go_loop [8] (fun i => ∃ k : Nat, k ≤ l.length ∧ i = .int .i64 k ∧ l.any largeB = (l.drop k).any largeB) (fun i => l.length - (intOf i).toNat)
  case atStart => exact ⟨0, by omega, rfl, rfl⟩
  case round =>
    obtain ⟨k, hk, rfl, hf⟩ := hrel
    have Hf := Lib.hid hf; clear hf
    by_cases hlt : k < l.length
    · obtain ⟨x, hx⟩ : ∃ x, l.getD k 0 = x := ⟨_, rfl⟩
      obtain ⟨ad, rfl, hbl, hc⟩ := HR.out.get (k := k) (u := (Value.int .i64) x) (by rw [← hx]; simp [List.getD, hlt])
      have HD : RowKit.Hid ((l.drop k).any largeB = (largeB x || (l.drop (k + 1)).any largeB)) := Lib.hid (by
        rw [List.drop_eq_getElem_cons hlt, List.any_cons, ← hx]; simp [List.getD, hlt])
      have HX := Lib.hid hx; clear hx
      cases hb : largeB x
      · have HB := Lib.hid hb
        go_wp2_with (go_at_call 192; refine (isLargeB _ false HB.out _).mono ?_; rintro e w' ⟨rfl, rfl⟩)
        go_round
        case rel => exact ⟨k + 1, by omega, by go_num, by rw [Hf.out, HD.out, HB.out]; rfl⟩
        case measure => simp [intOf]; omega
      · have HB := Lib.hid hb
        go_wp2_with (go_at_call 192; refine (isLargeB _ true HB.out _).mono ?_; rintro e w' ⟨rfl, rfl⟩)
        go_ret
        exact ⟨⟨_, rfl, by rw [Hf.out, HD.out, HB.out]; simp⟩, rfl⟩
    · have : k = l.length := by omega
      subst this
      go_wp2
      go_ret
      exact ⟨⟨-1, rfl, by rw [Hf.out]; simp⟩, rfl⟩
theorem containsLarge_any (A : Option Addr) (c : Nat) (l : List Int) (b : Bool) (hb : l.any largeB = b) (w : World) (hl : l.length ≤ 4096) (hr : Rd w A (l.map (Value.int .i64))) :
    Calls Tryz.prog 191 #[.slice A l.length c, .func (.func 192) #[] #[]] w fun e w' => e = .returned (.bool b) ∧ w = w' := by
  subst hb
  go_enter Tryz.func191, Tryz.ntmps191
  go_wp2_with fail
  refine (indexLarge_any A c l w hl hr).mono ?_
  rintro e w' ⟨⟨n, rfl, hn⟩, rfl⟩
  have HN := Lib.hid hn; clear hn
  go_wp2
  go_ret
  exact ⟨ret_bool HN.out, rfl⟩
theorem smp_call (n : Int) (h : largeB n = false) (w : World) : Calls Tryz.prog 143 #[.int .i64 n] w fun e w' => e = .returned (.float .f32 (smp n)) ∧ Below w.heap.size w w' :=
  sample_v n (by simp [largeB] at h; omega) w
theorem samples_ok (A : Option Addr) (c : Nat) (l : List Int) (hb : l.any largeB = false) (w : World) (hl : l.length ≤ 4096) (hr : Rd w A (l.map (Value.int .i64))) :
    Calls Tryz.prog 168 #[.slice A l.length c] w fun e w' => ∃ ad, e = .returned (.tuple #[.slice (some ad) l.length l.length, .int .i64 0]) ∧ Rd w' (some ad) (fl (l.map smp)) ∧ Below w.heap.size w w' := by
  have HB := Lib.hid hb; clear hb
  have HR := Lib.hid hr; clear hr
  go_enter Tryz.func168, Tryz.ntmps168
  go_wp2_with fail
  refine (containsLarge_any A c l false HB.out _ hl HR.out).mono ?_
  rintro e w' ⟨rfl, rfl⟩
  go_wp2_with fail
  refine (mapIF_any A c l 143 smp _ hl HR.out enters_sample (fun n hn w => smp_call n (by have h := HB.out; rw [List.any_eq_false] at h; simpa using h n hn) w)).mono ?_
  rintro e w3 ⟨ad, rfl, hrd, hb3⟩
  go_wp2
  go_ret2
  exact ⟨ad, rfl, by unfold fl; rw [List.map_map]; exact hrd, hb3⟩
theorem samples_err (A : Option Addr) (c : Nat) (l : List Int) (hb : l.any largeB = true) (w : World) (hl : l.length ≤ 4096) (hr : Rd w A (l.map (Value.int .i64))) :
    Calls Tryz.prog 168 #[.slice A l.length c] w fun e w' => e = .returned (.tuple #[.slice none 0 0, .int .i64 4]) ∧ Below w.heap.size w w' := by
  have HB := Lib.hid hb; clear hb
  have HR := Lib.hid hr; clear hr
  go_enter Tryz.func168, Tryz.ntmps168
  go_wp2_with fail
  refine (containsLarge_any A c l true HB.out _ hl HR.out).mono ?_
  rintro e w' ⟨rfl, rfl⟩
  go_wp2
  go_ret2
  exact ⟨rfl, Below.refl _ _⟩
def fltV : Value → Bool
  | .float _ _ => true
  | _ => false
/-- No float lies in it. -/
def NF (cs : Array Value) : Prop := ∀ (i : Nat) (v : Value), cs[i]? = some v → fltV v = false
theorem NF.set {cs : Array Value} (h : NF cs) (i : Nat) (v : Value) (hv : fltV v = false) : NF (cs.setIfInBounds i v) := fun j u hu => by
  rw [Array.getElem?_setIfInBounds] at hu
  split at hu
  · split at hu
    · cases hu; exact hv
    · cases hu
  · exact h j u hu
theorem NF.four {a b c d : Value} (ha : fltV a = false) (hb : fltV b = false) (hc : fltV c = false) (hd : fltV d = false) : NF #[a, b, c, d] := fun j u hu => by
  match j with
  | 0 => cases hu; exact ha
  | 1 => cases hu; exact hb
  | 2 => cases hu; exact hc
  | 3 => cases hu; exact hd
  | j + 4 => simp at hu
theorem rd_set {w : World} {A : Option Addr} {l : List Nat} {g : Nat} {t : TypeId} {cs : Array Value} (h : Rd w A (fl l)) (hb : Blk w g t cs) (hn : NF cs) (o : Nat) (v : Value) : Rd (w.setCell ⟨g, o, none⟩ v) A (fl l) := fun hp => by
  obtain ⟨ad, e, hbl, hc⟩ := h hp
  have hne : ad.block ≠ g := by
    intro hg
    have h0 := hc 0 (.float .f32 (l.getD 0 0)) (fl_get (by simpa [fl] using hp))
    have : ad.add 0 = ad := rfl
    rw [this] at h0
    obtain ⟨b, f, s⟩ := ad
    cases hg
    cases s with
    | none => rw [hb.cell f] at h0; have := hn _ _ h0; cases this
    | some s => unfold World.cell? at h0; unfold Blk at hb; rw [hb] at h0; simp at h0
  refine ⟨ad, e, by simpa [World.setCell] using hbl, fun j u hu => ?_⟩
  exact (World.cell?_of_block (w := w) (Below.heap_setCell w ⟨g, o, none⟩ v (ad.add j).block (by rw [block_of_add]; exact hne))).trans (hc j u hu)
theorem rd_set4 {w : World} {A : Option Addr} {l : List Nat} {g : Nat} {t : TypeId} {cs : Array Value} (h : Rd w A (fl l)) (hb : Blk w g t cs) (hn : NF cs) (a b c d : Value) (ha : fltV a = false) (hb' : fltV b = false) (hc : fltV c = false) :
    Rd ((((w.setCell ⟨g, 0, none⟩ a).setCell ⟨g, 1, none⟩ b).setCell ⟨g, 2, none⟩ c).setCell ⟨g, 3, none⟩ d) A (fl l) :=
  rd_set (rd_set (rd_set (rd_set h hb hn 0 a) (hb.set_ 0 a) (hn.set 0 a ha) 1 b) ((hb.set_ 0 a).set_ 1 b) ((hn.set 0 a ha).set 1 b hb') 2 c) (((hb.set_ 0 a).set_ 1 b).set_ 2 c) (((hn.set 0 a ha).set 1 b hb').set 2 c hc) 3 d
theorem withLevels_ok (nm : ByteArray) (W H : Int) (A0 : Option Addr) (n0 c0 : Nat) (A : Option Addr) (c : Nat) (l : List Int) (hb : l.any largeB = false) (w : World) (hl : l.length ≤ 4096) (hr : Rd w A (l.map (Value.int .i64))) :
    Calls Tryz.prog 116 #[.agg #[.string nm, .int .i64 W, .int .i64 H, .slice A0 n0 c0], .slice A l.length c] w fun e w' => ∃ ad, e = .returned (.tuple #[.agg #[.string nm, .int .i64 W, .int .i64 H, .slice (some ad) l.length l.length], .int .i64 0]) ∧ Rd w' (some ad) (fl (l.map smp)) ∧ Below w.heap.size w w' := by
  have HB := Lib.hid hb; clear hb
  have HR := Lib.hid hr; clear hr
  go_enter Tryz.func116, Tryz.ntmps116
  go_wp2_with fail
  have hbx := (Blk.new w 50 #[.string nm, .int .i64 W, .int .i64 H, .slice A0 n0 c0]).alloc (.cells #[.string ⟨#[]⟩, .int .i64 0, .int .i64 0, .slice none 0 0] 50)
  have hby := Blk.new (w.alloc (.cells #[.string nm, .int .i64 W, .int .i64 H, .slice A0 n0 c0] 50)) 50 #[.string ⟨#[]⟩, .int .i64 0, .int .i64 0, .slice none 0 0]
  simp only [World.size_alloc] at hby
  have hb0 : Below w.heap.size w ((w.alloc (.cells #[.string nm, .int .i64 W, .int .i64 H, .slice A0 n0 c0] 50)).alloc (.cells #[.string ⟨#[]⟩, .int .i64 0, .int .i64 0, .slice none 0 0] 50)) := ((Below.refl _ _).alloc (Nat.le_refl _) _).alloc (by simp) _
  generalize (w.alloc (.cells #[.string nm, .int .i64 W, .int .i64 H, .slice A0 n0 c0] 50)).alloc (.cells #[.string ⟨#[]⟩, .int .i64 0, .int .i64 0, .slice none 0 0] 50) = w0 at hbx hby hb0 ⊢
  refine (samples_ok A c l HB.out _ hl (HR.out.below hb0)).mono ?_
  rintro e w3 ⟨ad, rfl, hrd, hb3⟩
  have hx3 := hbx.below hb3
  have hy3 := hby.below hb3
  obtain ⟨c0, c1, c2, c3⟩ := box4 hx3
  obtain ⟨d0, d1, d2, d3⟩ := box4 hy3
  have fz := fun i => hx3.frozen i
  have fy := fun i => hy3.frozen i
  have hx3' := hx3.set_ 3 (.slice (some ad) l.length l.length)
  have hr1 := rd_set hrd hx3 (.four rfl rfl rfl rfl) 3 (.slice (some ad) l.length l.length)
  have hy4 := hy3.far (p := ⟨w.heap.size, 3, none⟩) (by simp) (.slice (some ad) l.length l.length)
  have hr5 := rd_set4 hr1 hy4 (.four rfl rfl rfl rfl) (.string nm) (.int .i64 W) (.int .i64 H) (.slice (some ad) l.length l.length) rfl rfl rfl
  have HRD := Lib.hid hr5
  have HBB := Lib.hid (hb0.trans (hb3.mono hb0.size))
  clear hbx hby hb0 hb3 hrd hx3 hy3 hr1 hr5 hy4 hx3'
  go_wp2
  refine bodyPost_ret (v := .tuple #[.agg #[.string nm, .int .i64 W, .int .i64 H, .slice (some ad) l.length l.length], .int .i64 0]) (by simp [results, Tryz.results116, go_sem, d0, d1, d2, d3]) rfl ⟨ad, rfl, HRD.out, ?_⟩
  exact ((((HBB.out.setCell (p := ⟨w.heap.size, 3, none⟩) (by simp) _).setCell (p := ⟨w.heap.size + 1, 0, none⟩) (by simp) _).setCell (p := ⟨w.heap.size + 1, 1, none⟩) (by simp) _).setCell (p := ⟨w.heap.size + 1, 2, none⟩) (by simp) _).setCell (p := ⟨w.heap.size + 1, 3, none⟩) (by simp) _

end Go.Proofs.YthbdiifinkbcnaaGreatDoor
namespace Go.Proofs.YthbdiifinkbcnaaGreatDoor
open Go.RowKit
set_option linter.unusedVariables false
attribute [local go_sem] run_store_float
theorem sk_trans {w0 w w' : World} (h : SK w0 w) (k : SK w w') : SK w0 w' := sk_call h k.1
theorem scaled1_any (n num den : Int) (p q : Addr) (w : World) (hn : -16384 ≤ n ∧ n ≤ 16384) (hnum : -1000 ≤ num ∧ num ≤ 1000) (hden : 1 ≤ den ∧ den ≤ 1000) (hp : w.cell? p = some (.int .i64 num)) (hq : w.cell? q = some (.int .i64 den)) :
    Calls Tryz.prog 118 #[.int .i64 n, .pointer (some p), .pointer (some q)] w fun e w' => e = .returned (.int .i64 (nearestN (n * num) den)) ∧ w = w' := by
  have hb : -16384000 ≤ n * num ∧ n * num ≤ 16384000 := by
    have h1 : (n * num).natAbs ≤ 16384 * 1000 := by rw [Int.natAbs_mul]; exact Nat.mul_le_mul (by omega) (by omega)
    omega
  obtain ⟨m, hm⟩ : ∃ m, n * num = m := ⟨_, rfl⟩
  rw [hm] at hb ⊢
  go_enter Tryz.func118, Tryz.ntmps118
  go_wp2_with (go_at_call 119; refine (nearest_any _ _ (by omega) (by omega) _).mono ?_; rintro e wn ⟨rfl, rfl⟩)
  go_ret
  exact ⟨rfl, rfl⟩
theorem mapII2_n (n : Nat) (A : Option Addr) (c : Nat) (l : List Int) (hn : l.length = n) (F : FuncId) (p q : Addr) (g : Int → Int) (w : World) (hl : n ≤ 4096) (hr : Rd w A (l.map (Value.int .i64))) (hcf : Enters Tryz.prog F)
    (hF : ∀ x ∈ l, ∀ wx, Below w.heap.size w wx → Calls Tryz.prog F #[.int .i64 x, .pointer (some p), .pointer (some q)] wx fun e w' => e = .returned (Value.int .i64 (g x)) ∧ Below wx.heap.size wx w') :
    Calls Tryz.prog 117 #[.slice A n c, .func (.func F) #[] #[.pointer (some p), .pointer (some q)]] w fun e w' => ∃ ad, e = .returned (.slice (some ad) n n) ∧ Rd w' (some ad) ((l.map g).map (Value.int .i64)) ∧ Below w.heap.size w w' := by
  subst hn
  exact (mapII2_any A c l F p q g w hl hr hcf hF).mono fun e w' ⟨ad, h1, h2, h3⟩ => ⟨ad, h1, by rw [List.map_map]; exact h2, h3⟩
theorem withLevels_n (n : Nat) (nm : ByteArray) (W H : Int) (A0 : Option Addr) (n0 c0 : Nat) (A : Option Addr) (c : Nat) (l : List Int) (hn : l.length = n) (hb : l.any largeB = false) (w : World) (hl : n ≤ 4096) (hr : Rd w A (l.map (Value.int .i64))) :
    Calls Tryz.prog 116 #[.agg #[.string nm, .int .i64 W, .int .i64 H, .slice A0 n0 c0], .slice A n c] w fun e w' => ∃ ad, e = .returned (.tuple #[.agg #[.string nm, .int .i64 W, .int .i64 H, .slice (some ad) n n], .int .i64 0]) ∧ Rd w' (some ad) (fl (l.map smp)) ∧ Below w.heap.size w w' := by
  subst hn
  exact withLevels_ok nm W H A0 n0 c0 A c l hb w hl hr
theorem enters_scaled1 : Enters Tryz.prog 118 := fun a w => by kernel_rfl
theorem sk_set4 {w0 w : World} (h : SK w0 w) {g : Nat} (hg : w0.heap.size ≤ g) (a b c d : Value) : SK w0 ((((w.setCell ⟨g, 0, none⟩ a).setCell ⟨g, 1, none⟩ b).setCell ⟨g, 2, none⟩ c).setCell ⟨g, 3, none⟩ d) :=
  sk_set (sk_set (sk_set (sk_set h hg a) hg b) hg c) hg d
theorem below_set4 {B : Nat} {w0 w : World} (h : Below B w0 w) {g : Nat} (hg : B ≤ g) (a b c d : Value) : Below B w0 ((((w.setCell ⟨g, 0, none⟩ a).setCell ⟨g, 1, none⟩ b).setCell ⟨g, 2, none⟩ c).setCell ⟨g, 3, none⟩ d) :=
  (((h.setCell (p := ⟨g, 0, none⟩) hg a).setCell (p := ⟨g, 1, none⟩) hg b).setCell (p := ⟨g, 2, none⟩) hg c).setCell (p := ⟨g, 3, none⟩) hg d
def scaledL (l : List Nat) (num den : Int) : List Int := l.map (fun b => nearestN (lvl b * num) den)
set_option maxRecDepth 100000 in
set_option maxHeartbeats 1000000 in
theorem scaled_ok (nm : ByteArray) (W H : Nat) (l : List Nat) (hp : (Pic.mk nm W H l).Ok) (he : (Pic.mk nm W H l).err = 0) (num den : Int) (hnum : -1000 ≤ num ∧ num ≤ 1000) (hden : 1 ≤ den ∧ den ≤ 1000) (hlg : (scaledL l num den).any largeB = false) (A : Option Addr) (c : Nat) (w : World) (hs : nm.size ≤ maxLen) (hr : Rd w A (fl l)) :
    Calls Tryz.prog 51 #[.agg #[.string nm, .int .i64 (W : Int), .int .i64 (H : Int), .slice A l.length c], .int .i64 num, .int .i64 den] w fun e w' => ∃ ad, e = .returned (.tuple #[.agg #[.string nm, .int .i64 (W : Int), .int .i64 (H : Int), .slice (some ad) l.length l.length], .int .i64 0]) ∧ Rd w' (some ad) (fl ((scaledL l num den).map smp)) ∧ Below w.heap.size w w' := by
  have hbig : l.length ≤ 4096 := hp.big
  have hl : l.length ≤ maxLen := Nat.le_trans hbig (by decide)
  have HSE : RowKit.Hid (scaledL l num den = (l.map lvl).map (fun n => nearestN (n * num) den)) := Lib.hid (by simp [scaledL])
  have HR := Lib.hid hr; have HP := Lib.hid hp; have HLG := Lib.hid hlg
  have hcp := fun w hr => checkPicture_any (Pic.mk nm W H l) A c w hs hl hr
  rw [he] at hcp
  simp only [Pic.val] at hcp
  have HCP := Lib.hid hcp
  have ho1 : outs num (-1000) 1000 = 0 := by simp [outs, errIf]; omega
  have ho2 : outs den 1 1000 = 0 := by simp [outs, errIf]; omega
  have HO1 := Lib.hid ho1; have HO2 := Lib.hid ho2
  clear hr hp he hlg hcp ho1 ho2 hl hs
  go_enter Tryz.func51, Tryz.ntmps51
  go_wp2_with fail
  have hbx := ((Blk.new w 50 #[.string nm, .int .i64 (W : Int), .int .i64 (H : Int), .slice A l.length c]).alloc (.cells #[.int .i64 num] 3)).alloc (.cells #[.int .i64 den] 3)
  have hby := (Blk.new (w.alloc (.cells #[.string nm, .int .i64 (W : Int), .int .i64 (H : Int), .slice A l.length c] 50)) 3 #[.int .i64 num]).alloc (.cells #[.int .i64 den] 3)
  have hbz := Blk.new ((w.alloc (.cells #[.string nm, .int .i64 (W : Int), .int .i64 (H : Int), .slice A l.length c] 50)).alloc (.cells #[.int .i64 num] 3)) 3 #[.int .i64 den]
  simp only [World.size_alloc] at hby hbz
  have hb0 : Below w.heap.size w (((w.alloc (.cells #[.string nm, .int .i64 (W : Int), .int .i64 (H : Int), .slice A l.length c] 50)).alloc (.cells #[.int .i64 num] 3)).alloc (.cells #[.int .i64 den] 3)) := (((Below.refl _ _).alloc (Nat.le_refl _) _).alloc (by simp) _).alloc (by simp only [World.size_alloc]; omega) _
  have hsz : (((w.alloc (.cells #[.string nm, .int .i64 (W : Int), .int .i64 (H : Int), .slice A l.length c] 50)).alloc (.cells #[.int .i64 num] 3)).alloc (.cells #[.int .i64 den] 3)).heap.size = w.heap.size + 1 + 1 + 1 := by simp only [World.size_alloc]
  generalize ((w.alloc (.cells #[.string nm, .int .i64 (W : Int), .int .i64 (H : Int), .slice A l.length c] 50)).alloc (.cells #[.int .i64 num] 3)).alloc (.cells #[.int .i64 den] 3) = w0 at hbx hby hbz hb0 hsz ⊢
  have HSZ := Lib.hid hsz; clear hsz
  have z0 := hbx.lt; have z1 := hby.lt; have z2 := hbz.lt
  obtain ⟨c0, c1, c2, c3⟩ := box4 hbx
  have c4 := hby.cell 0
  have c5 := hbz.cell 0
  simp only [List.getElem?_toArray, List.getElem?_cons_zero] at c4 c5
  have HB0 := Lib.hid hb0; clear hb0 hbx hby hbz
  have hg := Blk.new w0 50 #[.string ⟨#[]⟩, .int .i64 0, .int .i64 0, .slice none 0 0]
  rw [HSZ.out] at hg
  have hs1 := sk_alloc (sk_refl w0) (.cells #[.string ⟨#[]⟩, .int .i64 0, .int .i64 0, .slice none 0 0] 50)
  generalize w0.alloc (.cells #[.string ⟨#[]⟩, .int .i64 0, .int .i64 0, .slice none 0 0] 50) = w1 at hg hs1 ⊢
  have zg := hg.lt
  go_region_held3 (SK w0)
    (first | exact sk_drew (by assumption) | assumption | exact sk_call (by assumption) (by assumption) | exact sk_alloc (by assumption) _)
    (first
      | (go_at_call 35; refine (HCP.out _ (HR.out.below (HB0.out.trans ((And.left (by assumption : SK w0 _)).mono HB0.out.size)))).mono ?_; rintro e wn ⟨rfl, hbn⟩; have hch := sk_call (w0 := w0) (by assumption) hbn; have hg := Blk.below (g := w.heap.size + 1 + 1 + 1) (by assumption) hbn)
      | (go_at_call 95; refine (outside_any _ _ _ _).mono ?_; rintro e wn ⟨rfl, rfl⟩)
      | (go_at_call 94; refine (first_n _ _ _ [0, _, _] _ rfl (by simp [maxLen]) (by exact rd_of_blk (Blk.new _ _ _) rfl)).mono ?_; rintro e wn ⟨rfl, rfl⟩; rw [show firstE [0, outs num (-1000) 1000, outs den 1 1000] = 0 by simp [firstE, HO1.out, HO2.out]]))
  have hch := sk_alloc hch (.cells #[.int .i64 0, .int .i64 (outs num (-1000) 1000), .int .i64 (outs den 1 1000)] 26)
  have hg := hg.alloc (.cells #[.int .i64 0, .int .i64 (outs num (-1000) 1000), .int .i64 (outs den 1 1000)] 26)
  generalize wn.alloc (.cells #[.int .i64 0, .int .i64 (outs num (-1000) 1000), .int .i64 (outs den 1 1000)] 26) = w2 at hch hg ⊢
  go_wp2_with fail
  go_region_held3 (SK w0)
    (first | exact sk_drew (by assumption) | assumption | exact sk_call (by assumption) (by assumption) | exact sk_alloc (by assumption) _ | exact sk_set4 (by assumption) (by have := HSZ.out; omega) _ _ _ _)
    (first
      | (go_at_call 115; refine (levels_any l HP.out.big HP.out.ok A c _ (HR.out.below (HB0.out.trans ((And.left (by assumption : SK w0 _)).mono HB0.out.size)))).mono ?_; rintro e wn ⟨ad1, rfl, hrd1, hbn⟩; have hch := sk_call (w0 := w0) (by assumption) hbn; have hg := Blk.below (g := w.heap.size + 1 + 1 + 1) (by assumption) hbn)
      | (go_at_call 117; refine (mapII2_n l.length (some ad1) _ (l.map lvl) (by simp) 118 ⟨w.heap.size + 1, 0, none⟩ ⟨w.heap.size + 1 + 1, 0, none⟩ (fun n => nearestN (n * num) den) _ hbig (by rw [List.map_map]; exact hrd1) enters_scaled1 (fun x hx wx hbx => (scaled1_any x num den _ _ wx (by obtain ⟨b, hb, rfl⟩ := List.mem_map.1 hx; exact HP.out.lv hb) hnum hden (((sk_call hch hbx).2.1 _ _ z1).trans c4) (((sk_call hch hbx).2.1 _ _ z2).trans c5)).mono fun e w' ⟨h1, h2⟩ => ⟨h1, by rw [← h2]; exact Below.refl _ _⟩)).mono ?_; rintro e wn ⟨ad2, rfl, hrd2, hbn⟩; have hch := sk_call (w0 := w0) (by assumption) hbn; have hg := Blk.below (g := w.heap.size + 1 + 1 + 1) (by assumption) hbn)
      | (go_at_call 116; refine (withLevels_n l.length nm W H A _ c (some ad2) _ (scaledL l num den) (by simp [scaledL]) HLG.out _ hbig (by rw [HSE.out]; exact hrd2)).mono ?_; rintro e wn ⟨ad3, rfl, hrd3, hbn⟩; have hch := sk_call (w0 := w0) (by assumption) hbn; have hg := Blk.below (g := w.heap.size + 1 + 1 + 1) (by assumption) hbn; obtain ⟨d0, d1, d2, d3⟩ := box4 hg; have fy := fun i => hg.frozen i))
  all_goals
    have HRD := Lib.hid (rd_set4 hrd3 hg (.four rfl rfl rfl rfl) (.string nm) (.int .i64 (W : Int)) (.int .i64 (H : Int)) (.slice (some ad3) l.length l.length) rfl rfl rfl)
    have HBB := Lib.hid (below_set4 (HB0.out.trans (hch.1.mono HB0.out.size)) (g := w.heap.size + 1 + 1 + 1) (by omega) (.string nm) (.int .i64 (W : Int)) (.int .i64 (H : Int)) (.slice (some ad3) l.length l.length))
    go_wp2
    exact bodyPost_ret (v := .tuple #[.agg #[.string nm, .int .i64 (W : Int), .int .i64 (H : Int), .slice (some ad3) l.length l.length], .int .i64 0]) (by simp [results, Tryz.results51, go_sem, d0, d1, d2, d3]) rfl ⟨ad3, rfl, HRD.out, HBB.out⟩

end Go.Proofs.YthbdiifinkbcnaaGreatDoor
