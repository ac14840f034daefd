/- Parts of a proof: The error of a packet, and the frame of a packet. What stays as it is through a drawn region; the check of a ratio. -/
import Derived.Test.YtkjkjhheckfhbaaGreatDoorR
import Derived.Test.YtkjkjhheckfhbaaGreatDoorPG
namespace Go.Proofs.YtkjkjhheckfhbaaGreatDoor
open Go.RowKit
set_option linter.unusedVariables false
def pkErr (ki co : Int) : Int := firstE [outs ki 0 255, outs co 0 255]
set_option maxRecDepth 100000 in
theorem packetError_any (ki co d0 d1 d2 d3 d4 d5 d6 d7 d8 d9 : Int) (w : World) : Calls Tryz.prog 128 #[.agg #[.int .i64 ki, .int .i64 co, .int .u8 d0, .int .u8 d1, .int .u8 d2, .int .u8 d3, .int .u8 d4, .int .u8 d5, .int .u8 d6, .int .u8 d7, .int .u8 d8, .int .u8 d9]] w fun e w' => e = .returned (.int .i64 (pkErr ki co)) ∧ Below w.heap.size w w' := by
  go_enter Tryz.func128, Tryz.ntmps128
  go_wp2_with fail
  have hx0 := (Blk.new w 92 #[.int .i64 ki, .int .i64 co, .int .u8 d0, .int .u8 d1, .int .u8 d2, .int .u8 d3, .int .u8 d4, .int .u8 d5, .int .u8 d6, .int .u8 d7, .int .u8 d8, .int .u8 d9])
  have hb0 := ((Below.refl w.heap.size w).alloc (Nat.le_refl _) (.cells #[.int .i64 ki, .int .i64 co, .int .u8 d0, .int .u8 d1, .int .u8 d2, .int .u8 d3, .int .u8 d4, .int .u8 d5, .int .u8 d6, .int .u8 d7, .int .u8 d8, .int .u8 d9] 92))
  generalize (w.alloc (.cells #[.int .i64 ki, .int .i64 co, .int .u8 d0, .int .u8 d1, .int .u8 d2, .int .u8 d3, .int .u8 d4, .int .u8 d5, .int .u8 d6, .int .u8 d7, .int .u8 d8, .int .u8 d9] 92)) = w0 at hx0 hb0 ⊢
  have HX0_0 := Lib.hid hx0
  have HB_0 := Lib.hid hb0
  clear hx0 hb0
  have k0_0 := HX0_0.out.cell 0
  have k0_1 := HX0_0.out.cell 1
  have k0_2 := HX0_0.out.cell 2
  have k0_3 := HX0_0.out.cell 3
  have k0_4 := HX0_0.out.cell 4
  have k0_5 := HX0_0.out.cell 5
  have k0_6 := HX0_0.out.cell 6
  have k0_7 := HX0_0.out.cell 7
  have k0_8 := HX0_0.out.cell 8
  have k0_9 := HX0_0.out.cell 9
  have k0_10 := HX0_0.out.cell 10
  have k0_11 := HX0_0.out.cell 11
  simp only [List.getElem?_toArray, List.getElem?_cons_zero, List.getElem?_cons_succ] at k0_0 k0_1 k0_2 k0_3 k0_4 k0_5 k0_6 k0_7 k0_8 k0_9 k0_10 k0_11
  clear k0_2 k0_3 k0_4 k0_5 k0_6 k0_7 k0_8 k0_9 k0_10 k0_11
  go_region_held3 (fun w' => w'.cell? ⟨w.heap.size, 0, none⟩ = some (.int .i64 ki) ∧ w'.cell? ⟨w.heap.size, 1, none⟩ = some (.int .i64 co)) (go_keep)
    (first
      | (go_at_call 98; refine (outside_any _ _ _ _).mono ?_; rintro e w' ⟨rfl, rfl⟩)
      | (go_at_call 97; refine (first_n _ _ _ [outs ki 0 255, outs co 0 255] _ rfl (by simp [maxLen]) (by exact rd_of_blk (Blk.new w0 _ _) rfl)).mono ?_; rintro e w' ⟨rfl, rfl⟩))
  go_wp2
  go_ret
  exact ⟨rfl, (HB_0.out.alloc HB_0.out.size _).drew⟩
theorem brd_of_blk {w : World} {g off : Nat} {t : TypeId} {cs : Array Value} {bs : List U8} (h : Blk w g t cs) (post : List Value) (hx : cs.toList.drop off = bs.map (fun b => Value.int .u8 b.1) ++ post) : BRd w.heap.size w (some ⟨g, off, none⟩) bs := fun _ =>
  ⟨_, rfl, h.lt, fun j hj => by
    have e : (⟨g, off, none⟩ : Addr).add j = ⟨g, off + j, none⟩ := by unfold Addr.add; split <;> simp_all
    rw [e, h.cell (off + j), ← Array.getElem?_toList, ← List.getElem?_drop, hx, List.getElem?_append_left (by simpa using hj)]
    simp [List.getD, hj]⟩
def u171 : U8 := ⟨171, by decide⟩
theorem xor_bd (a b : Int) : 0 ≤ bits .xor .u8 a b ∧ bits .xor .u8 a b ≤ 255 := by
  have h : bits .xor .u8 a b = IntKind.u8.wrap ((BitVec.ofInt 8 a ^^^ BitVec.ofInt 8 b).toNat : Int) := rfl
  rw [h, IntKind.wrap_u8]
  omega
theorem xorF_bd (l : List U8) (x : Int) (hx : 0 ≤ x ∧ x ≤ 255) : 0 ≤ xorF l x ∧ xorF l x ≤ 255 := by
  induction l generalizing x with
  | nil => exact hx
  | cons a l ih => exact ih _ (xor_bd _ _)
set_option maxRecDepth 100000 in
set_option maxHeartbeats 2000000 in
theorem encode_ok (ki co : U8) (d0 d1 d2 d3 d4 d5 d6 d7 d8 d9 : U8) (w : World) : Calls Tryz.prog 64 #[.agg #[.int .i64 ki.1, .int .i64 co.1, .int .u8 d0.1, .int .u8 d1.1, .int .u8 d2.1, .int .u8 d3.1, .int .u8 d4.1, .int .u8 d5.1, .int .u8 d6.1, .int .u8 d7.1, .int .u8 d8.1, .int .u8 d9.1]] w fun e w' => ∃ (P : U8) (S : Int), xorF [ki, co, d0, d1, d2, d3, d4, d5, d6, d7, d8, d9] 0 = P.1 ∧ rollF 251 65521 [u171, ki, co, d0, d1, d2, d3, d4, d5, d6, d7, d8, d9, P] 1 = S ∧ e = .returned (.tuple #[.agg #[.int .u8 171, .int .u8 ki.1, .int .u8 co.1, .int .u8 d0.1, .int .u8 d1.1, .int .u8 d2.1, .int .u8 d3.1, .int .u8 d4.1, .int .u8 d5.1, .int .u8 d6.1, .int .u8 d7.1, .int .u8 d8.1, .int .u8 d9.1, .int .u8 P.1, .int .u8 (S / 256), .int .u8 (S % 256)], .int .i64 0]) ∧ Below w.heap.size w w' := by
  have he : pkErr ki.1 co.1 = 0 := by
    have h1 := ki.2
    have h2 := co.2
    have e1 : outs ki.1 0 255 = 0 := by unfold outs; rw [decide_eq_false (by omega), decide_eq_false (by omega)]; rfl
    have e2 : outs co.1 0 255 = 0 := by unfold outs; rw [decide_eq_false (by omega), decide_eq_false (by omega)]; rfl
    unfold pkErr; rw [e1, e2]; rfl
  have HE := Lib.hid he; clear he
  have hki := ki.2
  have hco := co.2
  go_enter Tryz.func64, Tryz.ntmps64
  go_wp2_with fail
  have hx0 := ((Blk.new w 92 #[.int .i64 ki.1, .int .i64 co.1, .int .u8 d0.1, .int .u8 d1.1, .int .u8 d2.1, .int .u8 d3.1, .int .u8 d4.1, .int .u8 d5.1, .int .u8 d6.1, .int .u8 d7.1, .int .u8 d8.1, .int .u8 d9.1]).alloc (.cells #[.int .u8 0, .int .u8 0, .int .u8 0, .int .u8 0, .int .u8 0, .int .u8 0, .int .u8 0, .int .u8 0, .int .u8 0, .int .u8 0, .int .u8 0, .int .u8 0, .int .u8 0, .int .u8 0, .int .u8 0, .int .u8 0] 85))
  have hx1 := (Blk.new (w.alloc (.cells #[.int .i64 ki.1, .int .i64 co.1, .int .u8 d0.1, .int .u8 d1.1, .int .u8 d2.1, .int .u8 d3.1, .int .u8 d4.1, .int .u8 d5.1, .int .u8 d6.1, .int .u8 d7.1, .int .u8 d8.1, .int .u8 d9.1] 92)) 85 #[.int .u8 0, .int .u8 0, .int .u8 0, .int .u8 0, .int .u8 0, .int .u8 0, .int .u8 0, .int .u8 0, .int .u8 0, .int .u8 0, .int .u8 0, .int .u8 0, .int .u8 0, .int .u8 0, .int .u8 0, .int .u8 0])
  simp only [World.size_alloc] at hx1
  have hb0 := (((Below.refl w.heap.size w).alloc (Nat.le_refl _) (.cells #[.int .i64 ki.1, .int .i64 co.1, .int .u8 d0.1, .int .u8 d1.1, .int .u8 d2.1, .int .u8 d3.1, .int .u8 d4.1, .int .u8 d5.1, .int .u8 d6.1, .int .u8 d7.1, .int .u8 d8.1, .int .u8 d9.1] 92)).alloc (by simp only [World.size_alloc]; omega) (.cells #[.int .u8 0, .int .u8 0, .int .u8 0, .int .u8 0, .int .u8 0, .int .u8 0, .int .u8 0, .int .u8 0, .int .u8 0, .int .u8 0, .int .u8 0, .int .u8 0, .int .u8 0, .int .u8 0, .int .u8 0, .int .u8 0] 85))
  generalize ((w.alloc (.cells #[.int .i64 ki.1, .int .i64 co.1, .int .u8 d0.1, .int .u8 d1.1, .int .u8 d2.1, .int .u8 d3.1, .int .u8 d4.1, .int .u8 d5.1, .int .u8 d6.1, .int .u8 d7.1, .int .u8 d8.1, .int .u8 d9.1] 92)).alloc (.cells #[.int .u8 0, .int .u8 0, .int .u8 0, .int .u8 0, .int .u8 0, .int .u8 0, .int .u8 0, .int .u8 0, .int .u8 0, .int .u8 0, .int .u8 0, .int .u8 0, .int .u8 0, .int .u8 0, .int .u8 0, .int .u8 0] 85)) = w0 at hx0 hx1 hb0 ⊢
  have HX0_0 := Lib.hid hx0
  have HX1_0 := Lib.hid hx1
  have HB_0 := Lib.hid hb0
  clear hx0 hx1 hb0
  have hch : Below w0.heap.size w0 w0 := Below.refl _ _
  refine (packetError_any _ _ _ _ _ _ _ _ _ _ _ _ _).mono ?_
  rw [HE.out]
  rintro e wn ⟨rfl, hch⟩
  have HX0_1 := Lib.hid (HX0_0.out.below hch)
  have HX1_1 := Lib.hid (HX1_0.out.below hch)
  have HB_1 := Lib.hid (HB_0.out.trans (hch.mono HB_0.out.size))
  clear hch
  have k0_0 := HX0_1.out.cell 0
  have k0_1 := HX0_1.out.cell 1
  have k0_2 := HX0_1.out.cell 2
  have k0_3 := HX0_1.out.cell 3
  have k0_4 := HX0_1.out.cell 4
  have k0_5 := HX0_1.out.cell 5
  have k0_6 := HX0_1.out.cell 6
  have k0_7 := HX0_1.out.cell 7
  have k0_8 := HX0_1.out.cell 8
  have k0_9 := HX0_1.out.cell 9
  have k0_10 := HX0_1.out.cell 10
  have k0_11 := HX0_1.out.cell 11
  simp only [List.getElem?_toArray, List.getElem?_cons_zero, List.getElem?_cons_succ] at k0_0 k0_1 k0_2 k0_3 k0_4 k0_5 k0_6 k0_7 k0_8 k0_9 k0_10 k0_11
  have z0 : w.heap.size < wn.heap.size := HX0_1.out.lt
  have z1 : w.heap.size + 1 < wn.heap.size := HX1_1.out.lt
  go_wp2_with fail
  have hf := Blk.new wn 85 #[.int .u8 171, .int .u8 ki.1, .int .u8 co.1, .int .u8 0, .int .u8 0, .int .u8 0, .int .u8 0, .int .u8 0, .int .u8 0, .int .u8 0, .int .u8 0, .int .u8 0, .int .u8 0, .int .u8 0, .int .u8 0, .int .u8 0]
  have hx0 := HX0_1.out.alloc (.cells #[.int .u8 171, .int .u8 ki.1, .int .u8 co.1, .int .u8 0, .int .u8 0, .int .u8 0, .int .u8 0, .int .u8 0, .int .u8 0, .int .u8 0, .int .u8 0, .int .u8 0, .int .u8 0, .int .u8 0, .int .u8 0, .int .u8 0] 85)
  have hx1 := HX1_1.out.alloc (.cells #[.int .u8 171, .int .u8 ki.1, .int .u8 co.1, .int .u8 0, .int .u8 0, .int .u8 0, .int .u8 0, .int .u8 0, .int .u8 0, .int .u8 0, .int .u8 0, .int .u8 0, .int .u8 0, .int .u8 0, .int .u8 0, .int .u8 0] 85)
  have hb := HB_1.out.alloc HB_1.out.size (.cells #[.int .u8 171, .int .u8 ki.1, .int .u8 co.1, .int .u8 0, .int .u8 0, .int .u8 0, .int .u8 0, .int .u8 0, .int .u8 0, .int .u8 0, .int .u8 0, .int .u8 0, .int .u8 0, .int .u8 0, .int .u8 0, .int .u8 0] 85)
  clear k0_0 k0_1 k0_2 k0_3 k0_4 k0_5 k0_6 k0_7 k0_8 k0_9 k0_10 k0_11
  obtain ⟨b3, hb3e⟩ : ∃ b, wn.heap.size = b := ⟨_, rfl⟩
  rw [hb3e] at hf z0 z1 ⊢
  clear hb3e
  generalize wn.alloc (.cells #[.int .u8 171, .int .u8 ki.1, .int .u8 co.1, .int .u8 0, .int .u8 0, .int .u8 0, .int .u8 0, .int .u8 0, .int .u8 0, .int .u8 0, .int .u8 0, .int .u8 0, .int .u8 0, .int .u8 0, .int .u8 0, .int .u8 0] 85) = w2 at hf hx0 hx1 hb ⊢
  have HF2 := Lib.hid hf; have HX0_2 := Lib.hid hx0; have HX1_2 := Lib.hid hx1; have HB_2 := Lib.hid hb
  clear hf hx0 hx1 hb HX0_1 HX1_1 HB_1 HX0_0 HX1_0 HB_0
  have hsrc : ∀ j v, ([.int .u8 d0.1, .int .u8 d1.1, .int .u8 d2.1, .int .u8 d3.1, .int .u8 d4.1, .int .u8 d5.1, .int .u8 d6.1, .int .u8 d7.1, .int .u8 d8.1, .int .u8 d9.1] : List Value)[j]? = some v → w2.cell? ((⟨w.heap.size, 2, none⟩ : Addr).add j) = some v := fun j v hj => by
    have h := HX0_2.out.cell (2 + j)
    have e : (⟨w.heap.size, 2, none⟩ : Addr).add j = ⟨w.heap.size, 2 + j, none⟩ := by unfold Addr.add; split <;> simp_all
    rw [e, h]
    match j, hj with
    | 0, hj => exact hj
    | 1, hj => exact hj
    | 2, hj => exact hj
    | 3, hj => exact hj
    | 4, hj => exact hj
    | 5, hj => exact hj
    | 6, hj => exact hj
    | 7, hj => exact hj
    | 8, hj => exact hj
    | 9, hj => exact hj
    | (n + 10), hj => simp at hj
  have HSRC := Lib.hid hsrc
  clear hsrc
  have y0 : w2.cell? ⟨w.heap.size, 0, none⟩ = some (.int .i64 ki.1) := HX0_2.out.cell 0
  go_region_held3 (fun w' => w'.cell? ⟨w.heap.size, 0, none⟩ = some (.int .i64 ki.1)) (go_keep)
    (first
      | (refine upon_copy_blk 106 106 3 5 Tryz.underlying106 (by kernel_rfl) b3 3 10 13 ⟨w.heap.size, 2, none⟩ 10 10 #[.int .u8 171, .int .u8 ki.1, .int .u8 co.1, .int .u8 0, .int .u8 0, .int .u8 0, .int .u8 0, .int .u8 0, .int .u8 0, .int .u8 0, .int .u8 0, .int .u8 0, .int .u8 0, .int .u8 0, .int .u8 0, .int .u8 0] 85 (by exact HF2.out) [.int .u8 d0.1, .int .u8 d1.1, .int .u8 d2.1, .int .u8 d3.1, .int .u8 d4.1, .int .u8 d5.1, .int .u8 d6.1, .int .u8 d7.1, .int .u8 d8.1, .int .u8 d9.1] rfl (by exact HSRC.out) (by simp) (by simp [Value.oneCell']) #[.int .u8 171, .int .u8 ki.1, .int .u8 co.1, .int .u8 d0.1, .int .u8 d1.1, .int .u8 d2.1, .int .u8 d3.1, .int .u8 d4.1, .int .u8 d5.1, .int .u8 d6.1, .int .u8 d7.1, .int .u8 d8.1, .int .u8 d9.1, .int .u8 0, .int .u8 0, .int .u8 0] rfl ?_; intro wn2 hbk hon; have y1 := hon.cell (p := ⟨w.heap.size, 0, none⟩) (v := .int .i64 ki.1) (by simp; omega) (by assumption)))
  have HX1_3 := Lib.hid (Only.far (g := b3) (k := w.heap.size + 1) hon (by exact HX1_2.out) (by omega))
  have HB_3 := Lib.hid (Only.below (g := b3) (B := w.heap.size) hon (by exact HB_2.out.drew) (by omega))
  have HF3 : RowKit.Hid (Blk wn2 b3 85 #[.int .u8 171, .int .u8 ki.1, .int .u8 co.1, .int .u8 d0.1, .int .u8 d1.1, .int .u8 d2.1, .int .u8 d3.1, .int .u8 d4.1, .int .u8 d5.1, .int .u8 d6.1, .int .u8 d7.1, .int .u8 d8.1, .int .u8 d9.1, .int .u8 0, .int .u8 0, .int .u8 0]) := hbk
  have z3 : b3 < wn2.heap.size := HF3.out.lt
  clear hbk hon y0 y1 HSRC HF2 HX1_2 HB_2 HX0_2 hch
  go_wp2_with fail
  refine (parity_any (some ⟨b3, 1, none⟩) 15 [ki, co, d0, d1, d2, d3, d4, d5, d6, d7, d8, d9] (by simp) wn2 (brd_of_blk HF3.out [.int .u8 0, .int .u8 0, .int .u8 0] rfl)).mono ?_
  rintro e w4 ⟨rfl, hb4⟩
  obtain ⟨P, hP⟩ : ∃ P : U8, xorF [ki, co, d0, d1, d2, d3, d4, d5, d6, d7, d8, d9] 0 = P.1 := ⟨⟨xorF [ki, co, d0, d1, d2, d3, d4, d5, d6, d7, d8, d9] 0, xorF_bd [ki, co, d0, d1, d2, d3, d4, d5, d6, d7, d8, d9] 0 (by decide)⟩, rfl⟩
  rw [hP]
  have HP := Lib.hid hP
  clear hP
  have hf4 := HF3.out.below hb4
  have HX1_4 := Lib.hid (HX1_3.out.below hb4)
  have HB_4 := Lib.hid (HB_3.out.trans (hb4.mono HB_3.out.size))
  have g13 := hf4.cell 13
  have f13 := hf4.frozen 13
  have HF4 := Lib.hid hf4
  clear hf4 hb4
  simp only [List.getElem?_toArray, List.getElem?_cons_zero, List.getElem?_cons_succ] at g13
  go_wp2_with fail
  have hf5 := HF4.out.set_ 13 (.int .u8 P.1)
  have hx5 := HX1_4.out.far (p := ⟨b3, 13, none⟩) (by simp; omega) (.int .u8 P.1)
  have hb5 := HB_4.out.setCell (p := ⟨b3, 13, none⟩) (by simp; omega) (.int .u8 P.1)
  have hf5' : Blk (w4.setCell ⟨b3, 13, none⟩ (.int .u8 P.1)) b3 85 #[.int .u8 171, .int .u8 ki.1, .int .u8 co.1, .int .u8 d0.1, .int .u8 d1.1, .int .u8 d2.1, .int .u8 d3.1, .int .u8 d4.1, .int .u8 d5.1, .int .u8 d6.1, .int .u8 d7.1, .int .u8 d8.1, .int .u8 d9.1, .int .u8 P.1, .int .u8 0, .int .u8 0] := hf5
  clear g13 f13 hf5
  generalize w4.setCell ⟨b3, 13, none⟩ (.int .u8 P.1) = w5 at hf5' hx5 hb5 ⊢
  refine (check_any (some ⟨b3, 0, none⟩) 16 [u171, ki, co, d0, d1, d2, d3, d4, d5, d6, d7, d8, d9, P] 251 65521 (by omega) (by omega) (by simp) w5 (brd_of_blk hf5' [.int .u8 0, .int .u8 0] rfl)).mono ?_
  rintro e w6 ⟨rfl, hb6⟩
  obtain ⟨S, hS⟩ : ∃ S, rollF 251 65521 [u171, ki, co, d0, d1, d2, d3, d4, d5, d6, d7, d8, d9, P] 1 = S := ⟨_, rfl⟩
  have hSb := rollF_bd 251 65521 (by omega) [u171, ki, co, d0, d1, d2, d3, d4, d5, d6, d7, d8, d9, P] 1 (by omega)
  rw [hS] at hSb ⊢
  have HS := Lib.hid hS
  clear hS
  have hf6 := hf5'.below hb6
  have HX1_6 := Lib.hid (hx5.below hb6)
  have HB_6 := Lib.hid (hb5.trans (hb6.mono hb5.size))
  have g0 := hf6.cell 0
  have g1 := hf6.cell 1
  have g2 := hf6.cell 2
  have g3 := hf6.cell 3
  have g4 := hf6.cell 4
  have g5 := hf6.cell 5
  have g6 := hf6.cell 6
  have g7 := hf6.cell 7
  have g8 := hf6.cell 8
  have g9 := hf6.cell 9
  have g10 := hf6.cell 10
  have g11 := hf6.cell 11
  have g12 := hf6.cell 12
  have g13 := hf6.cell 13
  have g14 := hf6.cell 14
  have g15 := hf6.cell 15
  have e0 := HX1_6.out.cell 0
  have ef0 := HX1_6.out.frozen 0
  have e1 := HX1_6.out.cell 1
  have ef1 := HX1_6.out.frozen 1
  have e2 := HX1_6.out.cell 2
  have ef2 := HX1_6.out.frozen 2
  have e3 := HX1_6.out.cell 3
  have ef3 := HX1_6.out.frozen 3
  have e4 := HX1_6.out.cell 4
  have ef4 := HX1_6.out.frozen 4
  have e5 := HX1_6.out.cell 5
  have ef5 := HX1_6.out.frozen 5
  have e6 := HX1_6.out.cell 6
  have ef6 := HX1_6.out.frozen 6
  have e7 := HX1_6.out.cell 7
  have ef7 := HX1_6.out.frozen 7
  have e8 := HX1_6.out.cell 8
  have ef8 := HX1_6.out.frozen 8
  have e9 := HX1_6.out.cell 9
  have ef9 := HX1_6.out.frozen 9
  have e10 := HX1_6.out.cell 10
  have ef10 := HX1_6.out.frozen 10
  have e11 := HX1_6.out.cell 11
  have ef11 := HX1_6.out.frozen 11
  have e12 := HX1_6.out.cell 12
  have ef12 := HX1_6.out.frozen 12
  have e13 := HX1_6.out.cell 13
  have ef13 := HX1_6.out.frozen 13
  have e14 := HX1_6.out.cell 14
  have ef14 := HX1_6.out.frozen 14
  have e15 := HX1_6.out.cell 15
  have ef15 := HX1_6.out.frozen 15
  have f14 := hf6.frozen 14
  have f15 := hf6.frozen 15
  have HF6 := Lib.hid hf6
  clear hf6 hb6 hf5' hx5 hb5
  simp only [List.getElem?_toArray, List.getElem?_cons_zero, List.getElem?_cons_succ] at g0 g1 g2 g3 g4 g5 g6 g7 g8 g9 g10 g11 g12 g13 g14 g15 e0 e1 e2 e3 e4 e5 e6 e7 e8 e9 e10 e11 e12 e13 e14 e15
  go_wp2
  refine bodyPost_ret (v := .tuple #[.agg #[.int .u8 171, .int .u8 ki.1, .int .u8 co.1, .int .u8 d0.1, .int .u8 d1.1, .int .u8 d2.1, .int .u8 d3.1, .int .u8 d4.1, .int .u8 d5.1, .int .u8 d6.1, .int .u8 d7.1, .int .u8 d8.1, .int .u8 d9.1, .int .u8 P.1, .int .u8 (S / 256), .int .u8 (S % 256)], .int .i64 0]) (by simp [results, Tryz.results64, go_sem, e0, e1, e2, e3, e4, e5, e6, e7, e8, e9, e10, e11, e12, e13, e14, e15]) rfl ⟨P, S, HP.out, HS.out, rfl, ?_⟩
  exact ((((((((((((((((((HB_6.out.setCell (p := ⟨b3, 14, none⟩) (by simp; omega) _).setCell (p := ⟨b3, 15, none⟩) (by simp; omega) _).setCell (p := ⟨w.heap.size + 1, 0, none⟩) (by simp) _).setCell (p := ⟨w.heap.size + 1, 1, none⟩) (by simp) _).setCell (p := ⟨w.heap.size + 1, 2, none⟩) (by simp) _).setCell (p := ⟨w.heap.size + 1, 3, none⟩) (by simp) _).setCell (p := ⟨w.heap.size + 1, 4, none⟩) (by simp) _).setCell (p := ⟨w.heap.size + 1, 5, none⟩) (by simp) _).setCell (p := ⟨w.heap.size + 1, 6, none⟩) (by simp) _).setCell (p := ⟨w.heap.size + 1, 7, none⟩) (by simp) _).setCell (p := ⟨w.heap.size + 1, 8, none⟩) (by simp) _).setCell (p := ⟨w.heap.size + 1, 9, none⟩) (by simp) _).setCell (p := ⟨w.heap.size + 1, 10, none⟩) (by simp) _).setCell (p := ⟨w.heap.size + 1, 11, none⟩) (by simp) _).setCell (p := ⟨w.heap.size + 1, 12, none⟩) (by simp) _).setCell (p := ⟨w.heap.size + 1, 13, none⟩) (by simp) _).setCell (p := ⟨w.heap.size + 1, 14, none⟩) (by simp) _).setCell (p := ⟨w.heap.size + 1, 15, none⟩) (by simp) _)


end Go.Proofs.YtkjkjhheckfhbaaGreatDoor
namespace Go.Proofs.YtkjkjhheckfhbaaGreatDoor
open Go.RowKit
set_option linter.unusedVariables false
/-- What was there is as it was. -/
abbrev SK (w0 w : World) : Prop := Below w0.heap.size w0 w ∧ (∀ b o, b < w0.heap.size → w.cell? ⟨b, o, none⟩ = w0.cell? ⟨b, o, none⟩) ∧ (∀ b o, b < w0.heap.size → w.frozen? ⟨b, o, none⟩ = w0.frozen? ⟨b, o, none⟩)
theorem sk_of {w0 w : World} (h : Below w0.heap.size w0 w) : SK w0 w := ⟨h, fun b o hb => h.cell (p := ⟨b, o, none⟩) hb, fun b o hb => h.frozen (p := ⟨b, o, none⟩) hb⟩
theorem sk_refl (w0 : World) : SK w0 w0 := sk_of (Below.refl _ _)
theorem sk_drew0 (w0 : World) : SK w0 w0.drew := sk_of (Below.refl _ _).drew
theorem sk_drew {w0 w : World} (h : SK w0 w) : SK w0 w.drew := sk_of h.1.drew
theorem sk_call {w0 w w' : World} (h : SK w0 w) (hb : Below w.heap.size w w') : SK w0 w' := sk_of (h.1.trans (hb.mono h.1.size))
theorem sk_alloc {w0 w : World} (h : SK w0 w) (o : Obj) : SK w0 (w.alloc o) := sk_of (h.1.alloc h.1.size o)
theorem sk_set {w0 w : World} (h : SK w0 w) {p : Addr} (hp : w0.heap.size ≤ p.block) (v : Value) : SK w0 (w.setCell p v) := sk_of (h.1.setCell hp v)
theorem bcell {W w1 : World} (hb : Below W.heap.size W w1) : (∀ b o, b < W.heap.size → w1.cell? ⟨b, o, none⟩ = W.cell? ⟨b, o, none⟩) ∧ (∀ b o, b < W.heap.size → w1.frozen? ⟨b, o, none⟩ = W.frozen? ⟨b, o, none⟩) :=
  ⟨fun b o h => hb.cell (p := ⟨b, o, none⟩) h, fun b o h => hb.frozen (p := ⟨b, o, none⟩) h⟩
theorem checkRatio_any (a b : Int) (ha : -9223372036854775808 ≤ a ∧ a ≤ 9223372036854775807) (hb : -9223372036854775808 ≤ b ∧ b ≤ 9223372036854775807) (w : World) :
    Calls Tryz.prog 24 #[.agg #[.int .i64 a, .int .i64 b]] w fun e w' => e = .returned (.int .i64 (firstE [outs a (-999999999) 999999999, outs b 1 999999999, errIf (decide (1 < wrap64 (Int.gcd a b))) 1])) ∧ Below w.heap.size w w' := by
  go_enter Tryz.func24, Tryz.ntmps24
  go_wp2_with fail
  have hbx := Blk.new w 33 #[.int .i64 a, .int .i64 b]
  have hb0 : Below w.heap.size w (w.alloc (.cells #[.int .i64 a, .int .i64 b] 33)) := (Below.refl _ _).alloc (Nat.le_refl _) _
  generalize w.alloc (.cells #[.int .i64 a, .int .i64 b] 33) = w0 at hbx hb0 ⊢
  have c0 : w0.cell? ⟨w.heap.size, 0, none⟩ = some (.int .i64 a) := hbx.cell 0
  have c1 : w0.cell? ⟨w.heap.size, 1, none⟩ = some (.int .i64 b) := hbx.cell 1
  have hz := hbx.lt
  have HB0 := Lib.hid hb0; clear hb0 hbx
  go_region_held3 (SK w0)
    (first | exact sk_drew0 _ | assumption | exact sk_call (by assumption) (by assumption) | exact sk_alloc (by assumption) _)
    (first
      | (go_at_call 98; refine (outside_any _ _ _ _).mono ?_; rintro e wn ⟨rfl, rfl⟩)
      | (go_at_call 104; refine (errorIf_any _ _ _).mono ?_; rintro e wn ⟨rfl, rfl⟩)
      | (go_at_call 105; refine (divisor_any _ _ ha hb _).mono ?_; rintro e wn ⟨rfl, hbn⟩; have hch := sk_call (w0 := w0) (by assumption) hbn)
      | (go_at_call 97; refine (first_n _ _ _ [_, _, _] _ rfl (by simp [maxLen]) (by exact rd_of_blk (Blk.new _ _ _) rfl)).mono ?_; rintro e wn ⟨rfl, rfl⟩))
  go_wp2
  go_ret
  exact ⟨rfl, HB0.out.trans ((sk_alloc hch _).1.mono HB0.out.size)⟩

end Go.Proofs.YtkjkjhheckfhbaaGreatDoor
