/- Parts of a proof: A part of a picture. A sample of a picture; the transposed picture. -/
import Derived.Test.YtkjkjhheckfhbaaGreatDoorP0
namespace Go.Proofs.YtkjkjhheckfhbaaGreatDoor
open Go.RowKit
set_option linter.unusedVariables false
attribute [local go_sem] run_store_float run_store_complex
def cropF (l : List Nat) (W cf m rf : Nat) (i : Nat) : Value := .float .f32 (l.getD ((rf + i / m) * W + (cf + i % m)) 0)
set_option maxRecDepth 100000 in
set_option maxHeartbeats 2000000 in
theorem cropped_ok (nm : ByteArray) (W H : Nat) (l : List Nat) (hp : (Pic.mk nm W H l).Ok) (he : (Pic.mk nm W H l).err = 0) (cf m rf k : Nat) (h1 : 1 ≤ m ∧ cf + m ≤ W) (h2 : 1 ≤ k ∧ rf + k ≤ H) (A : Option Addr) (c : Nat) (w : World) (hs : nm.size ≤ maxLen) (hl : l.length ≤ maxLen) (hcap : l.length ≤ c) (hr : Rd w A (fl l)) :
    Calls Tryz.prog 31 #[.agg #[.string nm, .int .i64 (W : Int), .int .i64 (H : Int), .slice A l.length c], .agg #[.int .i64 (cf : Int), .int .i64 ((cf : Int) + (m : Int))], .agg #[.int .i64 (rf : Int), .int .i64 ((rf : Int) + (k : Int))]] w fun e w' => ∃ g, e = .returned (.tuple #[.agg #[.string nm, .int .i64 (m : Int), .int .i64 (k : Int), .slice (some ⟨g, 0, none⟩) (m * k) (m * k)], .int .i64 0]) ∧ Blk w' g 23 (maskN (cropF l W cf m rf) (.float .f32 0) (m * k) (fun _ => true)) ∧ Below w.heap.size w w' := by
  have HR := Lib.hid hr; have HP := Lib.hid hp; have HE := Lib.hid he
  have hW : 1 ≤ W ∧ W ≤ 64 := by have h1 := hp.w1; have h2 := hp.w2; simp at h1 h2; omega
  have hH : 1 ≤ H ∧ H ≤ 64 := by have h1 := hp.h1; have h2 := hp.h2; simp at h1 h2; omega
  have hlen : l.length = W * H := by have h1 := hp.len; simp only [] at h1; exact_mod_cast h1
  have hbig : l.length ≤ 4096 := hp.big
  have HLEN := Lib.hid hlen
  clear hr hp he hlen
  have hcp := fun w hr => checkPicture_any (Pic.mk nm W H l) A c w hs hl hr
  rw [HE.out] at hcp
  simp only [Pic.val] at hcp
  have HCP := Lib.hid hcp; clear hcp
  have s1 : (decide ((cf : Int) < 0) || decide ((cf : Int) + (m : Int) ≤ (cf : Int)) || decide ((W : Int) < (cf : Int) + (m : Int))) = false := by simp; omega
  have s2 : (decide ((rf : Int) < 0) || decide ((rf : Int) + (k : Int) ≤ (rf : Int)) || decide ((H : Int) < (rf : Int) + (k : Int))) = false := by simp; omega
  have SS1 := Lib.hid s1; have SS2 := Lib.hid s2
  clear s1 s2
  go_enter Tryz.func31, Tryz.ntmps31
  go_wp2_with fail
  have hx0 := ((((Blk.new w 50 #[.string nm, .int .i64 (W : Int), .int .i64 (H : Int), .slice A l.length c]).alloc (.cells #[.int .i64 (cf : Int), .int .i64 ((cf : Int) + (m : Int))] 47)).alloc (.cells #[.int .i64 (rf : Int), .int .i64 ((rf : Int) + (k : Int))] 47)).alloc (.cells #[.string ⟨#[]⟩, .int .i64 0, .int .i64 0, .slice none 0 0] 50))
  have hx1 := (((Blk.new (w.alloc (.cells #[.string nm, .int .i64 (W : Int), .int .i64 (H : Int), .slice A l.length c] 50)) 47 #[.int .i64 (cf : Int), .int .i64 ((cf : Int) + (m : Int))]).alloc (.cells #[.int .i64 (rf : Int), .int .i64 ((rf : Int) + (k : Int))] 47)).alloc (.cells #[.string ⟨#[]⟩, .int .i64 0, .int .i64 0, .slice none 0 0] 50))
  simp only [World.size_alloc] at hx1
  have hx2 := ((Blk.new ((w.alloc (.cells #[.string nm, .int .i64 (W : Int), .int .i64 (H : Int), .slice A l.length c] 50)).alloc (.cells #[.int .i64 (cf : Int), .int .i64 ((cf : Int) + (m : Int))] 47)) 47 #[.int .i64 (rf : Int), .int .i64 ((rf : Int) + (k : Int))]).alloc (.cells #[.string ⟨#[]⟩, .int .i64 0, .int .i64 0, .slice none 0 0] 50))
  simp only [World.size_alloc] at hx2
  have hx3 := (Blk.new (((w.alloc (.cells #[.string nm, .int .i64 (W : Int), .int .i64 (H : Int), .slice A l.length c] 50)).alloc (.cells #[.int .i64 (cf : Int), .int .i64 ((cf : Int) + (m : Int))] 47)).alloc (.cells #[.int .i64 (rf : Int), .int .i64 ((rf : Int) + (k : Int))] 47)) 50 #[.string ⟨#[]⟩, .int .i64 0, .int .i64 0, .slice none 0 0])
  simp only [World.size_alloc] at hx3
  have hb0 := (((((Below.refl w.heap.size w).alloc (Nat.le_refl _) (.cells #[.string nm, .int .i64 (W : Int), .int .i64 (H : Int), .slice A l.length c] 50)).alloc (by simp only [World.size_alloc]; omega) (.cells #[.int .i64 (cf : Int), .int .i64 ((cf : Int) + (m : Int))] 47)).alloc (by simp only [World.size_alloc]; omega) (.cells #[.int .i64 (rf : Int), .int .i64 ((rf : Int) + (k : Int))] 47)).alloc (by simp only [World.size_alloc]; omega) (.cells #[.string ⟨#[]⟩, .int .i64 0, .int .i64 0, .slice none 0 0] 50))
  generalize ((((w.alloc (.cells #[.string nm, .int .i64 (W : Int), .int .i64 (H : Int), .slice A l.length c] 50)).alloc (.cells #[.int .i64 (cf : Int), .int .i64 ((cf : Int) + (m : Int))] 47)).alloc (.cells #[.int .i64 (rf : Int), .int .i64 ((rf : Int) + (k : Int))] 47)).alloc (.cells #[.string ⟨#[]⟩, .int .i64 0, .int .i64 0, .slice none 0 0] 50)) = w0 at hx0 hx1 hx2 hx3 hb0 ⊢
  have HX0_0 := Lib.hid hx0
  have HX1_0 := Lib.hid hx1
  have HX2_0 := Lib.hid hx2
  have HX3_0 := Lib.hid hx3
  have HB_0 := Lib.hid hb0
  clear hx0 hx1 hx2 hx3 hb0
  have k0_0 := HX0_0.out.cell 0
  have k0_1 := HX0_0.out.cell 1
  have k0_2 := HX0_0.out.cell 2
  have k0_3 := HX0_0.out.cell 3
  simp only [List.getElem?_toArray, List.getElem?_cons_zero, List.getElem?_cons_succ] at k0_0 k0_1 k0_2 k0_3
  have k1_0 := HX1_0.out.cell 0
  have k1_1 := HX1_0.out.cell 1
  simp only [List.getElem?_toArray, List.getElem?_cons_zero, List.getElem?_cons_succ] at k1_0 k1_1
  have k2_0 := HX2_0.out.cell 0
  have k2_1 := HX2_0.out.cell 1
  simp only [List.getElem?_toArray, List.getElem?_cons_zero, List.getElem?_cons_succ] at k2_0 k2_1
  have hch : Below w0.heap.size w0 w0.drew := (Below.refl _ _).drew
  go_region_held3 (fun w' => w'.cell? ⟨w.heap.size, 0, none⟩ = some (.string nm) ∧ w'.cell? ⟨w.heap.size, 1, none⟩ = some (.int .i64 (W : Int)) ∧ w'.cell? ⟨w.heap.size, 2, none⟩ = some (.int .i64 (H : Int)) ∧ w'.cell? ⟨w.heap.size, 3, none⟩ = some (.slice A l.length c) ∧ w'.cell? ⟨w.heap.size + 1, 0, none⟩ = some (.int .i64 (cf : Int)) ∧ w'.cell? ⟨w.heap.size + 1, 1, none⟩ = some (.int .i64 ((cf : Int) + (m : Int))) ∧ w'.cell? ⟨w.heap.size + 1 + 1, 0, none⟩ = some (.int .i64 (rf : Int)) ∧ w'.cell? ⟨w.heap.size + 1 + 1, 1, none⟩ = some (.int .i64 ((rf : Int) + (k : Int))))
    (go_keep)
    (first
      | (go_at_call 37; refine (HCP.out _ (by exact HR.out.below (HB_0.out.trans ((chainB' hch (Below.refl _ _)).mono HB_0.out.size)))).mono ?_; rintro e wn ⟨rfl, hbn⟩; have hch := chainB' (wo := w0) (by assumption) hbn; have k0_0 := cellL hbn (a := ⟨w.heap.size, 0, none⟩) (v := .string nm) (by assumption); have k0_1 := cellL hbn (a := ⟨w.heap.size, 1, none⟩) (v := .int .i64 (W : Int)) (by assumption); have k0_2 := cellL hbn (a := ⟨w.heap.size, 2, none⟩) (v := .int .i64 (H : Int)) (by assumption); have k0_3 := cellL hbn (a := ⟨w.heap.size, 3, none⟩) (v := .slice A l.length c) (by assumption); have k1_0 := cellL hbn (a := ⟨w.heap.size + 1, 0, none⟩) (v := .int .i64 (cf : Int)) (by assumption); have k1_1 := cellL hbn (a := ⟨w.heap.size + 1, 1, none⟩) (v := .int .i64 ((cf : Int) + (m : Int))) (by assumption); have k2_0 := cellL hbn (a := ⟨w.heap.size + 1 + 1, 0, none⟩) (v := .int .i64 (rf : Int)) (by assumption); have k2_1 := cellL hbn (a := ⟨w.heap.size + 1 + 1, 1, none⟩) (v := .int .i64 ((rf : Int) + (k : Int))) (by assumption))
      | (go_at_call 111; refine (spanError_any _ _ _ _).mono ?_; rintro e wn ⟨rfl, hbn⟩; have hch := chainB' (wo := w0) (by assumption) hbn; have k0_0 := cellL hbn (a := ⟨w.heap.size, 0, none⟩) (v := .string nm) (by assumption); have k0_1 := cellL hbn (a := ⟨w.heap.size, 1, none⟩) (v := .int .i64 (W : Int)) (by assumption); have k0_2 := cellL hbn (a := ⟨w.heap.size, 2, none⟩) (v := .int .i64 (H : Int)) (by assumption); have k0_3 := cellL hbn (a := ⟨w.heap.size, 3, none⟩) (v := .slice A l.length c) (by assumption); have k1_0 := cellL hbn (a := ⟨w.heap.size + 1, 0, none⟩) (v := .int .i64 (cf : Int)) (by assumption); have k1_1 := cellL hbn (a := ⟨w.heap.size + 1, 1, none⟩) (v := .int .i64 ((cf : Int) + (m : Int))) (by assumption); have k2_0 := cellL hbn (a := ⟨w.heap.size + 1 + 1, 0, none⟩) (v := .int .i64 (rf : Int)) (by assumption); have k2_1 := cellL hbn (a := ⟨w.heap.size + 1 + 1, 1, none⟩) (v := .int .i64 ((rf : Int) + (k : Int))) (by assumption))
      | (go_at_call 97; refine (first_n _ _ _ [0, errIf (decide ((cf : Int) < 0) || decide ((cf : Int) + (m : Int) ≤ (cf : Int)) || decide ((W : Int) < (cf : Int) + (m : Int))) 14, errIf (decide ((rf : Int) < 0) || decide ((rf : Int) + (k : Int) ≤ (rf : Int)) || decide ((H : Int) < (rf : Int) + (k : Int))) 14] _ rfl (by simp [maxLen]) (by exact rd_of_blk (Blk.new _ _ _) rfl)).mono ?_; rw [SS1.out, SS2.out]; rintro e wn ⟨rfl, rfl⟩))
  have hN : m * k ≤ 4096 := Nat.le_trans (Nat.mul_le_mul (show m ≤ 64 by omega) (show k ≤ 64 by omega)) (by decide)
  go_wp2_with fail
  rw [show (cf : Int) + (m : Int) - (cf : Int) = (m : Int) by omega, show (rf : Int) + (k : Int) - (rf : Int) = (k : Int) by omega]
  have hch := chainB' hch ((Below.refl _ _).alloc (Nat.le_refl _) (.cells #[.int .i64 0, .int .i64 (errIf false 14), .int .i64 (errIf false 14)] 26))
  refine (blank_any nm m k (m * k) _ rfl hN).mono ?_
  rintro e w2 ⟨g, rfl, hg, hgb, hb2⟩
  have hch := chainB' hch hb2
  have HX0_2 := Lib.hid (HX0_0.out.below hch)
  have HX1_2 := Lib.hid (HX1_0.out.below hch)
  have HX2_2 := Lib.hid (HX2_0.out.below hch)
  have HX3_2 := Lib.hid (HX3_0.out.below hch)
  have HB_2 := Lib.hid (HB_0.out.trans (hch.mono HB_0.out.size))
  have HG2 := Lib.hid hgb
  have hgl : w.heap.size + 1 + 1 + 1 < g := Nat.lt_of_lt_of_le (HX3_0.out.below (by assumption : Below w0.heap.size w0 wn)).lt (Nat.le_trans (by simp) hg)
  have hzg : g < w2.heap.size := HG2.out.lt
  have hz : w.heap.size < w2.heap.size ∧ w.heap.size + 1 < w2.heap.size ∧ w.heap.size + 1 + 1 < w2.heap.size ∧ w.heap.size + 1 + 1 + 1 < w2.heap.size := by have := HX3_2.out.lt; omega
  obtain ⟨z0, z1, z2, z3⟩ := hz
  clear hb2 hgb hch hg
  clear k0_0 k0_1 k0_2 k0_3 k1_0 k1_1 k2_0 k2_1
  have k0_0 := HX0_2.out.cell 0
  have k0_1 := HX0_2.out.cell 1
  have k0_2 := HX0_2.out.cell 2
  have k0_3 := HX0_2.out.cell 3
  simp only [List.getElem?_toArray, List.getElem?_cons_zero, List.getElem?_cons_succ] at k0_0 k0_1 k0_2 k0_3
  have k1_0 := HX1_2.out.cell 0
  have k1_1 := HX1_2.out.cell 1
  simp only [List.getElem?_toArray, List.getElem?_cons_zero, List.getElem?_cons_succ] at k1_0 k1_1
  have k2_0 := HX2_2.out.cell 0
  have k2_1 := HX2_2.out.cell 1
  simp only [List.getElem?_toArray, List.getElem?_cons_zero, List.getElem?_cons_succ] at k2_0 k2_1
  go_wp2_with fail
  have hx3 := HX0_2.out.alloc (.cells #[.string nm, .int .i64 (m : Int), .int .i64 (k : Int), .slice (some ⟨g, 0, none⟩) (m * k) (m * k)] 50)
  have hx4 := HX1_2.out.alloc (.cells #[.string nm, .int .i64 (m : Int), .int .i64 (k : Int), .slice (some ⟨g, 0, none⟩) (m * k) (m * k)] 50)
  have hx5 := HX2_2.out.alloc (.cells #[.string nm, .int .i64 (m : Int), .int .i64 (k : Int), .slice (some ⟨g, 0, none⟩) (m * k) (m * k)] 50)
  have hx6 := HX3_2.out.alloc (.cells #[.string nm, .int .i64 (m : Int), .int .i64 (k : Int), .slice (some ⟨g, 0, none⟩) (m * k) (m * k)] 50)
  have hg3 := HG2.out.alloc (.cells #[.string nm, .int .i64 (m : Int), .int .i64 (k : Int), .slice (some ⟨g, 0, none⟩) (m * k) (m * k)] 50)
  have hf3 := Blk.new w2 50 #[.string nm, .int .i64 (m : Int), .int .i64 (k : Int), .slice (some ⟨g, 0, none⟩) (m * k) (m * k)]
  have hb3 := HB_2.out.alloc HB_2.out.size (.cells #[.string nm, .int .i64 (m : Int), .int .i64 (k : Int), .slice (some ⟨g, 0, none⟩) (m * k) (m * k)] 50)
  clear k0_0 k0_1 k0_2 k0_3 k1_0 k1_1 k2_0 k2_1
  obtain ⟨b3, hb3e⟩ : ∃ b, w2.heap.size = b := ⟨_, rfl⟩
  rw [hb3e] at hf3 z0 z1 z2 z3 hzg ⊢
  clear hb3e
  generalize w2.alloc (.cells #[.string nm, .int .i64 (m : Int), .int .i64 (k : Int), .slice (some ⟨g, 0, none⟩) (m * k) (m * k)] 50) = w3 at hx3 hx4 hx5 hx6 hg3 hf3 hb3 ⊢
  have HX0_3 := Lib.hid hx3; have HX1_3 := Lib.hid hx4; have HX2_3 := Lib.hid hx5; have HX3_3 := Lib.hid hx6; have HG3 := Lib.hid hg3; have HF3 := Lib.hid hf3; have HB_3 := Lib.hid hb3
  clear hx3 hx4 hx5 hx6 hg3 hf3 hb3
  clear HX0_0 HX1_0 HX2_0 HX3_0 HX0_2 HX1_2 HX2_2 HX3_2 HG2 HB_0 HB_2
  have hpos : 0 < (fl l).length := by have := prod_pos hW.1 hH.1; simp [fl]; have := HLEN.out; omega
  obtain ⟨ad, rfl, hadb, hadc⟩ := HR.out.some_ hpos
  have HAD := Lib.hid hadc; clear hadc
  go_loopw [42] (fun i wr => ∃ y : Nat, y ≤ k ∧ i = .int .i64 y ∧ Blk wr (w.heap.size) 50 #[.string nm, .int .i64 (W : Int), .int .i64 (H : Int), .slice (some ad) l.length c] ∧ Blk wr (w.heap.size + 1) 47 #[.int .i64 (cf : Int), .int .i64 ((cf : Int) + (m : Int))] ∧ Blk wr (w.heap.size + 1 + 1) 47 #[.int .i64 (rf : Int), .int .i64 ((rf : Int) + (k : Int))] ∧ Blk wr (w.heap.size + 1 + 1 + 1) 50 #[.string ⟨#[]⟩, .int .i64 0, .int .i64 0, .slice none 0 0] ∧ Blk wr b3 50 #[.string nm, .int .i64 (m : Int), .int .i64 (k : Int), .slice (some ⟨g, 0, none⟩) (m * k) (m * k)] ∧ Blk wr g 23 (maskN (cropF l W cf m rf) (.float .f32 0) (m * k) (fun i => decide (i < y * m))) ∧ Below w.heap.size w wr) (fun i _ => k - (intOf i).toNat)
  case atStart =>
    refine ⟨0, by omega, rfl, HX0_3.out, HX1_3.out, HX2_3.out, HX3_3.out, HF3.out, ?_, HB_3.out⟩
    have h := HG3.out
    rw [fill_mask, mask_congr (fun _ => .float .f32 0) (cropF l W cf m rf) _ _ _ (fun i => decide (i < 0 * m)) (by simp) (by simp)] at h
    exact h
  case round =>
    obtain ⟨y, hy, rfl, hx0, hx1, hx2, hx3, hx4, hgm, hbel⟩ := hrel
    obtain ⟨wo, rfl⟩ : ∃ wo : World, wo = wr := ⟨_, rfl⟩
    by_cases hlt : y < k
    · have hro := row_le (W := m) hlt
      have hrs := row_le (W := W) (show rf + y < H by omega)
      obtain ⟨o, ho⟩ : ∃ o, y * m = o := ⟨_, rfl⟩
      obtain ⟨q, hq⟩ : ∃ q, (rf + y) * W = q := ⟨_, rfl⟩
      have hol : o + m ≤ m * k := by rw [← ho]; exact hro
      have hql : q + W ≤ l.length := by rw [← hq, HLEN.out]; exact hrs
      have HO := Lib.hid ho; have HQ := Lib.hid hq; clear ho hq hro hrs
      have HX0_4 := Lib.hid hx0; have HX1_4 := Lib.hid hx1; have HX2_4 := Lib.hid hx2; have HX3_4 := Lib.hid hx3; have HX4_4 := Lib.hid hx4; have HG := Lib.hid hgm; have HB := Lib.hid hbel
      clear hx0 hx1 hx2 hx3 hx4 hgm hbel
      have k0_0 := HX0_4.out.cell 0
      have k0_1 := HX0_4.out.cell 1
      have k0_2 := HX0_4.out.cell 2
      have k0_3 := HX0_4.out.cell 3
      simp only [List.getElem?_toArray, List.getElem?_cons_zero, List.getElem?_cons_succ] at k0_0 k0_1 k0_2 k0_3
      have k1_0 := HX1_4.out.cell 0
      have k1_1 := HX1_4.out.cell 1
      simp only [List.getElem?_toArray, List.getElem?_cons_zero, List.getElem?_cons_succ] at k1_0 k1_1
      have k2_0 := HX2_4.out.cell 0
      have k2_1 := HX2_4.out.cell 1
      simp only [List.getElem?_toArray, List.getElem?_cons_zero, List.getElem?_cons_succ] at k2_0 k2_1
      have k4_0 := HX4_4.out.cell 0
      have k4_1 := HX4_4.out.cell 1
      have k4_2 := HX4_4.out.cell 2
      have k4_3 := HX4_4.out.cell 3
      simp only [List.getElem?_toArray, List.getElem?_cons_zero, List.getElem?_cons_succ] at k4_0 k4_1 k4_2 k4_3
      have hch : Below wo.heap.size wo wo.drew := (Below.refl _ _).drew
      have ecast : ((rf + y : Nat) : Int) = (rf : Int) + (y : Int) := by omega
      have hrow2 := fun w => row_any nm W H l.length c q ad (rf + y) w hW.1 HQ.out hql hcap hbig (by omega)
      have hrow1 := fun w => row_blk nm m k (m * k) (m * k) o g y w h1.1 HO.out hol (Nat.le_refl _) hN (by omega)
      rw [ecast] at hrow2
      have HR2 := Lib.hid hrow2; have HR1 := Lib.hid hrow1
      have hsum : IntKind.i64.wrap ((rf : Int) + (y : Int)) = (rf : Int) + (y : Int) := IntWalk.i64_in _ (by omega)
      have i1 : (0 : Int) ≤ (cf : Int) := by omega
      have i2 : (cf : Int) ≤ (cf : Int) + (m : Int) := by omega
      have i3 : (cf : Int) + (m : Int) ≤ ((c - q : Nat) : Int) := by omega
      have i4 : cf < c - q := by omega
      obtain ⟨cs, hcs⟩ : ∃ cs, (List.range m).map (fun j => cropF l W cf m rf (o + j)) = cs := ⟨_, rfl⟩
      have hcl : cs.length = m := by rw [← hcs]; simp
      have hcg : ∀ j, j < cs.length → cs[j]? = some (cropF l W cf m rf (o + j)) := fun j hj => by rw [← hcs]; rw [hcl] at hj; simp [hj]
      have hone : ∀ v ∈ cs, v.oneCell' = true := fun v hv => by rw [← hcs] at hv; simp at hv; obtain ⟨j, _, rfl⟩ := hv; rfl
      have hnew := mask_copy (cropF l W cf m rf) (.float .f32 0) (m * k) (fun i => decide (i < y * m)) (fun i => decide (i < (y + 1) * m)) o cs (by omega) hcg (fun i hi => by rw [Nat.add_mul, Nat.one_mul, HO.out, hcl, Bool.eq_iff_iff]; simp; omega)
      have hsrc : ∀ j v, cs[j]? = some v → w.cell? (((ad.add q).add cf).add j) = some v := fun j v hj => by
        have hj1 : j < cs.length := (List.getElem?_eq_some_iff.1 hj).1
        rw [hcg j hj1] at hj
        cases hj
        rw [add_of_add, add_of_add]
        have hm1 : (o + j) / m = y := by rw [← HO.out, Nat.mul_comm, Nat.mul_add_div (by omega), Nat.div_eq_of_lt (by omega)]; rfl
        have hm2 : (o + j) % m = j := by rw [← HO.out, Nat.mul_comm, Nat.mul_add_mod, Nat.mod_eq_of_lt (by omega)]
        rw [HAD.out (q + (cf + j)) _ (fl_get (by omega))]
        unfold cropF
        rw [hm1, hm2, HQ.out]
      have HN := Lib.hid hnew; have HSRC := Lib.hid hsrc; have HONE := Lib.hid hone; have HCL := Lib.hid hcl
      clear hnew hsrc hone hcl hcg hcs
      clear hrow1 hrow2 ecast
      go_wp2_with fail
      go_region_held3 (fun w' => w'.cell? ⟨w.heap.size, 0, none⟩ = some (.string nm) ∧ w'.cell? ⟨w.heap.size, 1, none⟩ = some (.int .i64 (W : Int)) ∧ w'.cell? ⟨w.heap.size, 2, none⟩ = some (.int .i64 (H : Int)) ∧ w'.cell? ⟨w.heap.size, 3, none⟩ = some (.slice (some ad) l.length c) ∧ w'.cell? ⟨w.heap.size + 1, 0, none⟩ = some (.int .i64 (cf : Int)) ∧ w'.cell? ⟨w.heap.size + 1, 1, none⟩ = some (.int .i64 ((cf : Int) + (m : Int))) ∧ w'.cell? ⟨w.heap.size + 1 + 1, 0, none⟩ = some (.int .i64 (rf : Int)) ∧ w'.cell? ⟨w.heap.size + 1 + 1, 1, none⟩ = some (.int .i64 ((rf : Int) + (k : Int))) ∧ w'.cell? ⟨b3, 0, none⟩ = some (.string nm) ∧ w'.cell? ⟨b3, 1, none⟩ = some (.int .i64 (m : Int)) ∧ w'.cell? ⟨b3, 2, none⟩ = some (.int .i64 (k : Int)) ∧ w'.cell? ⟨b3, 3, none⟩ = some (.slice (some ⟨g, 0, none⟩) (m * k) (m * k)))
        (go_keep)
        (first
          | (go_at_call 109; (first | (with_reducible refine (HR1.out _).mono ?_) | (with_reducible refine (HR2.out _).mono ?_)); rintro e wn ⟨rfl, hbn⟩; have hch := chainB' (wo := wo) (by assumption) hbn; have k0_0 := cellL hbn (a := ⟨w.heap.size, 0, none⟩) (v := .string nm) (by assumption); have k0_1 := cellL hbn (a := ⟨w.heap.size, 1, none⟩) (v := .int .i64 (W : Int)) (by assumption); have k0_2 := cellL hbn (a := ⟨w.heap.size, 2, none⟩) (v := .int .i64 (H : Int)) (by assumption); have k0_3 := cellL hbn (a := ⟨w.heap.size, 3, none⟩) (v := .slice (some ad) l.length c) (by assumption); have k1_0 := cellL hbn (a := ⟨w.heap.size + 1, 0, none⟩) (v := .int .i64 (cf : Int)) (by assumption); have k1_1 := cellL hbn (a := ⟨w.heap.size + 1, 1, none⟩) (v := .int .i64 ((cf : Int) + (m : Int))) (by assumption); have k2_0 := cellL hbn (a := ⟨w.heap.size + 1 + 1, 0, none⟩) (v := .int .i64 (rf : Int)) (by assumption); have k2_1 := cellL hbn (a := ⟨w.heap.size + 1 + 1, 1, none⟩) (v := .int .i64 ((rf : Int) + (k : Int))) (by assumption); have k4_0 := cellL hbn (a := ⟨b3, 0, none⟩) (v := .string nm) (by assumption); have k4_1 := cellL hbn (a := ⟨b3, 1, none⟩) (v := .int .i64 (m : Int)) (by assumption); have k4_2 := cellL hbn (a := ⟨b3, 2, none⟩) (v := .int .i64 (k : Int)) (by assumption); have k4_3 := cellL hbn (a := ⟨b3, 3, none⟩) (v := .slice (some ⟨g, 0, none⟩) (m * k) (m * k)) (by assumption))
          | (refine upon_copy_blk 41 41 3 23 Tryz.underlying41 info_f32 g o _ _ ((ad.add q).add cf) _ _ _ 23 (HG.out.below (by assumption)) cs (by rw [HCL.out, show ((cf : Int) + (m : Int)).toNat - cf = m by omega]; exact (Nat.min_self m).symm) (by intro j v hj; exact ((HB.out.trans ((by assumption : Below wo.heap.size wo _).mono HB.out.size)).cell (by rw [block_of_add, block_of_add, block_of_add]; exact hadb)).trans (HSRC.out j v hj)) (by rw [HCL.out]; simp [maskN]; omega) HONE.out _ HN.out ?_; intro wn2 hbk hon; have k0_0 := hon.cell (p := ⟨w.heap.size, 0, none⟩) (v := .string nm) (by simp; omega) (by assumption); have k0_1 := hon.cell (p := ⟨w.heap.size, 1, none⟩) (v := .int .i64 (W : Int)) (by simp; omega) (by assumption); have k0_2 := hon.cell (p := ⟨w.heap.size, 2, none⟩) (v := .int .i64 (H : Int)) (by simp; omega) (by assumption); have k0_3 := hon.cell (p := ⟨w.heap.size, 3, none⟩) (v := .slice (some ad) l.length c) (by simp; omega) (by assumption); have k1_0 := hon.cell (p := ⟨w.heap.size + 1, 0, none⟩) (v := .int .i64 (cf : Int)) (by simp; omega) (by assumption); have k1_1 := hon.cell (p := ⟨w.heap.size + 1, 1, none⟩) (v := .int .i64 ((cf : Int) + (m : Int))) (by simp; omega) (by assumption); have k2_0 := hon.cell (p := ⟨w.heap.size + 1 + 1, 0, none⟩) (v := .int .i64 (rf : Int)) (by simp; omega) (by assumption); have k2_1 := hon.cell (p := ⟨w.heap.size + 1 + 1, 1, none⟩) (v := .int .i64 ((rf : Int) + (k : Int))) (by simp; omega) (by assumption); have k4_0 := hon.cell (p := ⟨b3, 0, none⟩) (v := .string nm) (by simp; omega) (by assumption); have k4_1 := hon.cell (p := ⟨b3, 1, none⟩) (v := .int .i64 (m : Int)) (by simp; omega) (by assumption); have k4_2 := hon.cell (p := ⟨b3, 2, none⟩) (v := .int .i64 (k : Int)) (by simp; omega) (by assumption); have k4_3 := hon.cell (p := ⟨b3, 3, none⟩) (v := .slice (some ⟨g, 0, none⟩) (m * k) (m * k)) (by simp; omega) (by assumption)))
      have hxs := And.intro (hon.far (HX0_4.out.below hch) (by omega)) (And.intro (hon.far (HX1_4.out.below hch) (by omega)) (And.intro (hon.far (HX2_4.out.below hch) (by omega)) (And.intro (hon.far (HX3_4.out.below hch) (by omega)) (And.intro (hon.far (HX4_4.out.below hch) (by omega)) (hon.below (HB.out.trans (hch.mono HB.out.size)) (by omega))))))
      have HXS := Lib.hid hxs
      clear hxs hch hbn hon
      clear k0_0 k0_1 k0_2 k0_3 k1_0 k1_1 k2_0 k2_1 k4_0 k4_1 k4_2 k4_3
      go_wp2
      go_roundw
      case rel => exact ⟨y + 1, by omega, by go_num, HXS.out.1, HXS.out.2.1, HXS.out.2.2.1, HXS.out.2.2.2.1, HXS.out.2.2.2.2.1, hbk.out, HXS.out.2.2.2.2.2⟩
      case measure => simp [intOf]; omega
    · have hye : y = k := by omega
      subst hye
      obtain ⟨c0, c1, c2, c3⟩ := box4 hx4
      obtain ⟨d0, d1, d2, d3⟩ := box4 hx3
      have z0 := hx3.frozen 0
      have z1 := hx3.frozen 1
      have z2 := hx3.frozen 2
      have z3 := hx3.frozen 3
      have HG9 := Lib.hid hgm; have HB9 := Lib.hid hbel
      clear hx0 hx1 hx2 hx3 hx4 hgm hbel
      go_wp2
      refine bodyPost_ret (v := .tuple #[.agg #[.string nm, .int .i64 (m : Int), .int .i64 (y : Int), .slice (some ⟨g, 0, none⟩) (m * y) (m * y)], .int .i64 0]) (by simp [results, Tryz.results31, go_sem, d0, d1, d2, d3]) rfl ⟨g, rfl, ?_, ?_⟩
      · have h := HG9.out
        rw [mask_congr (cropF l W cf m rf) (cropF l W cf m rf) _ _ _ (fun _ => true) (fun i hi => by rw [Nat.mul_comm] at hi; simp; omega) (fun _ _ _ => rfl)] at h
        exact (((h.far (p := ⟨w.heap.size + 1 + 1 + 1, 0, none⟩) (by simp; omega) _).far (p := ⟨w.heap.size + 1 + 1 + 1, 1, none⟩) (by simp; omega) _).far (p := ⟨w.heap.size + 1 + 1 + 1, 2, none⟩) (by simp; omega) _).far (p := ⟨w.heap.size + 1 + 1 + 1, 3, none⟩) (by simp; omega) _
      · exact (((HB9.out.setCell (p := ⟨w.heap.size + 1 + 1 + 1, 0, none⟩) (by simp; omega) _).setCell (p := ⟨w.heap.size + 1 + 1 + 1, 1, none⟩) (by simp; omega) _).setCell (p := ⟨w.heap.size + 1 + 1 + 1, 2, none⟩) (by simp; omega) _).setCell (p := ⟨w.heap.size + 1 + 1 + 1, 3, none⟩) (by simp; omega) _


end Go.Proofs.YtkjkjhheckfhbaaGreatDoor
namespace Go.Proofs.YtkjkjhheckfhbaaGreatDoor
open Go.RowKit
set_option linter.unusedVariables false
attribute [local go_sem] run_store_float run_store_complex
set_option maxRecDepth 100000 in
set_option maxHeartbeats 2000000 in
theorem at_ok (nm : ByteArray) (W H : Nat) (l : List Nat) (hp : (Pic.mk nm W H l).Ok) (he : (Pic.mk nm W H l).err = 0) (x y : Nat) (h1 : x < W) (h2 : y < H) (A : Option Addr) (c : Nat) (w : World) (hs : nm.size ≤ maxLen) (hl : l.length ≤ maxLen) (hcap : l.length ≤ c) (hr : Rd w A (fl l)) :
    Calls Tryz.prog 29 #[.agg #[.string nm, .int .i64 (W : Int), .int .i64 (H : Int), .slice A l.length c], .int .i64 (x : Int), .int .i64 (y : Int)] w fun e w' => e = .returned (.tuple #[.float .f32 (l.getD (y * W + x) 0), .int .i64 0]) ∧ Below w.heap.size w w' := by
  have hW : 1 ≤ W ∧ W ≤ 64 := by have h1 := hp.w1; have h2 := hp.w2; simp at h1 h2; omega
  have hH : 1 ≤ H ∧ H ≤ 64 := by have h1 := hp.h1; have h2 := hp.h2; simp at h1 h2; omega
  have hlen : l.length = W * H := by have h1 := hp.len; simp only [] at h1; exact_mod_cast h1
  have hbig : l.length ≤ 4096 := hp.big
  have hpos : 0 < (fl l).length := by have := prod_pos hW.1 hH.1; simp [fl]; omega
  obtain ⟨ad, rfl, hadb, hadc⟩ := hr.some_ hpos
  have HR := Lib.hid hr; have HP := Lib.hid hp; have HE := Lib.hid he
  have HAD := Lib.hid hadc; clear hadc
  have hrs := row_le (W := W) h2
  obtain ⟨q, hq⟩ : ∃ q, y * W = q := ⟨_, rfl⟩
  have hql : q + W ≤ l.length := by rw [← hq, hlen]; exact hrs
  rw [hq]
  have HQ := Lib.hid hq; clear hq hrs hlen
  clear hr hp he
  have hcp := fun w hr => checkPicture_any (Pic.mk nm W H l) (some ad) c w hs hl hr
  rw [HE.out] at hcp
  simp only [Pic.val] at hcp
  have HCP := Lib.hid hcp; clear hcp
  have s1 : (decide ((x : Int) < 0) || decide ((x : Int) ≥ (W : Int))) = false := by simp; omega
  have s2 : (decide ((y : Int) < 0) || decide ((y : Int) ≥ (H : Int))) = false := by simp; omega
  have SS1 := Lib.hid s1; have SS2 := Lib.hid s2
  clear s1 s2
  go_enter Tryz.func29, Tryz.ntmps29
  go_wp2_with fail
  have hx0 := (Blk.new w 50 #[.string nm, .int .i64 (W : Int), .int .i64 (H : Int), .slice (some ad) l.length c])
  have hb0 := ((Below.refl w.heap.size w).alloc (Nat.le_refl _) (.cells #[.string nm, .int .i64 (W : Int), .int .i64 (H : Int), .slice (some ad) l.length c] 50))
  generalize (w.alloc (.cells #[.string nm, .int .i64 (W : Int), .int .i64 (H : Int), .slice (some ad) l.length c] 50)) = w0 at hx0 hb0 ⊢
  have HX0_0 := Lib.hid hx0
  have HB_0 := Lib.hid hb0
  clear hx0 hb0
  refine (HCP.out _ (by exact HR.out.below HB_0.out)).mono ?_
  rintro e w1 ⟨rfl, hb1⟩
  have HX0_1 := Lib.hid (HX0_0.out.below hb1)
  have HB_1 := Lib.hid (HB_0.out.trans (hb1.mono HB_0.out.size))
  have k0_0 := HX0_1.out.cell 0
  have k0_1 := HX0_1.out.cell 1
  have k0_2 := HX0_1.out.cell 2
  have k0_3 := HX0_1.out.cell 3
  simp only [List.getElem?_toArray, List.getElem?_cons_zero, List.getElem?_cons_succ] at k0_0 k0_1 k0_2 k0_3
  go_wp2_with fail
  rw [show (decide ((x : Int) < 0) || decide (W ≤ x)) = false by simp; omega]
  refine (errorIf_any _ _ _).mono ?_
  rintro e wn ⟨rfl, rfl⟩
  go_wp2_with fail
  rw [show (decide ((y : Int) < 0) || decide (H ≤ y)) = false by simp; omega]
  refine (errorIf_any _ _ _).mono ?_
  rintro e wn ⟨rfl, rfl⟩
  go_wp2_with fail
  refine (first_n _ _ _ [0, errIf false 10, errIf false 10] _ rfl (by simp [maxLen]) (by exact rd_of_blk (Blk.new _ _ _) rfl)).mono ?_
  rintro e wn ⟨rfl, rfl⟩
  have hxa := HX0_1.out.alloc (.cells #[.int .i64 0, .int .i64 (errIf false 10), .int .i64 (errIf false 10)] 26)
  have hba := HB_1.out.alloc HB_1.out.size (.cells #[.int .i64 0, .int .i64 (errIf false 10), .int .i64 (errIf false 10)] 26)
  clear k0_0 k0_1 k0_2 k0_3
  generalize w1.alloc (.cells #[.int .i64 0, .int .i64 (errIf false 10), .int .i64 (errIf false 10)] 26) = w2 at hxa hba ⊢
  have HX0_2 := Lib.hid hxa; have HB_2 := Lib.hid hba
  clear hxa hba
  have k0_0 := HX0_2.out.cell 0
  have k0_1 := HX0_2.out.cell 1
  have k0_2 := HX0_2.out.cell 2
  have k0_3 := HX0_2.out.cell 3
  simp only [List.getElem?_toArray, List.getElem?_cons_zero, List.getElem?_cons_succ] at k0_0 k0_1 k0_2 k0_3
  go_wp2_with fail
  refine (row_any nm W H l.length c q ad y _ hW.1 HQ.out hql hcap hbig (by omega)).mono ?_
  rintro e w3 ⟨rfl, hb3⟩
  have hcell : w3.cell? ((ad.add q).add x) = some (.float .f32 (l.getD (q + x) 0)) := by
    have hbb := HB_2.out.trans (hb3.mono HB_2.out.size)
    refine (hbb.cell (by rw [block_of_add, block_of_add]; exact hadb)).trans ?_
    rw [add_of_add]
    exact HAD.out (q + x) _ (fl_get (by omega))
  have HB_3 := Lib.hid (HB_2.out.trans (hb3.mono HB_2.out.size))
  have e1 : 0 ≤ (x : Int) ∧ (x : Int) < W := by omega
  go_wp2
  exact bodyPost_ret (v := .tuple #[.float .f32 (l.getD (q + x) 0), .int .i64 0]) (by simp [results, Tryz.results29, go_sem]) rfl ⟨rfl, HB_3.out⟩

def transF (l : List Nat) (W H : Nat) (i : Nat) : Value := .float .f32 (l.getD (i % H * W + i / H) 0)
theorem cellFar {w : World} {a p : Addr} {u : Value} (h : a.block ≠ p.block) (v : Value) (hc : w.cell? a = some u) : (w.setCell p v).cell? a = some u := (World.cell?_of_block (w := w) (Below.heap_setCell w p v a.block h)).trans hc
theorem divmod_at (H x y : Nat) (hy : y < H) : (x * H + y) / H = x ∧ (x * H + y) % H = y := by
  rw [Nat.mul_comm]
  exact ⟨by rw [Nat.mul_add_div (by omega), Nat.div_eq_of_lt hy]; rfl, by rw [Nat.mul_add_mod, Nat.mod_eq_of_lt hy]⟩
theorem transF_at (l : List Nat) (W H y x : Nat) (hy : y < H) : transF l W H (x * H + y) = .float .f32 (l.getD (y * W + x) 0) := by
  unfold transF
  rw [(divmod_at H x y hy).1, (divmod_at H x y hy).2]
def transD (H y x : Nat) (i : Nat) : Bool := decide (i % H < y) || (decide (i % H = y) && decide (i / H < x))
theorem eq_at (H x y i : Nat) (hy : y < H) : i = x * H + y ↔ i / H = x ∧ i % H = y := by
  constructor
  · rintro rfl; exact divmod_at H x y hy
  · rintro ⟨rfl, rfl⟩; rw [Nat.mul_comm]; exact (Nat.div_add_mod i H).symm
theorem transD_step (H y x i : Nat) (hy : y < H) : transD H y (x + 1) i = (decide (i = x * H + y) || transD H y x i) := by
  unfold transD
  rw [Bool.eq_iff_iff]
  simp only [Bool.or_eq_true, Bool.and_eq_true, decide_eq_true_eq, eq_at H x y i hy]
  omega
theorem transD_end (H W y i : Nat) (h : i < W * H) : transD H y W i = decide (i % H < y + 1) := by
  have : i / H < W := by rw [Nat.div_lt_iff_lt_mul (by rcases H with _ | H <;> simp at h ⊢)]; exact h
  unfold transD
  rw [Bool.eq_iff_iff]
  simp only [Bool.or_eq_true, Bool.and_eq_true, decide_eq_true_eq]
  omega
set_option maxRecDepth 100000 in
set_option maxHeartbeats 2000000 in
theorem transposed_ok (nm : ByteArray) (W H : Nat) (l : List Nat) (hp : (Pic.mk nm W H l).Ok) (he : (Pic.mk nm W H l).err = 0) (A : Option Addr) (c : Nat) (w : World) (hs : nm.size ≤ maxLen) (hl : l.length ≤ maxLen) (hcap : l.length ≤ c) (hr : Rd w A (fl l)) :
    Calls Tryz.prog 47 #[.agg #[.string nm, .int .i64 (W : Int), .int .i64 (H : Int), .slice A l.length c]] w fun e w' => ∃ g, e = .returned (.tuple #[.agg #[.string nm, .int .i64 H, .int .i64 W, .slice (some ⟨g, 0, none⟩) l.length l.length], .int .i64 0]) ∧ Blk w' g 23 (maskN (transF l W H) (.float .f32 0) l.length (fun _ => true)) ∧ Below w.heap.size w w' := by
  have HR := Lib.hid hr; have HP := Lib.hid hp; have HE := Lib.hid he
  have hW : 1 ≤ W ∧ W ≤ 64 := by have h1 := hp.w1; have h2 := hp.w2; simp at h1 h2; omega
  have hH : 1 ≤ H ∧ H ≤ 64 := by have h1 := hp.h1; have h2 := hp.h2; simp at h1 h2; omega
  have hlen : l.length = W * H := by have h1 := hp.len; simp only [] at h1; exact_mod_cast h1
  have hbig : l.length ≤ 4096 := hp.big
  have HLEN := Lib.hid hlen
  clear hr hp he hlen
  have hcp := fun w hr => checkPicture_any (Pic.mk nm W H l) A c w hs hl hr
  rw [HE.out] at hcp
  simp only [Pic.val] at hcp
  have HCP := Lib.hid hcp; clear hcp
  go_enter Tryz.func47, Tryz.ntmps47
  go_wp2_with fail
  have hbx := (Blk.new w 50 #[.string nm, .int .i64 (W : Int), .int .i64 (H : Int), .slice A l.length c]).alloc (.cells #[.string ⟨#[]⟩, .int .i64 0, .int .i64 0, .slice none 0 0] 50)
  have hby := Blk.new (w.alloc (.cells #[.string nm, .int .i64 (W : Int), .int .i64 (H : Int), .slice A l.length c] 50)) 50 #[.string ⟨#[]⟩, .int .i64 0, .int .i64 0, .slice none 0 0]
  have hb0 : Below w.heap.size w ((w.alloc (.cells #[.string nm, .int .i64 (W : Int), .int .i64 (H : Int), .slice A l.length c] 50)).alloc (.cells #[.string ⟨#[]⟩, .int .i64 0, .int .i64 0, .slice none 0 0] 50)) := ((Below.refl _ _).alloc (Nat.le_refl _) _).alloc (by simp) _
  simp only [World.size_alloc] at hby
  generalize (w.alloc (.cells #[.string nm, .int .i64 (W : Int), .int .i64 (H : Int), .slice A l.length c] 50)).alloc (.cells #[.string ⟨#[]⟩, .int .i64 0, .int .i64 0, .slice none 0 0] 50) = w0 at hbx hby hb0 ⊢
  have HB0 := Lib.hid hb0; have HX0 := Lib.hid hbx; have HY0 := Lib.hid hby; clear hb0 hbx hby
  refine (HCP.out _ (by exact HR.out.below HB0.out)).mono ?_
  rintro e w1 ⟨rfl, hb1⟩
  have HX1 := Lib.hid (HX0.out.below hb1); have HY1 := Lib.hid (HY0.out.below hb1)
  obtain ⟨c0, c1, c2, c3⟩ := box4 HX1.out
  have HB1 := Lib.hid (HB0.out.trans (hb1.mono HB0.out.size)); clear hb1
  have hlc : H * W = l.length := by rw [HLEN.out, Nat.mul_comm]
  have HLC := Lib.hid hlc; clear hlc
  go_wp2_with fail
  refine (blank_any nm H W (l.length) _ HLC.out hbig).mono ?_
  rintro e w2 ⟨g, rfl, hg, hgb, hb2⟩
  have HX2 := Lib.hid (HX1.out.below hb2); have HY2 := Lib.hid (HY1.out.below hb2); have HG2 := Lib.hid hgb
  have HB2 := Lib.hid (HB1.out.trans (hb2.mono HB1.out.size))
  have hz2 : w.heap.size + 1 < w2.heap.size := HY2.out.lt
  have hz1 : w.heap.size < w2.heap.size := HX2.out.lt
  have hg2 : w.heap.size + 1 < g := Nat.lt_of_lt_of_le HY1.out.lt hg
  have hzg : g < w2.heap.size := HG2.out.lt
  clear hb2 hgb c0 c1 c2 c3
  obtain ⟨c0, c1, c2, c3⟩ := box4 HX2.out
  go_wp2_with fail
  have hx3 := HX2.out.alloc (.cells #[.string nm, .int .i64 (H : Int), .int .i64 (W : Int), .slice (some ⟨g, 0, none⟩) (l.length) (l.length)] 50)
  have hy3 := HY2.out.alloc (.cells #[.string nm, .int .i64 (H : Int), .int .i64 (W : Int), .slice (some ⟨g, 0, none⟩) (l.length) (l.length)] 50)
  have hg3 := HG2.out.alloc (.cells #[.string nm, .int .i64 (H : Int), .int .i64 (W : Int), .slice (some ⟨g, 0, none⟩) (l.length) (l.length)] 50)
  have hf3 := Blk.new w2 50 #[.string nm, .int .i64 (H : Int), .int .i64 (W : Int), .slice (some ⟨g, 0, none⟩) (l.length) (l.length)]
  have hb3 := HB2.out.alloc HB2.out.size (.cells #[.string nm, .int .i64 (H : Int), .int .i64 (W : Int), .slice (some ⟨g, 0, none⟩) (l.length) (l.length)] 50)
  clear c0 c1 c2 c3
  obtain ⟨b3, hb3e⟩ : ∃ b, w2.heap.size = b := ⟨_, rfl⟩
  rw [hb3e] at hf3 hz1 hz2 hzg ⊢
  clear hb3e
  generalize w2.alloc (.cells #[.string nm, .int .i64 (H : Int), .int .i64 (W : Int), .slice (some ⟨g, 0, none⟩) (l.length) (l.length)] 50) = w3 at hx3 hy3 hg3 hf3 hb3 ⊢
  have HX3 := Lib.hid hx3; have HY3 := Lib.hid hy3; have HG3 := Lib.hid hg3; have HF3 := Lib.hid hf3; have HB3 := Lib.hid hb3
  clear hx3 hy3 hg3 hf3 hb3 HX2 HY2 HG2 HB2 HX1 HY1 HB1 HX0 HY0 HB0
  have hpos : 0 < (fl l).length := by have := prod_pos hW.1 hH.1; simp [fl]; have := HLEN.out; omega
  obtain ⟨ad, rfl, hadb, hadc⟩ := HR.out.some_ hpos
  have HAD := Lib.hid hadc; clear hadc
  go_loopw [23] (fun i wr => ∃ y : Nat, y ≤ H ∧ i = .int .i64 y ∧ Blk wr w.heap.size 50 #[.string nm, .int .i64 (W : Int), .int .i64 (H : Int), .slice (some ad) l.length c] ∧ Blk wr (w.heap.size + 1) 50 #[.string ⟨#[]⟩, .int .i64 0, .int .i64 0, .slice none 0 0] ∧ Blk wr b3 50 #[.string nm, .int .i64 (H : Int), .int .i64 (W : Int), .slice (some ⟨g, 0, none⟩) (l.length) (l.length)] ∧ Blk wr g 23 (maskN (transF l W H) (.float .f32 0) l.length (fun i => decide (i % H < y))) ∧ Below w.heap.size w wr) (fun i _ => H - (intOf i).toNat)
  case atStart =>
    refine ⟨0, by omega, rfl, HX3.out, HY3.out, HF3.out, ?_, HB3.out⟩
    have h := HG3.out
    rw [fill_mask, mask_congr (fun _ => .float .f32 0) (transF l W H) _ _ _ (fun i => decide (i % H < 0)) (by simp) (by simp)] at h
    exact h
  case round =>
    obtain ⟨y, hy, rfl, hx, hyy, hf, hgm, hbel⟩ := hrel
    by_cases hlt : y < H
    · have hro := row_le (W := W) hlt
      obtain ⟨o, ho⟩ : ∃ o, y * W = o := ⟨_, rfl⟩
      have hol : o + W ≤ l.length := by rw [← ho, HLEN.out]; exact hro
      have HO := Lib.hid ho; clear ho hro
      obtain ⟨c0, c1, c2, c3⟩ := box4 hx
      have HX4 := Lib.hid hx; have HY4 := Lib.hid hyy; have HF4 := Lib.hid hf; have HG4 := Lib.hid hgm; have HB4 := Lib.hid hbel
      clear hx hyy hf hgm hbel
      go_wp2
      go_loopw [28] (fun i wr => ∃ x : Nat, x ≤ W ∧ i = .int .i64 x ∧ Blk wr w.heap.size 50 #[.string nm, .int .i64 (W : Int), .int .i64 (H : Int), .slice (some ad) l.length c] ∧ Blk wr (w.heap.size + 1) 50 #[.string ⟨#[]⟩, .int .i64 0, .int .i64 0, .slice none 0 0] ∧ Blk wr b3 50 #[.string nm, .int .i64 (H : Int), .int .i64 (W : Int), .slice (some ⟨g, 0, none⟩) (l.length) (l.length)] ∧ Blk wr g 23 (maskN (transF l W H) (.float .f32 0) l.length (transD H y x)) ∧ Below w.heap.size w wr) (fun i _ => W - (intOf i).toNat)
      case atStart =>
        refine ⟨0, by omega, rfl, HX4.out, HY4.out, HF4.out, ?_, HB4.out⟩
        have h := HG4.out
        rw [mask_congr (transF l W H) (transF l W H) _ _ _ (transD H y 0) (fun i hi => by unfold transD; rw [Bool.eq_iff_iff]; simp) (fun _ _ _ => rfl)] at h
        exact h
      case round =>
        clear c0 c1 c2 c3
        obtain ⟨x, hxW, rfl, hx, hyy, hf, hgm, hbel⟩ := hrel
        obtain ⟨wo, rfl⟩ : ∃ wo : World, wo = wr := ⟨_, rfl⟩
        by_cases hxl : x < W
        · have hro := row_le (W := H) hxl
          obtain ⟨q, hq⟩ : ∃ q, x * H = q := ⟨_, rfl⟩
          have hql : q + H ≤ l.length := by rw [← hq, HLEN.out, Nat.mul_comm W H]; exact hro
          have hfa := transF_at l W H y x hlt
          have hstep := fun i => transD_step H y x i hlt
          rw [hq] at hfa
          simp only [hq] at hstep
          have HQ := Lib.hid hq; clear hq hro
          have HFA := Lib.hid hfa; clear hfa
          have HST := Lib.hid hstep; clear hstep
          have hrow2 := fun w => row_any nm W H l.length c o ad y w hW.1 HO.out hol hcap hbig (by omega)
          have hrow1 := fun w => row_blk nm H W l.length l.length q g x w hH.1 HQ.out hql (Nat.le_refl _) hbig (by omega)
          have HR2 := Lib.hid hrow2; have HR1 := Lib.hid hrow1
          clear hrow1 hrow2
          have HX5 := Lib.hid hx; have HY5 := Lib.hid hyy; have HF5 := Lib.hid hf; have HX1_5 := HF5; have HX0_5 := HX5; have HG5 := Lib.hid hgm; have HB5 := Lib.hid hbel
          clear hx hyy hf hgm hbel
          have k0_0 := HX0_5.out.cell 0
          have k0_1 := HX0_5.out.cell 1
          have k0_2 := HX0_5.out.cell 2
          have k0_3 := HX0_5.out.cell 3
          simp only [List.getElem?_toArray, List.getElem?_cons_zero, List.getElem?_cons_succ] at k0_0 k0_1 k0_2 k0_3
          have k1_0 := HX1_5.out.cell 0
          have k1_1 := HX1_5.out.cell 1
          have k1_2 := HX1_5.out.cell 2
          have k1_3 := HX1_5.out.cell 3
          simp only [List.getElem?_toArray, List.getElem?_cons_zero, List.getElem?_cons_succ] at k1_0 k1_1 k1_2 k1_3
          have hch : Below wo.heap.size wo wo.drew := (Below.refl _ _).drew
          obtain ⟨v, hv⟩ : ∃ v, l.getD (o + x) 0 = v := ⟨_, rfl⟩
          have hc : wo.cell? ((ad.add o).add x) = some (.float .f32 v) := by
            rw [add_of_add, ← hv]
            refine (HB5.out.cell (by rw [block_of_add]; exact hadb)).trans (HAD.out _ _ (fl_get (by omega)))
          have hfa := HFA.out
          rw [HO.out, hv] at hfa
          have hgc := HG5.out.cell (q + y)
          rw [mask_get, if_pos (by omega)] at hgc
          have hset := fun w (h : Blk w g 23 (maskN (transF l W H) (.float .f32 0) l.length (transD H y x))) => h.set_ (q + y) (.float .f32 v)
          rw [← hfa, mask_set (transF l W H) _ _ _ (transD H y (x + 1)) (q + y) (fun i hi => by rw [HST.out i]; exact Bool.or_comm _ _)] at hset
          generalize hvo : (if transD H y x (q + y) = true then transF l W H (q + y) else Value.float .f32 0) = vo at hgc
          have e2 : (0 : Int) ≤ (y : Int) := by omega
          have e3 : (y : Int) < (H : Int) := by omega
          have e4 : (0 : Int) ≤ (x : Int) := by omega
          have e5 : (x : Int) < (W : Int) := by omega
          have HS := Lib.hid hset; have HFA2 := Lib.hid hfa
          clear hset hfa hvo hv
          go_wp2_with fail
          go_region_held3 (fun w' => w'.cell? ⟨w.heap.size, 0, none⟩ = some (.string nm) ∧ w'.cell? ⟨w.heap.size, 1, none⟩ = some (.int .i64 (W : Int)) ∧ w'.cell? ⟨w.heap.size, 2, none⟩ = some (.int .i64 (H : Int)) ∧ w'.cell? ⟨w.heap.size, 3, none⟩ = some (.slice (some ad) l.length c) ∧ w'.cell? ⟨b3, 0, none⟩ = some (.string nm) ∧ w'.cell? ⟨b3, 1, none⟩ = some (.int .i64 (H : Int)) ∧ w'.cell? ⟨b3, 2, none⟩ = some (.int .i64 (W : Int)) ∧ w'.cell? ⟨b3, 3, none⟩ = some (.slice (some ⟨g, 0, none⟩) l.length l.length) ∧ w'.cell? ((ad.add o).add x) = some (.float .f32 v))
            (first | go_keep | (refine ⟨?_, ?_, ?_, ?_, ?_, ?_, ?_, ?_, ?_⟩ <;> (refine cellFar ?_ _ (by assumption); first | (rw [block_of_add, block_of_add]; simp; omega) | (simp; omega))))
            (first
              | (go_at_call 109; (first | (with_reducible refine (HR1.out _).mono ?_) | (with_reducible refine (HR2.out _).mono ?_)); rintro e wn ⟨rfl, hbn⟩; have hch := chainB' (wo := wo) (by assumption) hbn; have k0_0 := cellL hbn (a := ⟨w.heap.size, 0, none⟩) (v := .string nm) (by assumption); have k0_1 := cellL hbn (a := ⟨w.heap.size, 1, none⟩) (v := .int .i64 (W : Int)) (by assumption); have k0_2 := cellL hbn (a := ⟨w.heap.size, 2, none⟩) (v := .int .i64 (H : Int)) (by assumption); have k0_3 := cellL hbn (a := ⟨w.heap.size, 3, none⟩) (v := .slice (some ad) l.length c) (by assumption); have k1_0 := cellL hbn (a := ⟨b3, 0, none⟩) (v := .string nm) (by assumption); have k1_1 := cellL hbn (a := ⟨b3, 1, none⟩) (v := .int .i64 (H : Int)) (by assumption); have k1_2 := cellL hbn (a := ⟨b3, 2, none⟩) (v := .int .i64 (W : Int)) (by assumption); have k1_3 := cellL hbn (a := ⟨b3, 3, none⟩) (v := .slice (some ⟨g, 0, none⟩) l.length l.length) (by assumption); have kc := cellL hbn (a := (ad.add o).add x) (v := .float .f32 v) (by assumption); have kg := cellL hbn (a := ⟨g, q + y, none⟩) (v := vo) (by assumption); have kf := (HG5.out.below hch).frozen (q + y)))
          have HX6 := Lib.hid (HX5.out.below hch); have HY6 := Lib.hid (HY5.out.below hch); have HF6 := Lib.hid (HF5.out.below hch)
          have hs6 := HS.out _ (HG5.out.below hch)
          have HB6 := Lib.hid (HB5.out.trans (hch.mono HB5.out.size))
          rw [HFA2.out] at hs6
          have HS6 := Lib.hid hs6
          clear k0_0 k0_1 k0_2 k0_3 k1_0 k1_1 k1_2 k1_3
          clear hs6 hch hbn kc kg kf
          go_wp2
          go_roundw
          case rel => exact ⟨x + 1, by omega, by go_num, (HX6.out.far (p := ⟨g, q + y, none⟩) (by simp; omega) _), (HY6.out.far (p := ⟨g, q + y, none⟩) (by simp; omega) _), (HF6.out.far (p := ⟨g, q + y, none⟩) (by simp; omega) _), HS6.out, (HB6.out.setCell (p := ⟨g, q + y, none⟩) (by simp; omega) _)⟩
          case measure => simp [intOf]; omega
        · have hxe : x = W := by omega
          subst hxe
          go_wp2
          go_roundw
          case rel =>
            refine ⟨y + 1, by omega, by go_num, hx, hyy, hf, ?_, hbel⟩
            rw [mask_congr (transF l x H) (transF l x H) _ _ _ (fun i => decide (i % H < y + 1)) (fun i hi => transD_end H x y i (by have := HLEN.out; omega)) (fun _ _ _ => rfl)] at hgm
            exact hgm
          case measure => simp [intOf]; omega
    · have hye : y = H := by omega
      subst hye
      obtain ⟨c0, c1, c2, c3⟩ := box4 hf
      obtain ⟨d0, d1, d2, d3⟩ := box4 hyy
      have z0 := hyy.frozen 0
      have z1 := hyy.frozen 1
      have z2 := hyy.frozen 2
      have z3 := hyy.frozen 3
      have HG9 := Lib.hid hgm; have HB9 := Lib.hid hbel
      clear hx hyy hf hgm hbel
      go_wp2
      refine bodyPost_ret (v := .tuple #[.agg #[.string nm, .int .i64 (y : Int), .int .i64 (W : Int), .slice (some ⟨g, 0, none⟩) l.length l.length], .int .i64 0]) (by simp [results, Tryz.results47, go_sem, d0, d1, d2, d3]) rfl ⟨g, rfl, ?_, ?_⟩
      · have h := HG9.out
        rw [mask_congr (transF l W y) (transF l W y) _ _ _ (fun _ => true) (fun i hi => by have := Nat.mod_lt i (show 0 < y by omega); simp; omega) (fun _ _ _ => rfl)] at h
        exact (((h.far (p := ⟨w.heap.size + 1, 0, none⟩) (by simp; omega) _).far (p := ⟨w.heap.size + 1, 1, none⟩) (by simp; omega) _).far (p := ⟨w.heap.size + 1, 2, none⟩) (by simp; omega) _).far (p := ⟨w.heap.size + 1, 3, none⟩) (by simp; omega) _
      · exact (((HB9.out.setCell (p := ⟨w.heap.size + 1, 0, none⟩) (by simp) _).setCell (p := ⟨w.heap.size + 1, 1, none⟩) (by simp) _).setCell (p := ⟨w.heap.size + 1, 2, none⟩) (by simp) _).setCell (p := ⟨w.heap.size + 1, 3, none⟩) (by simp) _

end Go.Proofs.YtkjkjhheckfhbaaGreatDoor
