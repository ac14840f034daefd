/- Parts of a proof: Two pictures beside each other. Two lists compared. -/
import Derived.Test.YtkjkjhheckfhbaaGreatDoorP0
namespace Go.Proofs.YtkjkjhheckfhbaaGreatDoor
open Go.RowKit
set_option linter.unusedVariables false
attribute [local go_sem] run_store_float run_store_complex
def besideF (l k : List Nat) (W V M : Nat) (i : Nat) : Value := if i % M < W then .float .f32 (l.getD (i / M * W + i % M) 0) else .float .f32 (k.getD (i / M * V + (i % M - W)) 0)
theorem divmod_at2 (M o x y : Nat) (hy : y < M) (ho : x * M = o) : (o + y) / M = x ∧ (o + y) % M = y := by
  rw [← ho, Nat.mul_comm]
  exact ⟨by rw [Nat.mul_add_div (by omega), Nat.div_eq_of_lt hy]; rfl, by rw [Nat.mul_add_mod, Nat.mod_eq_of_lt hy]⟩
theorem besideF_l {l k : List Nat} {W V M y o q j : Nat} (hM : W + V = M) (ho : y * M = o) (hq : y * W = q) (hj : j < W) : besideF l k W V M (o + j) = .float .f32 (l.getD (q + j) 0) := by
  obtain ⟨h1, h2⟩ := divmod_at2 M o y j (by omega) ho
  unfold besideF
  rw [h1, h2, if_pos hj, hq]
theorem besideF_r {l k : List Nat} {W V M y o r j : Nat} (hM : W + V = M) (ho : y * M = o) (hr : y * V = r) (hj : j < V) : besideF l k W V M (o + W + j) = .float .f32 (k.getD (r + j) 0) := by
  obtain ⟨h1, h2⟩ := divmod_at2 M o y (W + j) (by omega) ho
  unfold besideF
  rw [Nat.add_assoc, h1, h2, if_neg (by omega), hr, show W + j - W = j by omega]
set_option maxRecDepth 100000 in
set_option maxHeartbeats 2000000 in
theorem beside_ok (nm nm2 : ByteArray) (W V H M : Nat) (hM : W + V = M) (l k : List Nat) (hp : (Pic.mk nm W H l).Ok) (he : (Pic.mk nm W H l).err = 0) (hp2 : (Pic.mk nm2 V H k).Ok) (he2 : (Pic.mk nm2 V H k).err = 0) (hWV : M ≤ 64) (A A2 : Option Addr) (c c2 : Nat) (w : World) (hs : nm.size ≤ maxLen) (hs2 : nm2.size ≤ maxLen) (hcap : l.length ≤ c) (hcap2 : k.length ≤ c2) (hr : Rd w A (fl l)) (hr2 : Rd w A2 (fl k)) :
    Calls Tryz.prog 40 #[.agg #[.string nm, .int .i64 (W : Int), .int .i64 (H : Int), .slice A l.length c], .agg #[.string nm2, .int .i64 (V : Int), .int .i64 (H : Int), .slice A2 k.length c2]] w fun e w' => ∃ g, e = .returned (.tuple #[.agg #[.string nm, .int .i64 (M : Int), .int .i64 (H : Int), .slice (some ⟨g, 0, none⟩) (M * H) (M * H)], .int .i64 0]) ∧ Blk w' g 23 (maskN (besideF l k W V M) (.float .f32 0) (M * H) (fun _ => true)) ∧ Below w.heap.size w w' := by
  have hW : 1 ≤ W ∧ W ≤ 64 := by have h1 := hp.w1; have h2 := hp.w2; simp at h1 h2; omega
  have hV : 1 ≤ V ∧ V ≤ 64 := by have h1 := hp2.w1; have h2 := hp2.w2; simp at h1 h2; omega
  have hH : 1 ≤ H ∧ H ≤ 64 := by have h1 := hp.h1; have h2 := hp.h2; simp at h1 h2; omega
  have hlen : l.length = W * H := by have h1 := hp.len; simp only [] at h1; exact_mod_cast h1
  have hlen2 : k.length = V * H := by have h1 := hp2.len; simp only [] at h1; exact_mod_cast h1
  have hbig : l.length ≤ 4096 := hp.big
  have hbig2 : k.length ≤ 4096 := hp2.big
  have hpos : 0 < (fl l).length := by have := prod_pos hW.1 hH.1; simp [fl]; omega
  have hpos2 : 0 < (fl k).length := by have := prod_pos hV.1 hH.1; simp [fl]; omega
  obtain ⟨ad, rfl, hadb, hadc⟩ := hr.some_ hpos
  obtain ⟨ad2, rfl, hadb2, hadc2⟩ := hr2.some_ hpos2
  have HAD := Lib.hid hadc; have HAD2 := Lib.hid hadc2; clear hadc hadc2 hpos hpos2
  have HR := Lib.hid hr; have HE := Lib.hid he
  have HRb := Lib.hid hr2; have HE2 := Lib.hid he2
  have HLEN := Lib.hid hlen; have HLEN2 := Lib.hid hlen2
  clear hr hp he hlen hr2 hp2 he2 hlen2
  have hl : l.length ≤ maxLen := Nat.le_trans hbig (by decide)
  have hl2 : k.length ≤ maxLen := Nat.le_trans hbig2 (by decide)
  have hcp := fun w hr => checkPicture_any (Pic.mk nm W H l) (some ad) c w hs hl hr
  have hcp2 := fun w hr => checkPicture_any (Pic.mk nm2 V H k) (some ad2) c2 w hs2 hl2 hr
  rw [HE.out] at hcp
  rw [HE2.out] at hcp2
  simp only [Pic.val] at hcp hcp2
  have HCP := Lib.hid hcp; have HCP2 := Lib.hid hcp2; clear hcp hcp2 hl hl2 hs hs2
  have hsum : IntKind.i64.wrap ((W : Int) + (V : Int)) = (M : Int) := by rw [IntWalk.i64_in _ (by omega)]; omega
  have hdec : decide ((64 : Int) < (M : Int)) = false := by simp; omega
  go_enter Tryz.func40, Tryz.ntmps40
  go_wp2_with fail
  have hx0 := (((Blk.new w 50 #[.string nm, .int .i64 (W : Int), .int .i64 (H : Int), .slice (some ad) l.length c]).alloc (.cells #[.string nm2, .int .i64 (V : Int), .int .i64 (H : Int), .slice (some ad2) k.length c2] 50)).alloc (.cells #[.string ⟨#[]⟩, .int .i64 0, .int .i64 0, .slice none 0 0] 50))
  have hx1 := ((Blk.new (w.alloc (.cells #[.string nm, .int .i64 (W : Int), .int .i64 (H : Int), .slice (some ad) l.length c] 50)) 50 #[.string nm2, .int .i64 (V : Int), .int .i64 (H : Int), .slice (some ad2) k.length c2]).alloc (.cells #[.string ⟨#[]⟩, .int .i64 0, .int .i64 0, .slice none 0 0] 50))
  simp only [World.size_alloc] at hx1
  have hx2 := (Blk.new ((w.alloc (.cells #[.string nm, .int .i64 (W : Int), .int .i64 (H : Int), .slice (some ad) l.length c] 50)).alloc (.cells #[.string nm2, .int .i64 (V : Int), .int .i64 (H : Int), .slice (some ad2) k.length c2] 50)) 50 #[.string ⟨#[]⟩, .int .i64 0, .int .i64 0, .slice none 0 0])
  simp only [World.size_alloc] at hx2
  have hb0 := ((((Below.refl w.heap.size w).alloc (Nat.le_refl _) (.cells #[.string nm, .int .i64 (W : Int), .int .i64 (H : Int), .slice (some ad) l.length c] 50)).alloc (by simp only [World.size_alloc]; omega) (.cells #[.string nm2, .int .i64 (V : Int), .int .i64 (H : Int), .slice (some ad2) k.length c2] 50)).alloc (by simp only [World.size_alloc]; omega) (.cells #[.string ⟨#[]⟩, .int .i64 0, .int .i64 0, .slice none 0 0] 50))
  generalize (((w.alloc (.cells #[.string nm, .int .i64 (W : Int), .int .i64 (H : Int), .slice (some ad) l.length c] 50)).alloc (.cells #[.string nm2, .int .i64 (V : Int), .int .i64 (H : Int), .slice (some ad2) k.length c2] 50)).alloc (.cells #[.string ⟨#[]⟩, .int .i64 0, .int .i64 0, .slice none 0 0] 50)) = w0 at hx0 hx1 hx2 hb0 ⊢
  have HX0_0 := Lib.hid hx0
  have HX1_0 := Lib.hid hx1
  have HX2_0 := Lib.hid hx2
  have HB_0 := Lib.hid hb0
  clear hx0 hx1 hx2 hb0
  have k0_0 := HX0_0.out.cell 0
  have k0_1 := HX0_0.out.cell 1
  have k0_2 := HX0_0.out.cell 2
  have k0_3 := HX0_0.out.cell 3
  simp only [List.getElem?_toArray, List.getElem?_cons_zero, List.getElem?_cons_succ] at k0_0 k0_1 k0_2 k0_3
  have k1_0 := HX1_0.out.cell 0
  have k1_1 := HX1_0.out.cell 1
  have k1_2 := HX1_0.out.cell 2
  have k1_3 := HX1_0.out.cell 3
  simp only [List.getElem?_toArray, List.getElem?_cons_zero, List.getElem?_cons_succ] at k1_0 k1_1 k1_2 k1_3
  have hch : Below w0.heap.size w0 w0.drew := (Below.refl _ _).drew
  go_region_held3 (fun w' => w'.cell? ⟨w.heap.size, 0, none⟩ = some (.string nm) ∧ w'.cell? ⟨w.heap.size, 1, none⟩ = some (.int .i64 (W : Int)) ∧ w'.cell? ⟨w.heap.size, 2, none⟩ = some (.int .i64 (H : Int)) ∧ w'.cell? ⟨w.heap.size, 3, none⟩ = some (.slice (some ad) l.length c) ∧ w'.cell? ⟨w.heap.size + 1, 0, none⟩ = some (.string nm2) ∧ w'.cell? ⟨w.heap.size + 1, 1, none⟩ = some (.int .i64 (V : Int)) ∧ w'.cell? ⟨w.heap.size + 1, 2, none⟩ = some (.int .i64 (H : Int)) ∧ w'.cell? ⟨w.heap.size + 1, 3, none⟩ = some (.slice (some ad2) k.length c2))
    (go_keep)
    (first
      | (go_at_call 37; (first | (with_reducible refine (HCP.out _ (by exact HR.out.below (HB_0.out.trans ((chainB' hch (Below.refl _ _)).mono HB_0.out.size)))).mono ?_) | (with_reducible refine (HCP2.out _ (by exact HRb.out.below (HB_0.out.trans ((chainB' hch (Below.refl _ _)).mono HB_0.out.size)))).mono ?_)); rintro e wn ⟨rfl, hbn⟩; have hch := chainB' (wo := w0) (by assumption) hbn; have k0_0 := cellL hbn (a := ⟨w.heap.size, 0, none⟩) (v := .string nm) (by assumption); have k0_1 := cellL hbn (a := ⟨w.heap.size, 1, none⟩) (v := .int .i64 (W : Int)) (by assumption); have k0_2 := cellL hbn (a := ⟨w.heap.size, 2, none⟩) (v := .int .i64 (H : Int)) (by assumption); have k0_3 := cellL hbn (a := ⟨w.heap.size, 3, none⟩) (v := .slice (some ad) l.length c) (by assumption); have k1_0 := cellL hbn (a := ⟨w.heap.size + 1, 0, none⟩) (v := .string nm2) (by assumption); have k1_1 := cellL hbn (a := ⟨w.heap.size + 1, 1, none⟩) (v := .int .i64 (V : Int)) (by assumption); have k1_2 := cellL hbn (a := ⟨w.heap.size + 1, 2, none⟩) (v := .int .i64 (H : Int)) (by assumption); have k1_3 := cellL hbn (a := ⟨w.heap.size + 1, 3, none⟩) (v := .slice (some ad2) k.length c2) (by assumption))
      | (go_at_call 104; refine (errorIf_any _ _ _).mono ?_; rintro e wn ⟨rfl, rfl⟩)
      | (go_at_call 97; refine (first_n _ _ _ [0, 0, errIf _ 2, errIf _ 5] _ rfl (by simp [maxLen]) (by exact rd_of_blk (Blk.new _ _ _) rfl)).mono ?_; rintro e wn ⟨rfl, rfl⟩))
  have hN : M * H ≤ 4096 := Nat.le_trans (Nat.mul_le_mul hWV hH.2) (by decide)
  go_wp2_with fail
  have hch := chainB' hch ((Below.refl _ _).alloc (Nat.le_refl _) (.cells #[.int .i64 0, .int .i64 0, .int .i64 (errIf false 2), .int .i64 (errIf false 5)] 26))
  refine (blank_any nm M H (M * H) _ rfl hN).mono ?_
  rintro e w2 ⟨g, rfl, hg, hgb, hb2⟩
  have hch := chainB' hch hb2
  have HX0_2 := Lib.hid (HX0_0.out.below hch)
  have HX1_2 := Lib.hid (HX1_0.out.below hch)
  have HX2_2 := Lib.hid (HX2_0.out.below hch)
  have HB_2 := Lib.hid (HB_0.out.trans (hch.mono HB_0.out.size))
  have HG2 := Lib.hid hgb
  have hgl : w.heap.size + 1 + 1 < g := Nat.lt_of_lt_of_le (HX2_0.out.below (by assumption : Below w0.heap.size w0 wn)).lt (Nat.le_trans (by simp) hg)
  have hzg : g < w2.heap.size := HG2.out.lt
  have hz : w.heap.size < w2.heap.size ∧ w.heap.size + 1 < w2.heap.size ∧ w.heap.size + 1 + 1 < w2.heap.size := by have := HX2_2.out.lt; omega
  obtain ⟨z0, z1, z2⟩ := hz
  clear hb2 hgb hch hg hsum hdec
  clear k0_0 k0_1 k0_2 k0_3 k1_0 k1_1 k1_2 k1_3
  have k0_0 := HX0_2.out.cell 0
  have k0_1 := HX0_2.out.cell 1
  have k0_2 := HX0_2.out.cell 2
  have k0_3 := HX0_2.out.cell 3
  simp only [List.getElem?_toArray, List.getElem?_cons_zero, List.getElem?_cons_succ] at k0_0 k0_1 k0_2 k0_3
  have k1_0 := HX1_2.out.cell 0
  have k1_1 := HX1_2.out.cell 1
  have k1_2 := HX1_2.out.cell 2
  have k1_3 := HX1_2.out.cell 3
  simp only [List.getElem?_toArray, List.getElem?_cons_zero, List.getElem?_cons_succ] at k1_0 k1_1 k1_2 k1_3
  go_wp2_with fail
  have hx3 := HX0_2.out.alloc (.cells #[.string nm, .int .i64 (M : Int), .int .i64 (H : Int), .slice (some ⟨g, 0, none⟩) (M * H) (M * H)] 50)
  have hx4 := HX1_2.out.alloc (.cells #[.string nm, .int .i64 (M : Int), .int .i64 (H : Int), .slice (some ⟨g, 0, none⟩) (M * H) (M * H)] 50)
  have hx5 := HX2_2.out.alloc (.cells #[.string nm, .int .i64 (M : Int), .int .i64 (H : Int), .slice (some ⟨g, 0, none⟩) (M * H) (M * H)] 50)
  have hg3 := HG2.out.alloc (.cells #[.string nm, .int .i64 (M : Int), .int .i64 (H : Int), .slice (some ⟨g, 0, none⟩) (M * H) (M * H)] 50)
  have hf3 := Blk.new w2 50 #[.string nm, .int .i64 (M : Int), .int .i64 (H : Int), .slice (some ⟨g, 0, none⟩) (M * H) (M * H)]
  have hb3 := HB_2.out.alloc HB_2.out.size (.cells #[.string nm, .int .i64 (M : Int), .int .i64 (H : Int), .slice (some ⟨g, 0, none⟩) (M * H) (M * H)] 50)
  clear k0_0 k0_1 k0_2 k0_3 k1_0 k1_1 k1_2 k1_3
  obtain ⟨b3, hb3e⟩ : ∃ b, w2.heap.size = b := ⟨_, rfl⟩
  rw [hb3e] at hf3 z0 z1 z2 hzg ⊢
  clear hb3e
  generalize w2.alloc (.cells #[.string nm, .int .i64 (M : Int), .int .i64 (H : Int), .slice (some ⟨g, 0, none⟩) (M * H) (M * H)] 50) = w3 at hx3 hx4 hx5 hg3 hf3 hb3 ⊢
  have HX0_3 := Lib.hid hx3; have HX1_3 := Lib.hid hx4; have HX2_3 := Lib.hid hx5; have HG3 := Lib.hid hg3; have HF3 := Lib.hid hf3; have HB_3 := Lib.hid hb3
  clear hx3 hx4 hx5 hg3 hf3 hb3
  clear HX0_0 HX1_0 HX2_0 HX0_2 HX1_2 HX2_2 HG2 HB_0 HB_2 HCP HCP2 HR HRb HE HE2
  go_loopw [44] (fun i wr => ∃ y : Nat, y ≤ H ∧ i = .int .i64 y ∧ Blk wr (w.heap.size) 50 #[.string nm, .int .i64 (W : Int), .int .i64 (H : Int), .slice (some ad) l.length c] ∧ Blk wr (w.heap.size + 1) 50 #[.string nm2, .int .i64 (V : Int), .int .i64 (H : Int), .slice (some ad2) k.length c2] ∧ Blk wr (w.heap.size + 1 + 1) 50 #[.string ⟨#[]⟩, .int .i64 0, .int .i64 0, .slice none 0 0] ∧ Blk wr b3 50 #[.string nm, .int .i64 (M : Int), .int .i64 (H : Int), .slice (some ⟨g, 0, none⟩) (M * H) (M * H)] ∧ Blk wr g 23 (maskN (besideF l k W V M) (.float .f32 0) (M * H) (fun i => decide (i < y * M))) ∧ Below w.heap.size w wr) (fun i _ => H - (intOf i).toNat)
  case atStart =>
    refine ⟨0, by omega, rfl, HX0_3.out, HX1_3.out, HX2_3.out, HF3.out, ?_, HB_3.out⟩
    have h := HG3.out
    rw [fill_mask, mask_congr (fun _ => .float .f32 0) (besideF l k W V M) _ _ _ (fun i => decide (i < 0 * M)) (by simp) (by simp)] at h
    exact h
  case round =>
    obtain ⟨y, hy, rfl, hx0, hx1, hx2, hx3, hgm, hbel⟩ := hrel
    obtain ⟨wo, rfl⟩ : ∃ wo : World, wo = wr := ⟨_, rfl⟩
    by_cases hlt : y < H
    · have hro := row_le (W := M) hlt
      have hrs := row_le (W := W) hlt
      have hrv := row_le (W := V) hlt
      obtain ⟨o, ho⟩ : ∃ o, y * M = o := ⟨_, rfl⟩
      obtain ⟨q, hq⟩ : ∃ q, y * W = q := ⟨_, rfl⟩
      obtain ⟨r, hr⟩ : ∃ r, y * V = r := ⟨_, rfl⟩
      have hol : o + M ≤ M * H := by rw [← ho]; exact hro
      have hql : q + W ≤ l.length := by rw [← hq, HLEN.out]; exact hrs
      have hrl : r + V ≤ k.length := by rw [← hr, HLEN2.out]; exact hrv
      have HO := Lib.hid ho; have HQ := Lib.hid hq; have HRR := Lib.hid hr; clear ho hq hr hro hrs hrv
      have HX0_4 := Lib.hid hx0; have HX1_4 := Lib.hid hx1; have HX2_4 := Lib.hid hx2; have HX3_4 := Lib.hid hx3; have HG := Lib.hid hgm; have HB_4 := Lib.hid hbel
      clear hx0 hx1 hx2 hx3 hgm hbel
      have hrow1 := fun w => row_blk nm M H (M * H) (M * H) o g y w (by omega) HO.out hol (Nat.le_refl _) hN (by omega)
      have hrow2 := fun w => row_any nm W H l.length c q ad y w hW.1 HQ.out hql hcap hbig (by omega)
      have hrow3 := fun w => row_any nm2 V H k.length c2 r ad2 y w hV.1 HRR.out hrl hcap2 hbig2 (by omega)
      have HR1 := Lib.hid hrow1; have HR2 := Lib.hid hrow2; have HR3 := Lib.hid hrow3
      clear hrow1 hrow2 hrow3
      obtain ⟨cs1, hcs⟩ : ∃ cs, (List.range W).map (fun j => besideF l k W V M (o + j)) = cs := ⟨_, rfl⟩
      have hcl : cs1.length = W := by rw [← hcs]; simp
      have hcg : ∀ j, j < cs1.length → cs1[j]? = some (besideF l k W V M (o + j)) := fun j hj => by rw [← hcs]; rw [hcl] at hj; simp [hj]
      have hone : ∀ v ∈ cs1, v.oneCell' = true := fun v hv => by
        obtain ⟨j, hj, rfl⟩ := List.getElem_of_mem hv
        have h := hcg j hj
        rw [List.getElem?_eq_getElem hj] at h
        rw [hcl] at hj
        rw [Option.some.inj h, besideF_l hM HO.out HQ.out hj]
        rfl
      have hnew := mask_copy (besideF l k W V M) (.float .f32 0) (M * H) (fun i => decide (i < y * M)) (fun i => decide (i < o + W)) (o) cs1 (by omega) hcg (fun i hi => by rw [HO.out]; rw [hcl, Bool.eq_iff_iff]; simp; omega)
      have hsrc : ∀ j v, cs1[j]? = some v → w.cell? ((ad.add q).add j) = some v := fun j v hj => by
        have hj1 : j < cs1.length := (List.getElem?_eq_some_iff.1 hj).1
        rw [hcg j hj1] at hj
        cases hj
        rw [hcl] at hj1
        rw [add_of_add, HAD.out _ _ (fl_get (by omega)), besideF_l hM HO.out HQ.out hj1]
      have HN1 := Lib.hid hnew; have HSRC1 := Lib.hid hsrc; have HONE1 := Lib.hid hone; have HCL1 := Lib.hid hcl
      clear hnew hsrc hone hcl hcg hcs
      obtain ⟨cs2, hcs⟩ : ∃ cs, (List.range V).map (fun j => besideF l k W V M (o + W + j)) = cs := ⟨_, rfl⟩
      have hcl : cs2.length = V := by rw [← hcs]; simp
      have hcg : ∀ j, j < cs2.length → cs2[j]? = some (besideF l k W V M (o + W + j)) := fun j hj => by rw [← hcs]; rw [hcl] at hj; simp [hj]
      have hone : ∀ v ∈ cs2, v.oneCell' = true := fun v hv => by
        obtain ⟨j, hj, rfl⟩ := List.getElem_of_mem hv
        have h := hcg j hj
        rw [List.getElem?_eq_getElem hj] at h
        rw [hcl] at hj
        rw [Option.some.inj h, besideF_r hM HO.out HRR.out hj]
        rfl
      have hnew := mask_copy (besideF l k W V M) (.float .f32 0) (M * H) (fun i => decide (i < o + W)) (fun i => decide (i < (y + 1) * M)) (o + W) cs2 (by omega) hcg (fun i hi => by rw [Nat.add_mul, Nat.one_mul, HO.out]; rw [hcl, Bool.eq_iff_iff]; simp; omega)
      have hsrc : ∀ j v, cs2[j]? = some v → w.cell? ((ad2.add r).add j) = some v := fun j v hj => by
        have hj1 : j < cs2.length := (List.getElem?_eq_some_iff.1 hj).1
        rw [hcg j hj1] at hj
        cases hj
        rw [hcl] at hj1
        rw [add_of_add, HAD2.out _ _ (fl_get (by omega)), besideF_r hM HO.out HRR.out hj1]
      have HN2 := Lib.hid hnew; have HSRC2 := Lib.hid hsrc; have HONE2 := Lib.hid hone; have HCL2 := Lib.hid hcl
      clear hnew hsrc hone hcl hcg hcs
      have k0_0 := HX0_4.out.cell 0
      have k0_1 := HX0_4.out.cell 1
      have k0_2 := HX0_4.out.cell 2
      have k0_3 := HX0_4.out.cell 3
      simp only [List.getElem?_toArray, List.getElem?_cons_zero, List.getElem?_cons_succ] at k0_0 k0_1 k0_2 k0_3
      have k1_0 := HX1_4.out.cell 0
      have k1_1 := HX1_4.out.cell 1
      have k1_2 := HX1_4.out.cell 2
      have k1_3 := HX1_4.out.cell 3
      simp only [List.getElem?_toArray, List.getElem?_cons_zero, List.getElem?_cons_succ] at k1_0 k1_1 k1_2 k1_3
      have k3_0 := HX3_4.out.cell 0
      have k3_1 := HX3_4.out.cell 1
      have k3_2 := HX3_4.out.cell 2
      have k3_3 := HX3_4.out.cell 3
      simp only [List.getElem?_toArray, List.getElem?_cons_zero, List.getElem?_cons_succ] at k3_0 k3_1 k3_2 k3_3
      have hch : Below wo.heap.size wo wo.drew := (Below.refl _ _).drew
      have i1 : (0 : Int) ≤ (W : Int) := by omega
      have i2 : (W : Int) ≤ (M : Int) := by omega
      have i3 : (M : Int) ≤ ((M * H - o : Nat) : Int) := by omega
      have i4 : W < M * H - o := by omega
      have i5 : W ≤ M := by omega
      go_wp2_with fail
      go_region_held3 (fun w' => w'.cell? ⟨w.heap.size, 0, none⟩ = some (.string nm) ∧ w'.cell? ⟨w.heap.size, 1, none⟩ = some (.int .i64 (W : Int)) ∧ w'.cell? ⟨w.heap.size, 2, none⟩ = some (.int .i64 (H : Int)) ∧ w'.cell? ⟨w.heap.size, 3, none⟩ = some (.slice (some ad) l.length c) ∧ w'.cell? ⟨w.heap.size + 1, 0, none⟩ = some (.string nm2) ∧ w'.cell? ⟨w.heap.size + 1, 1, none⟩ = some (.int .i64 (V : Int)) ∧ w'.cell? ⟨w.heap.size + 1, 2, none⟩ = some (.int .i64 (H : Int)) ∧ w'.cell? ⟨w.heap.size + 1, 3, none⟩ = some (.slice (some ad2) k.length c2) ∧ w'.cell? ⟨b3, 0, none⟩ = some (.string nm) ∧ w'.cell? ⟨b3, 1, none⟩ = some (.int .i64 (M : Int)) ∧ w'.cell? ⟨b3, 2, none⟩ = some (.int .i64 (H : Int)) ∧ w'.cell? ⟨b3, 3, none⟩ = some (.slice (some ⟨g, 0, none⟩) (M * H) (M * H)))
        (go_keep)
        (first
          | (go_at_call 109; (first | (with_reducible refine (HR1.out _).mono ?_) | (with_reducible refine (HR2.out _).mono ?_)); rintro e wn ⟨rfl, hbn⟩; have hch := chainB' (wo := wo) (by assumption) hbn; have k0_0 := cellL hbn (a := ⟨w.heap.size, 0, none⟩) (v := .string nm) (by assumption); have k0_1 := cellL hbn (a := ⟨w.heap.size, 1, none⟩) (v := .int .i64 (W : Int)) (by assumption); have k0_2 := cellL hbn (a := ⟨w.heap.size, 2, none⟩) (v := .int .i64 (H : Int)) (by assumption); have k0_3 := cellL hbn (a := ⟨w.heap.size, 3, none⟩) (v := .slice (some ad) l.length c) (by assumption); have k1_0 := cellL hbn (a := ⟨w.heap.size + 1, 0, none⟩) (v := .string nm2) (by assumption); have k1_1 := cellL hbn (a := ⟨w.heap.size + 1, 1, none⟩) (v := .int .i64 (V : Int)) (by assumption); have k1_2 := cellL hbn (a := ⟨w.heap.size + 1, 2, none⟩) (v := .int .i64 (H : Int)) (by assumption); have k1_3 := cellL hbn (a := ⟨w.heap.size + 1, 3, none⟩) (v := .slice (some ad2) k.length c2) (by assumption); have k3_0 := cellL hbn (a := ⟨b3, 0, none⟩) (v := .string nm) (by assumption); have k3_1 := cellL hbn (a := ⟨b3, 1, none⟩) (v := .int .i64 (M : Int)) (by assumption); have k3_2 := cellL hbn (a := ⟨b3, 2, none⟩) (v := .int .i64 (H : Int)) (by assumption); have k3_3 := cellL hbn (a := ⟨b3, 3, none⟩) (v := .slice (some ⟨g, 0, none⟩) (M * H) (M * H)) (by assumption))
          | (refine upon_copy_blk 41 41 3 23 Tryz.underlying41 info_f32 g o _ _ (ad.add q) _ _ _ 23 (HG.out.below (by assumption)) cs1 (by rw [HCL1.out]; exact (Nat.min_eq_left (by omega)).symm) (by intro j v hj; exact ((HB_4.out.trans ((by assumption : Below wo.heap.size wo _).mono HB_4.out.size)).cell (by rw [block_of_add, block_of_add]; exact hadb)).trans (HSRC1.out j v hj)) (by rw [HCL1.out]; simp [maskN]; omega) HONE1.out _ HN1.out ?_; intro wn2 hbk hon; have k0_0 := hon.cell (p := ⟨w.heap.size, 0, none⟩) (v := .string nm) (by simp; omega) (by assumption); have k0_1 := hon.cell (p := ⟨w.heap.size, 1, none⟩) (v := .int .i64 (W : Int)) (by simp; omega) (by assumption); have k0_2 := hon.cell (p := ⟨w.heap.size, 2, none⟩) (v := .int .i64 (H : Int)) (by simp; omega) (by assumption); have k0_3 := hon.cell (p := ⟨w.heap.size, 3, none⟩) (v := .slice (some ad) l.length c) (by simp; omega) (by assumption); have k1_0 := hon.cell (p := ⟨w.heap.size + 1, 0, none⟩) (v := .string nm2) (by simp; omega) (by assumption); have k1_1 := hon.cell (p := ⟨w.heap.size + 1, 1, none⟩) (v := .int .i64 (V : Int)) (by simp; omega) (by assumption); have k1_2 := hon.cell (p := ⟨w.heap.size + 1, 2, none⟩) (v := .int .i64 (H : Int)) (by simp; omega) (by assumption); have k1_3 := hon.cell (p := ⟨w.heap.size + 1, 3, none⟩) (v := .slice (some ad2) k.length c2) (by simp; omega) (by assumption); have k3_0 := hon.cell (p := ⟨b3, 0, none⟩) (v := .string nm) (by simp; omega) (by assumption); have k3_1 := hon.cell (p := ⟨b3, 1, none⟩) (v := .int .i64 (M : Int)) (by simp; omega) (by assumption); have k3_2 := hon.cell (p := ⟨b3, 2, none⟩) (v := .int .i64 (H : Int)) (by simp; omega) (by assumption); have k3_3 := hon.cell (p := ⟨b3, 3, none⟩) (v := .slice (some ⟨g, 0, none⟩) (M * H) (M * H)) (by simp; omega) (by assumption)))
      have hxs := And.intro (hon.far (HX0_4.out.below hch) (by omega)) (And.intro (hon.far (HX1_4.out.below hch) (by omega)) (And.intro (hon.far (HX2_4.out.below hch) (by omega)) (And.intro (hon.far (HX3_4.out.below hch) (by omega)) (hon.below (HB_4.out.trans (hch.mono HB_4.out.size)) (by omega)))))
      have HX0_5 := Lib.hid hxs.1; have HX1_5 := Lib.hid hxs.2.1; have HX2_5 := Lib.hid hxs.2.2.1; have HX3_5 := Lib.hid hxs.2.2.2.1; have HB_5 := Lib.hid hxs.2.2.2.2
      clear hxs hch hbn hon
      clear k0_0 k0_1 k0_2 k0_3 k1_0 k1_1 k1_2 k1_3 k3_0 k3_1 k3_2 k3_3
      have HG5 := hbk; clear hbk
      obtain ⟨wp, hwp⟩ : ∃ wp : World, wp = wn2 := ⟨_, rfl⟩
      subst hwp
      have k0_0 := HX0_5.out.cell 0
      have k0_1 := HX0_5.out.cell 1
      have k0_2 := HX0_5.out.cell 2
      have k0_3 := HX0_5.out.cell 3
      simp only [List.getElem?_toArray, List.getElem?_cons_zero, List.getElem?_cons_succ] at k0_0 k0_1 k0_2 k0_3
      have k1_0 := HX1_5.out.cell 0
      have k1_1 := HX1_5.out.cell 1
      have k1_2 := HX1_5.out.cell 2
      have k1_3 := HX1_5.out.cell 3
      simp only [List.getElem?_toArray, List.getElem?_cons_zero, List.getElem?_cons_succ] at k1_0 k1_1 k1_2 k1_3
      have k3_0 := HX3_5.out.cell 0
      have k3_1 := HX3_5.out.cell 1
      have k3_2 := HX3_5.out.cell 2
      have k3_3 := HX3_5.out.cell 3
      simp only [List.getElem?_toArray, List.getElem?_cons_zero, List.getElem?_cons_succ] at k3_0 k3_1 k3_2 k3_3
      have hch : Below wp.heap.size wp wp.drew := (Below.refl _ _).drew
      go_wp2_with fail
      go_region_held3 (fun w' => w'.cell? ⟨w.heap.size, 0, none⟩ = some (.string nm) ∧ w'.cell? ⟨w.heap.size, 1, none⟩ = some (.int .i64 (W : Int)) ∧ w'.cell? ⟨w.heap.size, 2, none⟩ = some (.int .i64 (H : Int)) ∧ w'.cell? ⟨w.heap.size, 3, none⟩ = some (.slice (some ad) l.length c) ∧ w'.cell? ⟨w.heap.size + 1, 0, none⟩ = some (.string nm2) ∧ w'.cell? ⟨w.heap.size + 1, 1, none⟩ = some (.int .i64 (V : Int)) ∧ w'.cell? ⟨w.heap.size + 1, 2, none⟩ = some (.int .i64 (H : Int)) ∧ w'.cell? ⟨w.heap.size + 1, 3, none⟩ = some (.slice (some ad2) k.length c2) ∧ w'.cell? ⟨b3, 0, none⟩ = some (.string nm) ∧ w'.cell? ⟨b3, 1, none⟩ = some (.int .i64 (M : Int)) ∧ w'.cell? ⟨b3, 2, none⟩ = some (.int .i64 (H : Int)) ∧ w'.cell? ⟨b3, 3, none⟩ = some (.slice (some ⟨g, 0, none⟩) (M * H) (M * H)))
        (go_keep)
        (first
          | (go_at_call 109; (first | (with_reducible refine (HR1.out _).mono ?_) | (with_reducible refine (HR3.out _).mono ?_)); rintro e wn ⟨rfl, hbn⟩; have hch := chainB' (wo := wp) (by assumption) hbn; have k0_0 := cellL hbn (a := ⟨w.heap.size, 0, none⟩) (v := .string nm) (by assumption); have k0_1 := cellL hbn (a := ⟨w.heap.size, 1, none⟩) (v := .int .i64 (W : Int)) (by assumption); have k0_2 := cellL hbn (a := ⟨w.heap.size, 2, none⟩) (v := .int .i64 (H : Int)) (by assumption); have k0_3 := cellL hbn (a := ⟨w.heap.size, 3, none⟩) (v := .slice (some ad) l.length c) (by assumption); have k1_0 := cellL hbn (a := ⟨w.heap.size + 1, 0, none⟩) (v := .string nm2) (by assumption); have k1_1 := cellL hbn (a := ⟨w.heap.size + 1, 1, none⟩) (v := .int .i64 (V : Int)) (by assumption); have k1_2 := cellL hbn (a := ⟨w.heap.size + 1, 2, none⟩) (v := .int .i64 (H : Int)) (by assumption); have k1_3 := cellL hbn (a := ⟨w.heap.size + 1, 3, none⟩) (v := .slice (some ad2) k.length c2) (by assumption); have k3_0 := cellL hbn (a := ⟨b3, 0, none⟩) (v := .string nm) (by assumption); have k3_1 := cellL hbn (a := ⟨b3, 1, none⟩) (v := .int .i64 (M : Int)) (by assumption); have k3_2 := cellL hbn (a := ⟨b3, 2, none⟩) (v := .int .i64 (H : Int)) (by assumption); have k3_3 := cellL hbn (a := ⟨b3, 3, none⟩) (v := .slice (some ⟨g, 0, none⟩) (M * H) (M * H)) (by assumption))
          | (refine upon_copy_blk 41 41 3 23 Tryz.underlying41 info_f32 g (o + W) _ _ (ad2.add r) _ _ _ 23 (HG5.out.below (by assumption)) cs2 (by rw [HCL2.out]; exact (Nat.min_eq_left (by omega)).symm) (by intro j v hj; exact ((HB_5.out.trans ((by assumption : Below wp.heap.size wp _).mono HB_5.out.size)).cell (by rw [block_of_add, block_of_add]; exact hadb2)).trans (HSRC2.out j v hj)) (by rw [HCL2.out]; simp [maskN]; omega) HONE2.out _ HN2.out ?_; intro wn2 hbk hon; have k0_0 := hon.cell (p := ⟨w.heap.size, 0, none⟩) (v := .string nm) (by simp; omega) (by assumption); have k0_1 := hon.cell (p := ⟨w.heap.size, 1, none⟩) (v := .int .i64 (W : Int)) (by simp; omega) (by assumption); have k0_2 := hon.cell (p := ⟨w.heap.size, 2, none⟩) (v := .int .i64 (H : Int)) (by simp; omega) (by assumption); have k0_3 := hon.cell (p := ⟨w.heap.size, 3, none⟩) (v := .slice (some ad) l.length c) (by simp; omega) (by assumption); have k1_0 := hon.cell (p := ⟨w.heap.size + 1, 0, none⟩) (v := .string nm2) (by simp; omega) (by assumption); have k1_1 := hon.cell (p := ⟨w.heap.size + 1, 1, none⟩) (v := .int .i64 (V : Int)) (by simp; omega) (by assumption); have k1_2 := hon.cell (p := ⟨w.heap.size + 1, 2, none⟩) (v := .int .i64 (H : Int)) (by simp; omega) (by assumption); have k1_3 := hon.cell (p := ⟨w.heap.size + 1, 3, none⟩) (v := .slice (some ad2) k.length c2) (by simp; omega) (by assumption); have k3_0 := hon.cell (p := ⟨b3, 0, none⟩) (v := .string nm) (by simp; omega) (by assumption); have k3_1 := hon.cell (p := ⟨b3, 1, none⟩) (v := .int .i64 (M : Int)) (by simp; omega) (by assumption); have k3_2 := hon.cell (p := ⟨b3, 2, none⟩) (v := .int .i64 (H : Int)) (by simp; omega) (by assumption); have k3_3 := hon.cell (p := ⟨b3, 3, none⟩) (v := .slice (some ⟨g, 0, none⟩) (M * H) (M * H)) (by simp; omega) (by assumption)))
      have hxs := And.intro (hon.far (HX0_5.out.below hch) (by omega)) (And.intro (hon.far (HX1_5.out.below hch) (by omega)) (And.intro (hon.far (HX2_5.out.below hch) (by omega)) (And.intro (hon.far (HX3_5.out.below hch) (by omega)) (hon.below (HB_5.out.trans (hch.mono HB_5.out.size)) (by omega)))))
      have HX0_6 := Lib.hid hxs.1; have HX1_6 := Lib.hid hxs.2.1; have HX2_6 := Lib.hid hxs.2.2.1; have HX3_6 := Lib.hid hxs.2.2.2.1; have HB_6 := Lib.hid hxs.2.2.2.2
      clear hxs hch hbn hon
      clear k0_0 k0_1 k0_2 k0_3 k1_0 k1_1 k1_2 k1_3 k3_0 k3_1 k3_2 k3_3
      have HG6 := hbk; clear hbk
      go_wp2
      go_roundw
      case rel => exact ⟨y + 1, by omega, by go_num, HX0_6.out, HX1_6.out, HX2_6.out, HX3_6.out, HG6.out, HB_6.out⟩
      case measure => simp [intOf]; omega
    · have hye : y = H := by omega
      subst hye
      obtain ⟨c0, c1, c2, c3⟩ := box4 hx3
      obtain ⟨d0, d1, d2, d3⟩ := box4 hx2
      have z0 := hx2.frozen 0
      have z1 := hx2.frozen 1
      have z2 := hx2.frozen 2
      have z3 := hx2.frozen 3
      have HG9 := Lib.hid hgm; have HB9 := Lib.hid hbel
      clear hx0 hx1 hx2 hx3 hgm hbel
      go_wp2
      refine bodyPost_ret (v := .tuple #[.agg #[.string nm, .int .i64 (M : Int), .int .i64 (y : Int), .slice (some ⟨g, 0, none⟩) (M * y) (M * y)], .int .i64 0]) (by simp [results, Tryz.results40, go_sem, d0, d1, d2, d3]) rfl ⟨g, rfl, ?_, ?_⟩
      · have h := HG9.out
        rw [mask_congr (besideF l k W V M) (besideF l k W V M) _ _ _ (fun _ => true) (fun i hi => by rw [Nat.mul_comm] at hi; simp; omega) (fun _ _ _ => rfl)] at h
        exact (((h.far (p := ⟨w.heap.size + 1 + 1, 0, none⟩) (by simp; omega) _).far (p := ⟨w.heap.size + 1 + 1, 1, none⟩) (by simp; omega) _).far (p := ⟨w.heap.size + 1 + 1, 2, none⟩) (by simp; omega) _).far (p := ⟨w.heap.size + 1 + 1, 3, none⟩) (by simp; omega) _
      · exact (((HB9.out.setCell (p := ⟨w.heap.size + 1 + 1, 0, none⟩) (by simp; omega) _).setCell (p := ⟨w.heap.size + 1 + 1, 1, none⟩) (by simp; omega) _).setCell (p := ⟨w.heap.size + 1 + 1, 2, none⟩) (by simp; omega) _).setCell (p := ⟨w.heap.size + 1 + 1, 3, none⟩) (by simp; omega) _

end Go.Proofs.YtkjkjhheckfhbaaGreatDoor
namespace Go.Proofs.YtkjkjhheckfhbaaGreatDoor
open Go.RowKit
set_option linter.unusedVariables false
attribute [local go_sem] run_store_float run_store_complex
def sameI (l k : List Int) : Bool := decide (l = k)
theorem take_next {α : Type} {l k : List α} {i : Nat} (hl : i < l.length) (hk : i < k.length) (h : l.take i = k.take i) (he : l[i] = k[i]) : l.take (i + 1) = k.take (i + 1) := by
  rw [List.take_succ_eq_append_getElem hl, List.take_succ_eq_append_getElem hk, h, he]
set_option maxRecDepth 100000 in
theorem sameInts_any (A B : Option Addr) (c d : Nat) (l k : List Int) (w : World) (hl : l.length ≤ maxLen) (hl2 : k.length ≤ maxLen) (hr : Rd w A (l.map (.int .i64))) (hr2 : Rd w B (k.map (.int .i64))) :
    Calls Tryz.prog 23 #[.slice A l.length c, .slice B k.length d] w fun e w' => e = .returned (.bool (sameI l k)) ∧ Below w.heap.size w w' := by
  unfold maxLen at hl hl2
  have HRa := Lib.hid hr; have HRb := Lib.hid hr2; clear hr hr2
  by_cases hlen : l.length = k.length
  · obtain ⟨n, hn⟩ : ∃ n, l.length = n := ⟨_, rfl⟩
    have hm : k.length = n := by rw [← hlen, hn]
    rw [hn, hm]
    have HN := Lib.hid hn; have HM := Lib.hid hm
    have hl' : n ≤ 2 ^ 62 - 1 ∨ True := Or.inr trivial
    rw [hn] at hl
    clear hlen hl2 hl' hn hm
    go_enter Tryz.func23, Tryz.ntmps23
    go_wp2
    go_loopw [5] (fun v wr => ∃ i : Nat, i ≤ n ∧ v = .int .i64 i ∧ RowKit.Hid (l.take i = k.take i) ∧ Below w.heap.size w wr) (fun v _ => n - (intOf v).toNat)
    case atStart => exact ⟨0, by omega, rfl, Lib.hid rfl, Below.refl _ _⟩
    case round =>
      obtain ⟨i, hi, rfl, hpre, hbel⟩ := hrel
      by_cases hlt : i < n
      · have g1 : i < l.length := by rw [HN.out]; exact hlt
        have g2 : i < k.length := by rw [HM.out]; exact hlt
        obtain ⟨ad, rfl, hb1, hc1⟩ := (HRa.out.below hbel).get (k := i) (u := .int .i64 l[i]) (by simp [g1])
        obtain ⟨ad2, rfl, hb2, hc2⟩ := (HRb.out.below hbel).get (k := i) (u := .int .i64 k[i]) (by simp [g2])
        obtain ⟨a, ha⟩ : ∃ a, l[i] = a := ⟨_, rfl⟩
        obtain ⟨b, hb⟩ : ∃ b, k[i] = b := ⟨_, rfl⟩
        rw [ha] at hc1
        rw [hb] at hc2
        have HA := Lib.hid ha; have HBb := Lib.hid hb; have HBE := Lib.hid hbel
        clear ha hb hbel
        by_cases hab : a = b
        · have hab' : (a != b) = false := by simp [hab]
          have HAB := Lib.hid hab; clear hab
          go_wp2_with fail
          go_quiet (fail)
          go_wp2
          go_roundw
          case rel => exact ⟨i + 1, by omega, by go_num, Lib.hid (take_next g1 g2 hpre.out (by rw [HA.out, HBb.out, HAB.out])), by exact below_drewN HBE.out nq⟩
          case measure => simp [intOf]; omega
        · have hab' : (a != b) = true := by simp [hab]
          have HAB := Lib.hid hab; clear hab
          go_wp2_with fail
          go_quiet (fail)
          go_wp2
          go_ret
          exact ⟨ret_bool (by unfold sameI; rw [eq_comm, decide_eq_false_iff_not]; intro he; subst he; exact HAB.out (HA.out.symm.trans HBb.out)), by exact below_drewN HBE.out nq⟩
      · have hie : i = n := by omega
        subst hie
        go_wp2
        go_ret
        refine ⟨ret_bool ?_, hbel⟩
        have h := hpre.out
        rw [List.take_of_length_le (by rw [HN.out]; exact Nat.le_refl _), List.take_of_length_le (by rw [HM.out]; exact Nat.le_refl _)] at h
        simp [sameI, h]
  · have hd : ((l.length : Int) != (k.length : Int)) = true := by simp; omega
    have hs : sameI l k = false := by unfold sameI; rw [decide_eq_false_iff_not]; intro he; subst he; exact hlen rfl
    rw [hs]
    clear hs
    go_enter Tryz.func23, Tryz.ntmps23
    go_wp2
    go_ret
    exact ⟨rfl, Below.refl _ _⟩

/-- equal as float32 numbers: the program's own '!=' at each place -/
def eqF (a b : Nat) : Bool := FloatKind.f32.format.order a b == some .eq
def sameF : List Nat → List Nat → Bool
  | [], [] => true
  | a :: l, b :: k => eqF a b && sameF l k
  | _, _ => false
theorem sameF_len {l k : List Nat} (h : l.length ≠ k.length) : sameF l k = false := by
  induction l generalizing k with
  | nil => cases k with
    | nil => simp at h
    | cons b k => rfl
  | cons a l ih => cases k with
    | nil => rfl
    | cons b k => simp only [sameF]; rw [ih (by simpa using h)]; simp
theorem sameF_at {l k : List Nat} {i : Nat} (hl : i < l.length) (hk : i < k.length) : sameF (l.drop i) (k.drop i) = (eqF l[i] k[i] && sameF (l.drop (i + 1)) (k.drop (i + 1))) := by
  rw [List.drop_eq_getElem_cons hl, List.drop_eq_getElem_cons hk]
  rfl
theorem sameF_done {l k : List Nat} {i : Nat} (hl : l.length ≤ i) (hk : k.length ≤ i) : sameF (l.drop i) (k.drop i) = true := by
  rw [List.drop_of_length_le hl, List.drop_of_length_le hk]
  rfl
set_option maxRecDepth 100000 in
theorem sameSamples_any (A B : Option Addr) (c d : Nat) (l k : List Nat) (w : World) (hl : l.length ≤ maxLen) (hl2 : k.length ≤ maxLen) (hr : Rd w A (fl l)) (hr2 : Rd w B (fl k)) :
    Calls Tryz.prog 89 #[.slice A l.length c, .slice B k.length d] w fun e w' => e = .returned (.bool (sameF l k)) ∧ Below w.heap.size w w' := by
  unfold maxLen at hl hl2
  have HRa := Lib.hid hr; have HRb := Lib.hid hr2; clear hr hr2
  by_cases hlen : l.length = k.length
  · obtain ⟨n, hn⟩ : ∃ n, l.length = n := ⟨_, rfl⟩
    have hm : k.length = n := by rw [← hlen, hn]
    rw [hn, hm]
    have HN := Lib.hid hn; have HM := Lib.hid hm
    have hl' : n ≤ 2 ^ 62 - 1 ∨ True := Or.inr trivial
    rw [hn] at hl
    clear hlen hl2 hl' hn hm
    go_enter Tryz.func89, Tryz.ntmps89
    go_wp2
    go_loopw [5] (fun v wr => ∃ i : Nat, i ≤ n ∧ v = .int .i64 i ∧ RowKit.Hid (sameF l k = sameF (l.drop i) (k.drop i)) ∧ Below w.heap.size w wr) (fun v _ => n - (intOf v).toNat)
    case atStart => exact ⟨0, by omega, rfl, Lib.hid rfl, Below.refl _ _⟩
    case round =>
      obtain ⟨i, hi, rfl, hpre, hbel⟩ := hrel
      by_cases hlt : i < n
      · have g1 : i < l.length := by rw [HN.out]; exact hlt
        have g2 : i < k.length := by rw [HM.out]; exact hlt
        obtain ⟨ad, rfl, hb1, hc1⟩ := (HRa.out.below hbel).get (k := i) (u := .float .f32 l[i]) (by simp [fl, g1])
        obtain ⟨ad2, rfl, hb2, hc2⟩ := (HRb.out.below hbel).get (k := i) (u := .float .f32 k[i]) (by simp [fl, g2])
        obtain ⟨a, ha⟩ : ∃ a, l[i] = a := ⟨_, rfl⟩
        obtain ⟨b, hb⟩ : ∃ b, k[i] = b := ⟨_, rfl⟩
        rw [ha] at hc1
        rw [hb] at hc2
        have HA := Lib.hid ha; have HBb := Lib.hid hb; have HBE := Lib.hid hbel
        clear ha hb hbel
        by_cases hab : eqF a b = true
        · have hab' : (FloatKind.f32.format.order a b != some .eq) = false := by unfold eqF at hab; simpa using hab
          have HAB := Lib.hid hab; clear hab
          go_wp2_with fail
          go_quiet (fail)
          go_wp2
          go_roundw
          case rel => exact ⟨i + 1, by omega, by go_num, Lib.hid (by rw [hpre.out, sameF_at g1 g2, HA.out, HBb.out, HAB.out, Bool.true_and]), by exact below_drewN HBE.out nq⟩
          case measure => simp [intOf]; omega
        · have hab' : (FloatKind.f32.format.order a b != some .eq) = true := by unfold eqF at hab; simpa using hab
          have HAB := Lib.hid hab; clear hab
          go_wp2_with fail
          go_quiet (fail)
          go_wp2
          go_ret
          exact ⟨ret_bool (by rw [hpre.out, sameF_at g1 g2, HA.out, HBb.out, Bool.eq_false_iff.2 HAB.out, Bool.false_and]), by exact below_drewN HBE.out nq⟩
      · have hie : i = n := by omega
        subst hie
        go_wp2
        go_ret
        refine ⟨ret_bool ?_, hbel⟩
        rw [hpre.out, sameF_done (by rw [HN.out]; exact Nat.le_refl _) (by rw [HM.out]; exact Nat.le_refl _)]
  · have hd : ((l.length : Int) != (k.length : Int)) = true := by simp; omega
    have hs : sameF l k = false := sameF_len hlen
    rw [hs]
    clear hs
    go_enter Tryz.func89, Tryz.ntmps89
    go_wp2
    go_ret
    exact ⟨rfl, Below.refl _ _⟩

end Go.Proofs.YtkjkjhheckfhbaaGreatDoor
