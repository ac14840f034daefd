/- Parts of a proof: A picture above another one, by the code. Tiles of lists: sums and greatest values over four tiles; tiles are joined again. PictureTiles: what its calls give, and the memory of its rounds. -/
import Derived.Test.YtlicgblagkkcfaaGreatDoorO
import Derived.Test.YtlicgblagkkcfaaGreatDoorX
import Derived.Deep.RegionLaw
import Derived.Test.YtlicgblagkkcfaaGreatDoorPD
import Derived.Test.YtlicgblagkkcfaaGreatDoorPH
namespace Go.Proofs.YtlicgblagkkcfaaGreatDoor
open Go.RowKit
set_option linter.unusedVariables false
attribute [local go_sem] run_store_float run_store_complex
def aboveF (l k : List Nat) (i : Nat) : Value := if i < l.length then .float .f32 (l.getD i 0) else .float .f32 (k.getD (i - l.length) 0)
set_option maxRecDepth 100000 in
set_option maxHeartbeats 2000000 in
theorem above_ok (nm nm2 : ByteArray) (W H K M : Nat) (hM : H + K = M) (l k : List Nat) (hp : (Pic.mk nm W H l).Ok) (he : (Pic.mk nm W H l).err = 0) (hp2 : (Pic.mk nm2 W K k).Ok) (he2 : (Pic.mk nm2 W K k).err = 0) (hHK : M ≤ 64) (A A2 : Option Addr) (c c2 : Nat) (w : World) (n : Nat) (hn : W * M = n) (hs : nm.size ≤ maxLen) (hs2 : nm2.size ≤ maxLen) (hcap : l.length ≤ c) (hcap2 : k.length ≤ c2) (hr : Rd w A (fl l)) (hr2 : Rd w A2 (fl k)) :
    Calls Tryz.prog 41 #[.agg #[.string nm, .int .i64 (W : Int), .int .i64 (H : Int), .slice A l.length c], .agg #[.string nm2, .int .i64 (W : Int), .int .i64 (K : Int), .slice A2 k.length c2]] w fun e w' => ∃ g, e = .returned (.tuple #[.agg #[.string nm, .int .i64 (W : Int), .int .i64 (M : Int), .slice (some ⟨g, 0, none⟩) n n], .int .i64 0]) ∧ Blk w' g 23 (maskN (aboveF l k) (.float .f32 0) n (fun _ => true)) ∧ Below w.heap.size w w' := by
  have hW : 1 ≤ W ∧ W ≤ 64 := by have h1 := hp.w1; have h2 := hp.w2; simp at h1 h2; omega
  have hK : 1 ≤ K ∧ K ≤ 64 := by have h1 := hp2.h1; have h2 := hp2.h2; simp at h1 h2; omega
  have hH : 1 ≤ H ∧ H ≤ 64 := by have h1 := hp.h1; have h2 := hp.h2; simp at h1 h2; omega
  have hlen : l.length = W * H := by have h1 := hp.len; simp only [] at h1; exact_mod_cast h1
  have hlen2 : k.length = W * K := by have h1 := hp2.len; simp only [] at h1; exact_mod_cast h1
  have hbig : l.length ≤ 4096 := hp.big
  have hbig2 : k.length ≤ 4096 := hp2.big
  have hpos : 0 < (fl l).length := by have := prod_pos hW.1 hH.1; simp [fl]; omega
  have hpos2 : 0 < (fl k).length := by have := prod_pos hW.1 hK.1; simp [fl]; omega
  obtain ⟨ad, rfl, hadb, hadc⟩ := hr.some_ hpos
  obtain ⟨ad2, rfl, hadb2, hadc2⟩ := hr2.some_ hpos2
  have HAD := Lib.hid hadc; have HAD2 := Lib.hid hadc2; clear hadc hadc2 hpos hpos2
  have HR := Lib.hid hr; have HE := Lib.hid he
  have HRb := Lib.hid hr2; have HE2 := Lib.hid he2
  have HLEN := Lib.hid hlen; have HLEN2 := Lib.hid hlen2
  clear hr hp he hlen hr2 hp2 he2 hlen2
  have hl : l.length ≤ maxLen := Nat.le_trans hbig (by decide)
  have hl2 : k.length ≤ maxLen := Nat.le_trans hbig2 (by decide)
  have hcp := fun w hr => checkPicture_any (Pic.mk nm W H l) (some ad) c w hs hl hr
  have hcp2 := fun w hr => checkPicture_any (Pic.mk nm2 W K k) (some ad2) c2 w hs2 hl2 hr
  rw [HE.out] at hcp
  rw [HE2.out] at hcp2
  simp only [Pic.val] at hcp hcp2
  have HCP := Lib.hid hcp; have HCP2 := Lib.hid hcp2; clear hcp hcp2 hl hl2 hs hs2
  have hsum : IntKind.i64.wrap ((H : Int) + (K : Int)) = (M : Int) := by rw [IntWalk.i64_in _ (by omega)]; omega
  have hdec : decide ((64 : Int) < (M : Int)) = false := by simp; omega
  go_enter Tryz.func41, Tryz.ntmps41
  go_wp2_with fail
  have hx0 := (((Blk.new w 50 #[.string nm, .int .i64 (W : Int), .int .i64 (H : Int), .slice (some ad) l.length c]).alloc (.cells #[.string nm2, .int .i64 (W : Int), .int .i64 (K : Int), .slice (some ad2) k.length c2] 50)).alloc (.cells #[.string ⟨#[]⟩, .int .i64 0, .int .i64 0, .slice none 0 0] 50))
  have hx1 := ((Blk.new (w.alloc (.cells #[.string nm, .int .i64 (W : Int), .int .i64 (H : Int), .slice (some ad) l.length c] 50)) 50 #[.string nm2, .int .i64 (W : Int), .int .i64 (K : Int), .slice (some ad2) k.length c2]).alloc (.cells #[.string ⟨#[]⟩, .int .i64 0, .int .i64 0, .slice none 0 0] 50))
  simp only [World.size_alloc] at hx1
  have hx2 := (Blk.new ((w.alloc (.cells #[.string nm, .int .i64 (W : Int), .int .i64 (H : Int), .slice (some ad) l.length c] 50)).alloc (.cells #[.string nm2, .int .i64 (W : Int), .int .i64 (K : Int), .slice (some ad2) k.length c2] 50)) 50 #[.string ⟨#[]⟩, .int .i64 0, .int .i64 0, .slice none 0 0])
  simp only [World.size_alloc] at hx2
  have hb0 := ((((Below.refl w.heap.size w).alloc (Nat.le_refl _) (.cells #[.string nm, .int .i64 (W : Int), .int .i64 (H : Int), .slice (some ad) l.length c] 50)).alloc (by simp only [World.size_alloc]; omega) (.cells #[.string nm2, .int .i64 (W : Int), .int .i64 (K : Int), .slice (some ad2) k.length c2] 50)).alloc (by simp only [World.size_alloc]; omega) (.cells #[.string ⟨#[]⟩, .int .i64 0, .int .i64 0, .slice none 0 0] 50))
  generalize (((w.alloc (.cells #[.string nm, .int .i64 (W : Int), .int .i64 (H : Int), .slice (some ad) l.length c] 50)).alloc (.cells #[.string nm2, .int .i64 (W : Int), .int .i64 (K : Int), .slice (some ad2) k.length c2] 50)).alloc (.cells #[.string ⟨#[]⟩, .int .i64 0, .int .i64 0, .slice none 0 0] 50)) = w0 at hx0 hx1 hx2 hb0 ⊢
  have HX0_0 := Lib.hid hx0
  have HX1_0 := Lib.hid hx1
  have HX2_0 := Lib.hid hx2
  have HB_0 := Lib.hid hb0
  clear hx0 hx1 hx2 hb0
  have k0_0 := HX0_0.out.cell 0
  have k0_1 := HX0_0.out.cell 1
  have k0_2 := HX0_0.out.cell 2
  have k0_3 := HX0_0.out.cell 3
  simp only [List.getElem?_toArray, List.getElem?_cons_zero, List.getElem?_cons_succ] at k0_0 k0_1 k0_2 k0_3
  have k1_0 := HX1_0.out.cell 0
  have k1_1 := HX1_0.out.cell 1
  have k1_2 := HX1_0.out.cell 2
  have k1_3 := HX1_0.out.cell 3
  simp only [List.getElem?_toArray, List.getElem?_cons_zero, List.getElem?_cons_succ] at k1_0 k1_1 k1_2 k1_3
  have hch : Below w0.heap.size w0 w0.drew := (Below.refl _ _).drew
  go_region_held3 (fun w' => w'.cell? ⟨w.heap.size, 0, none⟩ = some (.string nm) ∧ w'.cell? ⟨w.heap.size, 1, none⟩ = some (.int .i64 (W : Int)) ∧ w'.cell? ⟨w.heap.size, 2, none⟩ = some (.int .i64 (H : Int)) ∧ w'.cell? ⟨w.heap.size, 3, none⟩ = some (.slice (some ad) l.length c) ∧ w'.cell? ⟨w.heap.size + 1, 0, none⟩ = some (.string nm2) ∧ w'.cell? ⟨w.heap.size + 1, 1, none⟩ = some (.int .i64 (W : Int)) ∧ w'.cell? ⟨w.heap.size + 1, 2, none⟩ = some (.int .i64 (K : Int)) ∧ w'.cell? ⟨w.heap.size + 1, 3, none⟩ = some (.slice (some ad2) k.length c2))
    (go_keep)
    (first
      | (go_at_call 37; (first | (with_reducible refine (HCP.out _ (by exact HR.out.below (HB_0.out.trans ((chainB' hch (Below.refl _ _)).mono HB_0.out.size)))).mono ?_) | (with_reducible refine (HCP2.out _ (by exact HRb.out.below (HB_0.out.trans ((chainB' hch (Below.refl _ _)).mono HB_0.out.size)))).mono ?_)); rintro e wn ⟨rfl, hbn⟩; have hch := chainB' (wo := w0) (by assumption) hbn; have k0_0 := cellL hbn (a := ⟨w.heap.size, 0, none⟩) (v := .string nm) (by assumption); have k0_1 := cellL hbn (a := ⟨w.heap.size, 1, none⟩) (v := .int .i64 (W : Int)) (by assumption); have k0_2 := cellL hbn (a := ⟨w.heap.size, 2, none⟩) (v := .int .i64 (H : Int)) (by assumption); have k0_3 := cellL hbn (a := ⟨w.heap.size, 3, none⟩) (v := .slice (some ad) l.length c) (by assumption); have k1_0 := cellL hbn (a := ⟨w.heap.size + 1, 0, none⟩) (v := .string nm2) (by assumption); have k1_1 := cellL hbn (a := ⟨w.heap.size + 1, 1, none⟩) (v := .int .i64 (W : Int)) (by assumption); have k1_2 := cellL hbn (a := ⟨w.heap.size + 1, 2, none⟩) (v := .int .i64 (K : Int)) (by assumption); have k1_3 := cellL hbn (a := ⟨w.heap.size + 1, 3, none⟩) (v := .slice (some ad2) k.length c2) (by assumption))
      | (go_at_call 104; refine (errorIf_any _ _ _).mono ?_; rintro e wn ⟨rfl, rfl⟩)
      | (go_at_call 97; refine (first_n _ _ _ [0, 0, errIf _ 2, errIf _ 5] _ rfl (by simp [maxLen]) (by exact rd_of_blk (Blk.new _ _ _) rfl)).mono ?_; rintro e wn ⟨rfl, rfl⟩))
  have hN : n ≤ 4096 := by rw [← hn]; exact Nat.le_trans (Nat.mul_le_mul hW.2 hHK) (by decide)
  have HN0 := Lib.hid hn
  go_wp2_with fail
  have hch := chainB' hch ((Below.refl _ _).alloc (Nat.le_refl _) (.cells #[.int .i64 0, .int .i64 0, .int .i64 (errIf false 2), .int .i64 (errIf false 5)] 26))
  refine (blank_any nm W M n _ HN0.out hN).mono ?_
  rintro e w2 ⟨g, rfl, hg, hgb, hb2⟩
  have hch := chainB' hch hb2
  have HX0_2 := Lib.hid (HX0_0.out.below hch)
  have HX1_2 := Lib.hid (HX1_0.out.below hch)
  have HX2_2 := Lib.hid (HX2_0.out.below hch)
  have HB_2 := Lib.hid (HB_0.out.trans (hch.mono HB_0.out.size))
  have HG2 := Lib.hid hgb
  have hgl : w.heap.size + 1 + 1 < g := Nat.lt_of_lt_of_le (HX2_0.out.below (by assumption : Below w0.heap.size w0 wn)).lt (Nat.le_trans (by simp) hg)
  have hzg : g < w2.heap.size := HG2.out.lt
  have hz : w.heap.size < w2.heap.size ∧ w.heap.size + 1 < w2.heap.size ∧ w.heap.size + 1 + 1 < w2.heap.size := by have := HX2_2.out.lt; omega
  obtain ⟨z0, z1, z2⟩ := hz
  clear hb2 hgb hch hg hsum hdec
  clear k0_0 k0_1 k0_2 k0_3 k1_0 k1_1 k1_2 k1_3
  have k0_0 := HX0_2.out.cell 0
  have k0_1 := HX0_2.out.cell 1
  have k0_2 := HX0_2.out.cell 2
  have k0_3 := HX0_2.out.cell 3
  simp only [List.getElem?_toArray, List.getElem?_cons_zero, List.getElem?_cons_succ] at k0_0 k0_1 k0_2 k0_3
  have k1_0 := HX1_2.out.cell 0
  have k1_1 := HX1_2.out.cell 1
  have k1_2 := HX1_2.out.cell 2
  have k1_3 := HX1_2.out.cell 3
  simp only [List.getElem?_toArray, List.getElem?_cons_zero, List.getElem?_cons_succ] at k1_0 k1_1 k1_2 k1_3
  go_wp2_with fail
  have hx3 := HX0_2.out.alloc (.cells #[.string nm, .int .i64 (W : Int), .int .i64 (M : Int), .slice (some ⟨g, 0, none⟩) n n] 50)
  have hx4 := HX1_2.out.alloc (.cells #[.string nm, .int .i64 (W : Int), .int .i64 (M : Int), .slice (some ⟨g, 0, none⟩) n n] 50)
  have hx5 := HX2_2.out.alloc (.cells #[.string nm, .int .i64 (W : Int), .int .i64 (M : Int), .slice (some ⟨g, 0, none⟩) n n] 50)
  have hg3 := HG2.out.alloc (.cells #[.string nm, .int .i64 (W : Int), .int .i64 (M : Int), .slice (some ⟨g, 0, none⟩) n n] 50)
  have hf3 := Blk.new w2 50 #[.string nm, .int .i64 (W : Int), .int .i64 (M : Int), .slice (some ⟨g, 0, none⟩) n n]
  have hb3 := HB_2.out.alloc HB_2.out.size (.cells #[.string nm, .int .i64 (W : Int), .int .i64 (M : Int), .slice (some ⟨g, 0, none⟩) n n] 50)
  clear k0_0 k0_1 k0_2 k0_3 k1_0 k1_1 k1_2 k1_3
  obtain ⟨b3, hb3e⟩ : ∃ b, w2.heap.size = b := ⟨_, rfl⟩
  rw [hb3e] at hf3 z0 z1 z2 hzg ⊢
  clear hb3e
  generalize w2.alloc (.cells #[.string nm, .int .i64 (W : Int), .int .i64 (M : Int), .slice (some ⟨g, 0, none⟩) n n] 50) = w3 at hx3 hx4 hx5 hg3 hf3 hb3 ⊢
  have HX0_3 := Lib.hid hx3; have HX1_3 := Lib.hid hx4; have HX2_3 := Lib.hid hx5; have HG3 := Lib.hid hg3; have HF3 := Lib.hid hf3; have HB_3 := Lib.hid hb3
  clear hx3 hx4 hx5 hg3 hf3 hb3
  clear HX0_0 HX1_0 HX2_0 HX0_2 HX1_2 HX2_2 HG2 HB_0 HB_2 HCP HCP2 HR HRb HE HE2
  have hL1 : l.length + k.length = n := by rw [HLEN.out, HLEN2.out, ← Nat.mul_add, hM]; exact HN0.out
  have hg0 := HG3.out
  rw [fill_mask, mask_congr (fun _ => .float .f32 0) (aboveF l k) _ _ _ (fun i => decide (i < 0)) (by simp) (by simp)] at hg0
  replace HG3 := Lib.hid hg0; clear hg0
  obtain ⟨la, hla⟩ : ∃ x, l.length = x := ⟨_, rfl⟩
  obtain ⟨lb, hlb⟩ : ∃ x, k.length = x := ⟨_, rfl⟩
  rw [hla, hlb] at hL1
  have hga1 : ∀ j, j < la → aboveF l k j = .float .f32 (l.getD j 0) := fun j hj => by unfold aboveF; rw [hla, if_pos hj]
  have hga2 : ∀ j, aboveF l k (la + j) = .float .f32 (k.getD j 0) := fun j => by unfold aboveF; rw [hla, if_neg (by omega), show la + j - la = j by omega]
  obtain ⟨cs1, hcs⟩ : ∃ cs, (List.range la).map (fun j => aboveF l k (0 + j)) = cs := ⟨_, rfl⟩
  have hcl : cs1.length = la := by rw [← hcs]; simp
  have hcg : ∀ j, j < cs1.length → cs1[j]? = some (aboveF l k (0 + j)) := fun j hj => by rw [← hcs]; rw [hcl] at hj; simp [hj]
  have hone : ∀ v ∈ cs1, v.oneCell' = true := fun v hv => by
    obtain ⟨j, hj, rfl⟩ := List.getElem_of_mem hv
    have h := hcg j hj
    rw [List.getElem?_eq_getElem hj] at h
    rw [hcl] at hj
    rw [Option.some.inj h, Nat.zero_add, hga1 j hj]
    rfl
  have hnew := mask_copy (aboveF l k) (.float .f32 0) n (fun i => decide (i < 0)) (fun i => decide (i < la)) 0 cs1 (by omega) hcg (fun i hi => by rw [hcl, Bool.eq_iff_iff]; simp)
  have hsrc : ∀ j v, cs1[j]? = some v → w.cell? (ad.add j) = some v := fun j v hj => by
    have hj1 : j < cs1.length := (List.getElem?_eq_some_iff.1 hj).1
    rw [hcg j hj1] at hj
    cases hj
    rw [hcl] at hj1
    rw [Nat.zero_add, HAD.out _ _ (fl_get (by omega)), hga1 j hj1]
  have HN1 := Lib.hid hnew; have HSRC1 := Lib.hid hsrc; have HONE1 := Lib.hid hone; have HCL1 := Lib.hid hcl
  clear hnew hsrc hone hcl hcg hcs
  obtain ⟨cs2, hcs⟩ : ∃ cs, (List.range lb).map (fun j => aboveF l k (la + j)) = cs := ⟨_, rfl⟩
  have hcl : cs2.length = lb := by rw [← hcs]; simp
  have hcg : ∀ j, j < cs2.length → cs2[j]? = some (aboveF l k (la + j)) := fun j hj => by rw [← hcs]; rw [hcl] at hj; simp [hj]
  have hone : ∀ v ∈ cs2, v.oneCell' = true := fun v hv => by
    obtain ⟨j, hj, rfl⟩ := List.getElem_of_mem hv
    have h := hcg j hj
    rw [List.getElem?_eq_getElem hj] at h
    rw [Option.some.inj h, hga2 j]
    rfl
  have hnew := mask_copy (aboveF l k) (.float .f32 0) n (fun i => decide (i < la)) (fun _ => true) la cs2 (by omega) hcg (fun i hi => by rw [hcl, Bool.eq_iff_iff]; simp; omega)
  have hsrc : ∀ j v, cs2[j]? = some v → w.cell? (ad2.add j) = some v := fun j v hj => by
    have hj1 : j < cs2.length := (List.getElem?_eq_some_iff.1 hj).1
    rw [hcg j hj1] at hj
    cases hj
    rw [hcl] at hj1
    rw [HAD2.out _ _ (fl_get (by omega)), hga2 j]
  have HN2 := Lib.hid hnew; have HSRC2 := Lib.hid hsrc; have HONE2 := Lib.hid hone; have HCL2 := Lib.hid hcl
  clear hnew hsrc hone hcl hcg hcs hga1 hga2
  rw [hla] at HX0_3
  rw [hlb] at HX1_3
  have HLA := Lib.hid hla; have HLB := Lib.hid hlb; clear hla hlb
  have hlan : la ≤ n := by omega
  have hlb1 : 1 ≤ lb := by rw [← HLB.out, HLEN2.out]; exact prod_pos hW.1 hK.1
  obtain ⟨c0, c1, c2', c3⟩ := box4 HX0_3.out
  obtain ⟨d0, d1, d2, d3⟩ := box4 HF3.out
  have hgc := HG3.out
  go_upto_region 5 with fail
  refine upon_copy_blk 41 41 3 23 Tryz.underlying41 info_f32 g 0 _ _ ad _ _ _ 23 HG3.out cs1 (by rw [HCL1.out, HLA.out]; exact (Nat.min_eq_left hlan).symm) (fun j v hj => (HB_3.out.cell (by rw [block_of_add]; exact hadb)).trans (HSRC1.out j v hj)) (by rw [HCL1.out]; simp [maskN]; omega) HONE1.out _ HN1.out ?_
  intro wn2 hbk hon
  replace HX0_3 := Lib.hid (hon.far HX0_3.out (by omega)); replace HX1_3 := Lib.hid (hon.far HX1_3.out (by omega)); replace HX2_3 := Lib.hid (hon.far HX2_3.out (by omega)); replace HF3 := Lib.hid (hon.far HF3.out (by omega)); replace HB_3 := Lib.hid (hon.below HB_3.out (by omega))
  replace HG3 := hbk
  clear hbk hon c0 c1 c2' c3 d0 d1 d2 d3 hgc
  obtain ⟨c0, c1, c2', c3⟩ := box4 HX0_3.out
  obtain ⟨e0, e1, e2, e3⟩ := box4 HX1_3.out
  obtain ⟨d0, d1, d2, d3⟩ := box4 HF3.out
  have z0' := HX0_3.out.lt; have z1' := HX1_3.out.lt; have zF := HF3.out.lt; have zG := HG3.out.lt
  have i1 : (0 : Int) ≤ (la : Int) := by omega
  have i2 : (la : Int) ≤ (n : Int) := by omega
  have i3 : la ≤ n := by omega
  have i4 : ¬ n = la := by omega
  go_upto_region 6 with fail
  have hch : Below wn2.heap.size wn2 wn2.drew := (Below.refl _ _).drew
  have HG3' := Lib.hid (HG3.out.below hch)
  have HSR : RowKit.Hid (∀ j v, cs2[j]? = some v → wn2.drew.cell? (ad2.add j) = some v) := Lib.hid (fun j v hj => ((HB_3.out.trans (hch.mono HB_3.out.size)).cell (by rw [block_of_add]; exact hadb2)).trans (HSRC2.out j v hj))
  have HMN : RowKit.Hid (cs2.length = Nat.min lb (n - la)) := Lib.hid (by rw [HCL2.out]; exact (Nat.min_eq_left (by omega)).symm)
  have HFT : RowKit.Hid (la + cs2.length ≤ (maskN (aboveF l k) (.float .f32 0) n (fun i => decide (i < la))).size) := Lib.hid (by rw [HCL2.out]; simp [maskN]; omega)
  have hsx : SX g wn2 wn2.drew := sx_below hch
  have n0 : ¬ w.heap.size = g := by omega
  have n1 : ¬ w.heap.size + 1 = g := by omega
  have nf : ¬ b3 = g := by omega
  go_region_held3 (SX g wn2)
    (first | (with_reducible assumption) | exact sx_drew (by assumption) | exact sx_only hsx hon)
    (first
      | (refine upon_copy_blk 41 41 3 23 Tryz.underlying41 info_f32 g la _ _ ad2 _ _ _ 23 HG3'.out cs2 HMN.out HSR.out HFT.out HONE2.out _ HN2.out ?_; intro wn3 hbk hon))
  have HXF := Lib.hid (hon.far (HF3.out.below hch) (by omega)); have HXZ := Lib.hid (hon.far (HX2_3.out.below hch) (by omega)); have HBE := Lib.hid (hon.below (HB_3.out.trans (hch.mono HB_3.out.size)) (by omega)); have HGE := hbk
  clear hbk hon hch c0 c1 c2' c3 d0 d1 d2 d3 e0 e1 e2 e3 z0' z1' zF zG
  obtain ⟨d0, d1, d2, d3⟩ := box4 HXF.out
  have hy := HXZ.out
  have z1 := hy.lt
  have f0 := hy.frozen 0; have f1 := hy.frozen 1; have f2 := hy.frozen 2; have f3 := hy.frozen 3
  obtain ⟨e0, e1, e2, e3⟩ := box4 hy
  have hyy := Lib.hid (show Blk ((((wn3.setCell ⟨w.heap.size + 1 + 1, 0, none⟩ (.string nm)).setCell ⟨w.heap.size + 1 + 1, 1, none⟩ (.int .i64 (W : Int))).setCell ⟨w.heap.size + 1 + 1, 2, none⟩ (.int .i64 (M : Int))).setCell ⟨w.heap.size + 1 + 1, 3, none⟩ (.slice (some ⟨g, 0, none⟩) n n)) (w.heap.size + 1 + 1) 50 #[.string nm, .int .i64 (W : Int), .int .i64 (M : Int), .slice (some ⟨g, 0, none⟩) n n] from (((hy.set_ 0 _).set_ 1 _).set_ 2 _).set_ 3 _)
  have HGR := Lib.hid ((((HGE.out.far (p := ⟨w.heap.size + 1 + 1, 0, none⟩) (by simp; omega) (.string nm)).far (p := ⟨w.heap.size + 1 + 1, 1, none⟩) (by simp; omega) (.int .i64 (W : Int))).far (p := ⟨w.heap.size + 1 + 1, 2, none⟩) (by simp; omega) (.int .i64 (M : Int))).far (p := ⟨w.heap.size + 1 + 1, 3, none⟩) (by simp; omega) (.slice (some ⟨g, 0, none⟩) n n))
  clear hy
  go_wp2
  obtain ⟨r0, r1, r2, r3⟩ := box4 hyy.out
  exact bodyPost_ret (v := .tuple #[.agg #[.string nm, .int .i64 (W : Int), .int .i64 (M : Int), .slice (some ⟨g, 0, none⟩) n n], .int .i64 0]) (by simp [results, Tryz.results41, go_sem, r0, r1, r2, r3]) rfl ⟨g, rfl, HGR.out, below_set4 HBE.out (by omega) _ _ _ _⟩
end Go.Proofs.YtlicgblagkkcfaaGreatDoor
namespace Go.Proofs.YtlicgblagkkcfaaGreatDoor
open Go.RowKit
set_option linter.unusedVariables false
section
variable {α : Type} (op : α → α → α) (z : α)
/-- All values below n, joined by an operation. -/
def gat : Nat → (Nat → α) → α
  | 0, _ => z
  | n + 1, f => op (gat n f) (f n)
theorem gat_congr {n : Nat} {f g : Nat → α} (h : ∀ i, i < n → f i = g i) : gat op z n f = gat op z n g := by
  induction n with
  | zero => rfl
  | succ n ih => rw [gat, gat, ih (fun i hi => h i (by omega)), h n (by omega)]
variable {op z} (ha : ∀ a b c, op (op a b) c = op a (op b c)) (hc : ∀ a b, op a b = op b a) (hz : ∀ a, op a z = a)
include ha hz in
theorem gat_add (n m : Nat) (f : Nat → α) : gat op z (n + m) f = op (gat op z n f) (gat op z m (fun i => f (n + i))) := by
  induction m with
  | zero => simp [gat, hz]
  | succ m ih => rw [← Nat.add_assoc, gat, gat, ih, ha]
include ha hc hz in
theorem gat_both (n : Nat) (f g : Nat → α) : gat op z n (fun i => op (f i) (g i)) = op (gat op z n f) (gat op z n g) := by
  induction n with
  | zero => simp [gat, hz]
  | succ n ih =>
    rw [gat, gat, gat, ih, ha, ha]
    congr 1
    rw [← ha, hc (gat op z n g) (f n), ha]
include ha hz in
theorem gat_rows (W H : Nat) (f : Nat → α) : gat op z (W * H) f = gat op z H (fun y => gat op z W (fun x => f (y * W + x))) := by
  induction H with
  | zero => simp [gat]
  | succ H ih => rw [Nat.mul_add, Nat.mul_one, gat_add ha hz, gat, ih, Nat.mul_comm H W]
/-- The place in the whole of the place i of a tile. -/
def tileN (W c r m i : Nat) : Nat := (r + i / m) * W + (c + i % m)
theorem tileN_at {W c r m y x : Nat} (h : x < m) : tileN W c r m (y * m + x) = (r + y) * W + (c + x) := by
  unfold tileN; rw [(divmod_add h).1, (divmod_add h).2]
include ha hz in
theorem gat_tile (W c r m K : Nat) (f : Nat → α) : gat op z (m * K) (fun i => f (tileN W c r m i)) = gat op z K (fun y => gat op z m (fun x => f ((r + y) * W + (c + x)))) := by
  rw [gat_rows ha hz]
  exact gat_congr op z fun y _ => gat_congr op z fun x hx => by rw [tileN_at hx]
include ha hc hz in
theorem gat_four (x V y K : Nat) (f : Nat → α) : gat op z ((x + V) * (y + K)) f =
    op (op (op (gat op z (x * y) (fun i => f (tileN (x + V) 0 0 x i))) (gat op z (V * y) (fun i => f (tileN (x + V) x 0 V i)))) (gat op z (x * K) (fun i => f (tileN (x + V) 0 y x i)))) (gat op z (V * K) (fun i => f (tileN (x + V) x y V i))) := by
  rw [gat_rows ha hz, gat_add ha hz, gat_tile ha hz, gat_tile ha hz, gat_tile ha hz, gat_tile ha hz]
  have row : ∀ r, gat op z (x + V) (fun c => f (r * (x + V) + c)) = op (gat op z x (fun c => f (r * (x + V) + (0 + c)))) (gat op z V (fun c => f (r * (x + V) + (x + c)))) := fun r => by
    rw [gat_add ha hz]; simp only [Nat.zero_add]
  have e1 : gat op z y (fun r => gat op z (x + V) (fun c => f (r * (x + V) + c))) = op (gat op z y (fun r => gat op z x (fun c => f ((0 + r) * (x + V) + (0 + c))))) (gat op z y (fun r => gat op z V (fun c => f ((0 + r) * (x + V) + (x + c))))) := by
    rw [← gat_both ha hc hz]
    exact gat_congr op z fun r _ => by rw [row, Nat.zero_add r]
  have e2 : gat op z K (fun r => gat op z (x + V) (fun c => f ((y + r) * (x + V) + c))) = op (gat op z K (fun r => gat op z x (fun c => f ((y + r) * (x + V) + (0 + c))))) (gat op z K (fun r => gat op z V (fun c => f ((y + r) * (x + V) + (x + c))))) := by
    rw [← gat_both ha hc hz]
    exact gat_congr op z fun r _ => row (y + r)
  rw [e1, e2, ha]
  rw [ha, ha]
end
/-- The samples of a tile. -/
def tileL (l : List Nat) (W c r m K : Nat) : List Nat := pickL l (tileN W c r m) (m * K)
theorem tileL_len (l : List Nat) (W c r m K : Nat) : (tileL l W c r m K).length = m * K := pickL_len ..
theorem tileL_get (l : List Nat) (W c r m K i : Nat) (h : i < m * K) : (tileL l W c r m K).getD i 0 = l.getD (tileN W c r m i) 0 := pickL_get _ _ _ _ h
theorem tileL_whole (l : List Nat) (W H : Nat) (h : l.length = W * H) : tileL l W 0 0 W H = l := by
  unfold tileL
  rw [← h, pickL_congr (g := fun i => i) (fun i hi => ?_), pickL_id]
  unfold tileN
  rw [Nat.zero_add, Nat.zero_add, Nat.div_add_mod']
theorem tot_gat (n : Nat) (f : Nat → Int) : tot n f = gat (· + ·) 0 n f := by
  induction n with
  | zero => rfl
  | succ n ih => rw [tot, gat, ih]
theorem sumF_four (F : Nat → Int) (l : List Nat) (x V y K : Nat) (h : l.length = (x + V) * (y + K)) : sumF F l =
    sumF F (tileL l (x + V) 0 0 x y) + sumF F (tileL l (x + V) x 0 V y) + sumF F (tileL l (x + V) 0 y x K) + sumF F (tileL l (x + V) x y V K) := by
  unfold tileL
  rw [sumF_pick, sumF_pick, sumF_pick, sumF_pick, sumF_tot, h]
  simp only [tot_gat]
  exact gat_four (op := (· + ·)) (z := (0 : Int)) (fun a b c => by omega) (fun a b => by omega) (fun a => by omega) x V y K (fun i => F (l.getD i 0))
theorem peakF_gat (l : List Nat) : peakF l 0 = gat max 0 l.length (fun i => (lvl (l.getD i 0)).natAbs) := by
  have key : ∀ n, n ≤ l.length → peakF (l.take n) 0 = gat max 0 n (fun i => (lvl (l.getD i 0)).natAbs) := by
    intro n
    induction n with
    | zero => intro _; rfl
    | succ n ih =>
      intro hn
      rw [peakF_take l n (by omega), ih (by omega), gat]
      omega
  have h := key l.length (Nat.le_refl _)
  rwa [List.take_length] at h
theorem peakF_pick (l : List Nat) (f : Nat → Nat) (n : Nat) : peakF (pickL l f n) 0 = gat max 0 n (fun i => (lvl (l.getD (f i) 0)).natAbs) := by
  rw [peakF_gat, pickL_len]
  exact congrArg _ (gat_congr max 0 fun i hi => by rw [pickL_get _ _ _ _ hi])
theorem peakF_four (l : List Nat) (x V y K : Nat) (h : l.length = (x + V) * (y + K)) : peakF l 0 =
    max (max (max (peakF (tileL l (x + V) 0 0 x y) 0) (peakF (tileL l (x + V) x 0 V y) 0)) (peakF (tileL l (x + V) 0 y x K) 0)) (peakF (tileL l (x + V) x y V K) 0) := by
  unfold tileL
  rw [peakF_pick, peakF_pick, peakF_pick, peakF_pick, peakF_gat, h]
  have := gat_four (op := max) (z := (0 : Nat)) (fun a b c => by omega) (fun a b => by omega) (fun a => by omega) x V y K (fun i => (lvl (l.getD i 0)).natAbs)
  rw [this]
  omega
/-- Two tiles beside each other are a tile. -/
theorem beside_tile (l : List Nat) (W c r m m2 K i : Nat) (hi : i < (m + m2) * K) :
    besideF (tileL l W c r m K) (tileL l W (c + m) r m2 K) m m2 (m + m2) i = .float .f32 ((tileL l W c r (m + m2) K).getD i 0) := by
  have hM := pos_w hi
  have hy := div_lt_h hi
  have hx := Nat.mod_lt i hM
  rw [tileL_get _ _ _ _ _ _ _ hi]
  unfold besideF
  by_cases h : i % (m + m2) < m
  · rw [if_pos h, tileL_get _ _ _ _ _ _ _ (row_lt hy h), tileN_at h]
    rfl
  · have h2 : i % (m + m2) - m < m2 := by omega
    rw [if_neg h, tileL_get _ _ _ _ _ _ _ (row_lt hy h2), tileN_at h2]
    unfold tileN
    rw [show c + m + (i % (m + m2) - m) = c + i % (m + m2) by omega]
/-- A tile above another one is a tile. -/
theorem above_tile (l : List Nat) (W c r m K K2 i : Nat) (hi : i < m * (K + K2)) :
    aboveF (tileL l W c r m K) (tileL l W c (r + K) m K2) i = .float .f32 ((tileL l W c r m (K + K2)).getD i 0) := by
  have hm := pos_w hi
  rw [tileL_get _ _ _ _ _ _ _ hi]
  unfold aboveF
  rw [tileL_len]
  by_cases h : i < m * K
  · rw [if_pos h, tileL_get _ _ _ _ _ _ _ h]
  · rw [if_neg h, tileL_get _ _ _ _ _ _ _ (by rw [Nat.mul_add] at hi; omega)]
    have e : i = K * m + (i - m * K) := by rw [Nat.mul_comm K m]; omega
    unfold tileN
    have h1 : i / m = K + (i - m * K) / m := by
      conv => lhs; rw [e]
      rw [Nat.add_comm, Nat.add_mul_div_right _ _ hm, Nat.add_comm]
    have h2 : i % m = (i - m * K) % m := by
      conv => lhs; rw [e]
      rw [Nat.add_comm, Nat.add_mul_mod_self_right]
    rw [h1, h2, Nat.add_assoc]
end Go.Proofs.YtlicgblagkkcfaaGreatDoor
namespace Go.Proofs.YtlicgblagkkcfaaGreatDoor
open Go.RowKit
set_option linter.unusedVariables false
set_option maxRecDepth 100000
/-- A part of the cut picture: its size, its samples, its energy, peak, mean (S over D) and sum. -/
structure TileD where
  m : Nat
  h : Nat
  N : Nat
  L : List Nat
  E : Int
  P : Int
  S : Int
  D : Int
  G : Int
  T : Int
/-- What the calls give of a part, and what the law's numbers are. -/
structure TileP (nm : ByteArray) (W H n : Nat) (l : List Nat) (cf ct rf rt : Int) (d : TileD) : Prop where
  wm : IntKind.i64.wrap (ct - cf) = d.m
  wh : IntKind.i64.wrap (rt - rf) = d.h
  sz : IntKind.i64.wrap ((d.m : Int) * (d.h : Int)) = d.N
  crop : ∀ (A : Option Addr) (c : Nat) (w : World), n ≤ c → Rd w A (fl l) → Calls Tryz.prog 31 #[.agg #[.string nm, .int .i64 (W : Int), .int .i64 (H : Int), .slice A n c], .agg #[.int .i64 cf, .int .i64 ct], .agg #[.int .i64 rf, .int .i64 rt]] w fun e w' => ∃ A' c', e = .returned (.tuple #[.agg #[.string nm, .int .i64 (d.m : Int), .int .i64 (d.h : Int), .slice A' d.N c'], .int .i64 0]) ∧ d.N ≤ c' ∧ Rd w' A' (fl d.L) ∧ Below w.heap.size w w'
  en : ∀ (A : Option Addr) (c : Nat) (w : World), Rd w A (fl d.L) → Calls Tryz.prog 54 #[.agg #[.string nm, .int .i64 (d.m : Int), .int .i64 (d.h : Int), .slice A d.N c]] w fun e w' => e = .returned (.tuple #[.int .i64 d.E, .int .i64 0]) ∧ Below w.heap.size w w'
  pk : ∀ (A : Option Addr) (c : Nat) (w : World), Rd w A (fl d.L) → Calls Tryz.prog 55 #[.agg #[.string nm, .int .i64 (d.m : Int), .int .i64 (d.h : Int), .slice A d.N c]] w fun e w' => e = .returned (.tuple #[.int .i64 d.P, .int .i64 0]) ∧ Below w.heap.size w w'
  mn : ∀ (A : Option Addr) (c : Nat) (w : World), Rd w A (fl d.L) → Calls Tryz.prog 56 #[.agg #[.string nm, .int .i64 (d.m : Int), .int .i64 (d.h : Int), .slice A d.N c]] w fun e w' => e = .returned (.tuple #[.agg #[.int .i64 d.S, .int .i64 d.D], .int .i64 0]) ∧ Below w.heap.size w w'
  ck : ∀ (A : Option Addr) (c : Nat) (w : World), Rd w A (fl d.L) → Calls Tryz.prog 32 #[.agg #[.string nm, .int .i64 (d.m : Int), .int .i64 (d.h : Int), .slice A d.N c]] w fun e w' => e = .returned (.int .i64 0) ∧ Below w.heap.size w w'
  at_ : ∀ j : Nat, j < d.N → ∀ (A : Option Addr) (c : Nat) (w : World), n ≤ c → Rd w A (fl l) → Calls Tryz.prog 29 #[.agg #[.string nm, .int .i64 (W : Int), .int .i64 (H : Int), .slice A n c], .int .i64 (IntKind.i64.wrap (cf + (j : Int).tmod d.m)), .int .i64 (IntKind.i64.wrap (rf + IntKind.i64.wrap ((j : Int).tdiv d.m)))] w fun e w' => e = .returned (.tuple #[.float .f32 (d.L.getD j 0), .int .i64 0]) ∧ Below w.heap.size w w'
  ord : ∀ j, (FloatKind.f32.format.order (d.L.getD j 0) (d.L.getD j 0) != some .eq) = false
  len : d.L.length = d.N
  pos : 0 < d.N
  big : d.N ≤ 4096
  m0 : ¬ (d.m : Int) = 0
  d1 : ¬ d.D < 1
  d0 : ¬ d.D = 0
  w16 : IntKind.i64.wrap (16 * (d.N : Int)) = 16 * (d.N : Int)
  w24 : IntKind.i64.wrap (1024 * d.D) = 1024 * d.D
  w25 : IntKind.i64.wrap (-1024 * d.D) = -1024 * d.D
  d2 : (16 * (d.N : Int)).tmod d.D = 0
  d3 : ¬ 1024 * d.D < d.S
  d4 : ¬ d.S < -1024 * d.D
  dq : IntKind.i64.wrap ((16 * (d.N : Int)).tdiv d.D) = d.G
  tot : IntKind.i64.wrap (d.S * d.G) = d.T
/-- A picture of one's own. -/
def Fact.own (nm : ByteArray) (X Y : Int) (n : Nat) (l : List Nat) : Fact :=
  ⟨fun u w => ∃ g c, u = .agg #[.string nm, .int .i64 X, .int .i64 Y, .slice (some ⟨g, 0, none⟩) n c] ∧ n ≤ c ∧ Rd w (some ⟨g, 0, none⟩) (fl l), fun _ _ _ ⟨g, c, h1, h2, h3⟩ hb => ⟨g, c, h1, h2, h3.below hb⟩⟩
def selI (p q : Int) : Nat → Int
  | 0 => p
  | _ + 1 => q
theorem index_two (p q r s : Int) (i : Nat) (h : i < 2) (w : World) : (Instr.index 130 (.agg #[.int .i64 p, .int .i64 q, .int .i64 r, .int .i64 s]) (.int .i64 (i : Int))).run Tryz.prog w = .ok (.agg #[.int .i64 (selI p r i), .int .i64 (selI q s i)]) w := by
  match i, h with
  | 0, _ => simp [go_sem, Instr.index, selI, part]
  | 1, _ => simp [go_sem, Instr.index, selI, part]
/-- A cell of the picture number q of the parts, of which the first Q are there. -/
def qc (nm : ByteArray) (d : Nat → TileD) (AA : Nat → Option Addr) (CC : Nat → Nat) (Q q f : Nat) : Value :=
  match f with
  | 0 => .string (if q < Q then nm else ⟨#[]⟩)
  | 1 => .int .i64 (if q < Q then (d q).m else 0 : Nat)
  | 2 => .int .i64 (if q < Q then (d q).h else 0 : Nat)
  | _ => .slice (if q < Q then AA q else none) (if q < Q then (d q).N else 0) (if q < Q then CC q else 0)
/-- The parts, of which the first Q are there. -/
def qv (nm : ByteArray) (d : Nat → TileD) (AA : Nat → Option Addr) (CC : Nat → Nat) (Q : Nat) : Array Value :=
  #[qc nm d AA CC Q 0 0, qc nm d AA CC Q 0 1, qc nm d AA CC Q 0 2, qc nm d AA CC Q 0 3, qc nm d AA CC Q 1 0, qc nm d AA CC Q 1 1, qc nm d AA CC Q 1 2, qc nm d AA CC Q 1 3,
    qc nm d AA CC Q 2 0, qc nm d AA CC Q 2 1, qc nm d AA CC Q 2 2, qc nm d AA CC Q 2 3, qc nm d AA CC Q 3 0, qc nm d AA CC Q 3 1, qc nm d AA CC Q 3 2, qc nm d AA CC Q 3 3]
/-- A picture in a box of its own, with its capacity. -/
def PicBoxC (B : Nat) (T : TypeId) (nm : ByteArray) (X Y : Int) (n : Nat) (l : List Nat) (u : Value) (w : World) : Prop :=
  ∃ b A c, u = .pointer (some ⟨b, 0, none⟩) ∧ B ≤ b ∧ Blk w b T #[.string nm, .int .i64 X, .int .i64 Y, .slice A n c] ∧ n ≤ c ∧ Rd w A (fl l)
theorem PicBoxC.grow {B : Nat} {T : TypeId} {nm : ByteArray} {X Y : Int} {n : Nat} {l : List Nat} {u : Value} {w w' : World} (h : PicBoxC B T nm X Y n l u w) (hb : Below w.heap.size w w') : PicBoxC B T nm X Y n l u w' :=
  let ⟨b, A, c, h1, h2, h3, hc, h4⟩ := h; ⟨b, A, c, h1, h2, h3.below hb, hc, h4.below hb⟩
theorem box2t {w : World} {g : Nat} {t : TypeId} {a b : Value} (h : Blk w g t #[a, b]) : w.cell? ⟨g, 0, none⟩ = some a ∧ w.cell? ⟨g, 1, none⟩ = some b := ⟨h.cell 0, h.cell 1⟩
theorem blk_twot (w : World) (T : TypeId) (c d : Array Value) : Blk ((w.alloc (.cells c T)).alloc (.cells d T)).drew w.heap.size T c ∧ Blk ((w.alloc (.cells c T)).alloc (.cells d T)).drew (w.heap.size + 1) T d ∧ Below w.heap.size w ((w.alloc (.cells c T)).alloc (.cells d T)).drew :=
  ⟨(Blk.new w T c).alloc (.cells d T), by have h := Blk.new (w.alloc (.cells c T)) T d; simp only [World.size_alloc] at h; exact h, (((Below.refl _ _).alloc (Nat.le_refl _) _).alloc (by simp) _).drew⟩
theorem qv_zero (nm : ByteArray) (d : Nat → TileD) (AA : Nat → Option Addr) (CC : Nat → Nat) : #[.string ⟨#[]⟩, .int .i64 0, .int .i64 0, .slice none 0 0, .string ⟨#[]⟩, .int .i64 0, .int .i64 0, .slice none 0 0, .string ⟨#[]⟩, .int .i64 0, .int .i64 0, .slice none 0 0, .string ⟨#[]⟩, .int .i64 0, .int .i64 0, .slice none 0 0] = qv nm d AA CC 0 := rfl
/-- The memory of the rounds: the picture, the columns, the parts that are there. -/
structure TInv (bP bC bQ : Nat) (pv cv : Array Value) (nm : ByteArray) (d : Nat → TileD) (AA : Nat → Option Addr) (CC : Nat → Nat) (Q : Nat) (w : World) : Prop where
  p : Blk w bP 43 pv
  c : Blk w bC 130 cv
  q : Blk w bQ 131 (qv nm d AA CC Q)
  r : ∀ q, q < Q → (d q).N ≤ CC q ∧ Rd w (AA q) (fl (d q).L)
theorem TInv.below {bP bC bQ : Nat} {pv cv : Array Value} {nm : ByteArray} {d : Nat → TileD} {AA : Nat → Option Addr} {CC : Nat → Nat} {Q : Nat} {w w' : World} (h : TInv bP bC bQ pv cv nm d AA CC Q w) (hb : Below w.heap.size w w') : TInv bP bC bQ pv cv nm d AA CC Q w' :=
  ⟨h.p.below hb, h.c.below hb, h.q.below hb, fun q hq => ⟨(h.r q hq).1, (h.r q hq).2.below hb⟩⟩

def upd {α : Type} (f : Nat → α) (Q : Nat) (a : α) (q : Nat) : α := if q = Q then a else f q
theorem nf_qv (nm : ByteArray) (d : Nat → TileD) (AA : Nat → Option Addr) (CC : Nat → Nat) (Q : Nat) : NF (qv nm d AA CC Q) := fun k u hu => by
  match k, hu with
  | 0, hu => cases hu; rfl
  | 1, hu => cases hu; rfl
  | 2, hu => cases hu; rfl
  | 3, hu => cases hu; rfl
  | 4, hu => cases hu; rfl
  | 5, hu => cases hu; rfl
  | 6, hu => cases hu; rfl
  | 7, hu => cases hu; rfl
  | 8, hu => cases hu; rfl
  | 9, hu => cases hu; rfl
  | 10, hu => cases hu; rfl
  | 11, hu => cases hu; rfl
  | 12, hu => cases hu; rfl
  | 13, hu => cases hu; rfl
  | 14, hu => cases hu; rfl
  | 15, hu => cases hu; rfl
  | k + 16, hu => simp [qv] at hu
theorem qv_set (nm : ByteArray) (d : Nat → TileD) (AA : Nat → Option Addr) (CC : Nat → Nat) (Q : Nat) (hQ : Q < 4) (A : Option Addr) (c : Nat) :
    ((((qv nm d AA CC Q).setIfInBounds (4 * Q) (.string nm)).setIfInBounds (4 * Q + 1) (.int .i64 ((d Q).m : Int))).setIfInBounds (4 * Q + 2) (.int .i64 ((d Q).h : Int))).setIfInBounds (4 * Q + 3) (.slice A (d Q).N c) = qv nm d (upd AA Q A) (upd CC Q c) (Q + 1) := by
  match Q, hQ with
  | 0, _ => rfl
  | 1, _ => rfl
  | 2, _ => rfl
  | 3, _ => rfl
theorem qv_at (nm : ByteArray) (d : Nat → TileD) (AA : Nat → Option Addr) (CC : Nat → Nat) (Q k : Nat) (h : k < 16) : ∃ z, (qv nm d AA CC Q)[k]? = some z := ⟨_, Array.getElem?_eq_getElem (by simpa [qv] using h)⟩
/-- Four cells of a block without floats are set: what stays. -/
theorem st4 {w : World} {g : Nat} {T : TypeId} {cs : Array Value} (hb : Blk w g T cs) (hn : NF cs) (o : Nat) (a b c e : Value) (ha : fltV a = false) (hb2 : fltV b = false) (hc : fltV c = false) (he : fltV e = false) :
    Blk (((((w.setCell ⟨g, o, none⟩ a).setCell ⟨g, o + 1, none⟩ b).setCell ⟨g, o + 2, none⟩ c).setCell ⟨g, o + 3, none⟩ e)) g T ((((cs.setIfInBounds o a).setIfInBounds (o + 1) b).setIfInBounds (o + 2) c).setIfInBounds (o + 3) e) ∧
    (∀ k t cs2, Blk w k t cs2 → ¬ k = g → Blk (((((w.setCell ⟨g, o, none⟩ a).setCell ⟨g, o + 1, none⟩ b).setCell ⟨g, o + 2, none⟩ c).setCell ⟨g, o + 3, none⟩ e)) k t cs2) ∧
    RSt g w (((((w.setCell ⟨g, o, none⟩ a).setCell ⟨g, o + 1, none⟩ b).setCell ⟨g, o + 2, none⟩ c).setCell ⟨g, o + 3, none⟩ e)) :=
  ⟨(((hb.set_ o a).set_ (o + 1) b).set_ (o + 2) c).set_ (o + 3) e,
   fun k t cs2 h hk => (((h.far (p := ⟨g, o, none⟩) hk a).far (p := ⟨g, o + 1, none⟩) hk b).far (p := ⟨g, o + 2, none⟩) hk c).far (p := ⟨g, o + 3, none⟩) hk e,
   (((rst_set hb hn (Nat.le_refl g) o a ha).trans (rst_set (hb.set_ o a) (hn.set o a ha) (Nat.le_refl g) (o + 1) b hb2)).trans (rst_set ((hb.set_ o a).set_ (o + 1) b) ((hn.set o a ha).set (o + 1) b hb2) (Nat.le_refl g) (o + 2) c hc)).trans (rst_set (((hb.set_ o a).set_ (o + 1) b).set_ (o + 2) c) (((hn.set o a ha).set (o + 1) b hb2).set (o + 2) c hc) (Nat.le_refl g) (o + 3) e he)⟩
/-- The next part is stored. -/
theorem TInv.next {bP bC bQ : Nat} {pv cv : Array Value} {nm : ByteArray} {d : Nat → TileD} {AA : Nat → Option Addr} {CC : Nat → Nat} {Q : Nat} {w : World} (h : TInv bP bC bQ pv cv nm d AA CC Q w) (hQ : Q < 4) (hP : bP < bQ) (hC : bC < bQ) {A : Option Addr} {c : Nat} (hc : (d Q).N ≤ c) (hr : Rd w A (fl (d Q).L)) {o : Nat} (ho : o = 4 * Q) :
    TInv bP bC bQ pv cv nm d (upd AA Q A) (upd CC Q c) (Q + 1) ((((w.setCell ⟨bQ, o, none⟩ (.string nm)).setCell ⟨bQ, o + 1, none⟩ (.int .i64 ((d Q).m : Int))).setCell ⟨bQ, o + 2, none⟩ (.int .i64 ((d Q).h : Int))).setCell ⟨bQ, o + 3, none⟩ (.slice A (d Q).N c)) := by
  subst ho
  obtain ⟨h1, h2, h3⟩ := st4 h.q (nf_qv nm d AA CC Q) (4 * Q) (.string nm) (.int .i64 ((d Q).m : Int)) (.int .i64 ((d Q).h : Int)) (.slice A (d Q).N c) rfl rfl rfl rfl
  rw [qv_set nm d AA CC Q hQ A c] at h1
  refine ⟨h2 _ _ _ h.p (by omega), h2 _ _ _ h.c (by omega), h1, fun q hq => ?_⟩
  by_cases e : q = Q
  · subst e; simp only [upd, if_pos]; exact ⟨hc, h3.rd hr⟩
  · simp only [upd, if_neg e]; exact ⟨(h.r q (by omega)).1, h3.rd (h.r q (by omega)).2⟩
theorem TInv.at0 {bP bC bQ : Nat} {pv cv : Array Value} {nm : ByteArray} {d : Nat → TileD} {AA : Nat → Option Addr} {CC : Nat → Nat} {w : World} (h : TInv bP bC bQ pv cv nm d AA CC 4 w) : w.cell? ⟨bQ, 0, none⟩ = some (.string nm) ∧ w.cell? ⟨bQ, 1, none⟩ = some (.int .i64 ((d 0).m : Int)) ∧ w.cell? ⟨bQ, 2, none⟩ = some (.int .i64 ((d 0).h : Int)) ∧ w.cell? ⟨bQ, 3, none⟩ = some (.slice (AA 0) (d 0).N (CC 0)) :=
  ⟨h.q.cell 0, h.q.cell 1, h.q.cell 2, h.q.cell 3⟩
theorem TInv.at1 {bP bC bQ : Nat} {pv cv : Array Value} {nm : ByteArray} {d : Nat → TileD} {AA : Nat → Option Addr} {CC : Nat → Nat} {w : World} (h : TInv bP bC bQ pv cv nm d AA CC 4 w) : w.cell? ⟨bQ, 4, none⟩ = some (.string nm) ∧ w.cell? ⟨bQ, 5, none⟩ = some (.int .i64 ((d 1).m : Int)) ∧ w.cell? ⟨bQ, 6, none⟩ = some (.int .i64 ((d 1).h : Int)) ∧ w.cell? ⟨bQ, 7, none⟩ = some (.slice (AA 1) (d 1).N (CC 1)) :=
  ⟨h.q.cell 4, h.q.cell 5, h.q.cell 6, h.q.cell 7⟩
theorem TInv.at2 {bP bC bQ : Nat} {pv cv : Array Value} {nm : ByteArray} {d : Nat → TileD} {AA : Nat → Option Addr} {CC : Nat → Nat} {w : World} (h : TInv bP bC bQ pv cv nm d AA CC 4 w) : w.cell? ⟨bQ, 8, none⟩ = some (.string nm) ∧ w.cell? ⟨bQ, 9, none⟩ = some (.int .i64 ((d 2).m : Int)) ∧ w.cell? ⟨bQ, 10, none⟩ = some (.int .i64 ((d 2).h : Int)) ∧ w.cell? ⟨bQ, 11, none⟩ = some (.slice (AA 2) (d 2).N (CC 2)) :=
  ⟨h.q.cell 8, h.q.cell 9, h.q.cell 10, h.q.cell 11⟩
theorem TInv.at3 {bP bC bQ : Nat} {pv cv : Array Value} {nm : ByteArray} {d : Nat → TileD} {AA : Nat → Option Addr} {CC : Nat → Nat} {w : World} (h : TInv bP bC bQ pv cv nm d AA CC 4 w) : w.cell? ⟨bQ, 12, none⟩ = some (.string nm) ∧ w.cell? ⟨bQ, 13, none⟩ = some (.int .i64 ((d 3).m : Int)) ∧ w.cell? ⟨bQ, 14, none⟩ = some (.int .i64 ((d 3).h : Int)) ∧ w.cell? ⟨bQ, 15, none⟩ = some (.slice (AA 3) (d 3).N (CC 3)) :=
  ⟨h.q.cell 12, h.q.cell 13, h.q.cell 14, h.q.cell 15⟩
/-- Two pictures are joined. -/
def JoinT (f : FuncId) (nm : ByteArray) (m1 h1 n1 : Nat) (L1 : List Nat) (m2 h2 n2 : Nat) (L2 : List Nat) (m h n : Nat) (L : List Nat) : Prop :=
  ∀ (A B : Option Addr) (c e : Nat) (w : World), n1 ≤ c → n2 ≤ e → Rd w A (fl L1) → Rd w B (fl L2) → Calls Tryz.prog f #[.agg #[.string nm, .int .i64 (m1 : Int), .int .i64 (h1 : Int), .slice A n1 c], .agg #[.string nm, .int .i64 (m2 : Int), .int .i64 (h2 : Int), .slice B n2 e]] w fun en w' => ∃ A' c', en = .returned (.tuple #[.agg #[.string nm, .int .i64 (m : Int), .int .i64 (h : Int), .slice A' n c'], .int .i64 0]) ∧ n ≤ c' ∧ Rd w' A' (fl L) ∧ Below w.heap.size w w'
end Go.Proofs.YtlicgblagkkcfaaGreatDoor
