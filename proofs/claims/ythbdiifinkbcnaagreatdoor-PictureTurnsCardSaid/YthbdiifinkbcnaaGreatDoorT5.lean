/- Parts of a proof: Two pictures beside each other. Two lists compared. The law's small picture and its comparison. The loops over an iterator of bytes: the check and the parity. -/
import Derived.Test.YthbdiifinkbcnaaGreatDoorT3
import Derived.RangeFuncNested
import Derived.RangeFuncBound
import Derived.RangeFuncCalls
import Derived.RangeFuncLeaves
import Derived.RangeFuncBox
import Derived.Shelf.Abstract
import Derived.WalkKit
import Derived.OwnWalkIn
import Derived.TacticsInMore
import Derived.LoopNIn
import Derived.LoopIn
namespace Go.Proofs.YthbdiifinkbcnaaGreatDoor
open Go.RowKit
set_option linter.unusedVariables false
attribute [local go_sem] run_store_float run_store_complex
def besideF (l k : List Nat) (W V M : Nat) (i : Nat) : Value := if i % M < W then .float .f32 (l.getD (i / M * W + i % M) 0) else .float .f32 (k.getD (i / M * V + (i % M - W)) 0)
theorem divmod_at2 (M o x y : Nat) (hy : y < M) (ho : x * M = o) : (o + y) / M = x ∧ (o + y) % M = y := by
  rw [← ho, Nat.mul_comm]
  exact ⟨by rw [Nat.mul_add_div (by omega), Nat.div_eq_of_lt hy]; rfl, by rw [Nat.mul_add_mod, Nat.mod_eq_of_lt hy]⟩
theorem besideF_l {l k : List Nat} {W V M y o q j : Nat} (hM : W + V = M) (ho : y * M = o) (hq : y * W = q) (hj : j < W) : besideF l k W V M (o + j) = .float .f32 (l.getD (q + j) 0) := by
  obtain ⟨h1, h2⟩ := divmod_at2 M o y j (by omega) ho
  unfold besideF
  rw [h1, h2, if_pos hj, hq]
theorem besideF_r {l k : List Nat} {W V M y o r j : Nat} (hM : W + V = M) (ho : y * M = o) (hr : y * V = r) (hj : j < V) : besideF l k W V M (o + W + j) = .float .f32 (k.getD (r + j) 0) := by
  obtain ⟨h1, h2⟩ := divmod_at2 M o y (W + j) (by omega) ho
  unfold besideF
  rw [Nat.add_assoc, h1, h2, if_neg (by omega), hr, show W + j - W = j by omega]
set_option maxRecDepth 100000 in
set_option maxHeartbeats 2000000 in
theorem beside_ok (nm nm2 : ByteArray) (W V H M : Nat) (hM : W + V = M) (l k : List Nat) (hp : (Pic.mk nm W H l).Ok) (he : (Pic.mk nm W H l).err = 0) (hp2 : (Pic.mk nm2 V H k).Ok) (he2 : (Pic.mk nm2 V H k).err = 0) (hWV : M ≤ 64) (A A2 : Option Addr) (c c2 : Nat) (w : World) (hs : nm.size ≤ maxLen) (hs2 : nm2.size ≤ maxLen) (hcap : l.length ≤ c) (hcap2 : k.length ≤ c2) (hr : Rd w A (fl l)) (hr2 : Rd w A2 (fl k)) :
    Calls Tryz.prog 38 #[.agg #[.string nm, .int .i64 (W : Int), .int .i64 (H : Int), .slice A l.length c], .agg #[.string nm2, .int .i64 (V : Int), .int .i64 (H : Int), .slice A2 k.length c2]] w fun e w' => ∃ g, e = .returned (.tuple #[.agg #[.string nm, .int .i64 (M : Int), .int .i64 (H : Int), .slice (some ⟨g, 0, none⟩) (M * H) (M * H)], .int .i64 0]) ∧ Blk w' g 23 (maskN (besideF l k W V M) (.float .f32 0) (M * H) (fun _ => true)) ∧ Below w.heap.size w w' := by
  have hW : 1 ≤ W ∧ W ≤ 64 := by have h1 := hp.w1; have h2 := hp.w2; simp at h1 h2; omega
  have hV : 1 ≤ V ∧ V ≤ 64 := by have h1 := hp2.w1; have h2 := hp2.w2; simp at h1 h2; omega
  have hH : 1 ≤ H ∧ H ≤ 64 := by have h1 := hp.h1; have h2 := hp.h2; simp at h1 h2; omega
  have hlen : l.length = W * H := by have h1 := hp.len; simp only [] at h1; exact_mod_cast h1
  have hlen2 : k.length = V * H := by have h1 := hp2.len; simp only [] at h1; exact_mod_cast h1
  have hbig : l.length ≤ 4096 := hp.big
  have hbig2 : k.length ≤ 4096 := hp2.big
  have hpos : 0 < (fl l).length := by have := prod_pos hW.1 hH.1; simp [fl]; omega
  have hpos2 : 0 < (fl k).length := by have := prod_pos hV.1 hH.1; simp [fl]; omega
  obtain ⟨ad, rfl, hadb, hadc⟩ := hr.some_ hpos
  obtain ⟨ad2, rfl, hadb2, hadc2⟩ := hr2.some_ hpos2
  have HAD := Lib.hid hadc; have HAD2 := Lib.hid hadc2; clear hadc hadc2 hpos hpos2
  have HR := Lib.hid hr; have HE := Lib.hid he
  have HRb := Lib.hid hr2; have HE2 := Lib.hid he2
  have HLEN := Lib.hid hlen; have HLEN2 := Lib.hid hlen2
  clear hr hp he hlen hr2 hp2 he2 hlen2
  have hl : l.length ≤ maxLen := Nat.le_trans hbig (by decide)
  have hl2 : k.length ≤ maxLen := Nat.le_trans hbig2 (by decide)
  have hcp := fun w hr => checkPicture_any (Pic.mk nm W H l) (some ad) c w hs hl hr
  have hcp2 := fun w hr => checkPicture_any (Pic.mk nm2 V H k) (some ad2) c2 w hs2 hl2 hr
  rw [HE.out] at hcp
  rw [HE2.out] at hcp2
  simp only [Pic.val] at hcp hcp2
  have HCP := Lib.hid hcp; have HCP2 := Lib.hid hcp2; clear hcp hcp2 hl hl2 hs hs2
  have hsum : IntKind.i64.wrap ((W : Int) + (V : Int)) = (M : Int) := by rw [IntWalk.i64_in _ (by omega)]; omega
  have hdec : decide ((64 : Int) < (M : Int)) = false := by simp; omega
  go_enter Tryz.func38, Tryz.ntmps38
  go_wp2_with fail
  have hx0 := (((Blk.new w 50 #[.string nm, .int .i64 (W : Int), .int .i64 (H : Int), .slice (some ad) l.length c]).alloc (.cells #[.string nm2, .int .i64 (V : Int), .int .i64 (H : Int), .slice (some ad2) k.length c2] 50)).alloc (.cells #[.string ⟨#[]⟩, .int .i64 0, .int .i64 0, .slice none 0 0] 50))
  have hx1 := ((Blk.new (w.alloc (.cells #[.string nm, .int .i64 (W : Int), .int .i64 (H : Int), .slice (some ad) l.length c] 50)) 50 #[.string nm2, .int .i64 (V : Int), .int .i64 (H : Int), .slice (some ad2) k.length c2]).alloc (.cells #[.string ⟨#[]⟩, .int .i64 0, .int .i64 0, .slice none 0 0] 50))
  simp only [World.size_alloc] at hx1
  have hx2 := (Blk.new ((w.alloc (.cells #[.string nm, .int .i64 (W : Int), .int .i64 (H : Int), .slice (some ad) l.length c] 50)).alloc (.cells #[.string nm2, .int .i64 (V : Int), .int .i64 (H : Int), .slice (some ad2) k.length c2] 50)) 50 #[.string ⟨#[]⟩, .int .i64 0, .int .i64 0, .slice none 0 0])
  simp only [World.size_alloc] at hx2
  have hb0 := ((((Below.refl w.heap.size w).alloc (Nat.le_refl _) (.cells #[.string nm, .int .i64 (W : Int), .int .i64 (H : Int), .slice (some ad) l.length c] 50)).alloc (by simp only [World.size_alloc]; omega) (.cells #[.string nm2, .int .i64 (V : Int), .int .i64 (H : Int), .slice (some ad2) k.length c2] 50)).alloc (by simp only [World.size_alloc]; omega) (.cells #[.string ⟨#[]⟩, .int .i64 0, .int .i64 0, .slice none 0 0] 50))
  generalize (((w.alloc (.cells #[.string nm, .int .i64 (W : Int), .int .i64 (H : Int), .slice (some ad) l.length c] 50)).alloc (.cells #[.string nm2, .int .i64 (V : Int), .int .i64 (H : Int), .slice (some ad2) k.length c2] 50)).alloc (.cells #[.string ⟨#[]⟩, .int .i64 0, .int .i64 0, .slice none 0 0] 50)) = w0 at hx0 hx1 hx2 hb0 ⊢
  have HX0_0 := Lib.hid hx0
  have HX1_0 := Lib.hid hx1
  have HX2_0 := Lib.hid hx2
  have HB_0 := Lib.hid hb0
  clear hx0 hx1 hx2 hb0
  have k0_0 := HX0_0.out.cell 0
  have k0_1 := HX0_0.out.cell 1
  have k0_2 := HX0_0.out.cell 2
  have k0_3 := HX0_0.out.cell 3
  simp only [List.getElem?_toArray, List.getElem?_cons_zero, List.getElem?_cons_succ] at k0_0 k0_1 k0_2 k0_3
  have k1_0 := HX1_0.out.cell 0
  have k1_1 := HX1_0.out.cell 1
  have k1_2 := HX1_0.out.cell 2
  have k1_3 := HX1_0.out.cell 3
  simp only [List.getElem?_toArray, List.getElem?_cons_zero, List.getElem?_cons_succ] at k1_0 k1_1 k1_2 k1_3
  have hch : Below w0.heap.size w0 w0.drew := (Below.refl _ _).drew
  go_region_held3 (fun w' => w'.cell? ⟨w.heap.size, 0, none⟩ = some (.string nm) ∧ w'.cell? ⟨w.heap.size, 1, none⟩ = some (.int .i64 (W : Int)) ∧ w'.cell? ⟨w.heap.size, 2, none⟩ = some (.int .i64 (H : Int)) ∧ w'.cell? ⟨w.heap.size, 3, none⟩ = some (.slice (some ad) l.length c) ∧ w'.cell? ⟨w.heap.size + 1, 0, none⟩ = some (.string nm2) ∧ w'.cell? ⟨w.heap.size + 1, 1, none⟩ = some (.int .i64 (V : Int)) ∧ w'.cell? ⟨w.heap.size + 1, 2, none⟩ = some (.int .i64 (H : Int)) ∧ w'.cell? ⟨w.heap.size + 1, 3, none⟩ = some (.slice (some ad2) k.length c2))
    (go_keep)
    (first
      | (go_at_call 35; (first | (with_reducible refine (HCP.out _ (by exact HR.out.below (HB_0.out.trans ((chainB' hch (Below.refl _ _)).mono HB_0.out.size)))).mono ?_) | (with_reducible refine (HCP2.out _ (by exact HRb.out.below (HB_0.out.trans ((chainB' hch (Below.refl _ _)).mono HB_0.out.size)))).mono ?_)); rintro e wn ⟨rfl, hbn⟩; have hch := chainB' (wo := w0) (by assumption) hbn; have k0_0 := cellL hbn (a := ⟨w.heap.size, 0, none⟩) (v := .string nm) (by assumption); have k0_1 := cellL hbn (a := ⟨w.heap.size, 1, none⟩) (v := .int .i64 (W : Int)) (by assumption); have k0_2 := cellL hbn (a := ⟨w.heap.size, 2, none⟩) (v := .int .i64 (H : Int)) (by assumption); have k0_3 := cellL hbn (a := ⟨w.heap.size, 3, none⟩) (v := .slice (some ad) l.length c) (by assumption); have k1_0 := cellL hbn (a := ⟨w.heap.size + 1, 0, none⟩) (v := .string nm2) (by assumption); have k1_1 := cellL hbn (a := ⟨w.heap.size + 1, 1, none⟩) (v := .int .i64 (V : Int)) (by assumption); have k1_2 := cellL hbn (a := ⟨w.heap.size + 1, 2, none⟩) (v := .int .i64 (H : Int)) (by assumption); have k1_3 := cellL hbn (a := ⟨w.heap.size + 1, 3, none⟩) (v := .slice (some ad2) k.length c2) (by assumption))
      | (go_at_call 101; refine (errorIf_any _ _ _).mono ?_; rintro e wn ⟨rfl, rfl⟩)
      | (go_at_call 94; refine (first_n _ _ _ [0, 0, errIf _ 2, errIf _ 5] _ rfl (by simp [maxLen]) (by exact rd_of_blk (Blk.new _ _ _) rfl)).mono ?_; rintro e wn ⟨rfl, rfl⟩))
  have hN : M * H ≤ 4096 := Nat.le_trans (Nat.mul_le_mul hWV hH.2) (by decide)
  go_wp2_with fail
  have hch := chainB' hch ((Below.refl _ _).alloc (Nat.le_refl _) (.cells #[.int .i64 0, .int .i64 0, .int .i64 (errIf false 2), .int .i64 (errIf false 5)] 26))
  refine (blank_any nm M H (M * H) _ rfl hN).mono ?_
  rintro e w2 ⟨g, rfl, hg, hgb, hb2⟩
  have hch := chainB' hch hb2
  have HX0_2 := Lib.hid (HX0_0.out.below hch)
  have HX1_2 := Lib.hid (HX1_0.out.below hch)
  have HX2_2 := Lib.hid (HX2_0.out.below hch)
  have HB_2 := Lib.hid (HB_0.out.trans (hch.mono HB_0.out.size))
  have HG2 := Lib.hid hgb
  have hgl : w.heap.size + 1 + 1 < g := Nat.lt_of_lt_of_le (HX2_0.out.below (by assumption : Below w0.heap.size w0 wn)).lt (Nat.le_trans (by simp) hg)
  have hzg : g < w2.heap.size := HG2.out.lt
  have hz : w.heap.size < w2.heap.size ∧ w.heap.size + 1 < w2.heap.size ∧ w.heap.size + 1 + 1 < w2.heap.size := by have := HX2_2.out.lt; omega
  obtain ⟨z0, z1, z2⟩ := hz
  clear hb2 hgb hch hg hsum hdec
  clear k0_0 k0_1 k0_2 k0_3 k1_0 k1_1 k1_2 k1_3
  have k0_0 := HX0_2.out.cell 0
  have k0_1 := HX0_2.out.cell 1
  have k0_2 := HX0_2.out.cell 2
  have k0_3 := HX0_2.out.cell 3
  simp only [List.getElem?_toArray, List.getElem?_cons_zero, List.getElem?_cons_succ] at k0_0 k0_1 k0_2 k0_3
  have k1_0 := HX1_2.out.cell 0
  have k1_1 := HX1_2.out.cell 1
  have k1_2 := HX1_2.out.cell 2
  have k1_3 := HX1_2.out.cell 3
  simp only [List.getElem?_toArray, List.getElem?_cons_zero, List.getElem?_cons_succ] at k1_0 k1_1 k1_2 k1_3
  go_wp2_with fail
  have hx3 := HX0_2.out.alloc (.cells #[.string nm, .int .i64 (M : Int), .int .i64 (H : Int), .slice (some ⟨g, 0, none⟩) (M * H) (M * H)] 50)
  have hx4 := HX1_2.out.alloc (.cells #[.string nm, .int .i64 (M : Int), .int .i64 (H : Int), .slice (some ⟨g, 0, none⟩) (M * H) (M * H)] 50)
  have hx5 := HX2_2.out.alloc (.cells #[.string nm, .int .i64 (M : Int), .int .i64 (H : Int), .slice (some ⟨g, 0, none⟩) (M * H) (M * H)] 50)
  have hg3 := HG2.out.alloc (.cells #[.string nm, .int .i64 (M : Int), .int .i64 (H : Int), .slice (some ⟨g, 0, none⟩) (M * H) (M * H)] 50)
  have hf3 := Blk.new w2 50 #[.string nm, .int .i64 (M : Int), .int .i64 (H : Int), .slice (some ⟨g, 0, none⟩) (M * H) (M * H)]
  have hb3 := HB_2.out.alloc HB_2.out.size (.cells #[.string nm, .int .i64 (M : Int), .int .i64 (H : Int), .slice (some ⟨g, 0, none⟩) (M * H) (M * H)] 50)
  clear k0_0 k0_1 k0_2 k0_3 k1_0 k1_1 k1_2 k1_3
  obtain ⟨b3, hb3e⟩ : ∃ b, w2.heap.size = b := ⟨_, rfl⟩
  rw [hb3e] at hf3 z0 z1 z2 hzg ⊢
  clear hb3e
  generalize w2.alloc (.cells #[.string nm, .int .i64 (M : Int), .int .i64 (H : Int), .slice (some ⟨g, 0, none⟩) (M * H) (M * H)] 50) = w3 at hx3 hx4 hx5 hg3 hf3 hb3 ⊢
  have HX0_3 := Lib.hid hx3; have HX1_3 := Lib.hid hx4; have HX2_3 := Lib.hid hx5; have HG3 := Lib.hid hg3; have HF3 := Lib.hid hf3; have HB_3 := Lib.hid hb3
  clear hx3 hx4 hx5 hg3 hf3 hb3
  clear HX0_0 HX1_0 HX2_0 HX0_2 HX1_2 HX2_2 HG2 HB_0 HB_2 HCP HCP2 HR HRb HE HE2
  go_loopw [44] (fun i wr => ∃ y : Nat, y ≤ H ∧ i = .int .i64 y ∧ Blk wr (w.heap.size) 50 #[.string nm, .int .i64 (W : Int), .int .i64 (H : Int), .slice (some ad) l.length c] ∧ Blk wr (w.heap.size + 1) 50 #[.string nm2, .int .i64 (V : Int), .int .i64 (H : Int), .slice (some ad2) k.length c2] ∧ Blk wr (w.heap.size + 1 + 1) 50 #[.string ⟨#[]⟩, .int .i64 0, .int .i64 0, .slice none 0 0] ∧ Blk wr b3 50 #[.string nm, .int .i64 (M : Int), .int .i64 (H : Int), .slice (some ⟨g, 0, none⟩) (M * H) (M * H)] ∧ Blk wr g 23 (maskN (besideF l k W V M) (.float .f32 0) (M * H) (fun i => decide (i < y * M))) ∧ Below w.heap.size w wr) (fun i _ => H - (intOf i).toNat)
  case atStart =>
    refine ⟨0, by omega, rfl, HX0_3.out, HX1_3.out, HX2_3.out, HF3.out, ?_, HB_3.out⟩
    have h := HG3.out
    rw [fill_mask, mask_congr (fun _ => .float .f32 0) (besideF l k W V M) _ _ _ (fun i => decide (i < 0 * M)) (by simp) (by simp)] at h
    exact h
  case round =>
    obtain ⟨y, hy, rfl, hx0, hx1, hx2, hx3, hgm, hbel⟩ := hrel
    obtain ⟨wo, rfl⟩ : ∃ wo : World, wo = wr := ⟨_, rfl⟩
    by_cases hlt : y < H
    · have hro := row_le (W := M) hlt
      have hrs := row_le (W := W) hlt
      have hrv := row_le (W := V) hlt
      obtain ⟨o, ho⟩ : ∃ o, y * M = o := ⟨_, rfl⟩
      obtain ⟨q, hq⟩ : ∃ q, y * W = q := ⟨_, rfl⟩
      obtain ⟨r, hr⟩ : ∃ r, y * V = r := ⟨_, rfl⟩
      have hol : o + M ≤ M * H := by rw [← ho]; exact hro
      have hql : q + W ≤ l.length := by rw [← hq, HLEN.out]; exact hrs
      have hrl : r + V ≤ k.length := by rw [← hr, HLEN2.out]; exact hrv
      have HO := Lib.hid ho; have HQ := Lib.hid hq; have HRR := Lib.hid hr; clear ho hq hr hro hrs hrv
      have HX0_4 := Lib.hid hx0; have HX1_4 := Lib.hid hx1; have HX2_4 := Lib.hid hx2; have HX3_4 := Lib.hid hx3; have HG := Lib.hid hgm; have HB_4 := Lib.hid hbel
      clear hx0 hx1 hx2 hx3 hgm hbel
      have hrow1 := fun w => row_blk nm M H (M * H) (M * H) o g y w (by omega) HO.out hol (Nat.le_refl _) hN (by omega)
      have hrow2 := fun w => row_any nm W H l.length c q ad y w hW.1 HQ.out hql hcap hbig (by omega)
      have hrow3 := fun w => row_any nm2 V H k.length c2 r ad2 y w hV.1 HRR.out hrl hcap2 hbig2 (by omega)
      have HR1 := Lib.hid hrow1; have HR2 := Lib.hid hrow2; have HR3 := Lib.hid hrow3
      clear hrow1 hrow2 hrow3
      obtain ⟨cs1, hcs⟩ : ∃ cs, (List.range W).map (fun j => besideF l k W V M (o + j)) = cs := ⟨_, rfl⟩
      have hcl : cs1.length = W := by rw [← hcs]; simp
      have hcg : ∀ j, j < cs1.length → cs1[j]? = some (besideF l k W V M (o + j)) := fun j hj => by rw [← hcs]; rw [hcl] at hj; simp [hj]
      have hone : ∀ v ∈ cs1, v.oneCell' = true := fun v hv => by
        obtain ⟨j, hj, rfl⟩ := List.getElem_of_mem hv
        have h := hcg j hj
        rw [List.getElem?_eq_getElem hj] at h
        rw [hcl] at hj
        rw [Option.some.inj h, besideF_l hM HO.out HQ.out hj]
        rfl
      have hnew := mask_copy (besideF l k W V M) (.float .f32 0) (M * H) (fun i => decide (i < y * M)) (fun i => decide (i < o + W)) (o) cs1 (by omega) hcg (fun i hi => by rw [HO.out]; rw [hcl, Bool.eq_iff_iff]; simp; omega)
      have hsrc : ∀ j v, cs1[j]? = some v → w.cell? ((ad.add q).add j) = some v := fun j v hj => by
        have hj1 : j < cs1.length := (List.getElem?_eq_some_iff.1 hj).1
        rw [hcg j hj1] at hj
        cases hj
        rw [hcl] at hj1
        rw [add_of_add, HAD.out _ _ (fl_get (by omega)), besideF_l hM HO.out HQ.out hj1]
      have HN1 := Lib.hid hnew; have HSRC1 := Lib.hid hsrc; have HONE1 := Lib.hid hone; have HCL1 := Lib.hid hcl
      clear hnew hsrc hone hcl hcg hcs
      obtain ⟨cs2, hcs⟩ : ∃ cs, (List.range V).map (fun j => besideF l k W V M (o + W + j)) = cs := ⟨_, rfl⟩
      have hcl : cs2.length = V := by rw [← hcs]; simp
      have hcg : ∀ j, j < cs2.length → cs2[j]? = some (besideF l k W V M (o + W + j)) := fun j hj => by rw [← hcs]; rw [hcl] at hj; simp [hj]
      have hone : ∀ v ∈ cs2, v.oneCell' = true := fun v hv => by
        obtain ⟨j, hj, rfl⟩ := List.getElem_of_mem hv
        have h := hcg j hj
        rw [List.getElem?_eq_getElem hj] at h
        rw [hcl] at hj
        rw [Option.some.inj h, besideF_r hM HO.out HRR.out hj]
        rfl
      have hnew := mask_copy (besideF l k W V M) (.float .f32 0) (M * H) (fun i => decide (i < o + W)) (fun i => decide (i < (y + 1) * M)) (o + W) cs2 (by omega) hcg (fun i hi => by rw [Nat.add_mul, Nat.one_mul, HO.out]; rw [hcl, Bool.eq_iff_iff]; simp; omega)
      have hsrc : ∀ j v, cs2[j]? = some v → w.cell? ((ad2.add r).add j) = some v := fun j v hj => by
        have hj1 : j < cs2.length := (List.getElem?_eq_some_iff.1 hj).1
        rw [hcg j hj1] at hj
        cases hj
        rw [hcl] at hj1
        rw [add_of_add, HAD2.out _ _ (fl_get (by omega)), besideF_r hM HO.out HRR.out hj1]
      have HN2 := Lib.hid hnew; have HSRC2 := Lib.hid hsrc; have HONE2 := Lib.hid hone; have HCL2 := Lib.hid hcl
      clear hnew hsrc hone hcl hcg hcs
      have k0_0 := HX0_4.out.cell 0
      have k0_1 := HX0_4.out.cell 1
      have k0_2 := HX0_4.out.cell 2
      have k0_3 := HX0_4.out.cell 3
      simp only [List.getElem?_toArray, List.getElem?_cons_zero, List.getElem?_cons_succ] at k0_0 k0_1 k0_2 k0_3
      have k1_0 := HX1_4.out.cell 0
      have k1_1 := HX1_4.out.cell 1
      have k1_2 := HX1_4.out.cell 2
      have k1_3 := HX1_4.out.cell 3
      simp only [List.getElem?_toArray, List.getElem?_cons_zero, List.getElem?_cons_succ] at k1_0 k1_1 k1_2 k1_3
      have k3_0 := HX3_4.out.cell 0
      have k3_1 := HX3_4.out.cell 1
      have k3_2 := HX3_4.out.cell 2
      have k3_3 := HX3_4.out.cell 3
      simp only [List.getElem?_toArray, List.getElem?_cons_zero, List.getElem?_cons_succ] at k3_0 k3_1 k3_2 k3_3
      have hch : Below wo.heap.size wo wo.drew := (Below.refl _ _).drew
      have i1 : (0 : Int) ≤ (W : Int) := by omega
      have i2 : (W : Int) ≤ (M : Int) := by omega
      have i3 : (M : Int) ≤ ((M * H - o : Nat) : Int) := by omega
      have i4 : W < M * H - o := by omega
      have i5 : W ≤ M := by omega
      go_wp2_with fail
      go_region_held3 (fun w' => w'.cell? ⟨w.heap.size, 0, none⟩ = some (.string nm) ∧ w'.cell? ⟨w.heap.size, 1, none⟩ = some (.int .i64 (W : Int)) ∧ w'.cell? ⟨w.heap.size, 2, none⟩ = some (.int .i64 (H : Int)) ∧ w'.cell? ⟨w.heap.size, 3, none⟩ = some (.slice (some ad) l.length c) ∧ w'.cell? ⟨w.heap.size + 1, 0, none⟩ = some (.string nm2) ∧ w'.cell? ⟨w.heap.size + 1, 1, none⟩ = some (.int .i64 (V : Int)) ∧ w'.cell? ⟨w.heap.size + 1, 2, none⟩ = some (.int .i64 (H : Int)) ∧ w'.cell? ⟨w.heap.size + 1, 3, none⟩ = some (.slice (some ad2) k.length c2) ∧ w'.cell? ⟨b3, 0, none⟩ = some (.string nm) ∧ w'.cell? ⟨b3, 1, none⟩ = some (.int .i64 (M : Int)) ∧ w'.cell? ⟨b3, 2, none⟩ = some (.int .i64 (H : Int)) ∧ w'.cell? ⟨b3, 3, none⟩ = some (.slice (some ⟨g, 0, none⟩) (M * H) (M * H)))
        (go_keep)
        (first
          | (go_at_call 106; (first | (with_reducible refine (HR1.out _).mono ?_) | (with_reducible refine (HR2.out _).mono ?_)); rintro e wn ⟨rfl, hbn⟩; have hch := chainB' (wo := wo) (by assumption) hbn; have k0_0 := cellL hbn (a := ⟨w.heap.size, 0, none⟩) (v := .string nm) (by assumption); have k0_1 := cellL hbn (a := ⟨w.heap.size, 1, none⟩) (v := .int .i64 (W : Int)) (by assumption); have k0_2 := cellL hbn (a := ⟨w.heap.size, 2, none⟩) (v := .int .i64 (H : Int)) (by assumption); have k0_3 := cellL hbn (a := ⟨w.heap.size, 3, none⟩) (v := .slice (some ad) l.length c) (by assumption); have k1_0 := cellL hbn (a := ⟨w.heap.size + 1, 0, none⟩) (v := .string nm2) (by assumption); have k1_1 := cellL hbn (a := ⟨w.heap.size + 1, 1, none⟩) (v := .int .i64 (V : Int)) (by assumption); have k1_2 := cellL hbn (a := ⟨w.heap.size + 1, 2, none⟩) (v := .int .i64 (H : Int)) (by assumption); have k1_3 := cellL hbn (a := ⟨w.heap.size + 1, 3, none⟩) (v := .slice (some ad2) k.length c2) (by assumption); have k3_0 := cellL hbn (a := ⟨b3, 0, none⟩) (v := .string nm) (by assumption); have k3_1 := cellL hbn (a := ⟨b3, 1, none⟩) (v := .int .i64 (M : Int)) (by assumption); have k3_2 := cellL hbn (a := ⟨b3, 2, none⟩) (v := .int .i64 (H : Int)) (by assumption); have k3_3 := cellL hbn (a := ⟨b3, 3, none⟩) (v := .slice (some ⟨g, 0, none⟩) (M * H) (M * H)) (by assumption))
          | (refine upon_copy_blk 41 41 3 23 Tryz.underlying41 info_f32 g o _ _ (ad.add q) _ _ _ 23 (HG.out.below (by assumption)) cs1 (by rw [HCL1.out]; exact (Nat.min_eq_left (by omega)).symm) (by intro j v hj; exact ((HB_4.out.trans ((by assumption : Below wo.heap.size wo _).mono HB_4.out.size)).cell (by rw [block_of_add, block_of_add]; exact hadb)).trans (HSRC1.out j v hj)) (by rw [HCL1.out]; simp [maskN]; omega) HONE1.out _ HN1.out ?_; intro wn2 hbk hon; have k0_0 := hon.cell (p := ⟨w.heap.size, 0, none⟩) (v := .string nm) (by simp; omega) (by assumption); have k0_1 := hon.cell (p := ⟨w.heap.size, 1, none⟩) (v := .int .i64 (W : Int)) (by simp; omega) (by assumption); have k0_2 := hon.cell (p := ⟨w.heap.size, 2, none⟩) (v := .int .i64 (H : Int)) (by simp; omega) (by assumption); have k0_3 := hon.cell (p := ⟨w.heap.size, 3, none⟩) (v := .slice (some ad) l.length c) (by simp; omega) (by assumption); have k1_0 := hon.cell (p := ⟨w.heap.size + 1, 0, none⟩) (v := .string nm2) (by simp; omega) (by assumption); have k1_1 := hon.cell (p := ⟨w.heap.size + 1, 1, none⟩) (v := .int .i64 (V : Int)) (by simp; omega) (by assumption); have k1_2 := hon.cell (p := ⟨w.heap.size + 1, 2, none⟩) (v := .int .i64 (H : Int)) (by simp; omega) (by assumption); have k1_3 := hon.cell (p := ⟨w.heap.size + 1, 3, none⟩) (v := .slice (some ad2) k.length c2) (by simp; omega) (by assumption); have k3_0 := hon.cell (p := ⟨b3, 0, none⟩) (v := .string nm) (by simp; omega) (by assumption); have k3_1 := hon.cell (p := ⟨b3, 1, none⟩) (v := .int .i64 (M : Int)) (by simp; omega) (by assumption); have k3_2 := hon.cell (p := ⟨b3, 2, none⟩) (v := .int .i64 (H : Int)) (by simp; omega) (by assumption); have k3_3 := hon.cell (p := ⟨b3, 3, none⟩) (v := .slice (some ⟨g, 0, none⟩) (M * H) (M * H)) (by simp; omega) (by assumption)))
      have hxs := And.intro (hon.far (HX0_4.out.below hch) (by omega)) (And.intro (hon.far (HX1_4.out.below hch) (by omega)) (And.intro (hon.far (HX2_4.out.below hch) (by omega)) (And.intro (hon.far (HX3_4.out.below hch) (by omega)) (hon.below (HB_4.out.trans (hch.mono HB_4.out.size)) (by omega)))))
      have HX0_5 := Lib.hid hxs.1; have HX1_5 := Lib.hid hxs.2.1; have HX2_5 := Lib.hid hxs.2.2.1; have HX3_5 := Lib.hid hxs.2.2.2.1; have HB_5 := Lib.hid hxs.2.2.2.2
      clear hxs hch hbn hon
      clear k0_0 k0_1 k0_2 k0_3 k1_0 k1_1 k1_2 k1_3 k3_0 k3_1 k3_2 k3_3
      have HG5 := hbk; clear hbk
      obtain ⟨wp, hwp⟩ : ∃ wp : World, wp = wn2 := ⟨_, rfl⟩
      subst hwp
      have k0_0 := HX0_5.out.cell 0
      have k0_1 := HX0_5.out.cell 1
      have k0_2 := HX0_5.out.cell 2
      have k0_3 := HX0_5.out.cell 3
      simp only [List.getElem?_toArray, List.getElem?_cons_zero, List.getElem?_cons_succ] at k0_0 k0_1 k0_2 k0_3
      have k1_0 := HX1_5.out.cell 0
      have k1_1 := HX1_5.out.cell 1
      have k1_2 := HX1_5.out.cell 2
      have k1_3 := HX1_5.out.cell 3
      simp only [List.getElem?_toArray, List.getElem?_cons_zero, List.getElem?_cons_succ] at k1_0 k1_1 k1_2 k1_3
      have k3_0 := HX3_5.out.cell 0
      have k3_1 := HX3_5.out.cell 1
      have k3_2 := HX3_5.out.cell 2
      have k3_3 := HX3_5.out.cell 3
      simp only [List.getElem?_toArray, List.getElem?_cons_zero, List.getElem?_cons_succ] at k3_0 k3_1 k3_2 k3_3
      have hch : Below wp.heap.size wp wp.drew := (Below.refl _ _).drew
      go_wp2_with fail
      go_region_held3 (fun w' => w'.cell? ⟨w.heap.size, 0, none⟩ = some (.string nm) ∧ w'.cell? ⟨w.heap.size, 1, none⟩ = some (.int .i64 (W : Int)) ∧ w'.cell? ⟨w.heap.size, 2, none⟩ = some (.int .i64 (H : Int)) ∧ w'.cell? ⟨w.heap.size, 3, none⟩ = some (.slice (some ad) l.length c) ∧ w'.cell? ⟨w.heap.size + 1, 0, none⟩ = some (.string nm2) ∧ w'.cell? ⟨w.heap.size + 1, 1, none⟩ = some (.int .i64 (V : Int)) ∧ w'.cell? ⟨w.heap.size + 1, 2, none⟩ = some (.int .i64 (H : Int)) ∧ w'.cell? ⟨w.heap.size + 1, 3, none⟩ = some (.slice (some ad2) k.length c2) ∧ w'.cell? ⟨b3, 0, none⟩ = some (.string nm) ∧ w'.cell? ⟨b3, 1, none⟩ = some (.int .i64 (M : Int)) ∧ w'.cell? ⟨b3, 2, none⟩ = some (.int .i64 (H : Int)) ∧ w'.cell? ⟨b3, 3, none⟩ = some (.slice (some ⟨g, 0, none⟩) (M * H) (M * H)))
        (go_keep)
        (first
          | (go_at_call 106; (first | (with_reducible refine (HR1.out _).mono ?_) | (with_reducible refine (HR3.out _).mono ?_)); rintro e wn ⟨rfl, hbn⟩; have hch := chainB' (wo := wp) (by assumption) hbn; have k0_0 := cellL hbn (a := ⟨w.heap.size, 0, none⟩) (v := .string nm) (by assumption); have k0_1 := cellL hbn (a := ⟨w.heap.size, 1, none⟩) (v := .int .i64 (W : Int)) (by assumption); have k0_2 := cellL hbn (a := ⟨w.heap.size, 2, none⟩) (v := .int .i64 (H : Int)) (by assumption); have k0_3 := cellL hbn (a := ⟨w.heap.size, 3, none⟩) (v := .slice (some ad) l.length c) (by assumption); have k1_0 := cellL hbn (a := ⟨w.heap.size + 1, 0, none⟩) (v := .string nm2) (by assumption); have k1_1 := cellL hbn (a := ⟨w.heap.size + 1, 1, none⟩) (v := .int .i64 (V : Int)) (by assumption); have k1_2 := cellL hbn (a := ⟨w.heap.size + 1, 2, none⟩) (v := .int .i64 (H : Int)) (by assumption); have k1_3 := cellL hbn (a := ⟨w.heap.size + 1, 3, none⟩) (v := .slice (some ad2) k.length c2) (by assumption); have k3_0 := cellL hbn (a := ⟨b3, 0, none⟩) (v := .string nm) (by assumption); have k3_1 := cellL hbn (a := ⟨b3, 1, none⟩) (v := .int .i64 (M : Int)) (by assumption); have k3_2 := cellL hbn (a := ⟨b3, 2, none⟩) (v := .int .i64 (H : Int)) (by assumption); have k3_3 := cellL hbn (a := ⟨b3, 3, none⟩) (v := .slice (some ⟨g, 0, none⟩) (M * H) (M * H)) (by assumption))
          | (refine upon_copy_blk 41 41 3 23 Tryz.underlying41 info_f32 g (o + W) _ _ (ad2.add r) _ _ _ 23 (HG5.out.below (by assumption)) cs2 (by rw [HCL2.out]; exact (Nat.min_eq_left (by omega)).symm) (by intro j v hj; exact ((HB_5.out.trans ((by assumption : Below wp.heap.size wp _).mono HB_5.out.size)).cell (by rw [block_of_add, block_of_add]; exact hadb2)).trans (HSRC2.out j v hj)) (by rw [HCL2.out]; simp [maskN]; omega) HONE2.out _ HN2.out ?_; intro wn2 hbk hon; have k0_0 := hon.cell (p := ⟨w.heap.size, 0, none⟩) (v := .string nm) (by simp; omega) (by assumption); have k0_1 := hon.cell (p := ⟨w.heap.size, 1, none⟩) (v := .int .i64 (W : Int)) (by simp; omega) (by assumption); have k0_2 := hon.cell (p := ⟨w.heap.size, 2, none⟩) (v := .int .i64 (H : Int)) (by simp; omega) (by assumption); have k0_3 := hon.cell (p := ⟨w.heap.size, 3, none⟩) (v := .slice (some ad) l.length c) (by simp; omega) (by assumption); have k1_0 := hon.cell (p := ⟨w.heap.size + 1, 0, none⟩) (v := .string nm2) (by simp; omega) (by assumption); have k1_1 := hon.cell (p := ⟨w.heap.size + 1, 1, none⟩) (v := .int .i64 (V : Int)) (by simp; omega) (by assumption); have k1_2 := hon.cell (p := ⟨w.heap.size + 1, 2, none⟩) (v := .int .i64 (H : Int)) (by simp; omega) (by assumption); have k1_3 := hon.cell (p := ⟨w.heap.size + 1, 3, none⟩) (v := .slice (some ad2) k.length c2) (by simp; omega) (by assumption); have k3_0 := hon.cell (p := ⟨b3, 0, none⟩) (v := .string nm) (by simp; omega) (by assumption); have k3_1 := hon.cell (p := ⟨b3, 1, none⟩) (v := .int .i64 (M : Int)) (by simp; omega) (by assumption); have k3_2 := hon.cell (p := ⟨b3, 2, none⟩) (v := .int .i64 (H : Int)) (by simp; omega) (by assumption); have k3_3 := hon.cell (p := ⟨b3, 3, none⟩) (v := .slice (some ⟨g, 0, none⟩) (M * H) (M * H)) (by simp; omega) (by assumption)))
      have hxs := And.intro (hon.far (HX0_5.out.below hch) (by omega)) (And.intro (hon.far (HX1_5.out.below hch) (by omega)) (And.intro (hon.far (HX2_5.out.below hch) (by omega)) (And.intro (hon.far (HX3_5.out.below hch) (by omega)) (hon.below (HB_5.out.trans (hch.mono HB_5.out.size)) (by omega)))))
      have HX0_6 := Lib.hid hxs.1; have HX1_6 := Lib.hid hxs.2.1; have HX2_6 := Lib.hid hxs.2.2.1; have HX3_6 := Lib.hid hxs.2.2.2.1; have HB_6 := Lib.hid hxs.2.2.2.2
      clear hxs hch hbn hon
      clear k0_0 k0_1 k0_2 k0_3 k1_0 k1_1 k1_2 k1_3 k3_0 k3_1 k3_2 k3_3
      have HG6 := hbk; clear hbk
      go_wp2
      go_roundw
      case rel => exact ⟨y + 1, by omega, by go_num, HX0_6.out, HX1_6.out, HX2_6.out, HX3_6.out, HG6.out, HB_6.out⟩
      case measure => simp [intOf]; omega
    · have hye : y = H := by omega
      subst hye
      obtain ⟨c0, c1, c2, c3⟩ := box4 hx3
      obtain ⟨d0, d1, d2, d3⟩ := box4 hx2
      have z0 := hx2.frozen 0
      have z1 := hx2.frozen 1
      have z2 := hx2.frozen 2
      have z3 := hx2.frozen 3
      have HG9 := Lib.hid hgm; have HB9 := Lib.hid hbel
      clear hx0 hx1 hx2 hx3 hgm hbel
      go_wp2
      refine bodyPost_ret (v := .tuple #[.agg #[.string nm, .int .i64 (M : Int), .int .i64 (y : Int), .slice (some ⟨g, 0, none⟩) (M * y) (M * y)], .int .i64 0]) (by simp [results, Tryz.results38, go_sem, d0, d1, d2, d3]) rfl ⟨g, rfl, ?_, ?_⟩
      · have h := HG9.out
        rw [mask_congr (besideF l k W V M) (besideF l k W V M) _ _ _ (fun _ => true) (fun i hi => by rw [Nat.mul_comm] at hi; simp; omega) (fun _ _ _ => rfl)] at h
        exact (((h.far (p := ⟨w.heap.size + 1 + 1, 0, none⟩) (by simp; omega) _).far (p := ⟨w.heap.size + 1 + 1, 1, none⟩) (by simp; omega) _).far (p := ⟨w.heap.size + 1 + 1, 2, none⟩) (by simp; omega) _).far (p := ⟨w.heap.size + 1 + 1, 3, none⟩) (by simp; omega) _
      · exact (((HB9.out.setCell (p := ⟨w.heap.size + 1 + 1, 0, none⟩) (by simp; omega) _).setCell (p := ⟨w.heap.size + 1 + 1, 1, none⟩) (by simp; omega) _).setCell (p := ⟨w.heap.size + 1 + 1, 2, none⟩) (by simp; omega) _).setCell (p := ⟨w.heap.size + 1 + 1, 3, none⟩) (by simp; omega) _

end Go.Proofs.YthbdiifinkbcnaaGreatDoor
namespace Go.Proofs.YthbdiifinkbcnaaGreatDoor
open Go.RowKit
set_option linter.unusedVariables false
attribute [local go_sem] run_store_float run_store_complex
def sameI (l k : List Int) : Bool := decide (l = k)
theorem take_next {α : Type} {l k : List α} {i : Nat} (hl : i < l.length) (hk : i < k.length) (h : l.take i = k.take i) (he : l[i] = k[i]) : l.take (i + 1) = k.take (i + 1) := by
  rw [List.take_succ_eq_append_getElem hl, List.take_succ_eq_append_getElem hk, h, he]
set_option maxRecDepth 100000 in
theorem sameInts_any (A B : Option Addr) (c d : Nat) (l k : List Int) (w : World) (hl : l.length ≤ maxLen) (hl2 : k.length ≤ maxLen) (hr : Rd w A (l.map (.int .i64))) (hr2 : Rd w B (k.map (.int .i64))) :
    Calls Tryz.prog 21 #[.slice A l.length c, .slice B k.length d] w fun e w' => e = .returned (.bool (sameI l k)) ∧ Below w.heap.size w w' := by
  unfold maxLen at hl hl2
  have HRa := Lib.hid hr; have HRb := Lib.hid hr2; clear hr hr2
  by_cases hlen : l.length = k.length
  · obtain ⟨n, hn⟩ : ∃ n, l.length = n := ⟨_, rfl⟩
    have hm : k.length = n := by rw [← hlen, hn]
    rw [hn, hm]
    have HN := Lib.hid hn; have HM := Lib.hid hm
    have hl' : n ≤ 2 ^ 62 - 1 ∨ True := Or.inr trivial
    rw [hn] at hl
    clear hlen hl2 hl' hn hm
    go_enter Tryz.func21, Tryz.ntmps21
    go_wp2
    go_loopw [5] (fun v wr => ∃ i : Nat, i ≤ n ∧ v = .int .i64 i ∧ RowKit.Hid (l.take i = k.take i) ∧ Below w.heap.size w wr) (fun v _ => n - (intOf v).toNat)
    case atStart => exact ⟨0, by omega, rfl, Lib.hid rfl, Below.refl _ _⟩
    case round =>
      obtain ⟨i, hi, rfl, hpre, hbel⟩ := hrel
      by_cases hlt : i < n
      · have g1 : i < l.length := by rw [HN.out]; exact hlt
        have g2 : i < k.length := by rw [HM.out]; exact hlt
        obtain ⟨ad, rfl, hb1, hc1⟩ := (HRa.out.below hbel).get (k := i) (u := .int .i64 l[i]) (by simp [g1])
        obtain ⟨ad2, rfl, hb2, hc2⟩ := (HRb.out.below hbel).get (k := i) (u := .int .i64 k[i]) (by simp [g2])
        obtain ⟨a, ha⟩ : ∃ a, l[i] = a := ⟨_, rfl⟩
        obtain ⟨b, hb⟩ : ∃ b, k[i] = b := ⟨_, rfl⟩
        rw [ha] at hc1
        rw [hb] at hc2
        have HA := Lib.hid ha; have HBb := Lib.hid hb; have HBE := Lib.hid hbel
        clear ha hb hbel
        by_cases hab : a = b
        · have hab' : (a != b) = false := by simp [hab]
          have HAB := Lib.hid hab; clear hab
          go_wp2_with fail
          go_quiet (fail)
          go_wp2
          go_roundw
          case rel => exact ⟨i + 1, by omega, by go_num, Lib.hid (take_next g1 g2 hpre.out (by rw [HA.out, HBb.out, HAB.out])), by exact below_drewN HBE.out nq⟩
          case measure => simp [intOf]; omega
        · have hab' : (a != b) = true := by simp [hab]
          have HAB := Lib.hid hab; clear hab
          go_wp2_with fail
          go_quiet (fail)
          go_wp2
          go_ret
          exact ⟨ret_bool (by unfold sameI; rw [eq_comm, decide_eq_false_iff_not]; intro he; subst he; exact HAB.out (HA.out.symm.trans HBb.out)), by exact below_drewN HBE.out nq⟩
      · have hie : i = n := by omega
        subst hie
        go_wp2
        go_ret
        refine ⟨ret_bool ?_, hbel⟩
        have h := hpre.out
        rw [List.take_of_length_le (by rw [HN.out]; exact Nat.le_refl _), List.take_of_length_le (by rw [HM.out]; exact Nat.le_refl _)] at h
        simp [sameI, h]
  · have hd : ((l.length : Int) != (k.length : Int)) = true := by simp; omega
    have hs : sameI l k = false := by unfold sameI; rw [decide_eq_false_iff_not]; intro he; subst he; exact hlen rfl
    rw [hs]
    clear hs
    go_enter Tryz.func21, Tryz.ntmps21
    go_wp2
    go_ret
    exact ⟨rfl, Below.refl _ _⟩

/-- equal as float32 numbers: the program's own '!=' at each place -/
def eqF (a b : Nat) : Bool := FloatKind.f32.format.order a b == some .eq
def sameF : List Nat → List Nat → Bool
  | [], [] => true
  | a :: l, b :: k => eqF a b && sameF l k
  | _, _ => false
theorem sameF_len {l k : List Nat} (h : l.length ≠ k.length) : sameF l k = false := by
  induction l generalizing k with
  | nil => cases k with
    | nil => simp at h
    | cons b k => rfl
  | cons a l ih => cases k with
    | nil => rfl
    | cons b k => simp only [sameF]; rw [ih (by simpa using h)]; simp
theorem sameF_at {l k : List Nat} {i : Nat} (hl : i < l.length) (hk : i < k.length) : sameF (l.drop i) (k.drop i) = (eqF l[i] k[i] && sameF (l.drop (i + 1)) (k.drop (i + 1))) := by
  rw [List.drop_eq_getElem_cons hl, List.drop_eq_getElem_cons hk]
  rfl
theorem sameF_done {l k : List Nat} {i : Nat} (hl : l.length ≤ i) (hk : k.length ≤ i) : sameF (l.drop i) (k.drop i) = true := by
  rw [List.drop_of_length_le hl, List.drop_of_length_le hk]
  rfl
set_option maxRecDepth 100000 in
theorem sameSamples_any (A B : Option Addr) (c d : Nat) (l k : List Nat) (w : World) (hl : l.length ≤ maxLen) (hl2 : k.length ≤ maxLen) (hr : Rd w A (fl l)) (hr2 : Rd w B (fl k)) :
    Calls Tryz.prog 87 #[.slice A l.length c, .slice B k.length d] w fun e w' => e = .returned (.bool (sameF l k)) ∧ Below w.heap.size w w' := by
  unfold maxLen at hl hl2
  have HRa := Lib.hid hr; have HRb := Lib.hid hr2; clear hr hr2
  by_cases hlen : l.length = k.length
  · obtain ⟨n, hn⟩ : ∃ n, l.length = n := ⟨_, rfl⟩
    have hm : k.length = n := by rw [← hlen, hn]
    rw [hn, hm]
    have HN := Lib.hid hn; have HM := Lib.hid hm
    have hl' : n ≤ 2 ^ 62 - 1 ∨ True := Or.inr trivial
    rw [hn] at hl
    clear hlen hl2 hl' hn hm
    go_enter Tryz.func87, Tryz.ntmps87
    go_wp2
    go_loopw [5] (fun v wr => ∃ i : Nat, i ≤ n ∧ v = .int .i64 i ∧ RowKit.Hid (sameF l k = sameF (l.drop i) (k.drop i)) ∧ Below w.heap.size w wr) (fun v _ => n - (intOf v).toNat)
    case atStart => exact ⟨0, by omega, rfl, Lib.hid rfl, Below.refl _ _⟩
    case round =>
      obtain ⟨i, hi, rfl, hpre, hbel⟩ := hrel
      by_cases hlt : i < n
      · have g1 : i < l.length := by rw [HN.out]; exact hlt
        have g2 : i < k.length := by rw [HM.out]; exact hlt
        obtain ⟨ad, rfl, hb1, hc1⟩ := (HRa.out.below hbel).get (k := i) (u := .float .f32 l[i]) (by simp [fl, g1])
        obtain ⟨ad2, rfl, hb2, hc2⟩ := (HRb.out.below hbel).get (k := i) (u := .float .f32 k[i]) (by simp [fl, g2])
        obtain ⟨a, ha⟩ : ∃ a, l[i] = a := ⟨_, rfl⟩
        obtain ⟨b, hb⟩ : ∃ b, k[i] = b := ⟨_, rfl⟩
        rw [ha] at hc1
        rw [hb] at hc2
        have HA := Lib.hid ha; have HBb := Lib.hid hb; have HBE := Lib.hid hbel
        clear ha hb hbel
        by_cases hab : eqF a b = true
        · have hab' : (FloatKind.f32.format.order a b != some .eq) = false := by unfold eqF at hab; simpa using hab
          have HAB := Lib.hid hab; clear hab
          go_wp2_with fail
          go_quiet (fail)
          go_wp2
          go_roundw
          case rel => exact ⟨i + 1, by omega, by go_num, Lib.hid (by rw [hpre.out, sameF_at g1 g2, HA.out, HBb.out, HAB.out, Bool.true_and]), by exact below_drewN HBE.out nq⟩
          case measure => simp [intOf]; omega
        · have hab' : (FloatKind.f32.format.order a b != some .eq) = true := by unfold eqF at hab; simpa using hab
          have HAB := Lib.hid hab; clear hab
          go_wp2_with fail
          go_quiet (fail)
          go_wp2
          go_ret
          exact ⟨ret_bool (by rw [hpre.out, sameF_at g1 g2, HA.out, HBb.out, Bool.eq_false_iff.2 HAB.out, Bool.false_and]), by exact below_drewN HBE.out nq⟩
      · have hie : i = n := by omega
        subst hie
        go_wp2
        go_ret
        refine ⟨ret_bool ?_, hbel⟩
        rw [hpre.out, sameF_done (by rw [HN.out]; exact Nat.le_refl _) (by rw [HM.out]; exact Nat.le_refl _)]
  · have hd : ((l.length : Int) != (k.length : Int)) = true := by simp; omega
    have hs : sameF l k = false := sameF_len hlen
    rw [hs]
    clear hs
    go_enter Tryz.func87, Tryz.ntmps87
    go_wp2
    go_ret
    exact ⟨rfl, Below.refl _ _⟩

end Go.Proofs.YthbdiifinkbcnaaGreatDoor
namespace Go.Proofs.YthbdiifinkbcnaaGreatDoor
open Go.RowKit
set_option linter.unusedVariables false
attribute [local go_sem] run_store_float run_store_complex
def six : List Nat := [1065353216, 1073741824, 1077936128, 1082130432, 1084227584, 1086324736]
def pName : ByteArray := ⟨#[112]⟩
set_option maxRecDepth 100000 in
theorem small_any (w : World) : Calls Tryz.prog 91 #[] w fun e w' => ∃ g, e = .returned (.agg #[.string pName, .int .i64 3, .int .i64 2, .slice (some ⟨g, 0, none⟩) 6 6]) ∧ w.heap.size ≤ g ∧ Blk w' g 23 (fl six).toArray ∧ Below w.heap.size w w' := by
  go_enter Tryz.func91, Tryz.ntmps91
  go_wp2_with fail
  have hb := Blk.new (w.alloc (.cells #[.string ⟨#[112]⟩, .int .i64 3, .int .i64 2, .slice (some ⟨w.heap.size + 1, 0, none⟩) 6 6] 50)) 23 (fl six).toArray
  have hbel : Below w.heap.size w ((w.alloc (.cells #[.string ⟨#[112]⟩, .int .i64 3, .int .i64 2, .slice (some ⟨w.heap.size + 1, 0, none⟩) 6 6] 50)).alloc (.cells (fl six).toArray 23)) := ((Below.refl _ _).alloc (Nat.le_refl _) _).alloc (by simp) _
  simp only [World.size_alloc] at hb
  refine bodyPost_ret (v := .agg #[.string pName, .int .i64 3, .int .i64 2, .slice (some ⟨w.heap.size + 1, 0, none⟩) 6 6]) (by simp [results, Tryz.results91, go_sem, pName]) rfl ⟨w.heap.size + 1, rfl, by omega, hb, hbel⟩

set_option maxRecDepth 100000 in
theorem has_any (W H : Int) (A B : Option Addr) (c d : Nat) (l k : List Nat) (w : World) (hl : l.length ≤ maxLen) (hl2 : k.length ≤ maxLen) (hr : Rd w A (fl l)) (hr2 : Rd w B (fl k)) :
    Calls Tryz.prog 92 #[.agg #[.string pName, .int .i64 W, .int .i64 H, .slice A l.length c], .int .i64 W, .int .i64 H, .slice B k.length d] w fun e w' => e = .returned (.bool (sameF l k)) ∧ Below w.heap.size w w' := by
  unfold pName
  have HRa := Lib.hid hr; have HRb := Lib.hid hr2; clear hr hr2
  have hss := fun w h1 h2 => sameSamples_any A B c d l k w hl hl2 h1 h2
  have HSS := Lib.hid hss; clear hss
  generalize sameF l k = b at *
  go_enter Tryz.func92, Tryz.ntmps92
  go_wp2_with fail
  have hx0 := (Blk.new w 50 #[.string ⟨#[112]⟩, .int .i64 W, .int .i64 H, .slice A l.length c])
  have hb0 := ((Below.refl w.heap.size w).alloc (Nat.le_refl _) (.cells #[.string ⟨#[112]⟩, .int .i64 W, .int .i64 H, .slice A l.length c] 50))
  generalize (w.alloc (.cells #[.string ⟨#[112]⟩, .int .i64 W, .int .i64 H, .slice A l.length c] 50)) = w0 at hx0 hb0 ⊢
  have HX0_0 := Lib.hid hx0
  have HB_0 := Lib.hid hb0
  clear hx0 hb0
  have k0_0 := HX0_0.out.cell 0
  have k0_1 := HX0_0.out.cell 1
  have k0_2 := HX0_0.out.cell 2
  have k0_3 := HX0_0.out.cell 3
  simp only [List.getElem?_toArray, List.getElem?_cons_zero, List.getElem?_cons_succ] at k0_0 k0_1 k0_2 k0_3
  have hch : Below w0.heap.size w0 w0.drew := (Below.refl _ _).drew
  refine (HSS.out _ (by exact HRa.out.below HB_0.out) (by exact HRb.out.below HB_0.out)).mono ?_
  rintro e wn ⟨rfl, hbn⟩
  go_wp2
  go_ret
  exact ⟨rfl, HB_0.out.trans (hbn.mono HB_0.out.size)⟩

end Go.Proofs.YthbdiifinkbcnaaGreatDoor
namespace Go.Proofs.YthbdiifinkbcnaaGreatDoor
open Go.RowKit
set_option linter.unusedVariables false
open Go.Shelf
attribute [local go_sem] Oper.semAt_some
abbrev U8 := { b : Int // 0 ≤ b ∧ b ≤ 255 }
def u0 : U8 := ⟨0, by decide⟩
def BRd (n₀ : Nat) (w : World) (A : Option Addr) (bs : List U8) : Prop :=
  0 < bs.length → ∃ ad, A = some ad ∧ ad.block < n₀ ∧ ∀ j, j < bs.length → w.cell? (ad.add j) = some (.int .u8 (bs.getD j u0).1)
theorem BRd.below {n₀ : Nat} {w w' : World} {A : Option Addr} {bs : List U8} (h : BRd n₀ w A bs) (hb : Below n₀ w w') : BRd n₀ w' A bs := fun h0 => by
  obtain ⟨ad, e, hl, hc⟩ := h h0
  exact ⟨ad, e, hl, fun j hj => (hb.cell (by rw [block_of_add]; exact hl)).trans (hc j hj)⟩
def upto {α : Type} (f : Nat → α) (k : Nat) : List α := (List.range k).map f
theorem upto_succ {α : Type} (f : Nat → α) (k : Nat) : upto f (k + 1) = upto f k ++ [f k] := by simp [upto, List.range_succ]
theorem upto_length {α : Type} (f : Nat → α) (k : Nat) : (upto f k).length = k := by simp [upto]
def pairs (bs : List U8) (j : Nat) : Nat × U8 := (j, bs.getD j u0)
set_option maxRecDepth 100000 in
set_option maxHeartbeats 2000000 in
theorem visited1_in (F : Fence) (n : Nat) (h8 : F.fn 170) (hro : F.round = none) (hn : 1 ≤ n) (l Bs n₀ cap : Nat) (A : Option Addr) (bs : List U8) (hreach : bs.length ≤ 140737488351232) (J Jx : List (Nat × U8) → World → Prop)
    (hY : ∀ pre x W, J pre W → pre.length < bs.length → YieldAt F (n - 1) Tryz.prog l #[.int .i64 (x.1 : Int), .int .u8 x.2.1] W fun e W' =>
      (e = .returned (.bool true) ∧ J (pre ++ [x]) W' ∧ Below n₀ W W') ∨ (e = .returned (.bool false) ∧ Jx (pre ++ [x]) W'))
    (W : World) (hBs : W.cell? ⟨Bs, 0, none⟩ = some (.slice A bs.length cap)) (hc : BRd n₀ W A bs) (h0 : J [] W) :
    CallsIn F n Tryz.prog 170 #[.func (.yield l) #[] #[], .pointer (some ⟨Bs, 0, none⟩)] W fun e W' => (∃ v, e = .returned v) ∧
      ((∃ ys, ys = upto (pairs bs) bs.length ∧ J ys W') ∨ (∃ pre, (∃ k, k ≤ bs.length ∧ pre = upto (pairs bs) k) ∧ Jx pre W')) := by
  have HC := Lib.hid hc; clear hc
  refine callsIn_of_wp Tryz.func170 rfl h8 ?_ hro
  simp only [Tryz.ntmps170, List.size_toArray, List.length_cons, List.length_nil, Nat.reduceAdd, Nat.reduceSub, Array.replicate_succ, Array.replicate_zero, List.push_toArray, List.append_toArray, List.nil_append, List.cons_append]
  gi_wp2

  gi_loopw [7] (fun i wr => ∃ k : Nat, k ≤ bs.length ∧ i = .int .i64 k ∧ J (upto (pairs bs) k) wr ∧ Below n₀ W wr)
    (fun i _ => bs.length - (intOf i).toNat)
  case atStart => exact ⟨0, Nat.zero_le _, rfl, h0, Below.refl _ _⟩
  case round =>
    obtain ⟨k, hk, rfl, hJs, hnx⟩ := hrel
    by_cases hlt : k < bs.length
    · obtain ⟨ad, rfl, hbl, hcc⟩ := HC.out (by omega)
      obtain ⟨v, hv⟩ : ∃ v, bs.getD k u0 = v := ⟨_, rfl⟩
      have hcx' : wr.cell? (ad.add k) = some (.int .u8 v.1) := by rw [← hv]; exact (hnx.cell (by rw [block_of_add]; exact hbl)).trans (hcc k hlt)
      obtain ⟨fn, tmps, assign, body, hy, hR⟩ := hY _ (k, v) wr hJs (by rw [upto_length]; exact hlt)
      dsimp only at hy
      have HV := Lib.hid hv
      clear hcc hv
      gi_wp2
      refine hR.mono ?_
      rintro e W3 (⟨rfl, hJ3, hk3⟩ | ⟨rfl, hJx3⟩)
      · -- THE ROUND GOES ON
        gi_wp2
        go_roundw
        case rel => exact ⟨k + 1, by omega, by simp, by rw [upto_succ]; unfold pairs; rw [HV.out]; exact hJ3, hnx.trans hk3⟩
        case measure => simp [intOf]; omega
      · gi_wp2
        refine bodyPost_ret (results_none rfl _ _ _) rfl ?_
        exact ⟨⟨_, rfl⟩, .inr ⟨_, ⟨k + 1, by omega, by rw [upto_succ]; unfold pairs; rw [HV.out]⟩, hJx3⟩⟩
    · obtain rfl : k = bs.length := by omega
      gi_wp2
      go_end0
      exact ⟨⟨_, rfl⟩, .inl ⟨_, rfl, hJs⟩⟩
theorem upto_take {bs : List U8} {k : Nat} (hk : k ≤ bs.length) : upto (pairs bs) k = (upto (pairs bs) bs.length).take k := by
  unfold upto
  rw [← List.map_take, List.take_range, Nat.min_eq_left hk]
theorem visited_stops (F : Fence) (n : Nat) (h8 : F.fn 170) (hro : F.round = none) (hn : 1 ≤ n) (Bs n₀ cap : Nat) (A : Option Addr) (bs : List U8) (hreach : bs.length ≤ 140737488351232) (w : World) (hBs : Bs < w.heap.size) (hn₀ : n₀ ≤ w.heap.size)
    (hc : w.cell? ⟨Bs, 0, none⟩ = some (.slice A bs.length cap)) (hI : BRd n₀ w A bs) :
    SeqStopsK F n Tryz.prog 170 #[.pointer (some ⟨Bs, 0, none⟩)] (fun x : Nat × U8 => #[Value.int .i64 (x.1 : Int), Value.int .u8 x.2.1]) (Below n₀) (fun ys => ys = upto (pairs bs) bs.length) (fun pre => pre <+: upto (pairs bs) bs.length) bs.length w := fun l J Jx W hW _ _ hY h0 => by
  have hc' := (hW.cell (p := ⟨Bs, 0, none⟩) hBs).trans hc
  refine (visited1_in F n h8 hro hn l Bs n₀ cap A bs hreach J Jx hY W hc' (hI.below (hW.mono hn₀)) h0).mono ?_
  rintro e W' ⟨he, ⟨ys, rfl, hj⟩ | ⟨pre, ⟨k, hk, rfl⟩, hj⟩⟩
  · exact ⟨he, .inl ⟨_, rfl, hj⟩⟩
  · exact ⟨he, .inr ⟨_, by rw [upto_take hk]; exact List.take_prefix _ _, hj⟩⟩
theorem visited_in (F : Fence) (n : Nat) (h5 : F.fn 130) (hro : F.round = none) (a : Option Addr) (len cap : Nat) (w : World) :
    CallsIn F n Tryz.prog 130 #[.slice a len cap] w fun e w' => e = .returned (.func (.func 170) #[] #[.pointer (some ⟨w.heap.size, 0, none⟩)]) ∧ w' = w.alloc (.cells #[.slice a len cap] 106) := by
  refine callsIn_of_wp Tryz.func130 rfl h5 ?_ hro
  simp only [Tryz.ntmps130, List.size_toArray, List.length_cons, List.length_nil, Nat.reduceAdd, Nat.reduceSub, Array.replicate_succ, Array.replicate_zero, List.push_toArray, List.append_toArray, List.nil_append, List.cons_append]
  gi_wp2
  go_ret
  exact ⟨rfl, rfl⟩
def rollF (fa mo : Int) : List U8 → Int → Int
  | [], x => x
  | b :: l, x => rollF fa mo l ((fa * x + b.1) % mo)
theorem rollF_snoc (fa mo : Int) (l : List U8) (b : U8) (x : Int) : rollF fa mo (l ++ [b]) x = (fa * rollF fa mo l x + b.1) % mo := by
  induction l generalizing x with
  | nil => rfl
  | cons a l ih => simp only [List.cons_append, rollF, ih]
def bytesOf (ps : List (Nat × U8)) : List U8 := ps.map (·.2)
theorem bytesOf_snoc (ps : List (Nat × U8)) (x : Nat × U8) : bytesOf (ps ++ [x]) = bytesOf ps ++ [x.2] := by simp [bytesOf]
theorem bytesOf_all (bs : List U8) : bytesOf (upto (pairs bs) bs.length) = bs := by
  apply List.ext_getElem
  · simp [bytesOf, upto]
  · intro i h1 h2
    simp [bytesOf, upto, pairs, List.getD, h2]
theorem rollF_bd (fa mo : Int) (hmo : 2 ≤ mo) (l : List U8) (x : Int) (hx : 0 ≤ x ∧ x < mo) : 0 ≤ rollF fa mo l x ∧ rollF fa mo l x < mo := by
  induction l generalizing x with
  | nil => exact hx
  | cons a l ih => exact ih _ ⟨Int.emod_nonneg _ (by omega), Int.emod_lt_of_pos _ (by omega)⟩
theorem blk_kept {W W' : World} {row : Option Nat} {g : Nat} {t : TypeId} {cs : Array Value} (h : Blk W g t cs) (hg : W.grownBy W' row) (hr : ∀ r, row = some r → ∃ o : Obj, W.heap[r]? = some o ∧ o.isCells = false) : Blk W' g t cs :=
  (grownBy_keeps_cells hg hr h rfl).trans h
set_option maxRecDepth 100000 in
set_option maxHeartbeats 2000000 in
theorem check_in (F : Fence) (n : Nat) (h3 : F.fn 127) (h4 : F.fn 130) (h5 : F.fn 170) (hro : F.round = none) (hn : 3 ≤ n) (A : Option Addr) (cap : Nat) (bs : List U8) (fa mo : Int) (hfa : 1 ≤ fa ∧ fa ≤ 1000) (hmo : 2 ≤ mo ∧ mo ≤ 100000000) (hlen : bs.length ≤ 140737488351232) (w : World) (hL : BRd w.heap.size w A bs) :
    CallsIn F n Tryz.prog 127 #[.slice A bs.length cap, .int .i64 fa, .int .i64 mo] w fun e W' => e = .returned (.int .i64 (rollF fa mo bs 1)) ∧ Below w.heap.size w W' := by
  have h1 : 1 ≤ n := by omega
  refine callsIn_of_wp_marks Tryz.func127 rfl h3 ?_ hro
  simp only [Tryz.ntmps127, List.size_toArray, List.length_cons, List.length_nil, Nat.reduceAdd, Nat.reduceSub, Array.replicate_succ, Array.replicate_zero, List.push_toArray, List.append_toArray, List.nil_append, List.cons_append]
  gi_wp2_with (gi_at_call 130; refine (visited_in F (n - 1) h4 hro _ _ _ _).mono ?_; rintro e w' ⟨rfl, rfl⟩)
  have hB0 : Below w.heap.size w ((((w.alloc (.cells #[.int .i64 fa] 3)).alloc (.cells #[.int .i64 mo] 3)).alloc (.cells #[.int .i64 1] 3)).alloc (.cells #[.slice A bs.length cap] 106)) :=
    ((((Below.refl _ w).alloc (Nat.le_refl _) _).alloc (by simp) _).alloc (by simp only [World.size_alloc]; omega) _).alloc (by simp only [World.size_alloc]; omega) _
  have q0 := (((Blk.new w 3 #[.int .i64 fa]).alloc (.cells #[.int .i64 mo] 3)).alloc (.cells #[.int .i64 1] 3)).alloc (.cells #[.slice A bs.length cap] 106)
  have q1 := ((Blk.new (w.alloc (.cells #[.int .i64 fa] 3)) 3 #[.int .i64 mo]).alloc (.cells #[.int .i64 1] 3)).alloc (.cells #[.slice A bs.length cap] 106)
  have q2 := (Blk.new ((w.alloc (.cells #[.int .i64 fa] 3)).alloc (.cells #[.int .i64 mo] 3)) 3 #[.int .i64 1]).alloc (.cells #[.slice A bs.length cap] 106)
  have q3 := Blk.new (((w.alloc (.cells #[.int .i64 fa] 3)).alloc (.cells #[.int .i64 mo] 3)).alloc (.cells #[.int .i64 1] 3)) 106 #[.slice A bs.length cap]
  simp only [World.size_alloc] at q1 q2 q3
  have hz : ((((w.alloc (.cells #[.int .i64 fa] 3)).alloc (.cells #[.int .i64 mo] 3)).alloc (.cells #[.int .i64 1] 3)).alloc (.cells #[.slice A bs.length cap] 106)).heap.size = w.heap.size + 1 + 1 + 1 + 1 := by simp only [World.size_alloc]
  generalize (((w.alloc (.cells #[.int .i64 fa] 3)).alloc (.cells #[.int .i64 mo] 3)).alloc (.cells #[.int .i64 1] 3)).alloc (.cells #[.slice A bs.length cap] 106) = W0 at hB0 q0 q1 q2 q3 hz ⊢
  have HZ := Lib.hid hz
  clear hz
  refine wpIn_rangeFunc_ownF hro h1 (gf := 170) (lb := #[.pointer (some ⟨w.heap.size + 1 + 1 + 1, 0, none⟩)]) rfl h5 (enters_of Tryz.func170 (by kernel_rfl) rfl)
    (visited_stops F (n - 1) h5 hro (by omega) (w.heap.size + 1 + 1 + 1) w.heap.size cap A bs hlen W0 (by rw [HZ.out]; omega) (by rw [HZ.out]; omega) (q3.cell 0) (hL.below hB0)) belowK_t (belowK_b (by rw [HZ.out]; omega)) (Below.refl _ _) (fun _ => rfl)
    (fun pre W => (Blk W w.heap.size 3 #[.int .i64 fa] ∧ Blk W (w.heap.size + 1) 3 #[.int .i64 mo] ∧ Blk W (w.heap.size + 1 + 1) 3 #[.int .i64 (rollF fa mo (bytesOf pre) 1)]) ∧ Below w.heap.size w W)
    (fun _ _ _ => False)
    (OwnFrom.and (Own.from (fun s A B row hs hg hr => ⟨blk_kept hs.1 hg hr, blk_kept hs.2.1 hg hr, blk_kept hs.2.2 hg hr⟩) _) (ownFrom_below (Nat.le_refl _) (by rw [HZ.out]; omega)))
    (fun _ _ _ _ _ hs _ _ => hs)
    ⟨⟨q0, q1, q2⟩, hB0⟩
    (fun x => { tmps := #[.slice A bs.length cap, .int .i64 fa, .int .i64 mo, undef, .pointer (some ⟨w.heap.size, 0, none⟩), .pointer (some ⟨w.heap.size + 1, 0, none⟩), .int .i64 0, .pointer (some ⟨w.heap.size + 1 + 1, 0, none⟩), undef, .int .u8 x.2.1, .slice A bs.length cap, .func (.func 170) #[] #[.pointer (some ⟨w.heap.size + 1 + 1 + 1, 0, none⟩)], .int .i64 x.1, .int .u8 x.2.1, undef, undef, undef, undef, undef, undef, undef, undef, undef], defers := [] }) ?assign ?body ?done ?stop
  case assign =>
    intro l x W K hK
    gi_wp2
    exact hK
  case body =>
    rintro l pre x W ⟨⟨b0, b1, b2⟩, hB⟩ hlt
    have c0 := b0.cell 0
    have c1 := b1.cell 0
    have c2 := b2.cell 0
    have f2 := b2.frozen 0
    simp only [List.getElem?_toArray, List.getElem?_cons_zero] at c0 c1 c2
    obtain ⟨X, hX⟩ : ∃ X, rollF fa mo (bytesOf pre) 1 = X := ⟨_, rfl⟩
    have hXb := rollF_bd fa mo hmo.1 (bytesOf pre) 1 (by omega)
    rw [hX] at c2 hXb
    obtain ⟨P, hP⟩ : ∃ P, fa * X = P := ⟨_, rfl⟩
    have hPb : 0 ≤ P ∧ P ≤ 100000000000 := by
      rw [← hP]
      have h1 := Int.mul_nonneg (a := fa) (b := X) (by omega) (by omega)
      have h2 : fa * X ≤ 1000 * 100000000 := Int.mul_le_mul hfa.2 (by omega) (by omega) (by omega)
      omega
    have hxb := x.2.2
    obtain ⟨y, hy⟩ : ∃ y : Int, x.2.1 = y := ⟨_, rfl⟩
    rw [hy] at hxb
    have HS : RowKit.Hid (rollF fa mo (bytesOf (pre ++ [x])) 1 = (P + y) % mo) := Lib.hid (by rw [bytesOf_snoc, rollF_snoc, hX, hP, hy])
    rw [hy]
    have HP := Lib.hid hP
    clear hX hy
    gi_wp2
    refine ⟨KeepsOthers.setCell _ _ _, (Below.refl _ W).setCell (p := ⟨w.heap.size + 1 + 1, 0, none⟩) (by simp; omega) _, ⟨b0.far (p := ⟨w.heap.size + 1 + 1, 0, none⟩) (by simp; omega) _, b1.far (p := ⟨w.heap.size + 1 + 1, 0, none⟩) (by simp) _, ?_⟩, hB.setCell (p := ⟨w.heap.size + 1 + 1, 0, none⟩) (by simp; omega) _⟩
    have h := b2.set_ 0 (.int .i64 ((P + y) % mo))
    rw [HS.out]
    simpa using h
  case done =>
    rintro D ys W hD rfl ⟨⟨b0, b1, b2⟩, hB⟩ hK
    rw [bytesOf_all] at b2
    have c2 := b2.cell 0
    simp only [List.getElem?_toArray, List.getElem?_cons_zero] at c2
    gi_wp2
    refine ⟨by simp, .inl ⟨_, _, rfl, run_takeDeferred hK, ?_⟩⟩
    exact ⟨_, results_tmp rfl _ _ _, rfl, hB.trans (belowK_b (w := w) (Nat.le_refl _) W D _ _ (by have := HZ.out; omega) hK rfl rfl)⟩
  case stop =>
    rintro D c pre W _ _ h _
    exact h.elim
theorem check_any (A : Option Addr) (cap : Nat) (bs : List U8) (fa mo : Int) (hfa : 1 ≤ fa ∧ fa ≤ 1000) (hmo : 2 ≤ mo ∧ mo ≤ 100000000) (hlen : bs.length ≤ 140737488351232) (w : World) (hL : BRd w.heap.size w A bs) :
    Calls Tryz.prog 127 #[.slice A bs.length cap, .int .i64 fa, .int .i64 mo] w fun e W' => e = .returned (.int .i64 (rollF fa mo bs 1)) ∧ Below w.heap.size w W' :=
  (callsIn_wide (n := 3)).1 (check_in _ 3 trivial trivial trivial rfl (by omega) A cap bs fa mo hfa hmo hlen w hL)
open Go in
def xorF : List U8 → Int → Int
  | [], x => x
  | b :: l, x => xorF l (bits .xor .u8 x b.1)
theorem xorF_snoc (l : List U8) (b : U8) (x : Int) : xorF (l ++ [b]) x = bits .xor .u8 (xorF l x) b.1 := by
  induction l generalizing x with
  | nil => rfl
  | cons a l ih => simp only [List.cons_append, xorF, ih]
set_option maxRecDepth 100000 in
set_option maxHeartbeats 2000000 in
theorem parity_in (F : Fence) (n : Nat) (h3 : F.fn 126) (h4 : F.fn 130) (h5 : F.fn 170) (hro : F.round = none) (hn : 3 ≤ n) (A : Option Addr) (cap : Nat) (bs : List U8) (hlen : bs.length ≤ 140737488351232) (w : World) (hL : BRd w.heap.size w A bs) :
    CallsIn F n Tryz.prog 126 #[.slice A bs.length cap] w fun e W' => e = .returned (.int .u8 (xorF bs 0)) ∧ Below w.heap.size w W' := by
  have h1 : 1 ≤ n := by omega
  refine callsIn_of_wp_marks Tryz.func126 rfl h3 ?_ hro
  simp only [Tryz.ntmps126, List.size_toArray, List.length_cons, List.length_nil, Nat.reduceAdd, Nat.reduceSub, Array.replicate_succ, Array.replicate_zero, List.push_toArray, List.append_toArray, List.nil_append, List.cons_append]
  gi_wp2_with (gi_at_call 130; refine (visited_in F (n - 1) h4 hro _ _ _ _).mono ?_; rintro e w' ⟨rfl, rfl⟩)
  have hB0 : Below w.heap.size w ((w.alloc (.cells #[.int .u8 0] 5)).alloc (.cells #[.slice A bs.length cap] 106)) := ((Below.refl _ w).alloc (Nat.le_refl _) _).alloc (by simp) _
  have q0 := (Blk.new w 5 #[.int .u8 0]).alloc (.cells #[.slice A bs.length cap] 106)
  have q1 := Blk.new (w.alloc (.cells #[.int .u8 0] 5)) 106 #[.slice A bs.length cap]
  simp only [World.size_alloc] at q1
  have hz : ((w.alloc (.cells #[.int .u8 0] 5)).alloc (.cells #[.slice A bs.length cap] 106)).heap.size = w.heap.size + 1 + 1 := by simp only [World.size_alloc]
  generalize (w.alloc (.cells #[.int .u8 0] 5)).alloc (.cells #[.slice A bs.length cap] 106) = W0 at hB0 q0 q1 hz ⊢
  have HZ := Lib.hid hz
  clear hz
  refine wpIn_rangeFunc_ownF hro h1 (gf := 170) (lb := #[.pointer (some ⟨w.heap.size + 1, 0, none⟩)]) rfl h5 (enters_of Tryz.func170 (by kernel_rfl) rfl)
    (visited_stops F (n - 1) h5 hro (by omega) (w.heap.size + 1) w.heap.size cap A bs hlen W0 (by rw [HZ.out]; omega) (by rw [HZ.out]; omega) (q1.cell 0) (hL.below hB0)) belowK_t (belowK_b (by rw [HZ.out]; omega)) (Below.refl _ _) (fun _ => rfl)
    (fun pre W => Blk W w.heap.size 5 #[.int .u8 (xorF (bytesOf pre) 0)] ∧ Below w.heap.size w W)
    (fun _ _ _ => False)
    (OwnFrom.and (Own.from (I := fun pre W => Blk W w.heap.size 5 #[.int .u8 (xorF (bytesOf pre) 0)]) (fun s A B row hs hg hr => blk_kept hs hg hr) _) (ownFrom_below (Nat.le_refl _) (by rw [HZ.out]; omega)))
    (fun _ _ _ _ _ hs _ _ => hs)
    ⟨q0, hB0⟩
    (fun x => { tmps := #[.slice A bs.length cap, undef, .int .u8 0, .pointer (some ⟨w.heap.size, 0, none⟩), undef, .int .u8 x.2.1, .slice A bs.length cap, .func (.func 170) #[] #[.pointer (some ⟨w.heap.size + 1, 0, none⟩)], .int .i64 x.1, .int .u8 x.2.1, undef, undef, undef, undef], defers := [] }) ?assign ?body ?done ?stop
  case assign =>
    intro l x W K hK
    gi_wp2
    exact hK
  case body =>
    rintro l pre x W ⟨b0, hB⟩ hlt
    have c0 := b0.cell 0
    have f0 := b0.frozen 0
    simp only [List.getElem?_toArray, List.getElem?_cons_zero] at c0
    have HS := Lib.hid (xorF_snoc (bytesOf pre) x.2 0)
    gi_wp2
    refine ⟨KeepsOthers.setCell _ _ _, (Below.refl _ W).setCell (p := ⟨w.heap.size, 0, none⟩) (by simp) _, ?_, hB.setCell (p := ⟨w.heap.size, 0, none⟩) (by simp) _⟩
    have h := b0.set_ 0 (.int .u8 (bits .xor .u8 (xorF (bytesOf pre) 0) x.2.1))
    rw [bytesOf_snoc, HS.out]
    simpa using h
  case done =>
    rintro D ys W hD rfl ⟨b0, hB⟩ hK
    rw [bytesOf_all] at b0
    have c0 := b0.cell 0
    simp only [List.getElem?_toArray, List.getElem?_cons_zero] at c0
    gi_wp2
    refine ⟨by simp, .inl ⟨_, _, rfl, run_takeDeferred hK, ?_⟩⟩
    exact ⟨_, results_tmp rfl _ _ _, rfl, hB.trans (belowK_b (w := w) (Nat.le_refl _) W D _ _ (by have := HZ.out; omega) hK rfl rfl)⟩
  case stop =>
    rintro D c pre W _ _ h _
    exact h.elim
theorem parity_any (A : Option Addr) (cap : Nat) (bs : List U8) (hlen : bs.length ≤ 140737488351232) (w : World) (hL : BRd w.heap.size w A bs) :
    Calls Tryz.prog 126 #[.slice A bs.length cap] w fun e W' => e = .returned (.int .u8 (xorF bs 0)) ∧ Below w.heap.size w W' :=
  (callsIn_wide (n := 3)).1 (parity_in _ 3 trivial trivial trivial rfl (by omega) A cap bs hlen w hL)


end Go.Proofs.YthbdiifinkbcnaaGreatDoor
