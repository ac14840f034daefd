/- Parts of a proof: Flipped and transposed, by the reference. Every second row, by the reference; too few rows. Both fields, by the reference. Samples at named places; turns by the code and by the reference. -/
import Derived.Test.YthbdiifinkbcnaaGreatDoorT14
import Derived.Test.YthbdiifinkbcnaaGreatDoorT10
import Derived.StillTailTactics
import Derived.Test.YthbdiifinkbcnaaGreatDoorT13
namespace Go.Proofs.YthbdiifinkbcnaaGreatDoor
open Go.RowKit
set_option linter.unusedVariables false
attribute [local go_sem] run_store_float run_store_complex
set_option maxRecDepth 100000
theorem sx_drew {g : Nat} {w0 w : World} (h : SX g w0 w) : SX g w0 w.drew := h
theorem sx_set {g : Nat} {w0 w : World} (h : SX g w0 w) (k : Nat) (u : Value) : SX g w0 (w.setCell ⟨g, k, none⟩ u) :=
  ⟨by simpa using h.1, fun b o hb hn => (World.cell?_of_block (w := w) (Below.heap_setCell w ⟨g, k, none⟩ u b hn)).trans (h.2 b o hb hn)⟩
def rowD (M y x i : Nat) : Bool := decide (i < y * M + x)
theorem rowD_step (M y x n i : Nat) : rowD M y (x + 1) i = (rowD M y x i || decide (i = y * M + x)) := by
  unfold rowD; rw [Bool.eq_iff_iff]; simp; omega
theorem rowD_next (M y i : Nat) : rowD M y M i = rowD M (y + 1) 0 i := by
  unfold rowD; rw [Nat.add_mul]; simp
theorem flipF_row (l : List Nat) (W y x : Nat) (hx : x < W) : flipF l W (y * W + x) = .float .f32 (l.getD (y * W + (W - 1 - x)) 0) := by
  unfold flipF
  have h1 : (y * W + x) / W = y := by rw [Nat.mul_comm, Nat.mul_add_div (by omega), Nat.div_eq_of_lt hx, Nat.add_zero]
  have h2 : (y * W + x) % W = x := by rw [Nat.mul_comm, Nat.mul_add_mod, Nat.mod_eq_of_lt hx]
  rw [h1, h2]
set_option maxHeartbeats 2000000 in
theorem flippedR_ok (nm : ByteArray) (W H : Nat) (l : List Nat) (hW : 1 ≤ W ∧ W ≤ 64) (hH : 1 ≤ H ∧ H ≤ 64) (hlen : l.length = W * H) (A : Option Addr) (c : Nat) (w : World) (hr : Rd w A (fl l)) :
    Calls Tryz.prog 47 #[.agg #[.string nm, .int .i64 (W : Int), .int .i64 (H : Int), .slice A l.length c]] w fun e w' => ∃ g, e = .returned (.agg #[.string nm, .int .i64 (W : Int), .int .i64 (H : Int), .slice (some ⟨g, 0, none⟩) l.length l.length]) ∧ Blk w' g 23 (maskN (flipF l W) (.float .f32 0) l.length (fun _ => true)) ∧ Below w.heap.size w w' := by
  have hl4 : l.length ≤ 4096 := by rw [hlen]; exact Nat.le_trans (Nat.mul_le_mul hW.2 hH.2) (by decide)
  have hn4 := hl4
  have hpos : 0 < (fl l).length := by have := prod_pos hW.1 hH.1; simp [fl]; omega
  obtain ⟨ad, rfl, hadb, hadc⟩ := hr.some_ hpos
  have HR := Lib.hid hr
  have HFN := Lib.hid hlen.symm
  have HD0 : RowKit.Hid (∀ i, i < l.length → (decide (i < 0)) = rowD W 0 0 i) := Lib.hid (fun i _ => by simp [rowD])
  have HLEN := Lib.hid hlen
  have HDN : RowKit.Hid (∀ y i, i < l.length → rowD W y W i = rowD W (y + 1) 0 i) := Lib.hid (fun y i _ => rowD_next W y i)
  have HDE : RowKit.Hid (∀ i, i < l.length → rowD W H 0 i = true) := Lib.hid (fun i hi => by rw [hlen, Nat.mul_comm] at hi; simp [rowD]; exact hi)
  clear hr hadb hadc hpos hlen
  go_enter Tryz.func47, Tryz.ntmps47
  go_upto_region 1 with fail
  have hx0 := (Blk.new w 43 #[.string nm, .int .i64 (W : Int), .int .i64 (H : Int), .slice (some ad) l.length c]).alloc (.cells #[.string ⟨#[]⟩, .int .i64 0, .int .i64 0, .slice none 0 0] 43)
  have hx1 := Blk.new (w.alloc (.cells #[.string nm, .int .i64 (W : Int), .int .i64 (H : Int), .slice (some ad) l.length c] 43)) 43 #[.string ⟨#[]⟩, .int .i64 0, .int .i64 0, .slice none 0 0]
  simp only [World.size_alloc] at hx1
  have hb0 := ((Below.refl w.heap.size w).alloc (Nat.le_refl _) (.cells #[.string nm, .int .i64 (W : Int), .int .i64 (H : Int), .slice (some ad) l.length c] 43)).alloc (by simp only [World.size_alloc]; omega) (.cells #[.string ⟨#[]⟩, .int .i64 0, .int .i64 0, .slice none 0 0] 43)
  generalize ((w.alloc (.cells #[.string nm, .int .i64 (W : Int), .int .i64 (H : Int), .slice (some ad) l.length c] 43)).alloc (.cells #[.string ⟨#[]⟩, .int .i64 0, .int .i64 0, .slice none 0 0] 43)) = w0 at hx0 hx1 hb0 ⊢
  have HX0 := Lib.hid hx0
  have HX1 := Lib.hid hx1
  have HB := Lib.hid hb0; clear hb0 hx0 hx1
  have k0_0 := HX0.out.cell 0; have k0_1 := HX0.out.cell 1; have k0_2 := HX0.out.cell 2; have k0_3 := HX0.out.cell 3
  simp only [List.getElem?_toArray, List.getElem?_cons_zero, List.getElem?_cons_succ] at k0_0 k0_1 k0_2 k0_3
  go_wp2_with fail
  refine (filled_any nm W H l.length _ HFN.out hn4).mono ?_
  rintro e w2 ⟨g, rfl, hg, hgb, hb2⟩
  have hgx : w.heap.size + 1 < g := Nat.lt_of_lt_of_le HX1.out.lt hg
  replace HX0 := Lib.hid (HX0.out.below hb2)
  replace HX1 := Lib.hid (HX1.out.below hb2)
  replace HB := Lib.hid (HB.out.trans (hb2.mono HB.out.size))
  have HG := Lib.hid hgb
  clear hb2 hgb
  clear k0_0 k0_1 k0_2 k0_3
  go_upto_region 2 with fail
  have hx0 := HX0.out.alloc (.cells #[.string nm, .int .i64 (W : Int), .int .i64 (H : Int), .slice (some ⟨g, 0, none⟩) l.length l.length] 43)
  have hx1 := HX1.out.alloc (.cells #[.string nm, .int .i64 (W : Int), .int .i64 (H : Int), .slice (some ⟨g, 0, none⟩) l.length l.length] 43)
  have hgm := HG.out.alloc (.cells #[.string nm, .int .i64 (W : Int), .int .i64 (H : Int), .slice (some ⟨g, 0, none⟩) l.length l.length] 43)
  have hf := Blk.new w2 43 #[.string nm, .int .i64 (W : Int), .int .i64 (H : Int), .slice (some ⟨g, 0, none⟩) l.length l.length]
  have hb := HB.out.alloc HB.out.size (.cells #[.string nm, .int .i64 (W : Int), .int .i64 (H : Int), .slice (some ⟨g, 0, none⟩) l.length l.length] 43)
  have hgb : g < w2.heap.size := HG.out.lt
  have hbx : w.heap.size + 1 < w2.heap.size := HX1.out.lt
  obtain ⟨b3, hb3⟩ : ∃ b, w2.heap.size = b := ⟨_, rfl⟩
  rw [hb3] at hf hgb hbx ⊢
  clear hb3
  generalize w2.alloc (.cells #[.string nm, .int .i64 (W : Int), .int .i64 (H : Int), .slice (some ⟨g, 0, none⟩) l.length l.length] 43) = w3 at hx0 hx1 hgm hf hb ⊢
  replace HX0 := Lib.hid hx0
  replace HX1 := Lib.hid hx1
  replace HG := Lib.hid hgm; have HF := Lib.hid hf; replace HB := Lib.hid hb; clear hgm hf hb hx0 hx1
  go_wp2
  go_loopw [4] (fun i wr => ∃ y : Nat, y ≤ H ∧ i = .int .i64 y ∧ Blk wr w.heap.size 43 #[.string nm, .int .i64 (W : Int), .int .i64 (H : Int), .slice (some ad) l.length c] ∧ Blk wr (w.heap.size + 1) 43 #[.string ⟨#[]⟩, .int .i64 0, .int .i64 0, .slice none 0 0] ∧ Blk wr b3 43 #[.string nm, .int .i64 (W : Int), .int .i64 (H : Int), .slice (some ⟨g, 0, none⟩) l.length l.length] ∧ Blk wr g 23 (maskN (flipF l W) (.float .f32 0) l.length (rowD W y 0)) ∧ Below w.heap.size w wr) (fun i _ => H - (intOf i).toNat)
  case atStart =>
    refine ⟨0, by omega, rfl, HX0.out, HX1.out, HF.out, ?_, HB.out⟩
    have h := HG.out
    rw [fill_mask, mask_congr (fun _ => .float .f32 0) (flipF l W) _ _ _ (rowD W 0 0) (HD0.out) (by simp)] at h
    exact h
  case round =>
    clear HX0 HX1 HG HF HB
    obtain ⟨y, hy, rfl, hx0, hx1, hf, hgm, hbel⟩ := hrel
    have HX0 := Lib.hid hx0
    have HX1 := Lib.hid hx1
    have HF := Lib.hid hf; have HG := Lib.hid hgm; have HB := Lib.hid hbel; clear hf hgm hbel hx0 hx1
    have k0_0 := HX0.out.cell 0; have k0_1 := HX0.out.cell 1; have k0_2 := HX0.out.cell 2; have k0_3 := HX0.out.cell 3
    simp only [List.getElem?_toArray, List.getElem?_cons_zero, List.getElem?_cons_succ] at k0_0 k0_1 k0_2 k0_3
    obtain ⟨q0, q1, q2, q3⟩ := box4 HF.out
    by_cases hlt : y < H
    · go_wp2
      go_loopw [5] (fun i wr => ∃ x : Nat, x ≤ W ∧ i = .int .i64 x ∧ Blk wr w.heap.size 43 #[.string nm, .int .i64 (W : Int), .int .i64 (H : Int), .slice (some ad) l.length c] ∧ Blk wr (w.heap.size + 1) 43 #[.string ⟨#[]⟩, .int .i64 0, .int .i64 0, .slice none 0 0] ∧ Blk wr b3 43 #[.string nm, .int .i64 (W : Int), .int .i64 (H : Int), .slice (some ⟨g, 0, none⟩) l.length l.length] ∧ Blk wr g 23 (maskN (flipF l W) (.float .f32 0) l.length (rowD W y x)) ∧ Below w.heap.size w wr) (fun i _ => W - (intOf i).toNat)
      case atStart => exact ⟨0, by omega, rfl, HX0.out, HX1.out, HF.out, HG.out, HB.out⟩
      case round =>
        clear q0 q1 q2 q3 k0_0 k0_1 k0_2 k0_3
        clear HX0 HX1 HG HF HB
        obtain ⟨x, hxW, rfl, hx0, hx1, hf, hgm, hbel⟩ := hrel
        obtain ⟨wo, rfl⟩ : ∃ wo : World, wo = wr := ⟨_, rfl⟩
        have HX0 := Lib.hid hx0
        have HX1 := Lib.hid hx1
        have HF := Lib.hid hf; have HG := Lib.hid hgm; have HB := Lib.hid hbel; clear hf hgm hbel hx0 hx1
        have k0_0 := HX0.out.cell 0; have k0_1 := HX0.out.cell 1; have k0_2 := HX0.out.cell 2; have k0_3 := HX0.out.cell 3
        simp only [List.getElem?_toArray, List.getElem?_cons_zero, List.getElem?_cons_succ] at k0_0 k0_1 k0_2 k0_3
        obtain ⟨q0, q1, q2, q3⟩ := box4 HF.out
        by_cases hxl : x < W
        · have hro := row_le (W := W) hlt
          obtain ⟨q, hq⟩ : ∃ q, y * W = q := ⟨_, rfl⟩
          have hql : q + W ≤ l.length := by rw [← hq, HLEN.out]; exact hro
          obtain ⟨k, hk⟩ : ∃ k, q + x = k := ⟨_, rfl⟩
          obtain ⟨j, hj⟩ : ∃ j, W - 1 - x = j := ⟨_, rfl⟩
          obtain ⟨s, hs⟩ : ∃ s, q + j = s := ⟨_, rfl⟩
          have hsn : s < l.length := by omega
          have hkn : k < l.length := by omega
          have HSK : RowKit.Hid (y * W + j = s) := Lib.hid (by rw [hq]; exact hs)
          have HFK : RowKit.Hid (flipF l W k = .float .f32 (l.getD s 0)) := Lib.hid (by rw [← hk, ← hq, flipF_row l W y x hxl, hj, hq, hs])
          have HDS : RowKit.Hid (∀ i, i < l.length → rowD W y (x + 1) i = (rowD W y x i || decide (i = k))) := Lib.hid (fun i _ => by rw [rowD_step W y x l.length i, hq, hk])
          have e0 : IntKind.i64.wrap ((y : Int) * (W : Int)) = (q : Int) := by rw [show (y : Int) * (W : Int) = (q : Int) by rw [← hq]; simp]; exact IntWalk.i64_in _ (by omega)
          have e1 : IntKind.i64.wrap ((q : Int) + (x : Int)) = (k : Int) := by rw [IntWalk.i64_in _ (by omega)]; omega
          have e2 : IntKind.i64.wrap ((W : Int) - 1) = (W : Int) - 1 := IntWalk.i64_in _ (by omega)
          have e3 : IntKind.i64.wrap ((W : Int) - 1 - (x : Int)) = (j : Int) := by rw [IntWalk.i64_in _ (by omega)]; omega
          have e4 : (0 : Int) ≤ (k : Int) := by omega
          have e5 : (k : Int) < (l.length : Int) := by omega
          clear hq hk hj hs hro hql
          have hrs := HR.out.below HB.out
          obtain ⟨v, hv⟩ : ∃ v, l.getD s 0 = v := ⟨_, rfl⟩
          have HV := Lib.hid hv
          have HS := Lib.hid (fun w hr => sampled_ok nm W H l.length c l rfl ad (j) (y) s HSK.out (by omega) hl4 hW.2 (by omega) w hr)
          rw [hv] at HS
          have HRS := Lib.hid hrs; clear hrs hv
          have HFA := Lib.hid (show (flipF l W) k = .float .f32 v by rw [← HV.out]; exact HFK.out)
          obtain ⟨vo, hvo⟩ : ∃ vo, (maskN (flipF l W) (.float .f32 0) l.length (rowD W y x))[k]? = some vo := ⟨_, by rw [mask_get, if_pos hkn]⟩
          have hgc := (HG.out.cell k).trans hvo
          have HVO := Lib.hid hvo; clear hvo
          have hgf := HG.out.frozen k
          have HSET := Lib.hid (fun w (h : Blk w g 23 (maskN (flipF l W) (.float .f32 0) l.length (rowD W y x))) => show Blk (w.setCell ⟨g, k, none⟩ (.float .f32 v)) g 23 (maskN (flipF l W) (.float .f32 0) l.length (rowD W y (x + 1))) from by
            have h2 := h.set_ k (.float .f32 v)
            rw [← HFA.out, mask_set (flipF l W) _ _ _ (rowD W y (x + 1)) k HDS.out] at h2
            rw [← HFA.out]; exact h2)
          have g0 := HX0.out.lt
          have g1 := HX1.out.lt
          have gf := HF.out.lt; have gg := HG.out.lt
          have n0 : ¬ w.heap.size = g := by omega
          have n1 : ¬ w.heap.size + 1 = g := by omega
          have nf : ¬ b3 = g := by omega
          have hch : Below wo.heap.size wo wo.drew := (Below.refl _ _).drew
          have hsx : SX g wo wo.drew := sx_below hch
          go_upto_region 8 with fail
          go_region_held3 (SX g wo)
            (first | (with_reducible assumption) | exact sx_drew (by assumption) | exact sx_set (by assumption) _ _)
            (first
              | (go_at_call 33; refine (HS.out _ (HRS.out.below (by assumption))).mono ?_; rintro e wn ⟨rfl, hbn⟩; have hch := chainB' (wo := wo) (by assumption) hbn; have hsx := sx_below (g := g) hch; have kg := ((HG.out.below hch).cell k).trans HVO.out; have kf := (HG.out.below hch).frozen k))
          clear kg kf hgc hgf hsx q0 q1 q2 q3 k0_0 k0_1 k0_2 k0_3
          replace HX0 := Lib.hid ((HX0.out.below hch).far (p := ⟨g, k, none⟩) (by simp; omega) (.float .f32 v))
          replace HX1 := Lib.hid ((HX1.out.below hch).far (p := ⟨g, k, none⟩) (by simp; omega) (.float .f32 v))
          replace HF := Lib.hid ((HF.out.below hch).far (p := ⟨g, k, none⟩) (by simp; omega) (.float .f32 v))
          replace HG := Lib.hid (HSET.out _ (HG.out.below hch))
          replace HB := Lib.hid ((HB.out.trans (hch.mono HB.out.size)).setCell (p := ⟨g, k, none⟩) (by simp; omega) (.float .f32 v))
          clear hch hbn
          go_wp2
          go_roundw
          case rel => exact ⟨x + 1, by omega, by go_num, HX0.out, HX1.out, HF.out, HG.out, HB.out⟩
          case measure => simp [intOf]; omega
        · have hxe : x = W := by omega
          replace HG := Lib.hid (show Blk wo g 23 (maskN (flipF l W) (.float .f32 0) l.length (rowD W (y + 1) 0)) from by
            have h := HG.out
            rw [hxe, mask_congr (flipF l W) (flipF l W) _ _ _ (rowD W (y + 1) 0) (HDN.out y) (fun _ _ _ => rfl)] at h
            exact h)
          go_wp2
          go_roundw
          case rel => exact ⟨y + 1, by omega, by go_num, HX0.out, HX1.out, HF.out, HG.out, HB.out⟩
          case measure => simp [intOf]; omega
    · have hye : y = H := by omega
      replace HG := Lib.hid (show Blk wr g 23 (maskN (flipF l W) (.float .f32 0) l.length (fun _ => true)) from by
        have h := HG.out
        rw [hye, mask_congr (flipF l W) (flipF l W) _ _ _ (fun _ => true) (HDE.out) (fun _ _ _ => rfl)] at h
        exact h)
      have hy := HX1.out
      have z1 := hy.lt
      have f0 := hy.frozen 0; have f1 := hy.frozen 1; have f2 := hy.frozen 2; have f3 := hy.frozen 3
      obtain ⟨d0, d1, d2, d3⟩ := box4 hy
      have hyy := Lib.hid (show Blk ((((wr.setCell ⟨w.heap.size + 1, 0, none⟩ (.string nm)).setCell ⟨w.heap.size + 1, 1, none⟩ (.int .i64 (W : Int))).setCell ⟨w.heap.size + 1, 2, none⟩ (.int .i64 (H : Int))).setCell ⟨w.heap.size + 1, 3, none⟩ (.slice (some ⟨g, 0, none⟩) l.length l.length)) (w.heap.size + 1) 43 #[.string nm, .int .i64 (W : Int), .int .i64 (H : Int), .slice (some ⟨g, 0, none⟩) l.length l.length] from (((hy.set_ 0 _).set_ 1 _).set_ 2 _).set_ 3 _)
      have HGE := Lib.hid ((((HG.out.far (p := ⟨w.heap.size + 1, 0, none⟩) (by simp; omega) (.string nm)).far (p := ⟨w.heap.size + 1, 1, none⟩) (by simp; omega) (.int .i64 (W : Int))).far (p := ⟨w.heap.size + 1, 2, none⟩) (by simp; omega) (.int .i64 (H : Int))).far (p := ⟨w.heap.size + 1, 3, none⟩) (by simp; omega) (.slice (some ⟨g, 0, none⟩) l.length l.length))
      clear hy
      go_wp2
      obtain ⟨r0, r1, r2, r3⟩ := box4 hyy.out
      exact bodyPost_ret (v := .agg #[.string nm, .int .i64 (W : Int), .int .i64 (H : Int), .slice (some ⟨g, 0, none⟩) l.length l.length]) (by simp [results, Tryz.results47, go_sem, r0, r1, r2, r3]) rfl ⟨g, rfl, HGE.out, below_set4 HB.out (by omega) _ _ _ _⟩
theorem transD_next (H W y i : Nat) (h : i < W * H) : transD H y W i = transD H (y + 1) 0 i := by
  rw [transD_end H W y i h]; unfold transD; simp
set_option maxHeartbeats 2000000 in
theorem transposedR_ok (nm : ByteArray) (W H : Nat) (l : List Nat) (hW : 1 ≤ W ∧ W ≤ 64) (hH : 1 ≤ H ∧ H ≤ 64) (hlen : l.length = W * H) (A : Option Addr) (c : Nat) (w : World) (hr : Rd w A (fl l)) :
    Calls Tryz.prog 48 #[.agg #[.string nm, .int .i64 (W : Int), .int .i64 (H : Int), .slice A l.length c]] w fun e w' => ∃ g, e = .returned (.agg #[.string nm, .int .i64 (H : Int), .int .i64 (W : Int), .slice (some ⟨g, 0, none⟩) l.length l.length]) ∧ Blk w' g 23 (maskN (transF l W H) (.float .f32 0) l.length (fun _ => true)) ∧ Below w.heap.size w w' := by
  have hl4 : l.length ≤ 4096 := by rw [hlen]; exact Nat.le_trans (Nat.mul_le_mul hW.2 hH.2) (by decide)
  have hn4 := hl4
  have hpos : 0 < (fl l).length := by have := prod_pos hW.1 hH.1; simp [fl]; omega
  obtain ⟨ad, rfl, hadb, hadc⟩ := hr.some_ hpos
  have HR := Lib.hid hr
  have HFN : RowKit.Hid (H * W = l.length) := Lib.hid (by rw [hlen, Nat.mul_comm])
  have HD0 : RowKit.Hid (∀ i, i < l.length → (decide (i < 0)) = transD H 0 0 i) := Lib.hid (fun i _ => by simp [transD])
  have HLEN := Lib.hid hlen
  have HDN : RowKit.Hid (∀ y i, i < l.length → transD H y W i = transD H (y + 1) 0 i) := Lib.hid (fun y i hi => transD_next H W y i (by rw [← hlen]; exact hi))
  have HDE : RowKit.Hid (∀ i, i < l.length → transD H H 0 i = true) := Lib.hid (fun i hi => by unfold transD; simp [Nat.mod_lt i (show 0 < H by omega)])
  clear hr hadb hadc hpos hlen
  go_enter Tryz.func48, Tryz.ntmps48
  go_upto_region 1 with fail
  have hx0 := (Blk.new w 43 #[.string nm, .int .i64 (W : Int), .int .i64 (H : Int), .slice (some ad) l.length c]).alloc (.cells #[.string ⟨#[]⟩, .int .i64 0, .int .i64 0, .slice none 0 0] 43)
  have hx1 := Blk.new (w.alloc (.cells #[.string nm, .int .i64 (W : Int), .int .i64 (H : Int), .slice (some ad) l.length c] 43)) 43 #[.string ⟨#[]⟩, .int .i64 0, .int .i64 0, .slice none 0 0]
  simp only [World.size_alloc] at hx1
  have hb0 := ((Below.refl w.heap.size w).alloc (Nat.le_refl _) (.cells #[.string nm, .int .i64 (W : Int), .int .i64 (H : Int), .slice (some ad) l.length c] 43)).alloc (by simp only [World.size_alloc]; omega) (.cells #[.string ⟨#[]⟩, .int .i64 0, .int .i64 0, .slice none 0 0] 43)
  generalize ((w.alloc (.cells #[.string nm, .int .i64 (W : Int), .int .i64 (H : Int), .slice (some ad) l.length c] 43)).alloc (.cells #[.string ⟨#[]⟩, .int .i64 0, .int .i64 0, .slice none 0 0] 43)) = w0 at hx0 hx1 hb0 ⊢
  have HX0 := Lib.hid hx0
  have HX1 := Lib.hid hx1
  have HB := Lib.hid hb0; clear hb0 hx0 hx1
  have k0_0 := HX0.out.cell 0; have k0_1 := HX0.out.cell 1; have k0_2 := HX0.out.cell 2; have k0_3 := HX0.out.cell 3
  simp only [List.getElem?_toArray, List.getElem?_cons_zero, List.getElem?_cons_succ] at k0_0 k0_1 k0_2 k0_3
  go_wp2_with fail
  refine (filled_any nm H W l.length _ HFN.out hn4).mono ?_
  rintro e w2 ⟨g, rfl, hg, hgb, hb2⟩
  have hgx : w.heap.size + 1 < g := Nat.lt_of_lt_of_le HX1.out.lt hg
  replace HX0 := Lib.hid (HX0.out.below hb2)
  replace HX1 := Lib.hid (HX1.out.below hb2)
  replace HB := Lib.hid (HB.out.trans (hb2.mono HB.out.size))
  have HG := Lib.hid hgb
  clear hb2 hgb
  clear k0_0 k0_1 k0_2 k0_3
  go_upto_region 2 with fail
  have hx0 := HX0.out.alloc (.cells #[.string nm, .int .i64 (H : Int), .int .i64 (W : Int), .slice (some ⟨g, 0, none⟩) l.length l.length] 43)
  have hx1 := HX1.out.alloc (.cells #[.string nm, .int .i64 (H : Int), .int .i64 (W : Int), .slice (some ⟨g, 0, none⟩) l.length l.length] 43)
  have hgm := HG.out.alloc (.cells #[.string nm, .int .i64 (H : Int), .int .i64 (W : Int), .slice (some ⟨g, 0, none⟩) l.length l.length] 43)
  have hf := Blk.new w2 43 #[.string nm, .int .i64 (H : Int), .int .i64 (W : Int), .slice (some ⟨g, 0, none⟩) l.length l.length]
  have hb := HB.out.alloc HB.out.size (.cells #[.string nm, .int .i64 (H : Int), .int .i64 (W : Int), .slice (some ⟨g, 0, none⟩) l.length l.length] 43)
  have hgb : g < w2.heap.size := HG.out.lt
  have hbx : w.heap.size + 1 < w2.heap.size := HX1.out.lt
  obtain ⟨b3, hb3⟩ : ∃ b, w2.heap.size = b := ⟨_, rfl⟩
  rw [hb3] at hf hgb hbx ⊢
  clear hb3
  generalize w2.alloc (.cells #[.string nm, .int .i64 (H : Int), .int .i64 (W : Int), .slice (some ⟨g, 0, none⟩) l.length l.length] 43) = w3 at hx0 hx1 hgm hf hb ⊢
  replace HX0 := Lib.hid hx0
  replace HX1 := Lib.hid hx1
  replace HG := Lib.hid hgm; have HF := Lib.hid hf; replace HB := Lib.hid hb; clear hgm hf hb hx0 hx1
  go_wp2
  go_loopw [4] (fun i wr => ∃ y : Nat, y ≤ H ∧ i = .int .i64 y ∧ Blk wr w.heap.size 43 #[.string nm, .int .i64 (W : Int), .int .i64 (H : Int), .slice (some ad) l.length c] ∧ Blk wr (w.heap.size + 1) 43 #[.string ⟨#[]⟩, .int .i64 0, .int .i64 0, .slice none 0 0] ∧ Blk wr b3 43 #[.string nm, .int .i64 (H : Int), .int .i64 (W : Int), .slice (some ⟨g, 0, none⟩) l.length l.length] ∧ Blk wr g 23 (maskN (transF l W H) (.float .f32 0) l.length (transD H y 0)) ∧ Below w.heap.size w wr) (fun i _ => H - (intOf i).toNat)
  case atStart =>
    refine ⟨0, by omega, rfl, HX0.out, HX1.out, HF.out, ?_, HB.out⟩
    have h := HG.out
    rw [fill_mask, mask_congr (fun _ => .float .f32 0) (transF l W H) _ _ _ (transD H 0 0) (HD0.out) (by simp)] at h
    exact h
  case round =>
    clear HX0 HX1 HG HF HB
    obtain ⟨y, hy, rfl, hx0, hx1, hf, hgm, hbel⟩ := hrel
    have HX0 := Lib.hid hx0
    have HX1 := Lib.hid hx1
    have HF := Lib.hid hf; have HG := Lib.hid hgm; have HB := Lib.hid hbel; clear hf hgm hbel hx0 hx1
    have k0_0 := HX0.out.cell 0; have k0_1 := HX0.out.cell 1; have k0_2 := HX0.out.cell 2; have k0_3 := HX0.out.cell 3
    simp only [List.getElem?_toArray, List.getElem?_cons_zero, List.getElem?_cons_succ] at k0_0 k0_1 k0_2 k0_3
    obtain ⟨q0, q1, q2, q3⟩ := box4 HF.out
    by_cases hlt : y < H
    · go_wp2
      go_loopw [5] (fun i wr => ∃ x : Nat, x ≤ W ∧ i = .int .i64 x ∧ Blk wr w.heap.size 43 #[.string nm, .int .i64 (W : Int), .int .i64 (H : Int), .slice (some ad) l.length c] ∧ Blk wr (w.heap.size + 1) 43 #[.string ⟨#[]⟩, .int .i64 0, .int .i64 0, .slice none 0 0] ∧ Blk wr b3 43 #[.string nm, .int .i64 (H : Int), .int .i64 (W : Int), .slice (some ⟨g, 0, none⟩) l.length l.length] ∧ Blk wr g 23 (maskN (transF l W H) (.float .f32 0) l.length (transD H y x)) ∧ Below w.heap.size w wr) (fun i _ => W - (intOf i).toNat)
      case atStart => exact ⟨0, by omega, rfl, HX0.out, HX1.out, HF.out, HG.out, HB.out⟩
      case round =>
        clear q0 q1 q2 q3 k0_0 k0_1 k0_2 k0_3
        clear HX0 HX1 HG HF HB
        obtain ⟨x, hxW, rfl, hx0, hx1, hf, hgm, hbel⟩ := hrel
        obtain ⟨wo, rfl⟩ : ∃ wo : World, wo = wr := ⟨_, rfl⟩
        have HX0 := Lib.hid hx0
        have HX1 := Lib.hid hx1
        have HF := Lib.hid hf; have HG := Lib.hid hgm; have HB := Lib.hid hbel; clear hf hgm hbel hx0 hx1
        have k0_0 := HX0.out.cell 0; have k0_1 := HX0.out.cell 1; have k0_2 := HX0.out.cell 2; have k0_3 := HX0.out.cell 3
        simp only [List.getElem?_toArray, List.getElem?_cons_zero, List.getElem?_cons_succ] at k0_0 k0_1 k0_2 k0_3
        obtain ⟨q0, q1, q2, q3⟩ := box4 HF.out
        by_cases hxl : x < W
        · have hro := row_le (W := W) hlt
          have hro2 := row_le (W := H) hxl
          obtain ⟨q0_, hq0_⟩ : ∃ q, y * W = q := ⟨_, rfl⟩
          obtain ⟨q, hq⟩ : ∃ q, x * H = q := ⟨_, rfl⟩
          have hql : q + H ≤ l.length := by rw [← hq, HLEN.out, Nat.mul_comm W H]; exact hro2
          have hql0 : q0_ + W ≤ l.length := by rw [← hq0_, HLEN.out]; exact hro
          obtain ⟨k, hk⟩ : ∃ k, q + y = k := ⟨_, rfl⟩
          obtain ⟨s, hs⟩ : ∃ s, q0_ + x = s := ⟨_, rfl⟩
          have hsn : s < l.length := by omega
          have hkn : k < l.length := by omega
          have HSK : RowKit.Hid (y * W + x = s) := Lib.hid (by rw [hq0_]; exact hs)
          have HFK : RowKit.Hid (transF l W H k = .float .f32 (l.getD s 0)) := Lib.hid (by rw [← hk, ← hq, transF_at l W H y x hlt, hq0_, hs])
          have HDS : RowKit.Hid (∀ i, i < l.length → transD H y (x + 1) i = (transD H y x i || decide (i = k))) := Lib.hid (fun i _ => by rw [transD_step H y x i hlt, hq, hk, Bool.or_comm])
          have e0 : IntKind.i64.wrap ((x : Int) * (H : Int)) = (q : Int) := by rw [show (x : Int) * (H : Int) = (q : Int) by rw [← hq]; simp]; exact IntWalk.i64_in _ (by omega)
          have e1 : IntKind.i64.wrap ((q : Int) + (y : Int)) = (k : Int) := by rw [IntWalk.i64_in _ (by omega)]; omega
          have e4 : (0 : Int) ≤ (k : Int) := by omega
          have e5 : (k : Int) < (l.length : Int) := by omega
          clear hq hk hs hro hql hro2 hq0_ hql0
          have hrs := HR.out.below HB.out
          obtain ⟨v, hv⟩ : ∃ v, l.getD s 0 = v := ⟨_, rfl⟩
          have HV := Lib.hid hv
          have HS := Lib.hid (fun w hr => sampled_ok nm W H l.length c l rfl ad (x) (y) s HSK.out (by omega) hl4 hW.2 (by omega) w hr)
          rw [hv] at HS
          have HRS := Lib.hid hrs; clear hrs hv
          have HFA := Lib.hid (show (transF l W H) k = .float .f32 v by rw [← HV.out]; exact HFK.out)
          obtain ⟨vo, hvo⟩ : ∃ vo, (maskN (transF l W H) (.float .f32 0) l.length (transD H y x))[k]? = some vo := ⟨_, by rw [mask_get, if_pos hkn]⟩
          have hgc := (HG.out.cell k).trans hvo
          have HVO := Lib.hid hvo; clear hvo
          have hgf := HG.out.frozen k
          have HSET := Lib.hid (fun w (h : Blk w g 23 (maskN (transF l W H) (.float .f32 0) l.length (transD H y x))) => show Blk (w.setCell ⟨g, k, none⟩ (.float .f32 v)) g 23 (maskN (transF l W H) (.float .f32 0) l.length (transD H y (x + 1))) from by
            have h2 := h.set_ k (.float .f32 v)
            rw [← HFA.out, mask_set (transF l W H) _ _ _ (transD H y (x + 1)) k HDS.out] at h2
            rw [← HFA.out]; exact h2)
          have g0 := HX0.out.lt
          have g1 := HX1.out.lt
          have gf := HF.out.lt; have gg := HG.out.lt
          have n0 : ¬ w.heap.size = g := by omega
          have n1 : ¬ w.heap.size + 1 = g := by omega
          have nf : ¬ b3 = g := by omega
          have hch : Below wo.heap.size wo wo.drew := (Below.refl _ _).drew
          have hsx : SX g wo wo.drew := sx_below hch
          go_upto_region 8 with fail
          go_region_held3 (SX g wo)
            (first | (with_reducible assumption) | exact sx_drew (by assumption) | exact sx_set (by assumption) _ _)
            (first
              | (go_at_call 33; refine (HS.out _ (HRS.out.below (by assumption))).mono ?_; rintro e wn ⟨rfl, hbn⟩; have hch := chainB' (wo := wo) (by assumption) hbn; have hsx := sx_below (g := g) hch; have kg := ((HG.out.below hch).cell k).trans HVO.out; have kf := (HG.out.below hch).frozen k))
          clear kg kf hgc hgf hsx q0 q1 q2 q3 k0_0 k0_1 k0_2 k0_3
          replace HX0 := Lib.hid ((HX0.out.below hch).far (p := ⟨g, k, none⟩) (by simp; omega) (.float .f32 v))
          replace HX1 := Lib.hid ((HX1.out.below hch).far (p := ⟨g, k, none⟩) (by simp; omega) (.float .f32 v))
          replace HF := Lib.hid ((HF.out.below hch).far (p := ⟨g, k, none⟩) (by simp; omega) (.float .f32 v))
          replace HG := Lib.hid (HSET.out _ (HG.out.below hch))
          replace HB := Lib.hid ((HB.out.trans (hch.mono HB.out.size)).setCell (p := ⟨g, k, none⟩) (by simp; omega) (.float .f32 v))
          clear hch hbn
          go_wp2
          go_roundw
          case rel => exact ⟨x + 1, by omega, by go_num, HX0.out, HX1.out, HF.out, HG.out, HB.out⟩
          case measure => simp [intOf]; omega
        · have hxe : x = W := by omega
          replace HG := Lib.hid (show Blk wo g 23 (maskN (transF l W H) (.float .f32 0) l.length (transD H (y + 1) 0)) from by
            have h := HG.out
            rw [hxe, mask_congr (transF l W H) (transF l W H) _ _ _ (transD H (y + 1) 0) (HDN.out y) (fun _ _ _ => rfl)] at h
            exact h)
          go_wp2
          go_roundw
          case rel => exact ⟨y + 1, by omega, by go_num, HX0.out, HX1.out, HF.out, HG.out, HB.out⟩
          case measure => simp [intOf]; omega
    · have hye : y = H := by omega
      replace HG := Lib.hid (show Blk wr g 23 (maskN (transF l W H) (.float .f32 0) l.length (fun _ => true)) from by
        have h := HG.out
        rw [hye, mask_congr (transF l W H) (transF l W H) _ _ _ (fun _ => true) (HDE.out) (fun _ _ _ => rfl)] at h
        exact h)
      have hy := HX1.out
      have z1 := hy.lt
      have f0 := hy.frozen 0; have f1 := hy.frozen 1; have f2 := hy.frozen 2; have f3 := hy.frozen 3
      obtain ⟨d0, d1, d2, d3⟩ := box4 hy
      have hyy := Lib.hid (show Blk ((((wr.setCell ⟨w.heap.size + 1, 0, none⟩ (.string nm)).setCell ⟨w.heap.size + 1, 1, none⟩ (.int .i64 (H : Int))).setCell ⟨w.heap.size + 1, 2, none⟩ (.int .i64 (W : Int))).setCell ⟨w.heap.size + 1, 3, none⟩ (.slice (some ⟨g, 0, none⟩) l.length l.length)) (w.heap.size + 1) 43 #[.string nm, .int .i64 (H : Int), .int .i64 (W : Int), .slice (some ⟨g, 0, none⟩) l.length l.length] from (((hy.set_ 0 _).set_ 1 _).set_ 2 _).set_ 3 _)
      have HGE := Lib.hid ((((HG.out.far (p := ⟨w.heap.size + 1, 0, none⟩) (by simp; omega) (.string nm)).far (p := ⟨w.heap.size + 1, 1, none⟩) (by simp; omega) (.int .i64 (H : Int))).far (p := ⟨w.heap.size + 1, 2, none⟩) (by simp; omega) (.int .i64 (W : Int))).far (p := ⟨w.heap.size + 1, 3, none⟩) (by simp; omega) (.slice (some ⟨g, 0, none⟩) l.length l.length))
      clear hy
      go_wp2
      obtain ⟨r0, r1, r2, r3⟩ := box4 hyy.out
      exact bodyPost_ret (v := .agg #[.string nm, .int .i64 (H : Int), .int .i64 (W : Int), .slice (some ⟨g, 0, none⟩) l.length l.length]) (by simp [results, Tryz.results48, go_sem, r0, r1, r2, r3]) rfl ⟨g, rfl, HGE.out, below_set4 HB.out (by omega) _ _ _ _⟩

end Go.Proofs.YthbdiifinkbcnaaGreatDoor
namespace Go.Proofs.YthbdiifinkbcnaaGreatDoor
open Go.RowKit
set_option linter.unusedVariables false
attribute [local go_sem] run_store_float run_store_complex
set_option maxRecDepth 100000
theorem upon_append_own {P : Program} {o : Oper} {a : Act} {w : World} {K : Act → World → Prop} {Q : Exit → Act → World → Prop} (t ty : TypeId) (base : Nat) (e : TypeId) (i : TypeInfo) (z : Value) (size bytes : Nat) (ht : P.underlying t = some (.slice e)) (hi : P.info? e = some i) (hz : i.zero = some z)
    (hsize : i.size = size) (hby : i.bytes = bytes) (hzs : z.cells.size = size) (hsz : 0 < size)
    (v : Value) (n : Nat) (xs : List Value) (hown : w.ownsRow base e size v n xs)
    (ad : Addr) (m c : Nat) (news : List Value) (hl : news.length = m * size) (hnews : ∀ j u, news[j]? = some u → w.cell? (ad.add j) = some u) (h1 : ∀ u ∈ news, u.oneCell' = true)
    (h63 : n + m ≤ maxLen) (hbytes : (n + m) * bytes ≤ 140737488355328) (hbase : base ≤ w.heap.size)
    (h : ∀ v' w', w'.ownsRow base e size v' (n + m) (xs ++ news) → w.grownBy w' v.ownBlock → (v'.ownBlock = v.ownBlock ∨ v'.ownBlock = some w.heap.size) → K (a.put o.dst v') w') :
    o.upon P a K Q ((Sem.run P (Builtin.append_ #[t, t] ty #[v, .slice (some ad) m c]) w).andThen fun a w' => .ok (.value a) w') := by
  obtain ⟨v', w', hr, h2, h3, _, h5⟩ := run_append_own_at (P := P) w base t ty e i z size bytes ht hi hz hsize hby hzs hsz v n xs hown ad m c news hl hnews h1 h63 hbytes hbase
  rw [hr]
  exact h v' w' h2 h3 h5
def fieldL (l : List Nat) (W d n : Nat) : List Nat := (List.range n).map fun i => l.getD ((2 * (i / W) + d) * W + i % W) 0
theorem fieldL_len (l : List Nat) (W d n : Nat) : (fieldL l W d n).length = n := by simp [fieldL]
theorem take_row (l : List Nat) (o W : Nat) (h : o + W ≤ l.length) : (l.drop o).take W = (List.range W).map fun j => l.getD (o + j) 0 := by
  apply List.ext_getElem?
  intro i
  by_cases hi : i < W
  · rw [List.getElem?_take, if_pos hi, List.getElem?_drop, List.getElem?_map, List.getElem?_range hi]
    simp [List.getD, show o + i < l.length by omega]
  · rw [List.getElem?_take, if_neg hi, List.getElem?_map, List.getElem?_eq_none (by simp; omega)]; rfl
theorem fieldL_next (l : List Nat) (W d k : Nat) (hW : 1 ≤ W) (h : (2 * k + d) * W + W ≤ l.length) : fieldL l W d ((k + 1) * W) = fieldL l W d (k * W) ++ (l.drop ((2 * k + d) * W)).take W := by
  rw [take_row _ _ _ h]
  unfold fieldL
  rw [Nat.add_mul, Nat.one_mul, List.range_add, List.map_append, List.map_map]
  congr 1
  apply List.map_congr_left
  intro j hj
  have hj : j < W := by simpa using hj
  have h1 : (k * W + j) / W = k := by rw [Nat.mul_comm, Nat.mul_add_div (by omega), Nat.div_eq_of_lt hj, Nat.add_zero]
  have h2 : (k * W + j) % W = j := by rw [Nat.mul_comm, Nat.mul_add_mod, Nat.mod_eq_of_lt hj]
  simp only [Function.comp, h1, h2]
def RowsEnd (nm : ByteArray) (W K : Nat) (l : List Nat) (d : Nat) (w : World) (e : Ending) (w' : World) : Prop := ∃ A c, e = .returned (.agg #[.string nm, .int .i64 (W : Int), .int .i64 (K : Int), .slice A (K * W) c]) ∧ Rd w' A (fl (fieldL l W d (K * W))) ∧ Below w.heap.size w w'
set_option maxHeartbeats 2000000 in
theorem rowsR_ok (nm : ByteArray) (W H K d : Nat) (l : List Nat) (hW : 1 ≤ W ∧ W ≤ 64) (hH : 1 ≤ H ∧ H ≤ 64) (hlen : l.length = W * H) (hd : d ≤ 1) (hK1 : H ≤ 2 * K + d) (hK2 : 2 * K + d ≤ H + 1) (hK3 : 1 ≤ K) (A : Option Addr) (c : Nat) (hcap : l.length ≤ c) (w : World) (hr : Rd w A (fl l)) :
    Calls Tryz.prog 114 #[.agg #[.string nm, .int .i64 (W : Int), .int .i64 (H : Int), .slice A l.length c], .int .i64 (d : Int)] w (RowsEnd nm W K l d w) := by
  obtain ⟨i0, hi, hz0, hz1, hz2⟩ := info_parts info_mapIF
  have hl4 : l.length ≤ 4096 := by rw [hlen]; exact Nat.le_trans (Nat.mul_le_mul hW.2 hH.2) (by decide)
  have hpos : 0 < (fl l).length := by have := prod_pos hW.1 hH.1; simp [fl]; omega
  obtain ⟨ad, rfl, hadb, hadc⟩ := hr.some_ hpos
  have HR := Lib.hid hr
  have HLEN := Lib.hid hlen
  clear hr hadb hadc hpos hlen
  go_enter Tryz.func114, Tryz.ntmps114
  go_upto_region 2 with fail
  have hx0 := ((Blk.new w 43 #[.string nm, .int .i64 (W : Int), .int .i64 (H : Int), .slice (some ad) l.length c]).alloc (.cells #[.string ⟨#[]⟩, .int .i64 0, .int .i64 0, .slice none 0 0] 43)).alloc (.cells #[.string nm, .int .i64 (W : Int), .int .i64 0, .slice none 0 0] 43)
  have hx1 := (Blk.new (w.alloc (.cells #[.string nm, .int .i64 (W : Int), .int .i64 (H : Int), .slice (some ad) l.length c] 43)) 43 #[.string ⟨#[]⟩, .int .i64 0, .int .i64 0, .slice none 0 0]).alloc (.cells #[.string nm, .int .i64 (W : Int), .int .i64 0, .slice none 0 0] 43)
  have hx2 := Blk.new ((w.alloc (.cells #[.string nm, .int .i64 (W : Int), .int .i64 (H : Int), .slice (some ad) l.length c] 43)).alloc (.cells #[.string ⟨#[]⟩, .int .i64 0, .int .i64 0, .slice none 0 0] 43)) 43 #[.string nm, .int .i64 (W : Int), .int .i64 0, .slice none 0 0]
  simp only [World.size_alloc] at hx1 hx2
  have hb0 := (((Below.refl w.heap.size w).alloc (Nat.le_refl _) (.cells #[.string nm, .int .i64 (W : Int), .int .i64 (H : Int), .slice (some ad) l.length c] 43)).alloc (by simp only [World.size_alloc]; omega) (.cells #[.string ⟨#[]⟩, .int .i64 0, .int .i64 0, .slice none 0 0] 43)).alloc (by simp only [World.size_alloc]; omega) (.cells #[.string nm, .int .i64 (W : Int), .int .i64 0, .slice none 0 0] 43)
  generalize (((w.alloc (.cells #[.string nm, .int .i64 (W : Int), .int .i64 (H : Int), .slice (some ad) l.length c] 43)).alloc (.cells #[.string ⟨#[]⟩, .int .i64 0, .int .i64 0, .slice none 0 0] 43)).alloc (.cells #[.string nm, .int .i64 (W : Int), .int .i64 0, .slice none 0 0] 43)) = w0 at hx0 hx1 hx2 hb0 ⊢
  have HX0 := Lib.hid hx0; have HX1 := Lib.hid hx1; have HX2 := Lib.hid hx2; have HB := Lib.hid hb0; clear hx0 hx1 hx2 hb0
  go_wp2
  go_loopw [6] (fun i wr => ∃ (k y : Nat) (A' : Option Addr) (c' : Nat), k ≤ K ∧ i = .int .i64 y ∧ y = 2 * k + d ∧ Blk wr w.heap.size 43 #[.string nm, .int .i64 (W : Int), .int .i64 (H : Int), .slice (some ad) l.length c] ∧ Blk wr (w.heap.size + 1) 43 #[.string ⟨#[]⟩, .int .i64 0, .int .i64 0, .slice none 0 0] ∧ Blk wr (w.heap.size + 1 + 1) 43 #[.string nm, .int .i64 (W : Int), .int .i64 (k : Int), .slice A' (k * W) c'] ∧ wr.ownsRow (w.heap.size + 1 + 1 + 1) 23 1 (.slice A' (k * W) c') (k * W) (fl (fieldL l W d (k * W))) ∧ Below w.heap.size w wr) (fun i _ => H - (intOf i).toNat)
  case atStart =>
    refine ⟨0, d, none, 0, by omega, rfl, by omega, HX0.out, HX1.out, by rw [Nat.zero_mul]; exact HX2.out, ?_, HB.out⟩
    rw [Nat.zero_mul]; exact World.ownsRow_nil _ _ _ _
  case round =>
    clear HX0 HX1 HX2 HB
    obtain ⟨k, y, A', c', hk, rfl, hye, hx0, hx1, hx2, hown, hbel⟩ := hrel
    obtain ⟨wo, rfl⟩ : ∃ wo : World, wo = wr := ⟨_, rfl⟩
    have HX0 := Lib.hid hx0; have HX1 := Lib.hid hx1; have HX2 := Lib.hid hx2; have HOWN := Lib.hid hown; have HB := Lib.hid hbel
    have HYE := Lib.hid hye
    obtain ⟨k0, k1, k2, k3⟩ := box4 hx0
    obtain ⟨q0, q1, q2, q3⟩ := box4 hx2
    clear hx0 hx1 hx2 hown hbel
    by_cases hlt : y < H
    · have hkK : k < K := by omega
      have hro := row_le (W := W) hlt
      obtain ⟨o, ho⟩ : ∃ o, y * W = o := ⟨_, rfl⟩
      have hol : o + W ≤ l.length := by rw [← ho, HLEN.out]; exact hro
      obtain ⟨n, hn⟩ : ∃ n, k * W = n := ⟨_, rfl⟩
      have hn2 : n + W = (k + 1) * W := by rw [Nat.add_mul, hn, Nat.one_mul]
      have hn3 : n ≤ 4096 := by rw [← hn]; exact Nat.le_trans (Nat.mul_le_mul (show k ≤ 64 by omega) hW.2) (by decide)
      have HNX := Lib.hid (show fieldL l W d (n + W) = fieldL l W d n ++ (l.drop o).take W by
        rw [hn2, ← hn, fieldL_next l W d k hW.1 (by rw [← hye, ho]; exact hol), ← hye, ho])
      rw [hn] at HOWN HX2 q3
      have e0 : IntKind.i64.wrap ((y : Int) * (W : Int)) = (o : Int) := by rw [show (y : Int) * (W : Int) = (o : Int) by rw [← ho]; simp]; exact IntWalk.i64_in _ (by omega)
      have e1 : IntKind.i64.wrap ((y : Int) + 1) = (y : Int) + 1 := IntWalk.i64_in _ (by omega)
      have e2 : IntKind.i64.wrap (((y : Int) + 1) * (W : Int)) = (o : Int) + (W : Int) := by rw [show ((y : Int) + 1) * (W : Int) = (o : Int) + (W : Int) by rw [Int.add_mul, Int.one_mul]; congr 1; rw [← ho]; simp]; exact IntWalk.i64_in _ (by omega)
      have HSRC := Lib.hid (HR.out.below HB.out)
      have HN := Lib.hid hn; have HN2 := Lib.hid hn2
      have g0 := HX0.out.lt; have g1 := HX1.out.lt; have g2 := HX2.out.lt
      have hsx : SX (w.heap.size + 1 + 1) wo wo.drew := sx_below (Below.refl _ _).drew
      clear hye ho hn hn2 hro
      go_upto_region 5 with fail
      have e3 : (0 : Int) ≤ (o : Int) := by omega
      have e4 : (o : Int) ≤ (o : Int) + (W : Int) := by omega
      have e5 : (o : Int) + (W : Int) ≤ (c : Int) := by omega
      refine wp_region_still_tail 14 (by kernel_rfl) (by kernel_rfl) ?_
      simp only [List.take_succ_cons, List.take_zero, List.drop_succ_cons, List.drop_zero]
      still_step; still_step; still_step; still_step; still_step; still_step; still_step; still_step; still_step; still_step; still_step; still_step; still_step
      still_step
      refine wpStill_nil ?_
      rw [if_neg (show ¬ c = o by omega), show ((o : Int) + (W : Int)).toNat - o = W by omega]
      change wpList _ _ _ _ _ wo.drew
      clear e0 e1 e2 e3 e4 e5 k0 k1 k2 k3 hsx
      have HLN : RowKit.Hid ((fl ((l.drop o).take W)).length = W * 1) := Lib.hid (by simp [fl]; omega)
      refine wpList_append_own_at _ (by rfl) (.tmp 20) (.tmp 32) 41 (by rfl) (w.heap.size + 1 + 1 + 1) 23 i0 (.float .f32 0) 1 4 Tryz.underlying41 hi hz0 hz1 hz2 (by rfl) (by decide) (.slice A' n c') n (fl (fieldL l W d n)) (by rfl) (HOWN.out.drew) (ad.add o) W (c - o) (fl ((l.drop o).take W)) (by rfl) HLN.out (fun j u hj => by
          have hjW : j < W := by have h1 := (List.getElem?_eq_some_iff.1 hj).1; rw [HLN.out] at h1; omega
          obtain ⟨ad2, e2, _, hc2⟩ := HSRC.out (by simp [fl]; omega)
          cases e2
          rw [add_of_add]
          refine hc2 (o + j) u ?_
          rw [← hj]
          simp only [fl, List.map_take, List.map_drop]
          rw [List.getElem?_take, if_pos hjW, List.getElem?_drop]) (by intro u hu; obtain ⟨b, _, rfl⟩ := List.mem_map.1 hu; rfl) (by unfold maxLen; omega) (by omega) (by have := HX2.out.lt; exact this) ?_
      intro v' w1 hown hgrow hnil hat
      clear hnil hat
      obtain ⟨A2, c2, rfl⟩ := own_shape hown
      have hob := owns_block HOWN.out
      have hx0 := blk_grown (HX0.out.drew) hgrow (fun e => by have := (hob _ e).1; omega)
      have hx1 := blk_grown (HX1.out.drew) hgrow (fun e => by have := (hob _ e).1; omega)
      have hx2 := blk_grown (HX2.out.drew) hgrow (fun e => by have := (hob _ e).1; omega)
      have hb2 := (HB.out.drew).grown hgrow HB.out.size (fun r hr => by have := (hob r hr).1; omega)
      clear q0 q1 q2 q3 g0 g1 g2 hgrow
      obtain ⟨q0, q1, q2, q3⟩ := box4 hx2
      have z2 := hx2.lt
      have f2 := hx2.frozen 2; have f3 := hx2.frozen 3
      have ek : IntKind.i64.wrap ((k : Int) + 1) = ((k + 1 : Nat) : Int) := by rw [IntWalk.i64_in _ (by omega)]; simp
      have HOWN2 : RowKit.Hid (((w1.setCell ⟨w.heap.size + 1 + 1, 3, none⟩ (.slice A2 (n + W) c2)).setCell ⟨w.heap.size + 1 + 1, 2, none⟩ (.int .i64 ((k + 1 : Nat) : Int))).ownsRow (w.heap.size + 1 + 1 + 1) 23 1 (.slice A2 ((k + 1) * W) c2) ((k + 1) * W) (fl (fieldL l W d ((k + 1) * W)))) := Lib.hid (by
        have h : w1.ownsRow (w.heap.size + 1 + 1 + 1) 23 1 (.slice A2 (n + W) c2) (n + W) (fl (fieldL l W d (n + W))) := by rw [HNX.out]; simpa [fl] using hown
        rw [HN2.out] at h
        exact owns_far (owns_far h (by simp) _) (by simp) _)
      have HX0' := Lib.hid ((hx0.far (p := ⟨w.heap.size + 1 + 1, 3, none⟩) (by simp; omega) (.slice A2 (n + W) c2)).far (p := ⟨w.heap.size + 1 + 1, 2, none⟩) (by simp; omega) (.int .i64 ((k + 1 : Nat) : Int)))
      have HX1' := Lib.hid ((hx1.far (p := ⟨w.heap.size + 1 + 1, 3, none⟩) (by simp) (.slice A2 (n + W) c2)).far (p := ⟨w.heap.size + 1 + 1, 2, none⟩) (by simp) (.int .i64 ((k + 1 : Nat) : Int)))
      have HX2' := Lib.hid (show Blk ((w1.setCell ⟨w.heap.size + 1 + 1, 3, none⟩ (.slice A2 (n + W) c2)).setCell ⟨w.heap.size + 1 + 1, 2, none⟩ (.int .i64 ((k + 1 : Nat) : Int))) (w.heap.size + 1 + 1) 43 #[.string nm, .int .i64 (W : Int), .int .i64 ((k + 1 : Nat) : Int), .slice A2 ((k + 1) * W) c2] from by rw [HN2.out]; exact (hx2.set_ 3 (.slice A2 ((k + 1) * W) c2)).set_ 2 (.int .i64 ((k + 1 : Nat) : Int)))
      have HB' := Lib.hid ((hb2.setCell (p := ⟨w.heap.size + 1 + 1, 3, none⟩) (by simp; omega) (.slice A2 (n + W) c2)).setCell (p := ⟨w.heap.size + 1 + 1, 2, none⟩) (by simp; omega) (.int .i64 ((k + 1 : Nat) : Int)))
      clear hx0 hx1 hx2 hb2 hown HOWN HX0 HX1 HX2 HB hob
      go_wp2
      go_roundw
      case rel => exact ⟨k + 1, y + 2, A2, c2, by omega, by go_num, by have := HYE.out; omega, HX0'.out, HX1'.out, HX2'.out, HOWN2.out, HB'.out⟩
      case measure => simp [intOf]; omega
    · have hkK : k = K := by omega
      subst hkK
      have hy := HX1.out
      have z1 := hy.lt
      have f0 := hy.frozen 0; have f1 := hy.frozen 1; have f2 := hy.frozen 2; have f3 := hy.frozen 3
      obtain ⟨d0, d1, d2, d3⟩ := box4 hy
      have hyy := Lib.hid (show Blk ((((wo.setCell ⟨w.heap.size + 1, 0, none⟩ (.string nm)).setCell ⟨w.heap.size + 1, 1, none⟩ (.int .i64 (W : Int))).setCell ⟨w.heap.size + 1, 2, none⟩ (.int .i64 (k : Int))).setCell ⟨w.heap.size + 1, 3, none⟩ (.slice A' (k * W) c')) (w.heap.size + 1) 43 #[.string nm, .int .i64 (W : Int), .int .i64 (k : Int), .slice A' (k * W) c'] from (((hy.set_ 0 _).set_ 1 _).set_ 2 _).set_ 3 _)
      have HOWN3 := Lib.hid (owns_far (owns_far (owns_far (owns_far HOWN.out (p := ⟨w.heap.size + 1, 0, none⟩) (by simp) (.string nm)) (p := ⟨w.heap.size + 1, 1, none⟩) (by simp) (.int .i64 (W : Int))) (p := ⟨w.heap.size + 1, 2, none⟩) (by simp) (.int .i64 (k : Int))) (p := ⟨w.heap.size + 1, 3, none⟩) (by simp) (.slice A' (k * W) c'))
      clear hy HYE hye
      go_wp2
      obtain ⟨r0, r1, r2, r3⟩ := box4 hyy.out
      exact bodyPost_ret (v := .agg #[.string nm, .int .i64 (W : Int), .int .i64 (k : Int), .slice A' (k * W) c']) (by simp [results, Tryz.results114, go_sem, r0, r1, r2, r3]) rfl ⟨A', c', rfl, rd_own HOWN3.out, below_set4 HB.out (by omega) _ _ _ _⟩
theorem fieldsR_short (nm : ByteArray) (W H n : Int) (hH : H < 2) (A : Option Addr) (m c : Nat) (w : World) :
    Calls Tryz.prog 49 #[.agg #[.string nm, .int .i64 W, .int .i64 H, .slice A m c]] w fun e w' => e = .returned (.tuple #[.agg #[.string ⟨#[]⟩, .int .i64 0, .int .i64 0, .slice none 0 0, .string ⟨#[]⟩, .int .i64 0, .int .i64 0, .slice none 0 0], .int .i64 16]) ∧ Below w.heap.size w w' := by
  go_enter Tryz.func49, Tryz.ntmps49
  go_upto_region 1 with fail
  have hbx := (Blk.new w 43 #[.string nm, .int .i64 W, .int .i64 H, .slice A m c]).alloc (.cells #[.string ⟨#[]⟩, .int .i64 0, .int .i64 0, .slice none 0 0, .string ⟨#[]⟩, .int .i64 0, .int .i64 0, .slice none 0 0] 70)
  have hby := Blk.new (w.alloc (.cells #[.string nm, .int .i64 W, .int .i64 H, .slice A m c] 43)) 70 #[.string ⟨#[]⟩, .int .i64 0, .int .i64 0, .slice none 0 0, .string ⟨#[]⟩, .int .i64 0, .int .i64 0, .slice none 0 0]
  have hb0 : Below w.heap.size w ((w.alloc (.cells #[.string nm, .int .i64 W, .int .i64 H, .slice A m c] 43)).alloc (.cells #[.string ⟨#[]⟩, .int .i64 0, .int .i64 0, .slice none 0 0, .string ⟨#[]⟩, .int .i64 0, .int .i64 0, .slice none 0 0] 70)) := ((Below.refl _ _).alloc (Nat.le_refl _) _).alloc (by simp) _
  simp only [World.size_alloc] at hby
  generalize (w.alloc (.cells #[.string nm, .int .i64 W, .int .i64 H, .slice A m c] 43)).alloc (.cells #[.string ⟨#[]⟩, .int .i64 0, .int .i64 0, .slice none 0 0, .string ⟨#[]⟩, .int .i64 0, .int .i64 0, .slice none 0 0] 70) = w0 at hbx hby hb0 ⊢
  obtain ⟨c0, c1, c2, c3⟩ := box4 hbx
  have z0 := hbx.lt; have z1 := hby.lt
  have HB := Lib.hid hb0
  have f := fun i => hby.frozen i
  have f0 := f 0; have f1 := f 1; have f2 := f 2; have f3 := f 3; have f4 := f 4; have f5 := f 5; have f6 := f 6; have f7 := f 7
  obtain ⟨d0, d1, d2, d3, d4, d5, d6, d7⟩ := box8' hby
  have hyy := Lib.hid (show Blk ((((((((w0.setCell ⟨w.heap.size + 1, 0, none⟩ (.string ⟨#[]⟩)).setCell ⟨w.heap.size + 1, 1, none⟩ (.int .i64 0)).setCell ⟨w.heap.size + 1, 2, none⟩ (.int .i64 0)).setCell ⟨w.heap.size + 1, 3, none⟩ (.slice none 0 0)).setCell ⟨w.heap.size + 1, 4, none⟩ (.string ⟨#[]⟩)).setCell ⟨w.heap.size + 1, 5, none⟩ (.int .i64 0)).setCell ⟨w.heap.size + 1, 6, none⟩ (.int .i64 0)).setCell ⟨w.heap.size + 1, 7, none⟩ (.slice none 0 0)) (w.heap.size + 1) 70 #[.string ⟨#[]⟩, .int .i64 0, .int .i64 0, .slice none 0 0, .string ⟨#[]⟩, .int .i64 0, .int .i64 0, .slice none 0 0] from (((((((hby.set_ 0 _).set_ 1 _).set_ 2 _).set_ 3 _).set_ 4 _).set_ 5 _).set_ 6 _).set_ 7 _)
  clear hbx hby hb0 f
  go_wp2
  obtain ⟨r0, r1, r2, r3, r4, r5, r6, r7⟩ := box8' hyy.out
  exact bodyPost_ret (v := .tuple #[.agg #[.string ⟨#[]⟩, .int .i64 0, .int .i64 0, .slice none 0 0, .string ⟨#[]⟩, .int .i64 0, .int .i64 0, .slice none 0 0], .int .i64 16]) (by simp [results, Tryz.results49, go_sem, r0, r1, r2, r3, r4, r5, r6, r7]) rfl ⟨rfl, below_set8 HB.out (by omega) _ _ _ _ _ _ _ _⟩

end Go.Proofs.YthbdiifinkbcnaaGreatDoor
namespace Go.Proofs.YthbdiifinkbcnaaGreatDoor
open Go.RowKit
set_option linter.unusedVariables false
attribute [local go_sem] run_store_float run_store_complex
set_option maxRecDepth 100000
theorem rd_set8 {w : World} {A : Option Addr} {l : List Nat} {g : Nat} {t : TypeId} {cs : Array Value} (h : Rd w A (fl l)) (hb : Blk w g t cs) (hn : NF cs) (x0 x1 x2 x3 x4 x5 x6 x7 : Value) (f0 : fltV x0 = false) (f1 : fltV x1 = false) (f2 : fltV x2 = false) (f3 : fltV x3 = false) (f4 : fltV x4 = false) (f5 : fltV x5 = false) (f6 : fltV x6 = false) : Rd ((((((((w.setCell ⟨g, 0, none⟩ x0).setCell ⟨g, 1, none⟩ x1).setCell ⟨g, 2, none⟩ x2).setCell ⟨g, 3, none⟩ x3).setCell ⟨g, 4, none⟩ x4).setCell ⟨g, 5, none⟩ x5).setCell ⟨g, 6, none⟩ x6).setCell ⟨g, 7, none⟩ x7) A (fl l) :=
  rd_set (rd_set (rd_set (rd_set (rd_set (rd_set (rd_set (rd_set (h) (hb) (hn) 0 x0) ((hb).set_ 0 x0) ((hn).set 0 x0 f0) 1 x1) (((hb).set_ 0 x0).set_ 1 x1) (((hn).set 0 x0 f0).set 1 x1 f1) 2 x2) ((((hb).set_ 0 x0).set_ 1 x1).set_ 2 x2) ((((hn).set 0 x0 f0).set 1 x1 f1).set 2 x2 f2) 3 x3) (((((hb).set_ 0 x0).set_ 1 x1).set_ 2 x2).set_ 3 x3) (((((hn).set 0 x0 f0).set 1 x1 f1).set 2 x2 f2).set 3 x3 f3) 4 x4) ((((((hb).set_ 0 x0).set_ 1 x1).set_ 2 x2).set_ 3 x3).set_ 4 x4) ((((((hn).set 0 x0 f0).set 1 x1 f1).set 2 x2 f2).set 3 x3 f3).set 4 x4 f4) 5 x5) (((((((hb).set_ 0 x0).set_ 1 x1).set_ 2 x2).set_ 3 x3).set_ 4 x4).set_ 5 x5) (((((((hn).set 0 x0 f0).set 1 x1 f1).set 2 x2 f2).set 3 x3 f3).set 4 x4 f4).set 5 x5 f5) 6 x6) ((((((((hb).set_ 0 x0).set_ 1 x1).set_ 2 x2).set_ 3 x3).set_ 4 x4).set_ 5 x5).set_ 6 x6) ((((((((hn).set 0 x0 f0).set 1 x1 f1).set 2 x2 f2).set 3 x3 f3).set 4 x4 f4).set 5 x5 f5).set 6 x6 f6) 7 x7
theorem nf_eight {a b c d e f i j : Value} (ha : fltV a = false) (hb : fltV b = false) (hc : fltV c = false) (hd : fltV d = false) (he : fltV e = false) (hf : fltV f = false) (hi : fltV i = false) (hj : fltV j = false) : NF #[a, b, c, d, e, f, i, j] := fun k u hu => by
  match k with
  | 0 => cases hu; exact ha
  | 1 => cases hu; exact hb
  | 2 => cases hu; exact hc
  | 3 => cases hu; exact hd
  | 4 => cases hu; exact he
  | 5 => cases hu; exact hf
  | 6 => cases hu; exact hi
  | 7 => cases hu; exact hj
  | k + 8 => simp at hu
def FieldsEnd (nm : ByteArray) (W K1 K2 : Nat) (l : List Nat) (w : World) (e : Ending) (w' : World) : Prop := ∃ A1 e1 A2 e2, e = .returned (.tuple #[.agg #[.string nm, .int .i64 (W : Int), .int .i64 (K1 : Int), .slice A1 (K1 * W) e1, .string nm, .int .i64 (W : Int), .int .i64 (K2 : Int), .slice A2 (K2 * W) e2], .int .i64 0]) ∧ Rd w' A1 (fl (fieldL l W 0 (K1 * W))) ∧ Rd w' A2 (fl (fieldL l W 1 (K2 * W))) ∧ Below w.heap.size w w'
set_option maxHeartbeats 4000000 in
theorem fieldsR_ok (nm : ByteArray) (W H K1 K2 : Nat) (l : List Nat) (hW : 1 ≤ W ∧ W ≤ 64) (hH : 2 ≤ H ∧ H ≤ 64) (hlen : l.length = W * H) (hK1 : K1 = (H + 1) / 2) (hK2 : K2 = H / 2) (ad : Addr) (c : Nat) (hcap : l.length ≤ c) (w : World) (hr : Rd w (some ad) (fl l)) :
    Calls Tryz.prog 49 #[.agg #[.string nm, .int .i64 (W : Int), .int .i64 (H : Int), .slice (some ad) l.length c]] w (FieldsEnd nm W K1 K2 l w) := by
  have HR := Lib.hid hr
  have HS0 : RowKit.Hid (∀ w, Rd w (some ad) (fl l) → Calls Tryz.prog 114 #[.agg #[.string nm, .int .i64 (W : Int), .int .i64 (H : Int), .slice (some ad) l.length c], .int .i64 0] w (RowsEnd nm W K1 l 0 w)) := Lib.hid (fun w hr => rowsR_ok nm W H K1 0 l hW (by omega) hlen (by omega) (by omega) (by omega) (by omega) (some ad) c hcap w hr)
  have HS1 : RowKit.Hid (∀ w, Rd w (some ad) (fl l) → Calls Tryz.prog 114 #[.agg #[.string nm, .int .i64 (W : Int), .int .i64 (H : Int), .slice (some ad) l.length c], .int .i64 1] w (RowsEnd nm W K2 l 1 w)) := Lib.hid (fun w hr => rowsR_ok nm W H K2 1 l hW (by omega) hlen (by omega) (by omega) (by omega) (by omega) (some ad) c hcap w hr)
  clear hr hlen hK1 hK2
  go_enter Tryz.func49, Tryz.ntmps49
  go_upto_region 1 with fail
  have hbx := (Blk.new w 43 #[.string nm, .int .i64 (W : Int), .int .i64 (H : Int), .slice (some ad) l.length c]).alloc (.cells #[.string ⟨#[]⟩, .int .i64 0, .int .i64 0, .slice none 0 0, .string ⟨#[]⟩, .int .i64 0, .int .i64 0, .slice none 0 0] 70)
  have hby := Blk.new (w.alloc (.cells #[.string nm, .int .i64 (W : Int), .int .i64 (H : Int), .slice (some ad) l.length c] 43)) 70 #[.string ⟨#[]⟩, .int .i64 0, .int .i64 0, .slice none 0 0, .string ⟨#[]⟩, .int .i64 0, .int .i64 0, .slice none 0 0]
  have hb0 : Below w.heap.size w ((w.alloc (.cells #[.string nm, .int .i64 (W : Int), .int .i64 (H : Int), .slice (some ad) l.length c] 43)).alloc (.cells #[.string ⟨#[]⟩, .int .i64 0, .int .i64 0, .slice none 0 0, .string ⟨#[]⟩, .int .i64 0, .int .i64 0, .slice none 0 0] 70)) := ((Below.refl _ _).alloc (Nat.le_refl _) _).alloc (by simp) _
  simp only [World.size_alloc] at hby
  generalize (w.alloc (.cells #[.string nm, .int .i64 (W : Int), .int .i64 (H : Int), .slice (some ad) l.length c] 43)).alloc (.cells #[.string ⟨#[]⟩, .int .i64 0, .int .i64 0, .slice none 0 0, .string ⟨#[]⟩, .int .i64 0, .int .i64 0, .slice none 0 0] 70) = w0 at hbx hby hb0 ⊢
  obtain ⟨c0, c1, c2, c3⟩ := box4 hbx
  have HX := Lib.hid hbx; have HY := Lib.hid hby; have HB := Lib.hid hb0; clear hbx hby hb0
  have hge : ¬ (H : Int) < 2 := by omega
  go_upto_region 3 with fail
  go_region_with (first
    | (go_at_call_of 114 (Value.int IntKind.i64 0); refine (HS0.out _ (by exact HR.out.below HB.out.drew)).mono ?_; rintro e wn ⟨A1, e1, rfl, hr1, hbn⟩; have hbx := ((Below.refl w0.heap.size w0).drew).trans hbn; have hx := HX.out.below hbx; have hy := HY.out.below hbx; have HB1 := Lib.hid (HB.out.trans (hbx.mono HB.out.size)); have HR1 := Lib.hid hr1; obtain ⟨k0, k1, k2, k3⟩ := box4 hx; have HY1 := Lib.hid hy; clear hr1 hx hy hbn hbx)
    | (go_at_call_of 114 (Value.int IntKind.i64 1); refine (HS1.out _ (by exact HR.out.below HB1.out)).mono ?_; rintro e wm ⟨A2, e2, rfl, hr2, hbm⟩; have hy := HY1.out.below hbm; have HB2 := Lib.hid (HB1.out.trans (hbm.mono HB1.out.size)); have HR2 := Lib.hid hr2; have HRX := Lib.hid (HR1.out.below hbm); obtain ⟨d0, d1, d2, d3, d4, d5, d6, d7⟩ := box8' hy; have f0 := hy.frozen 0; have f1 := hy.frozen 1; have f2 := hy.frozen 2; have f3 := hy.frozen 3; have f4 := hy.frozen 4; have f5 := hy.frozen 5; have f6 := hy.frozen 6; have f7 := hy.frozen 7; have zy := hy.lt; have HY2 := Lib.hid hy; clear hr2 hy hbm))
  all_goals
    have hyy := Lib.hid (show Blk ((((((((wm.setCell ⟨w.heap.size + 1, 0, none⟩ (.string nm)).setCell ⟨w.heap.size + 1, 1, none⟩ (.int .i64 (W : Int))).setCell ⟨w.heap.size + 1, 2, none⟩ (.int .i64 (K1 : Int))).setCell ⟨w.heap.size + 1, 3, none⟩ (.slice A1 (K1 * W) e1)).setCell ⟨w.heap.size + 1, 4, none⟩ (.string nm)).setCell ⟨w.heap.size + 1, 5, none⟩ (.int .i64 (W : Int))).setCell ⟨w.heap.size + 1, 6, none⟩ (.int .i64 (K2 : Int))).setCell ⟨w.heap.size + 1, 7, none⟩ (.slice A2 (K2 * W) e2)) (w.heap.size + 1) 70 #[.string nm, .int .i64 (W : Int), .int .i64 (K1 : Int), .slice A1 (K1 * W) e1, .string nm, .int .i64 (W : Int), .int .i64 (K2 : Int), .slice A2 (K2 * W) e2] from (((((((HY2.out.set_ 0 _).set_ 1 _).set_ 2 _).set_ 3 _).set_ 4 _).set_ 5 _).set_ 6 _).set_ 7 _)
    have HRA := Lib.hid (rd_set8 HRX.out HY2.out (nf_eight rfl rfl rfl rfl rfl rfl rfl rfl) (.string nm) (.int .i64 (W : Int)) (.int .i64 (K1 : Int)) (.slice A1 (K1 * W) e1) (.string nm) (.int .i64 (W : Int)) (.int .i64 (K2 : Int)) (.slice A2 (K2 * W) e2) rfl rfl rfl rfl rfl rfl rfl)
    have HRB := Lib.hid (rd_set8 HR2.out HY2.out (nf_eight rfl rfl rfl rfl rfl rfl rfl rfl) (.string nm) (.int .i64 (W : Int)) (.int .i64 (K1 : Int)) (.slice A1 (K1 * W) e1) (.string nm) (.int .i64 (W : Int)) (.int .i64 (K2 : Int)) (.slice A2 (K2 * W) e2) rfl rfl rfl rfl rfl rfl rfl)
    have HBE := Lib.hid (below_set8 HB2.out (g := w.heap.size + 1) (by omega) (.string nm) (.int .i64 (W : Int)) (.int .i64 (K1 : Int)) (.slice A1 (K1 * W) e1) (.string nm) (.int .i64 (W : Int)) (.int .i64 (K2 : Int)) (.slice A2 (K2 * W) e2))
    clear d0 d1 d2 d3 d4 d5 d6 d7 f0 f1 f2 f3 f4 f5 f6 f7
    go_wp2
    obtain ⟨r0, r1, r2, r3, r4, r5, r6, r7⟩ := box8' hyy.out
    exact bodyPost_ret (v := .tuple #[.agg #[.string nm, .int .i64 (W : Int), .int .i64 (K1 : Int), .slice A1 (K1 * W) e1, .string nm, .int .i64 (W : Int), .int .i64 (K2 : Int), .slice A2 (K2 * W) e2], .int .i64 0]) (by simp [results, Tryz.results49, go_sem, r0, r1, r2, r3, r4, r5, r6, r7]) rfl ⟨A1, e1, A2, e2, rfl, HRA.out, HRB.out, HBE.out⟩

end Go.Proofs.YthbdiifinkbcnaaGreatDoor
namespace Go.Proofs.YthbdiifinkbcnaaGreatDoor
open Go.RowKit
set_option linter.unusedVariables false
set_option maxRecDepth 100000
theorem eqF_self {b : Nat} (h : chk 1024 b = 0) : eqF b b = true := by
  obtain ⟨s, n, hn, _, _⟩ := chk_zero h
  unfold eqF
  have h1 := hn.order hn
  rw [cmp_self] at h1
  rw [show FloatKind.f32.format.order b b = some .eq from h1]
  rfl
theorem sameF_self {l : List Nat} (h : ∀ b ∈ l, chk 1024 b = 0) : sameF l l = true := by
  induction l with
  | nil => rfl
  | cons a l ih =>
    simp only [sameF, eqF_self (h a (List.mem_cons_self ..)), Bool.true_and]
    exact ih fun b hb => h b (List.mem_cons_of_mem _ hb)
theorem chk_nil : chk 1024 0 = 0 := by decide +kernel
theorem chk_getD {l : List Nat} (h : ∀ b ∈ l, chk 1024 b = 0) (i : Nat) : chk 1024 (l.getD i 0) = 0 := by
  by_cases hi : i < l.length
  · exact h _ (by simp [List.getD, hi])
  · simp [List.getD, List.getElem?_eq_none (Nat.le_of_not_lt hi), chk_nil]
/-- The samples at the places that a function names. -/
def pickL (l : List Nat) (f : Nat → Nat) (n : Nat) : List Nat := (List.range n).map fun i => l.getD (f i) 0
theorem pickL_len (l : List Nat) (f : Nat → Nat) (n : Nat) : (pickL l f n).length = n := by simp [pickL]
theorem pickL_same {l : List Nat} (h : ∀ b ∈ l, chk 1024 b = 0) (f : Nat → Nat) (n : Nat) : sameF (pickL l f n) (pickL l f n) = true :=
  sameF_self fun b hb => by obtain ⟨i, _, rfl⟩ := List.mem_map.1 hb; exact chk_getD h _
theorem rd_pick {w : World} {g : Nat} {t : TypeId} {F : Nat → Value} {l : List Nat} {f : Nat → Nat} {n : Nat} (h : Blk w g t (maskN F (.float .f32 0) n (fun _ => true))) (hF : ∀ i, F i = .float .f32 (l.getD (f i) 0)) : Rd w (some ⟨g, 0, none⟩) (fl (pickL l f n)) :=
  rd_mask h (fun _ _ => rfl) (by simp [fl, pickL]) fun i hi => by rw [fl_get (by rw [pickL_len]; exact hi), hF]; simp [pickL, List.getD, hi]
def flipN (W i : Nat) : Nat := i / W * W + (W - 1 - i % W)
def transN (W H i : Nat) : Nat := i % H * W + i / H
def fieldN (W d i : Nat) : Nat := (2 * (i / W) + d) * W + i % W
def PickEnd (nm : ByteArray) (W H : Nat) (n : Nat) (L : List Nat) (w : World) (e : Ending) (w' : World) : Prop := ∃ g, e = .returned (.agg #[.string nm, .int .i64 (W : Int), .int .i64 (H : Int), .slice (some ⟨g, 0, none⟩) n n]) ∧ Rd w' (some ⟨g, 0, none⟩) (fl L) ∧ Below w.heap.size w w'
def PickOk (nm : ByteArray) (W H : Nat) (n : Nat) (L : List Nat) (w : World) (e : Ending) (w' : World) : Prop := ∃ g, e = .returned (.tuple #[.agg #[.string nm, .int .i64 (W : Int), .int .i64 (H : Int), .slice (some ⟨g, 0, none⟩) n n], .int .i64 0]) ∧ Rd w' (some ⟨g, 0, none⟩) (fl L) ∧ Below w.heap.size w w'
section
variable (nm : ByteArray) (W H : Nat) (l : List Nat) (hp : (Pic.mk nm W H l).Ok) (he : (Pic.mk nm W H l).err = 0) (A : Option Addr) (c : Nat) (w : World) (hcap : l.length ≤ c) (hr : Rd w A (fl l))
theorem ok_sizes {nm : ByteArray} {W H : Nat} {l : List Nat} (hp : (Pic.mk nm W H l).Ok) : (1 ≤ W ∧ W ≤ 64) ∧ (1 ≤ H ∧ H ≤ 64) ∧ l.length = W * H ∧ nm.size ≤ maxLen ∧ l.length ≤ maxLen := by
  have h1 := hp.w1; have h2 := hp.w2; have h3 := hp.h1; have h4 := hp.h2; have h5 := hp.len; have h6 := hp.big; have h7 := hp.name
  simp only [] at h1 h2 h3 h4 h5
  unfold nameOk at h7; simp at h7
  exact ⟨by omega, by omega, by exact_mod_cast h5, Nat.le_trans h7.1.2 (by decide), Nat.le_trans h6 (by decide)⟩
include hp he hcap hr
theorem flip_code : Calls Tryz.prog 44 #[.agg #[.string nm, .int .i64 (W : Int), .int .i64 (H : Int), .slice A l.length c]] w (PickOk nm W H l.length (pickL l (flipN W) l.length) w) :=
  (flipped_ok nm W H l hp he A c w (ok_sizes hp).2.2.2.1 (ok_sizes hp).2.2.2.2 hcap hr).mono fun e w' ⟨g, h1, h2, h3⟩ => ⟨g, h1, rd_pick h2 (fun i => rfl), h3⟩
theorem trans_code : Calls Tryz.prog 45 #[.agg #[.string nm, .int .i64 (W : Int), .int .i64 (H : Int), .slice A l.length c]] w (PickOk nm H W l.length (pickL l (transN W H) l.length) w) :=
  (transposed_ok nm W H l hp he A c w (ok_sizes hp).2.2.2.1 (ok_sizes hp).2.2.2.2 hcap hr).mono fun e w' ⟨g, h1, h2, h3⟩ => ⟨g, h1, rd_pick h2 (fun i => rfl), h3⟩
omit he hcap in
theorem flip_ref : Calls Tryz.prog 47 #[.agg #[.string nm, .int .i64 (W : Int), .int .i64 (H : Int), .slice A l.length c]] w (PickEnd nm W H l.length (pickL l (flipN W) l.length) w) :=
  (flippedR_ok nm W H l (ok_sizes hp).1 (ok_sizes hp).2.1 (ok_sizes hp).2.2.1 A c w hr).mono fun e w' ⟨g, h1, h2, h3⟩ => ⟨g, h1, rd_pick h2 (fun i => rfl), h3⟩
omit he hcap in
theorem trans_ref : Calls Tryz.prog 48 #[.agg #[.string nm, .int .i64 (W : Int), .int .i64 (H : Int), .slice A l.length c]] w (PickEnd nm H W l.length (pickL l (transN W H) l.length) w) :=
  (transposedR_ok nm W H l (ok_sizes hp).1 (ok_sizes hp).2.1 (ok_sizes hp).2.2.1 A c w hr).mono fun e w' ⟨g, h1, h2, h3⟩ => ⟨g, h1, rd_pick h2 (fun i => rfl), h3⟩
end

end Go.Proofs.YthbdiifinkbcnaaGreatDoor
