/- A sample of a picture; the transposed picture. -/
import Derived.Test.YtlicgblagkkcfaaGreatDoorP0
namespace Go.Proofs.YtlicgblagkkcfaaGreatDoor
open Go.RowKit
set_option linter.unusedVariables false
attribute [local go_sem] run_store_float run_store_complex
set_option maxRecDepth 100000 in
set_option maxHeartbeats 2000000 in
theorem at_ok (nm : ByteArray) (W H : Nat) (l : List Nat) (hp : (Pic.mk nm W H l).Ok) (he : (Pic.mk nm W H l).err = 0) (x y : Nat) (h1 : x < W) (h2 : y < H) (A : Option Addr) (c : Nat) (w : World) (hs : nm.size ≤ maxLen) (hl : l.length ≤ maxLen) (hcap : l.length ≤ c) (hr : Rd w A (fl l)) :
    Calls Tryz.prog 29 #[.agg #[.string nm, .int .i64 (W : Int), .int .i64 (H : Int), .slice A l.length c], .int .i64 (x : Int), .int .i64 (y : Int)] w fun e w' => e = .returned (.tuple #[.float .f32 (l.getD (y * W + x) 0), .int .i64 0]) ∧ Below w.heap.size w w' := by
  have hW : 1 ≤ W ∧ W ≤ 64 := by have h1 := hp.w1; have h2 := hp.w2; simp at h1 h2; omega
  have hH : 1 ≤ H ∧ H ≤ 64 := by have h1 := hp.h1; have h2 := hp.h2; simp at h1 h2; omega
  have hlen : l.length = W * H := by have h1 := hp.len; simp only [] at h1; exact_mod_cast h1
  have hbig : l.length ≤ 4096 := hp.big
  have hpos : 0 < (fl l).length := by have := prod_pos hW.1 hH.1; simp [fl]; omega
  obtain ⟨ad, rfl, hadb, hadc⟩ := hr.some_ hpos
  have HR := Lib.hid hr; have HP := Lib.hid hp; have HE := Lib.hid he
  have HAD := Lib.hid hadc; clear hadc
  have hrs := row_le (W := W) h2
  obtain ⟨q, hq⟩ : ∃ q, y * W = q := ⟨_, rfl⟩
  have hql : q + W ≤ l.length := by rw [← hq, hlen]; exact hrs
  rw [hq]
  have HQ := Lib.hid hq; clear hq hrs hlen
  clear hr hp he
  have hcp := fun w hr => checkPicture_any (Pic.mk nm W H l) (some ad) c w hs hl hr
  rw [HE.out] at hcp
  simp only [Pic.val] at hcp
  have HCP := Lib.hid hcp; clear hcp
  have s1 : (decide ((x : Int) < 0) || decide ((x : Int) ≥ (W : Int))) = false := by simp; omega
  have s2 : (decide ((y : Int) < 0) || decide ((y : Int) ≥ (H : Int))) = false := by simp; omega
  have SS1 := Lib.hid s1; have SS2 := Lib.hid s2
  clear s1 s2
  go_enter Tryz.func29, Tryz.ntmps29
  go_wp2_with fail
  have hx0 := (Blk.new w 50 #[.string nm, .int .i64 (W : Int), .int .i64 (H : Int), .slice (some ad) l.length c])
  have hb0 := ((Below.refl w.heap.size w).alloc (Nat.le_refl _) (.cells #[.string nm, .int .i64 (W : Int), .int .i64 (H : Int), .slice (some ad) l.length c] 50))
  generalize (w.alloc (.cells #[.string nm, .int .i64 (W : Int), .int .i64 (H : Int), .slice (some ad) l.length c] 50)) = w0 at hx0 hb0 ⊢
  have HX0_0 := Lib.hid hx0
  have HB_0 := Lib.hid hb0
  clear hx0 hb0
  refine (HCP.out _ (by exact HR.out.below HB_0.out)).mono ?_
  rintro e w1 ⟨rfl, hb1⟩
  have HX0_1 := Lib.hid (HX0_0.out.below hb1)
  have HB_1 := Lib.hid (HB_0.out.trans (hb1.mono HB_0.out.size))
  have k0_0 := HX0_1.out.cell 0
  have k0_1 := HX0_1.out.cell 1
  have k0_2 := HX0_1.out.cell 2
  have k0_3 := HX0_1.out.cell 3
  simp only [List.getElem?_toArray, List.getElem?_cons_zero, List.getElem?_cons_succ] at k0_0 k0_1 k0_2 k0_3
  go_wp2_with fail
  rw [show (decide ((x : Int) < 0) || decide (W ≤ x)) = false by simp; omega]
  refine (errorIf_any _ _ _).mono ?_
  rintro e wn ⟨rfl, rfl⟩
  go_wp2_with fail
  rw [show (decide ((y : Int) < 0) || decide (H ≤ y)) = false by simp; omega]
  refine (errorIf_any _ _ _).mono ?_
  rintro e wn ⟨rfl, rfl⟩
  go_wp2_with fail
  refine (first_n _ _ _ [0, errIf false 10, errIf false 10] _ rfl (by simp [maxLen]) (by exact rd_of_blk (Blk.new _ _ _) rfl)).mono ?_
  rintro e wn ⟨rfl, rfl⟩
  have hxa := HX0_1.out.alloc (.cells #[.int .i64 0, .int .i64 (errIf false 10), .int .i64 (errIf false 10)] 26)
  have hba := HB_1.out.alloc HB_1.out.size (.cells #[.int .i64 0, .int .i64 (errIf false 10), .int .i64 (errIf false 10)] 26)
  clear k0_0 k0_1 k0_2 k0_3
  generalize w1.alloc (.cells #[.int .i64 0, .int .i64 (errIf false 10), .int .i64 (errIf false 10)] 26) = w2 at hxa hba ⊢
  have HX0_2 := Lib.hid hxa; have HB_2 := Lib.hid hba
  clear hxa hba
  have k0_0 := HX0_2.out.cell 0
  have k0_1 := HX0_2.out.cell 1
  have k0_2 := HX0_2.out.cell 2
  have k0_3 := HX0_2.out.cell 3
  simp only [List.getElem?_toArray, List.getElem?_cons_zero, List.getElem?_cons_succ] at k0_0 k0_1 k0_2 k0_3
  go_wp2_with fail
  refine (row_any nm W H l.length c q ad y _ hW.1 HQ.out hql hcap hbig (by omega)).mono ?_
  rintro e w3 ⟨rfl, hb3⟩
  have hcell : w3.cell? ((ad.add q).add x) = some (.float .f32 (l.getD (q + x) 0)) := by
    have hbb := HB_2.out.trans (hb3.mono HB_2.out.size)
    refine (hbb.cell (by rw [block_of_add, block_of_add]; exact hadb)).trans ?_
    rw [add_of_add]
    exact HAD.out (q + x) _ (fl_get (by omega))
  have HB_3 := Lib.hid (HB_2.out.trans (hb3.mono HB_2.out.size))
  have e1 : 0 ≤ (x : Int) ∧ (x : Int) < W := by omega
  go_wp2
  exact bodyPost_ret (v := .tuple #[.float .f32 (l.getD (q + x) 0), .int .i64 0]) (by simp [results, Tryz.results29, go_sem]) rfl ⟨rfl, HB_3.out⟩

def transF (l : List Nat) (W H : Nat) (i : Nat) : Value := .float .f32 (l.getD (i % H * W + i / H) 0)
theorem cellFar {w : World} {a p : Addr} {u : Value} (h : a.block ≠ p.block) (v : Value) (hc : w.cell? a = some u) : (w.setCell p v).cell? a = some u := (World.cell?_of_block (w := w) (Below.heap_setCell w p v a.block h)).trans hc
theorem divmod_at (H x y : Nat) (hy : y < H) : (x * H + y) / H = x ∧ (x * H + y) % H = y := by
  rw [Nat.mul_comm]
  exact ⟨by rw [Nat.mul_add_div (by omega), Nat.div_eq_of_lt hy]; rfl, by rw [Nat.mul_add_mod, Nat.mod_eq_of_lt hy]⟩
theorem transF_at (l : List Nat) (W H y x : Nat) (hy : y < H) : transF l W H (x * H + y) = .float .f32 (l.getD (y * W + x) 0) := by
  unfold transF
  rw [(divmod_at H x y hy).1, (divmod_at H x y hy).2]
def transD (H y x : Nat) (i : Nat) : Bool := decide (i % H < y) || (decide (i % H = y) && decide (i / H < x))
theorem eq_at (H x y i : Nat) (hy : y < H) : i = x * H + y ↔ i / H = x ∧ i % H = y := by
  constructor
  · rintro rfl; exact divmod_at H x y hy
  · rintro ⟨rfl, rfl⟩; rw [Nat.mul_comm]; exact (Nat.div_add_mod i H).symm
theorem transD_step (H y x i : Nat) (hy : y < H) : transD H y (x + 1) i = (decide (i = x * H + y) || transD H y x i) := by
  unfold transD
  rw [Bool.eq_iff_iff]
  simp only [Bool.or_eq_true, Bool.and_eq_true, decide_eq_true_eq, eq_at H x y i hy]
  omega
theorem transD_end (H W y i : Nat) (h : i < W * H) : transD H y W i = decide (i % H < y + 1) := by
  have : i / H < W := by rw [Nat.div_lt_iff_lt_mul (by rcases H with _ | H <;> simp at h ⊢)]; exact h
  unfold transD
  rw [Bool.eq_iff_iff]
  simp only [Bool.or_eq_true, Bool.and_eq_true, decide_eq_true_eq]
  omega
set_option maxRecDepth 100000 in
set_option maxHeartbeats 2000000 in
theorem transposed_ok (nm : ByteArray) (W H : Nat) (l : List Nat) (hp : (Pic.mk nm W H l).Ok) (he : (Pic.mk nm W H l).err = 0) (A : Option Addr) (c : Nat) (w : World) (hs : nm.size ≤ maxLen) (hl : l.length ≤ maxLen) (hcap : l.length ≤ c) (hr : Rd w A (fl l)) :
    Calls Tryz.prog 47 #[.agg #[.string nm, .int .i64 (W : Int), .int .i64 (H : Int), .slice A l.length c]] w fun e w' => ∃ g, e = .returned (.tuple #[.agg #[.string nm, .int .i64 H, .int .i64 W, .slice (some ⟨g, 0, none⟩) l.length l.length], .int .i64 0]) ∧ Blk w' g 23 (maskN (transF l W H) (.float .f32 0) l.length (fun _ => true)) ∧ Below w.heap.size w w' := by
  have HR := Lib.hid hr; have HP := Lib.hid hp; have HE := Lib.hid he
  have hW : 1 ≤ W ∧ W ≤ 64 := by have h1 := hp.w1; have h2 := hp.w2; simp at h1 h2; omega
  have hH : 1 ≤ H ∧ H ≤ 64 := by have h1 := hp.h1; have h2 := hp.h2; simp at h1 h2; omega
  have hlen : l.length = W * H := by have h1 := hp.len; simp only [] at h1; exact_mod_cast h1
  have hbig : l.length ≤ 4096 := hp.big
  have HLEN := Lib.hid hlen
  clear hr hp he hlen
  have hcp := fun w hr => checkPicture_any (Pic.mk nm W H l) A c w hs hl hr
  rw [HE.out] at hcp
  simp only [Pic.val] at hcp
  have HCP := Lib.hid hcp; clear hcp
  go_enter Tryz.func47, Tryz.ntmps47
  go_wp2_with fail
  have hbx := (Blk.new w 50 #[.string nm, .int .i64 (W : Int), .int .i64 (H : Int), .slice A l.length c]).alloc (.cells #[.string ⟨#[]⟩, .int .i64 0, .int .i64 0, .slice none 0 0] 50)
  have hby := Blk.new (w.alloc (.cells #[.string nm, .int .i64 (W : Int), .int .i64 (H : Int), .slice A l.length c] 50)) 50 #[.string ⟨#[]⟩, .int .i64 0, .int .i64 0, .slice none 0 0]
  have hb0 : Below w.heap.size w ((w.alloc (.cells #[.string nm, .int .i64 (W : Int), .int .i64 (H : Int), .slice A l.length c] 50)).alloc (.cells #[.string ⟨#[]⟩, .int .i64 0, .int .i64 0, .slice none 0 0] 50)) := ((Below.refl _ _).alloc (Nat.le_refl _) _).alloc (by simp) _
  simp only [World.size_alloc] at hby
  generalize (w.alloc (.cells #[.string nm, .int .i64 (W : Int), .int .i64 (H : Int), .slice A l.length c] 50)).alloc (.cells #[.string ⟨#[]⟩, .int .i64 0, .int .i64 0, .slice none 0 0] 50) = w0 at hbx hby hb0 ⊢
  have HB0 := Lib.hid hb0; have HX0 := Lib.hid hbx; have HY0 := Lib.hid hby; clear hb0 hbx hby
  refine (HCP.out _ (by exact HR.out.below HB0.out)).mono ?_
  rintro e w1 ⟨rfl, hb1⟩
  have HX1 := Lib.hid (HX0.out.below hb1); have HY1 := Lib.hid (HY0.out.below hb1)
  obtain ⟨c0, c1, c2, c3⟩ := box4 HX1.out
  have HB1 := Lib.hid (HB0.out.trans (hb1.mono HB0.out.size)); clear hb1
  have hlc : H * W = l.length := by rw [HLEN.out, Nat.mul_comm]
  have HLC := Lib.hid hlc; clear hlc
  go_wp2_with fail
  refine (blank_any nm H W (l.length) _ HLC.out hbig).mono ?_
  rintro e w2 ⟨g, rfl, hg, hgb, hb2⟩
  have HX2 := Lib.hid (HX1.out.below hb2); have HY2 := Lib.hid (HY1.out.below hb2); have HG2 := Lib.hid hgb
  have HB2 := Lib.hid (HB1.out.trans (hb2.mono HB1.out.size))
  have hz2 : w.heap.size + 1 < w2.heap.size := HY2.out.lt
  have hz1 : w.heap.size < w2.heap.size := HX2.out.lt
  have hg2 : w.heap.size + 1 < g := Nat.lt_of_lt_of_le HY1.out.lt hg
  have hzg : g < w2.heap.size := HG2.out.lt
  clear hb2 hgb c0 c1 c2 c3
  obtain ⟨c0, c1, c2, c3⟩ := box4 HX2.out
  go_wp2_with fail
  have hx3 := HX2.out.alloc (.cells #[.string nm, .int .i64 (H : Int), .int .i64 (W : Int), .slice (some ⟨g, 0, none⟩) (l.length) (l.length)] 50)
  have hy3 := HY2.out.alloc (.cells #[.string nm, .int .i64 (H : Int), .int .i64 (W : Int), .slice (some ⟨g, 0, none⟩) (l.length) (l.length)] 50)
  have hg3 := HG2.out.alloc (.cells #[.string nm, .int .i64 (H : Int), .int .i64 (W : Int), .slice (some ⟨g, 0, none⟩) (l.length) (l.length)] 50)
  have hf3 := Blk.new w2 50 #[.string nm, .int .i64 (H : Int), .int .i64 (W : Int), .slice (some ⟨g, 0, none⟩) (l.length) (l.length)]
  have hb3 := HB2.out.alloc HB2.out.size (.cells #[.string nm, .int .i64 (H : Int), .int .i64 (W : Int), .slice (some ⟨g, 0, none⟩) (l.length) (l.length)] 50)
  clear c0 c1 c2 c3
  obtain ⟨b3, hb3e⟩ : ∃ b, w2.heap.size = b := ⟨_, rfl⟩
  rw [hb3e] at hf3 hz1 hz2 hzg ⊢
  clear hb3e
  generalize w2.alloc (.cells #[.string nm, .int .i64 (H : Int), .int .i64 (W : Int), .slice (some ⟨g, 0, none⟩) (l.length) (l.length)] 50) = w3 at hx3 hy3 hg3 hf3 hb3 ⊢
  have HX3 := Lib.hid hx3; have HY3 := Lib.hid hy3; have HG3 := Lib.hid hg3; have HF3 := Lib.hid hf3; have HB3 := Lib.hid hb3
  clear hx3 hy3 hg3 hf3 hb3 HX2 HY2 HG2 HB2 HX1 HY1 HB1 HX0 HY0 HB0
  have hpos : 0 < (fl l).length := by have := prod_pos hW.1 hH.1; simp [fl]; have := HLEN.out; omega
  obtain ⟨ad, rfl, hadb, hadc⟩ := HR.out.some_ hpos
  have HAD := Lib.hid hadc; clear hadc
  go_loopw [23] (fun i wr => ∃ y : Nat, y ≤ H ∧ i = .int .i64 y ∧ Blk wr w.heap.size 50 #[.string nm, .int .i64 (W : Int), .int .i64 (H : Int), .slice (some ad) l.length c] ∧ Blk wr (w.heap.size + 1) 50 #[.string ⟨#[]⟩, .int .i64 0, .int .i64 0, .slice none 0 0] ∧ Blk wr b3 50 #[.string nm, .int .i64 (H : Int), .int .i64 (W : Int), .slice (some ⟨g, 0, none⟩) (l.length) (l.length)] ∧ Blk wr g 23 (maskN (transF l W H) (.float .f32 0) l.length (fun i => decide (i % H < y))) ∧ Below w.heap.size w wr) (fun i _ => H - (intOf i).toNat)
  case atStart =>
    refine ⟨0, by omega, rfl, HX3.out, HY3.out, HF3.out, ?_, HB3.out⟩
    have h := HG3.out
    rw [fill_mask, mask_congr (fun _ => .float .f32 0) (transF l W H) _ _ _ (fun i => decide (i % H < 0)) (by simp) (by simp)] at h
    exact h
  case round =>
    obtain ⟨y, hy, rfl, hx, hyy, hf, hgm, hbel⟩ := hrel
    by_cases hlt : y < H
    · have hro := row_le (W := W) hlt
      obtain ⟨o, ho⟩ : ∃ o, y * W = o := ⟨_, rfl⟩
      have hol : o + W ≤ l.length := by rw [← ho, HLEN.out]; exact hro
      have HO := Lib.hid ho; clear ho hro
      obtain ⟨c0, c1, c2, c3⟩ := box4 hx
      have HX4 := Lib.hid hx; have HY4 := Lib.hid hyy; have HF4 := Lib.hid hf; have HG4 := Lib.hid hgm; have HB4 := Lib.hid hbel
      clear hx hyy hf hgm hbel
      go_wp2
      go_loopw [28] (fun i wr => ∃ x : Nat, x ≤ W ∧ i = .int .i64 x ∧ Blk wr w.heap.size 50 #[.string nm, .int .i64 (W : Int), .int .i64 (H : Int), .slice (some ad) l.length c] ∧ Blk wr (w.heap.size + 1) 50 #[.string ⟨#[]⟩, .int .i64 0, .int .i64 0, .slice none 0 0] ∧ Blk wr b3 50 #[.string nm, .int .i64 (H : Int), .int .i64 (W : Int), .slice (some ⟨g, 0, none⟩) (l.length) (l.length)] ∧ Blk wr g 23 (maskN (transF l W H) (.float .f32 0) l.length (transD H y x)) ∧ Below w.heap.size w wr) (fun i _ => W - (intOf i).toNat)
      case atStart =>
        refine ⟨0, by omega, rfl, HX4.out, HY4.out, HF4.out, ?_, HB4.out⟩
        have h := HG4.out
        rw [mask_congr (transF l W H) (transF l W H) _ _ _ (transD H y 0) (fun i hi => by unfold transD; rw [Bool.eq_iff_iff]; simp) (fun _ _ _ => rfl)] at h
        exact h
      case round =>
        clear c0 c1 c2 c3
        obtain ⟨x, hxW, rfl, hx, hyy, hf, hgm, hbel⟩ := hrel
        obtain ⟨wo, rfl⟩ : ∃ wo : World, wo = wr := ⟨_, rfl⟩
        by_cases hxl : x < W
        · have hro := row_le (W := H) hxl
          obtain ⟨q, hq⟩ : ∃ q, x * H = q := ⟨_, rfl⟩
          have hql : q + H ≤ l.length := by rw [← hq, HLEN.out, Nat.mul_comm W H]; exact hro
          have hfa := transF_at l W H y x hlt
          have hstep := fun i => transD_step H y x i hlt
          rw [hq] at hfa
          simp only [hq] at hstep
          have HQ := Lib.hid hq; clear hq hro
          have HFA := Lib.hid hfa; clear hfa
          have HST := Lib.hid hstep; clear hstep
          have hrow2 := fun w => row_any nm W H l.length c o ad y w hW.1 HO.out hol hcap hbig (by omega)
          have hrow1 := fun w => row_blk nm H W l.length l.length q g x w hH.1 HQ.out hql (Nat.le_refl _) hbig (by omega)
          have HR2 := Lib.hid hrow2; have HR1 := Lib.hid hrow1
          clear hrow1 hrow2
          have HX5 := Lib.hid hx; have HY5 := Lib.hid hyy; have HF5 := Lib.hid hf; have HX1_5 := HF5; have HX0_5 := HX5; have HG5 := Lib.hid hgm; have HB5 := Lib.hid hbel
          clear hx hyy hf hgm hbel
          have k0_0 := HX0_5.out.cell 0
          have k0_1 := HX0_5.out.cell 1
          have k0_2 := HX0_5.out.cell 2
          have k0_3 := HX0_5.out.cell 3
          simp only [List.getElem?_toArray, List.getElem?_cons_zero, List.getElem?_cons_succ] at k0_0 k0_1 k0_2 k0_3
          have k1_0 := HX1_5.out.cell 0
          have k1_1 := HX1_5.out.cell 1
          have k1_2 := HX1_5.out.cell 2
          have k1_3 := HX1_5.out.cell 3
          simp only [List.getElem?_toArray, List.getElem?_cons_zero, List.getElem?_cons_succ] at k1_0 k1_1 k1_2 k1_3
          have hch : Below wo.heap.size wo wo.drew := (Below.refl _ _).drew
          obtain ⟨v, hv⟩ : ∃ v, l.getD (o + x) 0 = v := ⟨_, rfl⟩
          have hc : wo.cell? ((ad.add o).add x) = some (.float .f32 v) := by
            rw [add_of_add, ← hv]
            refine (HB5.out.cell (by rw [block_of_add]; exact hadb)).trans (HAD.out _ _ (fl_get (by omega)))
          have hfa := HFA.out
          rw [HO.out, hv] at hfa
          have hgc := HG5.out.cell (q + y)
          rw [mask_get, if_pos (by omega)] at hgc
          have hset := fun w (h : Blk w g 23 (maskN (transF l W H) (.float .f32 0) l.length (transD H y x))) => h.set_ (q + y) (.float .f32 v)
          rw [← hfa, mask_set (transF l W H) _ _ _ (transD H y (x + 1)) (q + y) (fun i hi => by rw [HST.out i]; exact Bool.or_comm _ _)] at hset
          generalize hvo : (if transD H y x (q + y) = true then transF l W H (q + y) else Value.float .f32 0) = vo at hgc
          have e2 : (0 : Int) ≤ (y : Int) := by omega
          have e3 : (y : Int) < (H : Int) := by omega
          have e4 : (0 : Int) ≤ (x : Int) := by omega
          have e5 : (x : Int) < (W : Int) := by omega
          have HS := Lib.hid hset; have HFA2 := Lib.hid hfa
          clear hset hfa hvo hv
          go_wp2_with fail
          go_region_held3 (fun w' => w'.cell? ⟨w.heap.size, 0, none⟩ = some (.string nm) ∧ w'.cell? ⟨w.heap.size, 1, none⟩ = some (.int .i64 (W : Int)) ∧ w'.cell? ⟨w.heap.size, 2, none⟩ = some (.int .i64 (H : Int)) ∧ w'.cell? ⟨w.heap.size, 3, none⟩ = some (.slice (some ad) l.length c) ∧ w'.cell? ⟨b3, 0, none⟩ = some (.string nm) ∧ w'.cell? ⟨b3, 1, none⟩ = some (.int .i64 (H : Int)) ∧ w'.cell? ⟨b3, 2, none⟩ = some (.int .i64 (W : Int)) ∧ w'.cell? ⟨b3, 3, none⟩ = some (.slice (some ⟨g, 0, none⟩) l.length l.length) ∧ w'.cell? ((ad.add o).add x) = some (.float .f32 v))
            (first | go_keep | (refine ⟨?_, ?_, ?_, ?_, ?_, ?_, ?_, ?_, ?_⟩ <;> (refine cellFar ?_ _ (by assumption); first | (rw [block_of_add, block_of_add]; simp; omega) | (simp; omega))))
            (first
              | (go_at_call 109; (first | (with_reducible refine (HR1.out _).mono ?_) | (with_reducible refine (HR2.out _).mono ?_)); rintro e wn ⟨rfl, hbn⟩; have hch := chainB' (wo := wo) (by assumption) hbn; have k0_0 := cellL hbn (a := ⟨w.heap.size, 0, none⟩) (v := .string nm) (by assumption); have k0_1 := cellL hbn (a := ⟨w.heap.size, 1, none⟩) (v := .int .i64 (W : Int)) (by assumption); have k0_2 := cellL hbn (a := ⟨w.heap.size, 2, none⟩) (v := .int .i64 (H : Int)) (by assumption); have k0_3 := cellL hbn (a := ⟨w.heap.size, 3, none⟩) (v := .slice (some ad) l.length c) (by assumption); have k1_0 := cellL hbn (a := ⟨b3, 0, none⟩) (v := .string nm) (by assumption); have k1_1 := cellL hbn (a := ⟨b3, 1, none⟩) (v := .int .i64 (H : Int)) (by assumption); have k1_2 := cellL hbn (a := ⟨b3, 2, none⟩) (v := .int .i64 (W : Int)) (by assumption); have k1_3 := cellL hbn (a := ⟨b3, 3, none⟩) (v := .slice (some ⟨g, 0, none⟩) l.length l.length) (by assumption); have kc := cellL hbn (a := (ad.add o).add x) (v := .float .f32 v) (by assumption); have kg := cellL hbn (a := ⟨g, q + y, none⟩) (v := vo) (by assumption); have kf := (HG5.out.below hch).frozen (q + y)))
          have HX6 := Lib.hid (HX5.out.below hch); have HY6 := Lib.hid (HY5.out.below hch); have HF6 := Lib.hid (HF5.out.below hch)
          have hs6 := HS.out _ (HG5.out.below hch)
          have HB6 := Lib.hid (HB5.out.trans (hch.mono HB5.out.size))
          rw [HFA2.out] at hs6
          have HS6 := Lib.hid hs6
          clear k0_0 k0_1 k0_2 k0_3 k1_0 k1_1 k1_2 k1_3
          clear hs6 hch hbn kc kg kf
          go_wp2
          go_roundw
          case rel => exact ⟨x + 1, by omega, by go_num, (HX6.out.far (p := ⟨g, q + y, none⟩) (by simp; omega) _), (HY6.out.far (p := ⟨g, q + y, none⟩) (by simp; omega) _), (HF6.out.far (p := ⟨g, q + y, none⟩) (by simp; omega) _), HS6.out, (HB6.out.setCell (p := ⟨g, q + y, none⟩) (by simp; omega) _)⟩
          case measure => simp [intOf]; omega
        · have hxe : x = W := by omega
          subst hxe
          go_wp2
          go_roundw
          case rel =>
            refine ⟨y + 1, by omega, by go_num, hx, hyy, hf, ?_, hbel⟩
            rw [mask_congr (transF l x H) (transF l x H) _ _ _ (fun i => decide (i % H < y + 1)) (fun i hi => transD_end H x y i (by have := HLEN.out; omega)) (fun _ _ _ => rfl)] at hgm
            exact hgm
          case measure => simp [intOf]; omega
    · have hye : y = H := by omega
      subst hye
      obtain ⟨c0, c1, c2, c3⟩ := box4 hf
      obtain ⟨d0, d1, d2, d3⟩ := box4 hyy
      have z0 := hyy.frozen 0
      have z1 := hyy.frozen 1
      have z2 := hyy.frozen 2
      have z3 := hyy.frozen 3
      have HG9 := Lib.hid hgm; have HB9 := Lib.hid hbel
      clear hx hyy hf hgm hbel
      go_wp2
      refine bodyPost_ret (v := .tuple #[.agg #[.string nm, .int .i64 (y : Int), .int .i64 (W : Int), .slice (some ⟨g, 0, none⟩) l.length l.length], .int .i64 0]) (by simp [results, Tryz.results47, go_sem, d0, d1, d2, d3]) rfl ⟨g, rfl, ?_, ?_⟩
      · have h := HG9.out
        rw [mask_congr (transF l W y) (transF l W y) _ _ _ (fun _ => true) (fun i hi => by have := Nat.mod_lt i (show 0 < y by omega); simp; omega) (fun _ _ _ => rfl)] at h
        exact (((h.far (p := ⟨w.heap.size + 1, 0, none⟩) (by simp; omega) _).far (p := ⟨w.heap.size + 1, 1, none⟩) (by simp; omega) _).far (p := ⟨w.heap.size + 1, 2, none⟩) (by simp; omega) _).far (p := ⟨w.heap.size + 1, 3, none⟩) (by simp; omega) _
      · exact (((HB9.out.setCell (p := ⟨w.heap.size + 1, 0, none⟩) (by simp) _).setCell (p := ⟨w.heap.size + 1, 1, none⟩) (by simp) _).setCell (p := ⟨w.heap.size + 1, 2, none⟩) (by simp) _).setCell (p := ⟨w.heap.size + 1, 3, none⟩) (by simp) _

end Go.Proofs.YtlicgblagkkcfaaGreatDoor
