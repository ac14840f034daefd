/- Parts of a proof: The errors of the sample at a place, and of a part. A part of a picture, by the reference; the error of a span that must not be empty. PictureParts: the walk of the law. -/
import Derived.Test.YtnbpcfakkphmcaaGreatDoorP2
import Derived.Test.YtnbpcfakkphmcaaGreatDoorN
import Derived.Test.YtnbpcfakkphmcaaGreatDoorM
import Derived.Test.YtnbpcfakkphmcaaGreatDoorAv
import Derived.Test.YtnbpcfakkphmcaaGreatDoorPD
namespace Go.Proofs.YtnbpcfakkphmcaaGreatDoor
open Go.RowKit
set_option linter.unusedVariables false
set_option maxRecDepth 100000
theorem first_z (A : Option Addr) (c n : Nat) (es : List Int) (w : World) (hn : es.length = n) (hl : n ≤ maxLen) (hr : Rd w A (es.map (.int .i64))) (z : Int) (hz : firstE es = z) :
    Calls Tryz.prog 97 #[.slice A n c] w fun e' w' => e' = .returned (.int .i64 z) ∧ w = w' := by
  rw [← hz]; exact first_n A c n es w hn hl hr
def atErr (p : Pic) (x y : Int) : Int := firstE [p.err, errIf (decide (x < 0) || decide (p.w ≤ x)) 10, errIf (decide (y < 0) || decide (p.h ≤ y)) 10]
theorem at_err (p : Pic) (x y : Int) (A : Option Addr) (c : Nat) (w : World) (hs : p.name.size ≤ maxLen) (hl : p.l.length ≤ maxLen) (hr : Rd w A (fl p.l)) (z : Int) (he : atErr p x y = z) (hz : z ≠ 0) :
    Calls Tryz.prog 29 #[p.val A c, .int .i64 x, .int .i64 y] w fun e w' => e = .returned (.tuple #[.float .f32 0, .int .i64 z]) ∧ Below w.heap.size w w' := by
  have hcp := fun w hr => checkPicture_any p A c w hs hl hr
  unfold atErr at he
  have HE := Lib.hid he
  clear he
  unfold Pic.val at hcp ⊢
  obtain ⟨n, hn⟩ : ∃ n, p.l.length = n := ⟨_, rfl⟩
  rw [hn] at hcp ⊢
  clear hn hl
  have HCP := Lib.hid hcp; have HR := Lib.hid hr
  have hz' : (z != 0) = true := by simpa using hz
  clear hcp hr
  go_enter Tryz.func29, Tryz.ntmps29
  go_wp2_with fail
  have hx0 := Blk.new w 50 #[.string p.name, .int .i64 p.w, .int .i64 p.h, .slice A n c]
  have hb0 := (Below.refl w.heap.size w).alloc (Nat.le_refl _) (.cells #[.string p.name, .int .i64 p.w, .int .i64 p.h, .slice A n c] 50)
  generalize w.alloc (.cells #[.string p.name, .int .i64 p.w, .int .i64 p.h, .slice A n c] 50) = w0 at hx0 hb0 ⊢
  have HX := Lib.hid hx0
  have HB := Lib.hid hb0
  clear hx0 hb0
  refine (HCP.out _ (by exact HR.out.below HB.out)).mono ?_
  rintro e w1 ⟨rfl, hb1⟩
  replace HX := Lib.hid (HX.out.below hb1)
  replace HB := Lib.hid (HB.out.trans (hb1.mono HB.out.size))
  obtain ⟨c0, c1, c2, c3⟩ := box4 HX.out
  clear hb1
  by_cases hx0 : x < 0 <;> by_cases hy0 : y < 0
  all_goals
    go_wp2_with fail
    refine (errorIf_any _ _ _).mono ?_
    rintro e wn ⟨rfl, rfl⟩
    go_wp2_with fail
    refine (errorIf_any _ _ _).mono ?_
    rintro e wn ⟨rfl, rfl⟩
    go_wp2_with fail
    refine (first_z _ _ _ [_, _, _] _ rfl (by simp [maxLen]) (by exact rd_of_blk (Blk.new _ _ _) rfl) z (by first | exact HE.out | simpa [hx0, hy0] using HE.out)).mono ?_
    rintro e wn ⟨rfl, rfl⟩
    clear c0 c1 c2 c3
    go_wp2
    exact bodyPost_ret (v := .tuple #[.float .f32 0, .int .i64 z]) (by simp [results, Tryz.results29, go_sem]) rfl ⟨rfl, HB.out.alloc HB.out.size _⟩
def cropErr (p : Pic) (a b a' b' : Int) : Int := firstE [p.err, errIf (decide (a < 0) || decide (b ≤ a) || decide (p.w < b)) 14, errIf (decide (a' < 0) || decide (b' ≤ a') || decide (p.h < b')) 14]
theorem box2 {w : World} {g : Nat} {t : TypeId} {a b : Value} (h : Blk w g t #[a, b]) : w.cell? ⟨g, 0, none⟩ = some a ∧ w.cell? ⟨g, 1, none⟩ = some b := ⟨h.cell 0, h.cell 1⟩
set_option maxHeartbeats 1000000 in
theorem cropped_err (p : Pic) (a b a' b' : Int) (A : Option Addr) (c : Nat) (w : World) (hs : p.name.size ≤ maxLen) (hl : p.l.length ≤ maxLen) (hr : Rd w A (fl p.l)) (z : Int) (he : cropErr p a b a' b' = z) (hz : z ≠ 0) :
    Calls Tryz.prog 31 #[p.val A c, .agg #[.int .i64 a, .int .i64 b], .agg #[.int .i64 a', .int .i64 b']] w fun e w' => e = .returned (.tuple #[.agg #[.string ⟨#[]⟩, .int .i64 0, .int .i64 0, .slice none 0 0], .int .i64 z]) ∧ Below w.heap.size w w' := by
  have hcp := fun w hr => checkPicture_any p A c w hs hl hr
  unfold cropErr at he
  have HE := Lib.hid he
  clear he
  unfold Pic.val at hcp ⊢
  obtain ⟨n, hn⟩ : ∃ n, p.l.length = n := ⟨_, rfl⟩
  rw [hn] at hcp ⊢
  clear hn hl
  have HCP := Lib.hid hcp; have HR := Lib.hid hr
  have hz' : (z != 0) = true := by simpa using hz
  clear hcp hr
  go_enter Tryz.func31, Tryz.ntmps31
  go_wp2_with fail
  have hx0 := (((Blk.new w 50 #[.string p.name, .int .i64 p.w, .int .i64 p.h, .slice A n c]).alloc (.cells #[.int .i64 a, .int .i64 b] 47)).alloc (.cells #[.int .i64 a', .int .i64 b'] 47)).alloc (.cells #[.string ⟨#[]⟩, .int .i64 0, .int .i64 0, .slice none 0 0] 50)
  have hx1 := ((Blk.new (w.alloc (.cells #[.string p.name, .int .i64 p.w, .int .i64 p.h, .slice A n c] 50)) 47 #[.int .i64 a, .int .i64 b]).alloc (.cells #[.int .i64 a', .int .i64 b'] 47)).alloc (.cells #[.string ⟨#[]⟩, .int .i64 0, .int .i64 0, .slice none 0 0] 50)
  have hx2 := (Blk.new ((w.alloc (.cells #[.string p.name, .int .i64 p.w, .int .i64 p.h, .slice A n c] 50)).alloc (.cells #[.int .i64 a, .int .i64 b] 47)) 47 #[.int .i64 a', .int .i64 b']).alloc (.cells #[.string ⟨#[]⟩, .int .i64 0, .int .i64 0, .slice none 0 0] 50)
  have hx3 := Blk.new (((w.alloc (.cells #[.string p.name, .int .i64 p.w, .int .i64 p.h, .slice A n c] 50)).alloc (.cells #[.int .i64 a, .int .i64 b] 47)).alloc (.cells #[.int .i64 a', .int .i64 b'] 47)) 50 #[.string ⟨#[]⟩, .int .i64 0, .int .i64 0, .slice none 0 0]
  simp only [World.size_alloc] at hx1 hx2 hx3
  have hb0 := ((((Below.refl w.heap.size w).alloc (Nat.le_refl _) (.cells #[.string p.name, .int .i64 p.w, .int .i64 p.h, .slice A n c] 50)).alloc (by simp only [World.size_alloc]; omega) (.cells #[.int .i64 a, .int .i64 b] 47)).alloc (by simp only [World.size_alloc]; omega) (.cells #[.int .i64 a', .int .i64 b'] 47)).alloc (by simp only [World.size_alloc]; omega) (.cells #[.string ⟨#[]⟩, .int .i64 0, .int .i64 0, .slice none 0 0] 50)
  generalize ((((w.alloc (.cells #[.string p.name, .int .i64 p.w, .int .i64 p.h, .slice A n c] 50)).alloc (.cells #[.int .i64 a, .int .i64 b] 47)).alloc (.cells #[.int .i64 a', .int .i64 b'] 47)).alloc (.cells #[.string ⟨#[]⟩, .int .i64 0, .int .i64 0, .slice none 0 0] 50)) = w0 at hx0 hx1 hx2 hx3 hb0 ⊢
  obtain ⟨c0, c1, c2, c3⟩ := box4 hx0
  obtain ⟨s0, s1⟩ := box2 hx1
  obtain ⟨t0, t1⟩ := box2 hx2
  have z0 := hx0.lt; have z1 := hx1.lt; have z2 := hx2.lt; have z3 := hx3.lt
  have HY := Lib.hid hx3; have HB := Lib.hid hb0; clear hx0 hx1 hx2 hx3 hb0
  go_region_held3 (SK w0)
    (first | exact sk_drew0 _ | exact sk_drew (by assumption) | assumption | exact sk_call (by assumption) (by assumption) | exact sk_alloc (by assumption) _)
    (first
      | (go_at_call 37; refine (HCP.out _ (HR.out.below (HB.out.trans ((And.left (by assumption : SK w0 _)).mono HB.out.size)))).mono ?_; rintro e wn ⟨rfl, hbn⟩; have hch := sk_call (w0 := w0) (by assumption) hbn)
      | (go_at_call 111; refine (spanError_any _ _ _ _).mono ?_; rintro e wn ⟨rfl, hbn⟩; have hch := sk_call (w0 := w0) (by assumption) hbn)
      | (go_at_call 97; refine (first_n _ _ _ [_, _, _] _ rfl (by simp [maxLen]) (by exact rd_of_blk (Blk.new _ _ _) rfl)).mono ?_; rintro e wn ⟨rfl, rfl⟩))
  rw [HE.out]
  have hch2 := sk_alloc hch (.cells #[.int .i64 p.err, .int .i64 (errIf (decide (a < 0) || decide (b ≤ a) || decide (p.w < b)) 14), .int .i64 (errIf (decide (a' < 0) || decide (b' ≤ a') || decide (p.h < b')) 14)] 26)
  generalize wn.alloc (.cells #[.int .i64 p.err, .int .i64 (errIf (decide (a < 0) || decide (b ≤ a) || decide (p.w < b)) 14), .int .i64 (errIf (decide (a' < 0) || decide (b' ≤ a') || decide (p.h < b')) 14)] 26) = w2 at hch2 ⊢
  have hy := HY.out.below hch2.1
  have HB1 := Lib.hid (HB.out.trans (hch2.1.mono HB.out.size))
  clear c0 c1 c2 c3 s0 s1 t0 t1 HY HB HCP HR hch2 hch hbn z0 z1 z2 z3 HE
  have z1 := hy.lt
  have f0 := hy.frozen 0; have f1 := hy.frozen 1; have f2 := hy.frozen 2; have f3 := hy.frozen 3
  obtain ⟨d0, d1, d2, d3⟩ := box4 hy
  have hyy := Lib.hid (show Blk ((((w2.setCell ⟨w.heap.size + 1 + 1 + 1, 0, none⟩ (.string ⟨#[]⟩)).setCell ⟨w.heap.size + 1 + 1 + 1, 1, none⟩ (.int .i64 0)).setCell ⟨w.heap.size + 1 + 1 + 1, 2, none⟩ (.int .i64 0)).setCell ⟨w.heap.size + 1 + 1 + 1, 3, none⟩ (.slice none 0 0)) (w.heap.size + 1 + 1 + 1) 50 #[.string ⟨#[]⟩, .int .i64 0, .int .i64 0, .slice none 0 0] from (((hy.set_ 0 _).set_ 1 _).set_ 2 _).set_ 3 _)
  clear hy
  go_wp2
  obtain ⟨r0, r1, r2, r3⟩ := box4 hyy.out
  exact bodyPost_ret (v := .tuple #[.agg #[.string ⟨#[]⟩, .int .i64 0, .int .i64 0, .slice none 0 0], .int .i64 z]) (by simp [results, Tryz.results31, go_sem, r0, r1, r2, r3]) rfl ⟨rfl, below_set4 HB1.out (by omega) _ _ _ _⟩
end Go.Proofs.YtnbpcfakkphmcaaGreatDoor
namespace Go.Proofs.YtnbpcfakkphmcaaGreatDoor
open Go.RowKit
set_option linter.unusedVariables false
attribute [local go_sem] run_store_float run_store_complex
set_option maxRecDepth 100000
theorem cropF_row (l : List Nat) (W cf M rf y x : Nat) (hx : x < M) : cropF l W cf M rf (y * M + x) = .float .f32 (l.getD ((rf + y) * W + (cf + x)) 0) := by
  unfold cropF
  have h1 : (y * M + x) / M = y := by rw [Nat.mul_comm, Nat.mul_add_div (by omega), Nat.div_eq_of_lt hx, Nat.add_zero]
  have h2 : (y * M + x) % M = x := by rw [Nat.mul_comm, Nat.mul_add_mod, Nat.mod_eq_of_lt hx]
  rw [h1, h2]
set_option maxHeartbeats 2000000 in
theorem croppedR_ok (nm : ByteArray) (W H : Nat) (l : List Nat) (hW : 1 ≤ W ∧ W ≤ 64) (hH : 1 ≤ H ∧ H ≤ 64) (hlen : l.length = W * H) (n : Nat) (hn : l.length = n) (cf M rf K r : Nat) (h1 : 1 ≤ M ∧ cf + M ≤ W) (h2 : 1 ≤ K ∧ rf + K ≤ H) (hr1 : M * K = r) (ad : Addr) (c : Nat) (w : World) (hr : Rd w (some ad) (fl l)) :
    Calls Tryz.prog 36 #[.agg #[.string nm, .int .i64 (W : Int), .int .i64 (H : Int), .slice (some ad) n c], .agg #[.int .i64 (cf : Int), .int .i64 ((cf : Int) + (M : Int))], .agg #[.int .i64 (rf : Int), .int .i64 ((rf : Int) + (K : Int))]] w fun e w' => ∃ g, e = .returned (.agg #[.string nm, .int .i64 (M : Int), .int .i64 (K : Int), .slice (some ⟨g, 0, none⟩) r r]) ∧ Blk w' g 23 (maskN (cropF l W cf M rf) (.float .f32 0) r (fun _ => true)) ∧ Below w.heap.size w w' := by
  have hl4 : l.length ≤ 4096 := by rw [hlen]; exact Nat.le_trans (Nat.mul_le_mul hW.2 hH.2) (by decide)
  subst hn
  have hMK : M ≤ 64 ∧ K ≤ 64 := by omega
  have hn4 : r ≤ 4096 := by rw [← hr1]; exact Nat.le_trans (Nat.mul_le_mul hMK.1 hMK.2) (by decide)
  have HR := Lib.hid hr
  have HFN := Lib.hid hr1
  have HD0 : RowKit.Hid (∀ i, i < r → (decide (i < 0)) = rowD M 0 0 i) := Lib.hid (fun i _ => by simp [rowD])
  have HLEN := Lib.hid hlen
  have HDN : RowKit.Hid (∀ y i, i < r → rowD M y M i = rowD M (y + 1) 0 i) := Lib.hid (fun y i _ => rowD_next M y i)
  have HDE : RowKit.Hid (∀ i, i < r → rowD M K 0 i = true) := Lib.hid (fun i hi => by rw [← hr1, Nat.mul_comm] at hi; simp [rowD]; exact hi)
  clear hr hlen hr1
  go_enter Tryz.func36, Tryz.ntmps36
  go_upto_region 1 with fail
  have hx0 := (((Blk.new w 43 #[.string nm, .int .i64 (W : Int), .int .i64 (H : Int), .slice (some ad) l.length c]).alloc (.cells #[.int .i64 (cf : Int), .int .i64 ((cf : Int) + (M : Int))] 47)).alloc (.cells #[.int .i64 (rf : Int), .int .i64 ((rf : Int) + (K : Int))] 47)).alloc (.cells #[.string ⟨#[]⟩, .int .i64 0, .int .i64 0, .slice none 0 0] 43)
  have hx1 := ((Blk.new (w.alloc (.cells #[.string nm, .int .i64 (W : Int), .int .i64 (H : Int), .slice (some ad) l.length c] 43)) 47 #[.int .i64 (cf : Int), .int .i64 ((cf : Int) + (M : Int))]).alloc (.cells #[.int .i64 (rf : Int), .int .i64 ((rf : Int) + (K : Int))] 47)).alloc (.cells #[.string ⟨#[]⟩, .int .i64 0, .int .i64 0, .slice none 0 0] 43)
  have hx2 := (Blk.new ((w.alloc (.cells #[.string nm, .int .i64 (W : Int), .int .i64 (H : Int), .slice (some ad) l.length c] 43)).alloc (.cells #[.int .i64 (cf : Int), .int .i64 ((cf : Int) + (M : Int))] 47)) 47 #[.int .i64 (rf : Int), .int .i64 ((rf : Int) + (K : Int))]).alloc (.cells #[.string ⟨#[]⟩, .int .i64 0, .int .i64 0, .slice none 0 0] 43)
  have hx3 := Blk.new (((w.alloc (.cells #[.string nm, .int .i64 (W : Int), .int .i64 (H : Int), .slice (some ad) l.length c] 43)).alloc (.cells #[.int .i64 (cf : Int), .int .i64 ((cf : Int) + (M : Int))] 47)).alloc (.cells #[.int .i64 (rf : Int), .int .i64 ((rf : Int) + (K : Int))] 47)) 43 #[.string ⟨#[]⟩, .int .i64 0, .int .i64 0, .slice none 0 0]
  simp only [World.size_alloc] at hx1 hx2 hx3
  have hb0 := ((((Below.refl w.heap.size w).alloc (Nat.le_refl _) (.cells #[.string nm, .int .i64 (W : Int), .int .i64 (H : Int), .slice (some ad) l.length c] 43)).alloc (by simp only [World.size_alloc]; omega) (.cells #[.int .i64 (cf : Int), .int .i64 ((cf : Int) + (M : Int))] 47)).alloc (by simp only [World.size_alloc]; omega) (.cells #[.int .i64 (rf : Int), .int .i64 ((rf : Int) + (K : Int))] 47)).alloc (by simp only [World.size_alloc]; omega) (.cells #[.string ⟨#[]⟩, .int .i64 0, .int .i64 0, .slice none 0 0] 43)
  generalize ((((w.alloc (.cells #[.string nm, .int .i64 (W : Int), .int .i64 (H : Int), .slice (some ad) l.length c] 43)).alloc (.cells #[.int .i64 (cf : Int), .int .i64 ((cf : Int) + (M : Int))] 47)).alloc (.cells #[.int .i64 (rf : Int), .int .i64 ((rf : Int) + (K : Int))] 47)).alloc (.cells #[.string ⟨#[]⟩, .int .i64 0, .int .i64 0, .slice none 0 0] 43)) = w0 at hx0 hx1 hx2 hx3 hb0 ⊢
  have HX0 := Lib.hid hx0
  have HX1 := Lib.hid hx1
  have HX2 := Lib.hid hx2
  have HX3 := Lib.hid hx3
  have HB := Lib.hid hb0; clear hb0 hx0 hx1 hx2 hx3
  have k0_0 := HX0.out.cell 0; have k0_1 := HX0.out.cell 1; have k0_2 := HX0.out.cell 2; have k0_3 := HX0.out.cell 3
  simp only [List.getElem?_toArray, List.getElem?_cons_zero, List.getElem?_cons_succ] at k0_0 k0_1 k0_2 k0_3
  have k1_0 := HX1.out.cell 0; have k1_1 := HX1.out.cell 1
  simp only [List.getElem?_toArray, List.getElem?_cons_zero, List.getElem?_cons_succ] at k1_0 k1_1
  have k2_0 := HX2.out.cell 0; have k2_1 := HX2.out.cell 1
  simp only [List.getElem?_toArray, List.getElem?_cons_zero, List.getElem?_cons_succ] at k2_0 k2_1
  go_wp2_with fail
  rw [show (cf : Int) + (M : Int) - (cf : Int) = (M : Int) by omega, show (rf : Int) + (K : Int) - (rf : Int) = (K : Int) by omega]
  refine (filled_any nm M K r _ HFN.out hn4).mono ?_
  rintro e w2 ⟨g, rfl, hg, hgb, hb2⟩
  have hgx : w.heap.size + 3 < g := Nat.lt_of_lt_of_le HX3.out.lt hg
  replace HX0 := Lib.hid (HX0.out.below hb2)
  replace HX1 := Lib.hid (HX1.out.below hb2)
  replace HX2 := Lib.hid (HX2.out.below hb2)
  replace HX3 := Lib.hid (HX3.out.below hb2)
  replace HB := Lib.hid (HB.out.trans (hb2.mono HB.out.size))
  have HG := Lib.hid hgb
  clear hb2 hgb
  clear k0_0 k0_1 k0_2 k0_3 k1_0 k1_1 k2_0 k2_1
  go_upto_region 2 with fail
  have hx0 := HX0.out.alloc (.cells #[.string nm, .int .i64 (M : Int), .int .i64 (K : Int), .slice (some ⟨g, 0, none⟩) r r] 43)
  have hx1 := HX1.out.alloc (.cells #[.string nm, .int .i64 (M : Int), .int .i64 (K : Int), .slice (some ⟨g, 0, none⟩) r r] 43)
  have hx2 := HX2.out.alloc (.cells #[.string nm, .int .i64 (M : Int), .int .i64 (K : Int), .slice (some ⟨g, 0, none⟩) r r] 43)
  have hx3 := HX3.out.alloc (.cells #[.string nm, .int .i64 (M : Int), .int .i64 (K : Int), .slice (some ⟨g, 0, none⟩) r r] 43)
  have hgm := HG.out.alloc (.cells #[.string nm, .int .i64 (M : Int), .int .i64 (K : Int), .slice (some ⟨g, 0, none⟩) r r] 43)
  have hf := Blk.new w2 43 #[.string nm, .int .i64 (M : Int), .int .i64 (K : Int), .slice (some ⟨g, 0, none⟩) r r]
  have hb := HB.out.alloc HB.out.size (.cells #[.string nm, .int .i64 (M : Int), .int .i64 (K : Int), .slice (some ⟨g, 0, none⟩) r r] 43)
  have hgb : g < w2.heap.size := HG.out.lt
  have hbx : w.heap.size + 3 < w2.heap.size := HX3.out.lt
  obtain ⟨b3, hb3⟩ : ∃ b, w2.heap.size = b := ⟨_, rfl⟩
  rw [hb3] at hf hgb hbx ⊢
  clear hb3
  generalize w2.alloc (.cells #[.string nm, .int .i64 (M : Int), .int .i64 (K : Int), .slice (some ⟨g, 0, none⟩) r r] 43) = w3 at hx0 hx1 hx2 hx3 hgm hf hb ⊢
  replace HX0 := Lib.hid hx0
  replace HX1 := Lib.hid hx1
  replace HX2 := Lib.hid hx2
  replace HX3 := Lib.hid hx3
  replace HG := Lib.hid hgm; have HF := Lib.hid hf; replace HB := Lib.hid hb; clear hgm hf hb hx0 hx1 hx2 hx3
  go_wp2
  go_loopw [8] (fun i wr => ∃ y : Nat, y ≤ K ∧ i = .int .i64 y ∧ Blk wr w.heap.size 43 #[.string nm, .int .i64 (W : Int), .int .i64 (H : Int), .slice (some ad) l.length c] ∧ Blk wr (w.heap.size + 1) 47 #[.int .i64 (cf : Int), .int .i64 ((cf : Int) + (M : Int))] ∧ Blk wr (w.heap.size + 2) 47 #[.int .i64 (rf : Int), .int .i64 ((rf : Int) + (K : Int))] ∧ Blk wr (w.heap.size + 3) 43 #[.string ⟨#[]⟩, .int .i64 0, .int .i64 0, .slice none 0 0] ∧ Blk wr b3 43 #[.string nm, .int .i64 (M : Int), .int .i64 (K : Int), .slice (some ⟨g, 0, none⟩) r r] ∧ Blk wr g 23 (maskN (cropF l W cf M rf) (.float .f32 0) r (rowD M y 0)) ∧ Below w.heap.size w wr) (fun i _ => K - (intOf i).toNat)
  case atStart =>
    refine ⟨0, by omega, rfl, HX0.out, HX1.out, HX2.out, HX3.out, HF.out, ?_, HB.out⟩
    have h := HG.out
    rw [fill_mask, mask_congr (fun _ => .float .f32 0) (cropF l W cf M rf) _ _ _ (rowD M 0 0) (HD0.out) (by simp)] at h
    exact h
  case round =>
    clear HX0 HX1 HX2 HX3 HG HF HB
    obtain ⟨y, hy, rfl, hx0, hx1, hx2, hx3, hf, hgm, hbel⟩ := hrel
    have HX0 := Lib.hid hx0
    have HX1 := Lib.hid hx1
    have HX2 := Lib.hid hx2
    have HX3 := Lib.hid hx3
    have HF := Lib.hid hf; have HG := Lib.hid hgm; have HB := Lib.hid hbel; clear hf hgm hbel hx0 hx1 hx2 hx3
    have k0_0 := HX0.out.cell 0; have k0_1 := HX0.out.cell 1; have k0_2 := HX0.out.cell 2; have k0_3 := HX0.out.cell 3
    simp only [List.getElem?_toArray, List.getElem?_cons_zero, List.getElem?_cons_succ] at k0_0 k0_1 k0_2 k0_3
    have k1_0 := HX1.out.cell 0; have k1_1 := HX1.out.cell 1
    simp only [List.getElem?_toArray, List.getElem?_cons_zero, List.getElem?_cons_succ] at k1_0 k1_1
    have k2_0 := HX2.out.cell 0; have k2_1 := HX2.out.cell 1
    simp only [List.getElem?_toArray, List.getElem?_cons_zero, List.getElem?_cons_succ] at k2_0 k2_1
    obtain ⟨q0, q1, q2, q3⟩ := box4 HF.out
    by_cases hlt : y < K
    · go_wp2
      go_loopw [9] (fun i wr => ∃ x : Nat, x ≤ M ∧ i = .int .i64 x ∧ Blk wr w.heap.size 43 #[.string nm, .int .i64 (W : Int), .int .i64 (H : Int), .slice (some ad) l.length c] ∧ Blk wr (w.heap.size + 1) 47 #[.int .i64 (cf : Int), .int .i64 ((cf : Int) + (M : Int))] ∧ Blk wr (w.heap.size + 2) 47 #[.int .i64 (rf : Int), .int .i64 ((rf : Int) + (K : Int))] ∧ Blk wr (w.heap.size + 3) 43 #[.string ⟨#[]⟩, .int .i64 0, .int .i64 0, .slice none 0 0] ∧ Blk wr b3 43 #[.string nm, .int .i64 (M : Int), .int .i64 (K : Int), .slice (some ⟨g, 0, none⟩) r r] ∧ Blk wr g 23 (maskN (cropF l W cf M rf) (.float .f32 0) r (rowD M y x)) ∧ Below w.heap.size w wr) (fun i _ => M - (intOf i).toNat)
      case atStart => exact ⟨0, by omega, rfl, HX0.out, HX1.out, HX2.out, HX3.out, HF.out, HG.out, HB.out⟩
      case round =>
        clear q0 q1 q2 q3 k0_0 k0_1 k0_2 k0_3 k1_0 k1_1 k2_0 k2_1
        clear HX0 HX1 HX2 HX3 HG HF HB
        obtain ⟨x, hxW, rfl, hx0, hx1, hx2, hx3, hf, hgm, hbel⟩ := hrel
        obtain ⟨wo, rfl⟩ : ∃ wo : World, wo = wr := ⟨_, rfl⟩
        have HX0 := Lib.hid hx0
        have HX1 := Lib.hid hx1
        have HX2 := Lib.hid hx2
        have HX3 := Lib.hid hx3
        have HF := Lib.hid hf; have HG := Lib.hid hgm; have HB := Lib.hid hbel; clear hf hgm hbel hx0 hx1 hx2 hx3
        have k0_0 := HX0.out.cell 0; have k0_1 := HX0.out.cell 1; have k0_2 := HX0.out.cell 2; have k0_3 := HX0.out.cell 3
        simp only [List.getElem?_toArray, List.getElem?_cons_zero, List.getElem?_cons_succ] at k0_0 k0_1 k0_2 k0_3
        have k1_0 := HX1.out.cell 0; have k1_1 := HX1.out.cell 1
        simp only [List.getElem?_toArray, List.getElem?_cons_zero, List.getElem?_cons_succ] at k1_0 k1_1
        have k2_0 := HX2.out.cell 0; have k2_1 := HX2.out.cell 1
        simp only [List.getElem?_toArray, List.getElem?_cons_zero, List.getElem?_cons_succ] at k2_0 k2_1
        obtain ⟨q0, q1, q2, q3⟩ := box4 HF.out
        by_cases hxl : x < M
        · have hro := row_le (W := M) hlt
          have hrs0 := row_le (W := W) (show rf + y < H by omega)
          obtain ⟨q, hq⟩ : ∃ q, y * M = q := ⟨_, rfl⟩
          have hql : q + M ≤ r := by rw [← hq, ← HFN.out]; exact hro
          obtain ⟨i, hi⟩ : ∃ i, rf + y = i := ⟨_, rfl⟩
          obtain ⟨j, hj⟩ : ∃ j, cf + x = j := ⟨_, rfl⟩
          obtain ⟨p, hp⟩ : ∃ p, i * W = p := ⟨_, rfl⟩
          have hpl : p + W ≤ l.length := by rw [← hp, ← hi, HLEN.out]; exact hrs0
          obtain ⟨k, hk⟩ : ∃ k, q + x = k := ⟨_, rfl⟩
          obtain ⟨s, hs⟩ : ∃ s, p + j = s := ⟨_, rfl⟩
          have hsn : s < l.length := by omega
          have hkn : k < r := by omega
          have hi64 : i ≤ 64 := by omega
          have HSK : RowKit.Hid (i * W + j = s) := Lib.hid (by rw [hp]; exact hs)
          have HFK : RowKit.Hid (cropF l W cf M rf k = .float .f32 (l.getD s 0)) := Lib.hid (by rw [← hk, ← hq, cropF_row l W cf M rf y x hxl, hi, hj, hp, hs])
          have HDS : RowKit.Hid (∀ i, i < r → rowD M y (x + 1) i = (rowD M y x i || decide (i = k))) := Lib.hid (fun i _ => by rw [rowD_step M y x r i, hq, hk])
          have e0 : IntKind.i64.wrap ((y : Int) * (M : Int)) = (q : Int) := by rw [show (y : Int) * (M : Int) = (q : Int) by rw [← hq]; simp]; exact IntWalk.i64_in _ (by omega)
          have e1 : IntKind.i64.wrap ((q : Int) + (x : Int)) = (k : Int) := by rw [IntWalk.i64_in _ (by omega)]; omega
          have e2 : IntKind.i64.wrap ((rf : Int) + (y : Int)) = (i : Int) := by rw [IntWalk.i64_in _ (by omega)]; omega
          have e3 : IntKind.i64.wrap ((cf : Int) + (x : Int)) = (j : Int) := by rw [IntWalk.i64_in _ (by omega)]; omega
          have e4 : (0 : Int) ≤ (k : Int) := by omega
          have e5 : (k : Int) < (r : Int) := by omega
          clear hq hk hj hs hro hql hi hp hpl hrs0
          have hrs := HR.out.below HB.out
          obtain ⟨v, hv⟩ : ∃ v, l.getD s 0 = v := ⟨_, rfl⟩
          have HV := Lib.hid hv
          have HS := Lib.hid (fun w hr => sampled_ok nm W H l.length c l rfl ad (j) (i) s HSK.out (by omega) hl4 hW.2 (by omega) w hr)
          rw [hv] at HS
          have HRS := Lib.hid hrs; clear hrs hv
          have HFA := Lib.hid (show (cropF l W cf M rf) k = .float .f32 v by rw [← HV.out]; exact HFK.out)
          obtain ⟨vo, hvo⟩ : ∃ vo, (maskN (cropF l W cf M rf) (.float .f32 0) r (rowD M y x))[k]? = some vo := ⟨_, by rw [mask_get, if_pos hkn]⟩
          have hgc := (HG.out.cell k).trans hvo
          have HVO := Lib.hid hvo; clear hvo
          have hgf := HG.out.frozen k
          have HSET := Lib.hid (fun w (h : Blk w g 23 (maskN (cropF l W cf M rf) (.float .f32 0) r (rowD M y x))) => show Blk (w.setCell ⟨g, k, none⟩ (.float .f32 v)) g 23 (maskN (cropF l W cf M rf) (.float .f32 0) r (rowD M y (x + 1))) from by
            have h2 := h.set_ k (.float .f32 v)
            rw [← HFA.out, mask_set (cropF l W cf M rf) _ _ _ (rowD M y (x + 1)) k HDS.out] at h2
            rw [← HFA.out]; exact h2)
          have g0 := HX0.out.lt
          have g1 := HX1.out.lt
          have g2 := HX2.out.lt
          have g3 := HX3.out.lt
          have gf := HF.out.lt; have gg := HG.out.lt
          have n0 : ¬ w.heap.size = g := by omega
          have n1 : ¬ w.heap.size + 1 = g := by omega
          have n2 : ¬ w.heap.size + 2 = g := by omega
          have n3 : ¬ w.heap.size + 3 = g := by omega
          have nf : ¬ b3 = g := by omega
          have hch : Below wo.heap.size wo wo.drew := (Below.refl _ _).drew
          have hsx : SX g wo wo.drew := sx_below hch
          go_upto_region 8 with fail
          go_region_held3 (SX g wo)
            (first | (with_reducible assumption) | exact sx_drew (by assumption) | exact sx_set (by assumption) _ _)
            (first
              | (go_at_call 35; refine (HS.out _ (HRS.out.below (by assumption))).mono ?_; rintro e wn ⟨rfl, hbn⟩; have hch := chainB' (wo := wo) (by assumption) hbn; have hsx := sx_below (g := g) hch; have kg := ((HG.out.below hch).cell k).trans HVO.out; have kf := (HG.out.below hch).frozen k))
          clear kg kf hgc hgf hsx q0 q1 q2 q3 k0_0 k0_1 k0_2 k0_3 k1_0 k1_1 k2_0 k2_1
          replace HX0 := Lib.hid ((HX0.out.below hch).far (p := ⟨g, k, none⟩) (by simp; omega) (.float .f32 v))
          replace HX1 := Lib.hid ((HX1.out.below hch).far (p := ⟨g, k, none⟩) (by simp; omega) (.float .f32 v))
          replace HX2 := Lib.hid ((HX2.out.below hch).far (p := ⟨g, k, none⟩) (by simp; omega) (.float .f32 v))
          replace HX3 := Lib.hid ((HX3.out.below hch).far (p := ⟨g, k, none⟩) (by simp; omega) (.float .f32 v))
          replace HF := Lib.hid ((HF.out.below hch).far (p := ⟨g, k, none⟩) (by simp; omega) (.float .f32 v))
          replace HG := Lib.hid (HSET.out _ (HG.out.below hch))
          replace HB := Lib.hid ((HB.out.trans (hch.mono HB.out.size)).setCell (p := ⟨g, k, none⟩) (by simp; omega) (.float .f32 v))
          clear hch hbn
          go_wp2
          go_roundw
          case rel => exact ⟨x + 1, by omega, by go_num, HX0.out, HX1.out, HX2.out, HX3.out, HF.out, HG.out, HB.out⟩
          case measure => simp [intOf]; omega
        · have hxe : x = M := by omega
          replace HG := Lib.hid (show Blk wo g 23 (maskN (cropF l W cf M rf) (.float .f32 0) r (rowD M (y + 1) 0)) from by
            have h := HG.out
            rw [hxe, mask_congr (cropF l W cf M rf) (cropF l W cf M rf) _ _ _ (rowD M (y + 1) 0) (HDN.out y) (fun _ _ _ => rfl)] at h
            exact h)
          go_wp2
          go_roundw
          case rel => exact ⟨y + 1, by omega, by go_num, HX0.out, HX1.out, HX2.out, HX3.out, HF.out, HG.out, HB.out⟩
          case measure => simp [intOf]; omega
    · have hye : y = K := by omega
      replace HG := Lib.hid (show Blk wr g 23 (maskN (cropF l W cf M rf) (.float .f32 0) r (fun _ => true)) from by
        have h := HG.out
        rw [hye, mask_congr (cropF l W cf M rf) (cropF l W cf M rf) _ _ _ (fun _ => true) (HDE.out) (fun _ _ _ => rfl)] at h
        exact h)
      have hy := HX3.out
      have z1 := hy.lt
      have f0 := hy.frozen 0; have f1 := hy.frozen 1; have f2 := hy.frozen 2; have f3 := hy.frozen 3
      obtain ⟨d0, d1, d2, d3⟩ := box4 hy
      have hyy := Lib.hid (show Blk ((((wr.setCell ⟨w.heap.size + 3, 0, none⟩ (.string nm)).setCell ⟨w.heap.size + 3, 1, none⟩ (.int .i64 (M : Int))).setCell ⟨w.heap.size + 3, 2, none⟩ (.int .i64 (K : Int))).setCell ⟨w.heap.size + 3, 3, none⟩ (.slice (some ⟨g, 0, none⟩) r r)) (w.heap.size + 3) 43 #[.string nm, .int .i64 (M : Int), .int .i64 (K : Int), .slice (some ⟨g, 0, none⟩) r r] from (((hy.set_ 0 _).set_ 1 _).set_ 2 _).set_ 3 _)
      have HGE := Lib.hid ((((HG.out.far (p := ⟨w.heap.size + 3, 0, none⟩) (by simp; omega) (.string nm)).far (p := ⟨w.heap.size + 3, 1, none⟩) (by simp; omega) (.int .i64 (M : Int))).far (p := ⟨w.heap.size + 3, 2, none⟩) (by simp; omega) (.int .i64 (K : Int))).far (p := ⟨w.heap.size + 3, 3, none⟩) (by simp; omega) (.slice (some ⟨g, 0, none⟩) r r))
      clear hy
      go_wp2
      obtain ⟨r0, r1, r2, r3⟩ := box4 hyy.out
      exact bodyPost_ret (v := .agg #[.string nm, .int .i64 (M : Int), .int .i64 (K : Int), .slice (some ⟨g, 0, none⟩) r r]) (by simp [results, Tryz.results36, go_sem, r0, r1, r2, r3]) rfl ⟨g, rfl, HGE.out, below_set4 HB.out (by omega) _ _ _ _⟩
theorem checkSpan_any (a b n : Int) (w : World) : Calls Tryz.prog 114 #[.agg #[.int .i64 a, .int .i64 b], .int .i64 n] w fun e w' => e = .returned (.int .i64 (errIf (decide (a < 0) || decide (b < a) || decide (n < b)) 14)) ∧ Below w.heap.size w w' := by
  by_cases h1 : a < 0 <;> by_cases h2 : b < a <;> by_cases h3 : n < b
  all_goals
    go_enter Tryz.func114, Tryz.ntmps114
    go_wp2_with fail
    refine (when_any _ _ _).mono ?_
    rintro e w' ⟨rfl, rfl⟩
    go_wp2
    go_ret
    exact ⟨by first | (rw [show (decide (a < 0) || decide (b < a) || decide (n < b)) = false from by simp; omega]; rfl) | (rw [show (decide (a < 0) || decide (b < a) || decide (n < b)) = true from by simp; omega]; rfl), (Below.refl _ _).alloc (Nat.le_refl _) _⟩
theorem checkFull_any (a b n : Int) (w : World) : Calls Tryz.prog 34 #[.agg #[.int .i64 a, .int .i64 b], .int .i64 n] w fun e w' => e = .returned (.int .i64 (errIf (decide (a < 0) || decide (b ≤ a) || decide (n < b)) 14)) ∧ Below w.heap.size w w' := by
  have HE : RowKit.Hid (firstE [errIf (decide (a < 0) || decide (b < a) || decide (n < b)) 14, errIf (a == b) 14] = errIf (decide (a < 0) || decide (b ≤ a) || decide (n < b)) 14) := Lib.hid (by
    by_cases h1 : a < 0 <;> by_cases h2 : b < a <;> by_cases h3 : n < b <;> by_cases h4 : a = b <;> simp [firstE, errIf, h1, h2, h3, h4] <;> omega)
  go_enter Tryz.func34, Tryz.ntmps34
  go_upto_region 1 with fail
  have hbx := Blk.new w 47 #[.int .i64 a, .int .i64 b]
  have hb0 : Below w.heap.size w (w.alloc (.cells #[.int .i64 a, .int .i64 b] 47)) := (Below.refl _ _).alloc (Nat.le_refl _) _
  generalize w.alloc (.cells #[.int .i64 a, .int .i64 b] 47) = w0 at hbx hb0 ⊢
  obtain ⟨c0, c1⟩ := box2 hbx
  have z0 := hbx.lt
  have HB := Lib.hid hb0; clear hbx hb0
  go_region_held3 (SK w0)
    (first | exact sk_drew0 _ | exact sk_drew (by assumption) | assumption | exact sk_call (by assumption) (by assumption) | exact sk_alloc (by assumption) _)
    (first
      | (go_at_call 114; refine (checkSpan_any _ _ _ _).mono ?_; rintro e wn ⟨rfl, hbn⟩; have hch := sk_call (w0 := w0) (by assumption) hbn)
      | (go_at_call 33; refine (when_any _ _ _).mono ?_; rintro e wn ⟨rfl, rfl⟩)
      | (go_at_call 99; refine (firstR_n _ _ _ [_, _] _ rfl (by simp [maxLen]) (by exact rd_of_blk (Blk.new _ _ _) rfl)).mono ?_; rintro e wn ⟨rfl, rfl⟩))
  rw [HE.out]
  go_wp2
  go_ret
  exact ⟨rfl, HB.out.trans ((And.left (by assumption : SK w0 _)).mono HB.out.size)⟩
end Go.Proofs.YtnbpcfakkphmcaaGreatDoor
namespace Go.Proofs.YtnbpcfakkphmcaaGreatDoor
open Go.RowKit
set_option linter.unusedVariables false
set_option maxRecDepth 100000
theorem box6 {w : World} {g : Nat} {t : TypeId} {a b c d e f : Value} (h : Blk w g t #[a, b, c, d, e, f]) : w.cell? ⟨g, 0, none⟩ = some a ∧ w.cell? ⟨g, 1, none⟩ = some b ∧ w.cell? ⟨g, 2, none⟩ = some c ∧ w.cell? ⟨g, 3, none⟩ = some d ∧ w.cell? ⟨g, 4, none⟩ = some e ∧ w.cell? ⟨g, 5, none⟩ = some f := ⟨h.cell 0, h.cell 1, h.cell 2, h.cell 3, h.cell 4, h.cell 5⟩
theorem blk_set2 {w : World} {g : Nat} {t : TypeId} {x0 x1 : Value} (h : Blk w g t #[x0, x1]) (a b : Value) : Blk ((w.setCell ⟨g, 0, none⟩ a).setCell ⟨g, 1, none⟩ b) g t #[a, b] := by
  have := (h.set_ 0 a).set_ 1 b
  simpa using this
theorem blk_two (w : World) (T : TypeId) (c d : Array Value) : Blk ((w.alloc (.cells c T)).alloc (.cells d T)).drew w.heap.size T c ∧ Blk ((w.alloc (.cells c T)).alloc (.cells d T)).drew (w.heap.size + 1) T d ∧ Below w.heap.size w ((w.alloc (.cells c T)).alloc (.cells d T)).drew :=
  ⟨(Blk.new w T c).alloc (.cells d T), by have h := Blk.new (w.alloc (.cells c T)) T d; simp only [World.size_alloc] at h; exact h, (((Below.refl _ _).alloc (Nat.le_refl _) _).alloc (by simp) _).drew⟩
theorem sk_set2 {w0 w : World} (h : SK w0 w) {g : Nat} (hg : w0.heap.size ≤ g) (a b : Value) : SK w0 ((w.setCell ⟨g, 0, none⟩ a).setCell ⟨g, 1, none⟩ b) := sk_set (sk_set h hg a) hg b
theorem blk_far2 {w : World} {k g : Nat} {t : TypeId} {cs : Array Value} (h : Blk w k t cs) (hk : ¬ k = g) (a b : Value) : Blk ((w.setCell ⟨g, 0, none⟩ a).setCell ⟨g, 1, none⟩ b) k t cs :=
  (h.far (p := ⟨g, 0, none⟩) hk a).far (p := ⟨g, 1, none⟩) hk b

set_option maxHeartbeats 1000000 in
theorem parts_long (p : Pic) (n0 n1 n2 n3 n4 n5 : Int) (A : Option Addr) (c : Nat) (w : World) (hlaid : Laid w) (hsh : shortB p = false) : Calls Tryz.prog 4 #[p.val A c, .agg #[.int .i64 n0, .int .i64 n1, .int .i64 n2, .int .i64 n3, .int .i64 n4, .int .i64 n5]] w (TrueEnd w) := by
  have HS : RowKit.Hid (∀ w, Calls Tryz.prog 28 #[p.val A c] w (BoolEnd false w)) := Lib.hid (fun w => by have h := shortR_any p A c w; rw [hsh] at h; exact h)
  unfold Pic.val at HS ⊢
  clear hsh
  have HL := Lib.hid hlaid; clear hlaid
  have HB := Lib.hid (Below.refl w.heap.size w)
  go_enter Tryz.func4, Tryz.ntmps4
  go_upto_region 1 with fail
  have hn := Blk.new w 43 #[.string p.name, .int .i64 p.w, .int .i64 p.h, .slice A p.l.length c]
  have hb : Below w.heap.size w (w.alloc (.cells #[.string p.name, .int .i64 p.w, .int .i64 p.h, .slice A p.l.length c] 43)) := (Below.refl _ _).alloc (Nat.le_refl _) _
  have hge := HB.out.size
  have hsz : (w.alloc (.cells #[.string p.name, .int .i64 p.w, .int .i64 p.h, .slice A p.l.length c] 43)).heap.size = w.heap.size + 1 := by simp only [World.size_alloc]
  obtain ⟨bP, hl⟩ : ∃ b, w.heap.size = b := ⟨_, rfl⟩
  generalize w.alloc (.cells #[.string p.name, .int .i64 p.w, .int .i64 p.h, .slice A p.l.length c] 43) = sa at hn hb hsz ⊢
  rw [hl] at hsz
  replace HB := Lib.hid (HB.out.trans (hb.mono HB.out.size))
  clear hb
  rw [hl] at hn hge
  try rw [hl]
  have HXP := Lib.hid hn; have HGP := Lib.hid hge; clear hn hl hge
  have hn := Blk.new sa 44 #[.int .i64 n0, .int .i64 n1, .int .i64 n2, .int .i64 n3, .int .i64 n4, .int .i64 n5]
  have hb : Below sa.heap.size sa (sa.alloc (.cells #[.int .i64 n0, .int .i64 n1, .int .i64 n2, .int .i64 n3, .int .i64 n4, .int .i64 n5] 44)) := (Below.refl _ _).alloc (Nat.le_refl _) _
  have hge := HB.out.size
  have hlt_HXP := HXP.out.lt
  obtain ⟨bN, hl⟩ : ∃ b, sa.heap.size = b := ⟨_, rfl⟩
  generalize sa.alloc (.cells #[.int .i64 n0, .int .i64 n1, .int .i64 n2, .int .i64 n3, .int .i64 n4, .int .i64 n5] 44) = s0 at hn hb ⊢
  rw [hl] at hsz
  rw [← hsz]
  clear hsz
  replace HXP := Lib.hid (HXP.out.below hb); replace HB := Lib.hid (HB.out.trans (hb.mono HB.out.size))
  clear hb
  rw [hl] at hn hge hlt_HXP
  try rw [hl]
  have HXN := Lib.hid hn; have HGN := Lib.hid hge; clear hn hl hge
  have HNNHXP : RowKit.Hid (¬ bP = bN) := Lib.hid (by omega)
  clear hlt_HXP
  obtain ⟨cHXP_0, cHXP_1, cHXP_2, cHXP_3⟩ := box4 HXP.out
  go_wp2_with fail
  refine (HS.out _).mono ?_
  rintro e s1 ⟨rfl, hb⟩
  replace HXP := Lib.hid (HXP.out.below hb); replace HXN := Lib.hid (HXN.out.below hb); replace HB := Lib.hid (HB.out.trans (hb.mono HB.out.size))
  clear hb
  clear cHXP_0 cHXP_1 cHXP_2 cHXP_3
  go_wp2_with fail
  refine (awake_laid _ (HL.out.below HB.out)).mono ?_
  rintro e uz ⟨rfl, hb⟩
  replace HXP := Lib.hid (HXP.out.below hb); replace HXN := Lib.hid (HXN.out.below hb); replace HB := Lib.hid (HB.out.trans (hb.mono HB.out.size))
  clear hb
  go_wp2
  go_ret
  exact trueEnd_mk rfl HB.out

set_option maxHeartbeats 8000000 in
theorem parts_11 (nm : ByteArray) (W H : Nat) (l : List Nat) (hp : (Pic.mk nm W H l).Ok) (x y : Nat) (hx : x < W) (hy : y < H) (n4 n5 : Int) (hx4 : (x : Int) = n4) (hy5 : (y : Int) = n5) (cf M rf K : Nat) (h1 : 1 ≤ M ∧ cf + M ≤ W) (h2 : 1 ≤ K ∧ rf + K ≤ H) (A : Option Addr) (c : Nat) (w : World) (hlaid : Laid w) (hsh : shortB (Pic.mk nm (W : Int) (H : Int) l) = true) (hA : A = none → l.length = 0 ∧ c = 0) (hcap : l.length ≤ c) (hr : Rd w A (fl l)) : Calls Tryz.prog 4 #[(Pic.mk nm (W : Int) (H : Int) l).val A c, .agg #[.int .i64 (cf : Int), .int .i64 ((cf : Int) + (M : Int)), .int .i64 (rf : Int), .int .i64 ((rf : Int) + (K : Int)), .int .i64 n4, .int .i64 n5]] w (TrueEnd w) := by
  obtain ⟨hW, hH, hlen, _, hmax⟩ := ok_sizes hp
  have hpos : 0 < (fl l).length := by have := prod_pos hW.1 hH.1; simp [fl]; omega
  obtain ⟨ad, rfl, _, _⟩ := hr.some_ hpos
  obtain ⟨hs0, hl0⟩ := short_facts hsh
  simp only [] at hs0 hl0
  have hs : nm.size ≤ maxLen := Nat.le_trans hs0 (by decide)
  have hl : l.length ≤ maxLen := Nat.le_trans hl0 (by decide)
  have hl4 : l.length ≤ 4096 := Nat.le_trans hl0 (by decide)
  obtain ⟨zb, hzb⟩ : ∃ z, (Pic.mk nm (W : Int) (H : Int) l).err = z := ⟨_, rfl⟩
  obtain ⟨n, hn⟩ : ∃ n, l.length = n := ⟨_, rfl⟩
  obtain rfl : zb = 0 := by rw [← hzb]; exact ok_err hp
  have HS : RowKit.Hid (∀ w, Calls Tryz.prog 28 #[.agg #[.string nm, .int .i64 (W : Int), .int .i64 (H : Int), .slice (some ad) n c]] w (BoolEnd true w)) := Lib.hid (fun w => by have h := shortR_any (Pic.mk nm (W : Int) (H : Int) l) (some ad) c w; rw [hsh] at h; rw [← hn]; exact h)
  have HOWN : RowKit.Hid (∀ w, Rd w (some ad) (fl l) → Calls Tryz.prog 30 #[.agg #[.string nm, .int .i64 (W : Int), .int .i64 (H : Int), .slice (some ad) n c]] w fun e w' => ∃ g c', e = .returned (.agg #[.string nm, .int .i64 (W : Int), .int .i64 (H : Int), .slice (some ⟨g, 0, none⟩) n c']) ∧ n ≤ c' ∧ Rd w' (some ⟨g, 0, none⟩) (fl l) ∧ Below w.heap.size w w') := Lib.hid (fun w hr => by have h := own_any (Pic.mk nm (W : Int) (H : Int) l) (some ad) c w hl4 (by first | exact hA | (intro h; cases h)) hr; rw [← hn]; exact h)
  have HCK : RowKit.Hid (∀ w, Rd w (some ad) (fl l) → Calls Tryz.prog 32 #[.agg #[.string nm, .int .i64 (W : Int), .int .i64 (H : Int), .slice (some ad) n c]] w fun e w' => e = .returned (.int .i64 0) ∧ Below w.heap.size w w') := Lib.hid (fun w hr => by have h := checkPictureR_any (Pic.mk nm (W : Int) (H : Int) l) (some ad) c w hs hl4 hr; rw [hzb] at h; rw [← hn]; exact h)
  have HCP : RowKit.Hid (∀ g c' w, Rd w (some ⟨g, 0, none⟩) (fl l) → Calls Tryz.prog 37 #[.agg #[.string nm, .int .i64 (W : Int), .int .i64 (H : Int), .slice (some ⟨g, 0, none⟩) n c']] w fun e w' => e = .returned (.int .i64 0) ∧ Below w.heap.size w w') := Lib.hid (fun g c' w hr => by have h := checkPicture_any (Pic.mk nm (W : Int) (H : Int) l) (some ⟨g, 0, none⟩) c' w hs hl hr; rw [hzb] at h; rw [← hn]; exact h)
  have hk : y * W + x < n := by rw [← hn, hlen]; have := row_le (W := W) hy; omega
  obtain ⟨k, hkk⟩ : ∃ k, y * W + x = k := ⟨_, rfl⟩
  obtain ⟨v, hv⟩ : ∃ v, l.getD k 0 = v := ⟨_, rfl⟩
  have HAT : RowKit.Hid (∀ g c' w, n ≤ c' → Rd w (some ⟨g, 0, none⟩) (fl l) → Calls Tryz.prog 29 #[.agg #[.string nm, .int .i64 (W : Int), .int .i64 (H : Int), .slice (some ⟨g, 0, none⟩) n c'], .int .i64 n4, .int .i64 n5] w fun e w' => e = .returned (.tuple #[.float .f32 v, .int .i64 0]) ∧ Below w.heap.size w w') := Lib.hid (fun g c' w hc hr => by have h := at_ok nm W H l hp (ok_err hp) x y hx hy (some ⟨g, 0, none⟩) c' w hs hl (by rw [hn]; exact hc) hr; rw [hkk, hv, hx4, hy5] at h; rw [← hn]; exact h)
  have HSM : RowKit.Hid (∀ w, Rd w (some ad) (fl l) → Calls Tryz.prog 35 #[.agg #[.string nm, .int .i64 (W : Int), .int .i64 (H : Int), .slice (some ad) n c], .int .i64 n4, .int .i64 n5] w fun e w' => e = .returned (.float .f32 v) ∧ Below w.heap.size w w') := Lib.hid (fun w hr => by have h := sampled_ok nm W H n c l hn ad x y k hkk (by omega) (by omega) hW.2 (by omega) w hr; rw [hv, hx4, hy5] at h; exact h)
  have heq : (FloatKind.f32.format.order v v == some .eq) = true := by have h := eqF_self (b := v) (by rw [← hv]; exact chk_getD hp.ok k); unfold eqF at h; exact h
  have HF1 : RowKit.Hid (firstE [0, errIf (decide (n4 < 0) || decide ((W : Int) ≤ n4)) 10, errIf (decide (n5 < 0) || decide ((H : Int) ≤ n5)) 10] = 0) := Lib.hid (by rw [← hx4, ← hy5]; simp [firstE, errIf]; omega)
  have hMK : M ≤ 64 ∧ K ≤ 64 := by omega
  obtain ⟨r, hrr⟩ : ∃ r, M * K = r := ⟨_, rfl⟩
  have hr4 : r ≤ 4096 := by rw [← hrr]; exact Nat.le_trans (Nat.mul_le_mul hMK.1 hMK.2) (by decide)
  obtain ⟨L, hL⟩ : ∃ L, pickL l (fun i => (rf + i / M) * W + (cf + i % M)) r = L := ⟨_, rfl⟩
  have HNL : RowKit.Hid (L.length = r ∧ sameF L L = true ∧ r ≤ maxLen) := Lib.hid (by rw [← hL]; exact ⟨pickL_len _ _ _, pickL_same hp.ok _ _, Nat.le_trans hr4 (by decide)⟩)
  have HCR : RowKit.Hid (∀ g c' w, n ≤ c' → Rd w (some ⟨g, 0, none⟩) (fl l) → Calls Tryz.prog 31 #[.agg #[.string nm, .int .i64 (W : Int), .int .i64 (H : Int), .slice (some ⟨g, 0, none⟩) n c'], .agg #[.int .i64 (cf : Int), .int .i64 ((cf : Int) + (M : Int))], .agg #[.int .i64 (rf : Int), .int .i64 ((rf : Int) + (K : Int))]] w (PickOk nm M K r L w)) := Lib.hid (fun g c' w hc hr => crop_v hp hn (some ⟨g, 0, none⟩) c' w cf M rf K r L h1 h2 hrr hL hc hr)
  have HRC : RowKit.Hid (∀ w, Rd w (some ad) (fl l) → Calls Tryz.prog 36 #[.agg #[.string nm, .int .i64 (W : Int), .int .i64 (H : Int), .slice (some ad) n c], .agg #[.int .i64 (cf : Int), .int .i64 ((cf : Int) + (M : Int))], .agg #[.int .i64 (rf : Int), .int .i64 ((rf : Int) + (K : Int))]] w (PickEnd nm M K r L w)) := Lib.hid (fun w hr => (croppedR_ok nm W H l hW hH hlen n hn cf M rf K r h1 h2 hrr ad c w hr).mono fun e w' ⟨g, a1, a2, a3⟩ => ⟨g, a1, by rw [← hL]; exact rd_pick a2 (fun i => rfl), a3⟩)
  have HF2 : RowKit.Hid (firstE [0, errIf (decide ((cf : Int) < 0) || decide (((cf : Int) + (M : Int)) ≤ (cf : Int)) || decide ((W : Int) < ((cf : Int) + (M : Int)))) 14, errIf (decide ((rf : Int) < 0) || decide (((rf : Int) + (K : Int)) ≤ (rf : Int)) || decide ((H : Int) < ((rf : Int) + (K : Int)))) 14] = 0) := Lib.hid (by simp [firstE, errIf]; omega)
  rw [show (Pic.mk nm (W : Int) (H : Int) l).val (some ad) c = .agg #[.string nm, .int .i64 (W : Int), .int .i64 (H : Int), .slice (some ad) n c] by unfold Pic.val; rw [hn]]
  have HX4 := Lib.hid hx4; have HY5 := Lib.hid hy5; clear hx4 hy5
  clear hs hl hl4 hs0 hl0 hsh hn hzb hcap hW hH hlen hmax hpos hp hk hkk hv hx hy hMK hrr hr4 hL h1 h2
  have HR := Lib.hid hr; clear hr
  have HL := Lib.hid hlaid; clear hlaid
  have HB := Lib.hid (Below.refl w.heap.size w)
  go_enter Tryz.func4, Tryz.ntmps4
  go_upto_region 1 with fail
  have hn := Blk.new w 43 #[.string nm, .int .i64 (W : Int), .int .i64 (H : Int), .slice (some ad) n c]
  have hb : Below w.heap.size w (w.alloc (.cells #[.string nm, .int .i64 (W : Int), .int .i64 (H : Int), .slice (some ad) n c] 43)) := (Below.refl _ _).alloc (Nat.le_refl _) _
  have hge := HB.out.size
  have hsz : (w.alloc (.cells #[.string nm, .int .i64 (W : Int), .int .i64 (H : Int), .slice (some ad) n c] 43)).heap.size = w.heap.size + 1 := by simp only [World.size_alloc]
  obtain ⟨bP, hl⟩ : ∃ b, w.heap.size = b := ⟨_, rfl⟩
  generalize w.alloc (.cells #[.string nm, .int .i64 (W : Int), .int .i64 (H : Int), .slice (some ad) n c] 43) = sa at hn hb hsz ⊢
  rw [hl] at hsz
  replace HR := Lib.hid (HR.out.below hb); replace HB := Lib.hid (HB.out.trans (hb.mono HB.out.size))
  clear hb
  rw [hl] at hn hge
  try rw [hl]
  have HXP := Lib.hid hn; have HGP := Lib.hid hge; clear hn hl hge
  have hn := Blk.new sa 44 #[.int .i64 (cf : Int), .int .i64 ((cf : Int) + (M : Int)), .int .i64 (rf : Int), .int .i64 ((rf : Int) + (K : Int)), .int .i64 n4, .int .i64 n5]
  have hb : Below sa.heap.size sa (sa.alloc (.cells #[.int .i64 (cf : Int), .int .i64 ((cf : Int) + (M : Int)), .int .i64 (rf : Int), .int .i64 ((rf : Int) + (K : Int)), .int .i64 n4, .int .i64 n5] 44)) := (Below.refl _ _).alloc (Nat.le_refl _) _
  have hge := HB.out.size
  have hlt_HXP := HXP.out.lt
  obtain ⟨bN, hl⟩ : ∃ b, sa.heap.size = b := ⟨_, rfl⟩
  generalize sa.alloc (.cells #[.int .i64 (cf : Int), .int .i64 ((cf : Int) + (M : Int)), .int .i64 (rf : Int), .int .i64 ((rf : Int) + (K : Int)), .int .i64 n4, .int .i64 n5] 44) = s0 at hn hb ⊢
  rw [hl] at hsz
  rw [← hsz]
  clear hsz
  replace HR := Lib.hid (HR.out.below hb); replace HXP := Lib.hid (HXP.out.below hb); replace HB := Lib.hid (HB.out.trans (hb.mono HB.out.size))
  clear hb
  rw [hl] at hn hge hlt_HXP
  try rw [hl]
  have HXN := Lib.hid hn; have HGN := Lib.hid hge; clear hn hl hge
  have HNNHXP : RowKit.Hid (¬ bP = bN) := Lib.hid (by omega)
  clear hlt_HXP
  obtain ⟨cHXP_0, cHXP_1, cHXP_2, cHXP_3⟩ := box4 HXP.out
  go_wp2_with fail
  refine (HS.out _).mono ?_
  rintro e s1 ⟨rfl, hb⟩
  replace HR := Lib.hid (HR.out.below hb); replace HXP := Lib.hid (HXP.out.below hb); replace HXN := Lib.hid (HXN.out.below hb); replace HB := Lib.hid (HB.out.trans (hb.mono HB.out.size))
  clear hb
  clear cHXP_0 cHXP_1 cHXP_2 cHXP_3
  obtain ⟨cHXN_0, cHXN_1, cHXN_2, cHXN_3, cHXN_4, cHXN_5⟩ := box6 HXN.out
  go_upto_region 3 with fail
  go_cut [5, 6] from 20 to 29 (fun p e wx => ∃ b d, p = .pointer (some ⟨b, 0, none⟩) ∧ e = .pointer (some ⟨d, 0, none⟩) ∧ s1.heap.size ≤ b ∧ s1.heap.size ≤ d ∧ Blk wx b 47 #[.int .i64 (cf : Int), .int .i64 ((cf : Int) + (M : Int))] ∧ Blk wx d 47 #[.int .i64 (rf : Int), .int .i64 ((rf : Int) + (K : Int))] ∧ Below s1.heap.size s1 wx)
  case first =>
    have zN := HXN.out.lt
    go_region_held3 (SK s1)
      (first | exact sk_drew0 _ | exact sk_drew (by assumption) | assumption | exact sk_call (by assumption) (by assumption) | exact sk_alloc (by assumption) _ | exact sk_drew (sk_alloc (sk_refl _) _) | exact sk_drew (sk_alloc (sk_alloc (sk_refl _) _) _))
      (fail)
    all_goals
      go_wp2_with fail
      go_meet
      first
        | exact ⟨_, _, rfl, rfl, Nat.le_refl _, Nat.le_succ _, (blk_two s1 47 #[.int .i64 (cf : Int), .int .i64 ((cf : Int) + (M : Int))] #[.int .i64 (rf : Int), .int .i64 ((rf : Int) + (K : Int))]).1, (blk_two s1 47 #[.int .i64 (cf : Int), .int .i64 ((cf : Int) + (M : Int))] #[.int .i64 (rf : Int), .int .i64 ((rf : Int) + (K : Int))]).2.1, (blk_two s1 47 #[.int .i64 (cf : Int), .int .i64 ((cf : Int) + (M : Int))] #[.int .i64 (rf : Int), .int .i64 ((rf : Int) + (K : Int))]).2.2⟩
        | exact ⟨_, _, rfl, rfl, Nat.le_succ _, Nat.le_refl _, (blk_two s1 47 #[.int .i64 (rf : Int), .int .i64 ((rf : Int) + (K : Int))] #[.int .i64 (cf : Int), .int .i64 ((cf : Int) + (M : Int))]).2.1, (blk_two s1 47 #[.int .i64 (rf : Int), .int .i64 ((rf : Int) + (K : Int))] #[.int .i64 (cf : Int), .int .i64 ((cf : Int) + (M : Int))]).1, (blk_two s1 47 #[.int .i64 (rf : Int), .int .i64 ((rf : Int) + (K : Int))] #[.int .i64 (cf : Int), .int .i64 ((cf : Int) + (M : Int))]).2.2⟩
  case rest =>
    obtain ⟨bC, bR, rfl, rfl, hg1, hg2, hx1, hx2, hfin⟩ := hcut
    replace HR := Lib.hid (HR.out.below hfin); replace HXP := Lib.hid (HXP.out.below hfin); replace HXN := Lib.hid (HXN.out.below hfin); replace HB := Lib.hid (HB.out.trans (hfin.mono HB.out.size))
    clear hfin
    have HXC := Lib.hid hx1; have HXR := Lib.hid hx2; clear hx1 hx2 hg1 hg2
    go_upto_region 4 with fail
    obtain ⟨cHXP_0, cHXP_1, cHXP_2, cHXP_3⟩ := box4 HXP.out
    obtain ⟨cHXN_0, cHXN_1, cHXN_2, cHXN_3, cHXN_4, cHXN_5⟩ := box6 HXN.out
    have zP := HXP.out.lt; have zN := HXN.out.lt
    go_region_held3 (SK wc)
      (first | exact sk_drew0 _ | exact sk_drew (by assumption) | assumption | exact sk_call (by assumption) (by assumption) | exact sk_alloc (by assumption) _)
      (first
        | (go_at_call 30; refine (HOWN.out _ (HR.out.below (And.left (by assumption : SK wc _)))).mono ?_; rintro e wn ⟨g, c', rfl, hcc, hro, hbn⟩; have hch := sk_call (w0 := wc) (by assumption) hbn; have HOA := Lib.hid hro; clear hro)
        | (go_at_call 29; refine (HAT.out g c' _ hcc HOA.out).mono ?_; rintro e wn ⟨rfl, hbn⟩; have hch := sk_call (w0 := wc) (by assumption) hbn))
    have hfin := hch.1
    clear hch hbn zP zN hcc HOA
    clear cHXP_0 cHXP_1 cHXP_2 cHXP_3 cHXN_0 cHXN_1 cHXN_2 cHXN_3 cHXN_4 cHXN_5
    replace HR := Lib.hid (HR.out.below hfin); replace HXP := Lib.hid (HXP.out.below hfin); replace HXN := Lib.hid (HXN.out.below hfin); replace HXC := Lib.hid (HXC.out.below hfin)
    replace HXR := Lib.hid (HXR.out.below hfin); replace HB := Lib.hid (HB.out.trans (hfin.mono HB.out.size))
    clear hfin
    go_upto_region 5 with fail
    obtain ⟨s3, hnew⟩ : ∃ s, wn = s := ⟨_, rfl⟩
    rw [hnew] at HR HXP HXN HXC HXR HB ⊢
    clear hnew
    go_cut [9, 10] from 40 to 47 (fun p e wx => ∃ b gd, p = .pointer (some ⟨b, 0, none⟩) ∧ e = .int .i64 0 ∧ s3.heap.size ≤ b ∧ Blk wx b 50 #[.string nm, .int .i64 (M : Int), .int .i64 (K : Int), .slice (some ⟨gd, 0, none⟩) r r] ∧ Rd wx (some ⟨gd, 0, none⟩) (fl L) ∧ Below s3.heap.size s3 wx)
    case first =>
      obtain ⟨cHXP_0, cHXP_1, cHXP_2, cHXP_3⟩ := box4 HXP.out
      obtain ⟨cHXC_0, cHXC_1⟩ := box2 HXC.out
      obtain ⟨cHXR_0, cHXR_1⟩ := box2 HXR.out
      have zP := HXP.out.lt; have zC := HXC.out.lt; have zR := HXR.out.lt
      go_region_held3 (SK s3)
        (first | exact sk_drew0 _ | exact sk_drew (by assumption) | assumption | exact sk_call (by assumption) (by assumption) | exact sk_alloc (by assumption) _ | exact sk_set4 (by assumption) (by first | exact (And.left (by assumption : SK s3 _)).size | exact Nat.le_refl _) _ _ _ _)
        (first
          | (go_at_call 30; refine (HOWN.out _ (HR.out.below (And.left (by assumption : SK s3 _)))).mono ?_; rintro e wn ⟨g, c', rfl, hcc, hro, hbn⟩; have hch := sk_call (w0 := s3) (by assumption) hbn; (first | (have HBOX : RowKit.Hid (Blk wn s3.heap.size 50 #[.string ⟨#[]⟩, .int .i64 0, .int .i64 0, .slice none 0 0]) := Lib.hid ((Blk.new s3.drew 50 #[.string ⟨#[]⟩, .int .i64 0, .int .i64 0, .slice none 0 0]).below hbn)) | (have HBOX := Lib.hid ((Blk.new _ 50 #[.string ⟨#[]⟩, .int .i64 0, .int .i64 0, .slice none 0 0]).below hbn)) | (replace HBOX := Lib.hid (HBOX.out.below hbn)) | skip); have HOA := Lib.hid hro; clear hro)
          | (go_at_call 31; refine (HCR.out g c' _ hcc (by first | exact HOA.out | exact HOA.out.below ((Below.refl _ _).alloc (Nat.le_refl _) _))).mono ?_; rintro e wn ⟨gd, rfl, hro, hbn⟩; have hch := sk_call (w0 := s3) (by assumption) hbn; (first | (have HBOX : RowKit.Hid (Blk wn s3.heap.size 50 #[.string ⟨#[]⟩, .int .i64 0, .int .i64 0, .slice none 0 0]) := Lib.hid ((Blk.new s3.drew 50 #[.string ⟨#[]⟩, .int .i64 0, .int .i64 0, .slice none 0 0]).below hbn)) | (have HBOX := Lib.hid ((Blk.new _ 50 #[.string ⟨#[]⟩, .int .i64 0, .int .i64 0, .slice none 0 0]).below hbn)) | (replace HBOX := Lib.hid (HBOX.out.below hbn)) | skip); have HLD := Lib.hid hro; clear hro; (first | (have hbz := HBOX.out; obtain ⟨y0, y1, y2, y3⟩ := box4 hbz; have y4 := hbz.frozen 0; have y5 := hbz.frozen 1; have y6 := hbz.frozen 2; have y7 := hbz.frozen 3; have y8 := hbz.lt; clear hbz) | skip)))
      all_goals
        go_wp2_with fail
        go_meet
        first
          | (have hbz := HBOX.out; exact ⟨_, gd, rfl, rfl, (by first | exact (And.left (by assumption : SK s3 _)).size | exact Nat.le_refl _), blk_set4' hbz (.string nm) (.int .i64 (M : Int)) (.int .i64 (K : Int)) (.slice (some ⟨gd, 0, none⟩) r r), rdl_set4 HLD.out hbz (nf_four rfl rfl rfl rfl) (.string nm) (.int .i64 (M : Int)) (.int .i64 (K : Int)) (.slice (some ⟨gd, 0, none⟩) r r) rfl rfl rfl, below_set4 hch.1 (by first | exact (And.left (by assumption : SK s3 _)).size | exact Nat.le_refl _) (.string nm) (.int .i64 (M : Int)) (.int .i64 (K : Int)) (.slice (some ⟨gd, 0, none⟩) r r)⟩)
          | exact ⟨_, gd, rfl, rfl, hch.1.size, Blk.new _ _ _, HLD.out.below ((Below.refl _ _).alloc (Nat.le_refl _) _), (by assumption : SK s3 _).1⟩
    case rest =>
      obtain ⟨bD, gd, rfl, rfl, hge8, hx8, hrw, hfin⟩ := hcut
      replace HR := Lib.hid (HR.out.below hfin); replace HXP := Lib.hid (HXP.out.below hfin); replace HXN := Lib.hid (HXN.out.below hfin); replace HXC := Lib.hid (HXC.out.below hfin)
      replace HXR := Lib.hid (HXR.out.below hfin); replace HB := Lib.hid (HB.out.trans (hfin.mono HB.out.size))
      clear hfin
      have HXD := Lib.hid hx8; clear hx8 hge8
      have HLD := Lib.hid hrw; clear hrw
      obtain ⟨cHXP_0, cHXP_1, cHXP_2, cHXP_3⟩ := box4 HXP.out
      go_wp2_with fail
      refine (HCK.out _ HR.out).mono ?_
      rintro e s4 ⟨rfl, hb⟩
      replace HR := Lib.hid (HR.out.below hb); replace HLD := Lib.hid (HLD.out.below hb); replace HXP := Lib.hid (HXP.out.below hb); replace HXN := Lib.hid (HXN.out.below hb)
      replace HXC := Lib.hid (HXC.out.below hb); replace HXR := Lib.hid (HXR.out.below hb); replace HXD := Lib.hid (HXD.out.below hb); replace HB := Lib.hid (HB.out.trans (hb.mono HB.out.size))
      clear hb
      clear cHXP_0 cHXP_1 cHXP_2 cHXP_3
      go_upto_region 7 with fail
      go_cut [12, 13] from 50 to 85 (fun a b wx => a = .int .i64 0 ∧ b = .int .i64 0 ∧ Below s4.heap.size s4 wx)
      case first =>
        obtain ⟨cHXP_0, cHXP_1, cHXP_2, cHXP_3⟩ := box4 HXP.out
        obtain ⟨cHXN_0, cHXN_1, cHXN_2, cHXN_3, cHXN_4, cHXN_5⟩ := box6 HXN.out
        obtain ⟨cHXC_0, cHXC_1⟩ := box2 HXC.out
        obtain ⟨cHXR_0, cHXR_1⟩ := box2 HXR.out
        have zP := HXP.out.lt; have zN := HXN.out.lt; have zC := HXC.out.lt; have zR := HXR.out.lt
        have hlo1 : ¬ n4 < 0 := by have := HX4.out; omega
        have hlo2 : ¬ n5 < 0 := by have := HY5.out; omega
        refine wp_region_facts [Fact.is (.int .i64 (0)), Fact.is (.pointer (some ⟨bN, 4, none⟩)), Fact.is (.int .i64 (n4)), Fact.is (.bool false), Fact.is (.bool false), Fact.is (.pointer (some ⟨bN, 4, none⟩)), Fact.is (.int .i64 (n4)), Fact.is (.pointer (some ⟨bP, 1, none⟩)), Fact.is (.int .i64 ((W : Int))), Fact.is (.bool (decide ((W : Int) ≤ n4))), Fact.is (.bool (decide ((W : Int) ≤ n4))), Fact.is (.int .i64 (errIf (decide ((W : Int) ≤ n4)) 10)), Fact.is (.pointer (some ⟨bN, 5, none⟩)), Fact.is (.int .i64 (n5)), Fact.is (.bool false), Fact.is (.bool false), Fact.is (.pointer (some ⟨bN, 5, none⟩)), Fact.is (.int .i64 (n5)), Fact.is (.pointer (some ⟨bP, 2, none⟩)), Fact.is (.int .i64 ((H : Int))), Fact.is (.bool (decide ((H : Int) ≤ n5))), Fact.is (.bool (decide ((H : Int) ≤ n5))), Fact.is (.int .i64 (errIf (decide ((H : Int) ≤ n5)) 10)), Fact.ints 3 [0, errIf (decide ((W : Int) ≤ n4)) 10, errIf (decide ((H : Int) ≤ n5)) 10], Fact.is (.int .i64 (0)), Fact.is (.int .i64 (0)), Fact.is (.agg #[.int .i64 (cf : Int), .int .i64 ((cf : Int) + (M : Int))]), Fact.is (.pointer (some ⟨bP, 1, none⟩)), Fact.is (.int .i64 ((W : Int))), Fact.is (.int .i64 (errIf (decide ((cf : Int) < 0) || decide (((cf : Int) + (M : Int)) ≤ (cf : Int)) || decide ((W : Int) < ((cf : Int) + (M : Int)))) 14)), Fact.is (.agg #[.int .i64 (rf : Int), .int .i64 ((rf : Int) + (K : Int))]), Fact.is (.pointer (some ⟨bP, 2, none⟩)), Fact.is (.int .i64 ((H : Int))), Fact.is (.int .i64 (errIf (decide ((rf : Int) < 0) || decide (((rf : Int) + (K : Int)) ≤ (rf : Int)) || decide ((H : Int) < ((rf : Int) + (K : Int)))) 14)), Fact.ints 3 [0, errIf (decide ((cf : Int) < 0) || decide (((cf : Int) + (M : Int)) ≤ (cf : Int)) || decide ((W : Int) < ((cf : Int) + (M : Int)))) 14, errIf (decide ((rf : Int) < 0) || decide (((rf : Int) + (K : Int)) ≤ (rf : Int)) || decide ((H : Int) < ((rf : Int) + (K : Int)))) 14], Fact.is (.int .i64 (0)), Fact.is (.int .i64 (0)), Fact.is (.int .i64 (0))] [[], [], [1], [2], [3], [4], [4, 5], [4], [4, 7], [4, 6, 8], [4, 9], [10], [], [12], [13], [14], [15], [15, 16], [15], [15, 18], [15, 17, 19], [15, 20], [21], [0, 11, 22], [23], [], [], [], [27], [26, 28], [], [], [31], [30, 32], [25, 29, 33], [34], [24], [35]] [(some 50, 0), (some 51, 1), (some 52, 2), (some 53, 3), (some 54, 4), (some 55, 5), (some 56, 6), (some 57, 7), (some 58, 8), (some 59, 9), (some 60, 10), (some 61, 11), (some 62, 12), (some 63, 13), (some 64, 14), (some 65, 15), (some 66, 16), (some 67, 17), (some 68, 18), (some 69, 19), (some 70, 20), (some 71, 21), (some 72, 22), (some 73, 23), (some 74, 24), (some 75, 25), (some 76, 26), (some 77, 27), (some 78, 28), (some 79, 29), (some 80, 30), (some 81, 31), (some 82, 32), (some 83, 33), (some 84, 34), (some 85, 35), (some 12, 36), (some 13, 37)] (by kernel_rfl) (by kernel_rfl) (by kernel_rfl) (by kernel_rfl) (fun _ _ _ _ e h => by have h1 : _ ∧ _ := h; exact ⟨e ▸ h1.1, h1.2⟩) ?hstep ?hend
        case hstep =>
          intro i hi
          match i, hi with
          | 0, _ =>
            intro v w' hR hd
            change SpecOp _ _ _ _ 0 (canon _ v _ []) w' _
            simp only [canon_nil]
            refine spec_of rfl (fun KK hK => ?_)
            go_simp
            exact hK.out _ _ (Below.refl _ _) rfl
          | 1, _ =>
            intro v w' hR hd
            change SpecOp _ _ _ _ 1 (canon _ v _ []) w' _
            simp only [canon_nil]
            refine spec_of rfl (fun KK hK => ?_)
            go_simp
            exact hK.out _ _ (Below.refl _ _) rfl
          | 2, _ =>
            intro v w' hR hd
            have e1 : v 1 = .pointer (some ⟨bN, 4, none⟩) := hd 1 (by decide)
            change SpecOp _ _ _ _ 2 (Act.put (canon _ v _ []) (some 51) (v 1)) w' _
            rw [e1]
            simp only [canon_nil, Act.put, List.setIfInBounds_toArray, List.set_cons_zero, List.set_cons_succ]
            have q0 := (hR.cell (p := ⟨bN, 4, none⟩) zN).trans cHXN_4
            refine spec_of rfl (fun KK hK => ?_)
            go_simp
            exact hK.out _ _ (Below.refl _ _) rfl
          | 3, _ =>
            intro v w' hR hd
            have e2 : v 2 = .int .i64 (n4) := hd 2 (by decide)
            change SpecOp _ _ _ _ 3 (Act.put (canon _ v _ []) (some 52) (v 2)) w' _
            rw [e2]
            simp only [canon_nil, Act.put, List.setIfInBounds_toArray, List.set_cons_zero, List.set_cons_succ]
            refine spec_of rfl (fun KK hK => ?_)
            go_simp
            exact hK.out _ _ (Below.refl _ _) (by first | rfl | exact congrArg Value.bool (decide_eq_false hlo1))
          | 4, _ =>
            intro v w' hR hd
            have e3 : v 3 = .bool false := hd 3 (by decide)
            change SpecOp _ _ _ _ 4 (Act.put (canon _ v _ []) (some 53) (v 3)) w' _
            rw [e3]
            simp only [canon_nil, Act.put, List.setIfInBounds_toArray, List.set_cons_zero, List.set_cons_succ]
            refine spec_of rfl (fun KK hK => ?_)
            go_simp
            exact hK.out _ _ (Below.refl _ _) rfl
          | 5, _ =>
            intro v w' hR hd
            have e4 : v 4 = .bool false := hd 4 (by decide)
            change SpecOp _ _ _ _ 5 (Act.put (canon _ v _ []) (some 54) (v 4)) w' _
            rw [e4]
            simp only [canon_nil, Act.put, List.setIfInBounds_toArray, List.set_cons_zero, List.set_cons_succ]
            refine spec_of rfl (fun KK hK => ?_)
            go_simp
            exact hK.out _ _ (Below.refl _ _) rfl
          | 6, _ =>
            intro v w' hR hd
            have e4 : v 4 = .bool false := hd 4 (by decide)
            have e5 : v 5 = .pointer (some ⟨bN, 4, none⟩) := hd 5 (by decide)
            change SpecOp _ _ _ _ 6 (Act.put (Act.put (canon _ v _ []) (some 55) (v 5)) (some 54) (v 4)) w' _
            rw [e4, e5]
            simp only [canon_nil, Act.put, List.setIfInBounds_toArray, List.set_cons_zero, List.set_cons_succ]
            have q0 := (hR.cell (p := ⟨bN, 4, none⟩) zN).trans cHXN_4
            refine spec_of rfl (fun KK hK => ?_)
            go_simp
            exact hK.out _ _ (Below.refl _ _) rfl
          | 7, _ =>
            intro v w' hR hd
            have e4 : v 4 = .bool false := hd 4 (by decide)
            change SpecOp _ _ _ _ 7 (Act.put (canon _ v _ []) (some 54) (v 4)) w' _
            rw [e4]
            simp only [canon_nil, Act.put, List.setIfInBounds_toArray, List.set_cons_zero, List.set_cons_succ]
            refine spec_of rfl (fun KK hK => ?_)
            go_simp
            exact hK.out _ _ (Below.refl _ _) rfl
          | 8, _ =>
            intro v w' hR hd
            have e4 : v 4 = .bool false := hd 4 (by decide)
            have e7 : v 7 = .pointer (some ⟨bP, 1, none⟩) := hd 7 (by decide)
            change SpecOp _ _ _ _ 8 (Act.put (Act.put (canon _ v _ []) (some 57) (v 7)) (some 54) (v 4)) w' _
            rw [e4, e7]
            simp only [canon_nil, Act.put, List.setIfInBounds_toArray, List.set_cons_zero, List.set_cons_succ]
            have q0 := (hR.cell (p := ⟨bP, 1, none⟩) zP).trans cHXP_1
            refine spec_of rfl (fun KK hK => ?_)
            go_simp
            exact hK.out _ _ (Below.refl _ _) rfl
          | 9, _ =>
            intro v w' hR hd
            have e4 : v 4 = .bool false := hd 4 (by decide)
            have e6 : v 6 = .int .i64 (n4) := hd 6 (by decide)
            have e8 : v 8 = .int .i64 ((W : Int)) := hd 8 (by decide)
            change SpecOp _ _ _ _ 9 (Act.put (Act.put (Act.put (canon _ v _ []) (some 58) (v 8)) (some 56) (v 6)) (some 54) (v 4)) w' _
            rw [e4, e6, e8]
            simp only [canon_nil, Act.put, List.setIfInBounds_toArray, List.set_cons_zero, List.set_cons_succ]
            refine spec_of rfl (fun KK hK => ?_)
            go_simp
            exact hK.out _ _ (Below.refl _ _) rfl
          | 10, _ =>
            intro v w' hR hd
            have e4 : v 4 = .bool false := hd 4 (by decide)
            have e9 : v 9 = .bool (decide ((W : Int) ≤ n4)) := hd 9 (by decide)
            change SpecOp _ _ _ _ 10 (Act.put (Act.put (canon _ v _ []) (some 59) (v 9)) (some 54) (v 4)) w' _
            rw [e4, e9]
            simp only [canon_nil, Act.put, List.setIfInBounds_toArray, List.set_cons_zero, List.set_cons_succ]
            refine spec_of rfl (fun KK hK => ?_)
            go_simp
            exact hK.out _ _ (Below.refl _ _) rfl
          | 11, _ =>
            intro v w' hR hd
            have e10 : v 10 = .bool (decide ((W : Int) ≤ n4)) := hd 10 (by decide)
            change SpecOp _ _ _ _ 11 (Act.put (canon _ v _ []) (some 60) (v 10)) w' _
            rw [e10]
            simp only [canon_nil, Act.put, List.setIfInBounds_toArray, List.set_cons_zero, List.set_cons_succ]
            refine spec_of rfl (fun KK hK => ?_)
            go_simp
            refine (when_any _ _ _).mono ?_
            rintro e wn ⟨rfl, rfl⟩
            exact hK.out _ _ (Below.refl _ _) rfl
          | 12, _ =>
            intro v w' hR hd
            change SpecOp _ _ _ _ 12 (canon _ v _ []) w' _
            simp only [canon_nil]
            refine spec_of rfl (fun KK hK => ?_)
            go_simp
            exact hK.out _ _ (Below.refl _ _) rfl
          | 13, _ =>
            intro v w' hR hd
            have e12 : v 12 = .pointer (some ⟨bN, 5, none⟩) := hd 12 (by decide)
            change SpecOp _ _ _ _ 13 (Act.put (canon _ v _ []) (some 62) (v 12)) w' _
            rw [e12]
            simp only [canon_nil, Act.put, List.setIfInBounds_toArray, List.set_cons_zero, List.set_cons_succ]
            have q0 := (hR.cell (p := ⟨bN, 5, none⟩) zN).trans cHXN_5
            refine spec_of rfl (fun KK hK => ?_)
            go_simp
            exact hK.out _ _ (Below.refl _ _) rfl
          | 14, _ =>
            intro v w' hR hd
            have e13 : v 13 = .int .i64 (n5) := hd 13 (by decide)
            change SpecOp _ _ _ _ 14 (Act.put (canon _ v _ []) (some 63) (v 13)) w' _
            rw [e13]
            simp only [canon_nil, Act.put, List.setIfInBounds_toArray, List.set_cons_zero, List.set_cons_succ]
            refine spec_of rfl (fun KK hK => ?_)
            go_simp
            exact hK.out _ _ (Below.refl _ _) (by first | rfl | exact congrArg Value.bool (decide_eq_false hlo2))
          | 15, _ =>
            intro v w' hR hd
            have e14 : v 14 = .bool false := hd 14 (by decide)
            change SpecOp _ _ _ _ 15 (Act.put (canon _ v _ []) (some 64) (v 14)) w' _
            rw [e14]
            simp only [canon_nil, Act.put, List.setIfInBounds_toArray, List.set_cons_zero, List.set_cons_succ]
            refine spec_of rfl (fun KK hK => ?_)
            go_simp
            exact hK.out _ _ (Below.refl _ _) rfl
          | 16, _ =>
            intro v w' hR hd
            have e15 : v 15 = .bool false := hd 15 (by decide)
            change SpecOp _ _ _ _ 16 (Act.put (canon _ v _ []) (some 65) (v 15)) w' _
            rw [e15]
            simp only [canon_nil, Act.put, List.setIfInBounds_toArray, List.set_cons_zero, List.set_cons_succ]
            refine spec_of rfl (fun KK hK => ?_)
            go_simp
            exact hK.out _ _ (Below.refl _ _) rfl
          | 17, _ =>
            intro v w' hR hd
            have e15 : v 15 = .bool false := hd 15 (by decide)
            have e16 : v 16 = .pointer (some ⟨bN, 5, none⟩) := hd 16 (by decide)
            change SpecOp _ _ _ _ 17 (Act.put (Act.put (canon _ v _ []) (some 66) (v 16)) (some 65) (v 15)) w' _
            rw [e15, e16]
            simp only [canon_nil, Act.put, List.setIfInBounds_toArray, List.set_cons_zero, List.set_cons_succ]
            have q0 := (hR.cell (p := ⟨bN, 5, none⟩) zN).trans cHXN_5
            refine spec_of rfl (fun KK hK => ?_)
            go_simp
            exact hK.out _ _ (Below.refl _ _) rfl
          | 18, _ =>
            intro v w' hR hd
            have e15 : v 15 = .bool false := hd 15 (by decide)
            change SpecOp _ _ _ _ 18 (Act.put (canon _ v _ []) (some 65) (v 15)) w' _
            rw [e15]
            simp only [canon_nil, Act.put, List.setIfInBounds_toArray, List.set_cons_zero, List.set_cons_succ]
            refine spec_of rfl (fun KK hK => ?_)
            go_simp
            exact hK.out _ _ (Below.refl _ _) rfl
          | 19, _ =>
            intro v w' hR hd
            have e15 : v 15 = .bool false := hd 15 (by decide)
            have e18 : v 18 = .pointer (some ⟨bP, 2, none⟩) := hd 18 (by decide)
            change SpecOp _ _ _ _ 19 (Act.put (Act.put (canon _ v _ []) (some 68) (v 18)) (some 65) (v 15)) w' _
            rw [e15, e18]
            simp only [canon_nil, Act.put, List.setIfInBounds_toArray, List.set_cons_zero, List.set_cons_succ]
            have q0 := (hR.cell (p := ⟨bP, 2, none⟩) zP).trans cHXP_2
            refine spec_of rfl (fun KK hK => ?_)
            go_simp
            exact hK.out _ _ (Below.refl _ _) rfl
          | 20, _ =>
            intro v w' hR hd
            have e15 : v 15 = .bool false := hd 15 (by decide)
            have e17 : v 17 = .int .i64 (n5) := hd 17 (by decide)
            have e19 : v 19 = .int .i64 ((H : Int)) := hd 19 (by decide)
            change SpecOp _ _ _ _ 20 (Act.put (Act.put (Act.put (canon _ v _ []) (some 69) (v 19)) (some 67) (v 17)) (some 65) (v 15)) w' _
            rw [e15, e17, e19]
            simp only [canon_nil, Act.put, List.setIfInBounds_toArray, List.set_cons_zero, List.set_cons_succ]
            refine spec_of rfl (fun KK hK => ?_)
            go_simp
            exact hK.out _ _ (Below.refl _ _) rfl
          | 21, _ =>
            intro v w' hR hd
            have e15 : v 15 = .bool false := hd 15 (by decide)
            have e20 : v 20 = .bool (decide ((H : Int) ≤ n5)) := hd 20 (by decide)
            change SpecOp _ _ _ _ 21 (Act.put (Act.put (canon _ v _ []) (some 70) (v 20)) (some 65) (v 15)) w' _
            rw [e15, e20]
            simp only [canon_nil, Act.put, List.setIfInBounds_toArray, List.set_cons_zero, List.set_cons_succ]
            refine spec_of rfl (fun KK hK => ?_)
            go_simp
            exact hK.out _ _ (Below.refl _ _) rfl
          | 22, _ =>
            intro v w' hR hd
            have e21 : v 21 = .bool (decide ((H : Int) ≤ n5)) := hd 21 (by decide)
            change SpecOp _ _ _ _ 22 (Act.put (canon _ v _ []) (some 71) (v 21)) w' _
            rw [e21]
            simp only [canon_nil, Act.put, List.setIfInBounds_toArray, List.set_cons_zero, List.set_cons_succ]
            refine spec_of rfl (fun KK hK => ?_)
            go_simp
            refine (when_any _ _ _).mono ?_
            rintro e wn ⟨rfl, rfl⟩
            exact hK.out _ _ (Below.refl _ _) rfl
          | 23, _ =>
            intro v w' hR hd
            have e0 : v 0 = .int .i64 (0) := hd 0 (by decide)
            have e11 : v 11 = .int .i64 (errIf (decide ((W : Int) ≤ n4)) 10) := hd 11 (by decide)
            have e22 : v 22 = .int .i64 (errIf (decide ((H : Int) ≤ n5)) 10) := hd 22 (by decide)
            change SpecOp _ _ _ _ 23 (Act.put (Act.put (Act.put (canon _ v _ []) (some 72) (v 22)) (some 61) (v 11)) (some 50) (v 0)) w' _
            rw [e0, e11, e22]
            simp only [canon_nil, Act.put, List.setIfInBounds_toArray, List.set_cons_zero, List.set_cons_succ]
            refine spec_of rfl (fun KK hK => ?_)
            go_simp
            exact hK.out _ _ ((Below.refl _ _).alloc (Nat.le_refl _) _) ⟨_, _, rfl, rd_of_blk (Blk.new _ _ _) rfl⟩
          | 24, _ =>
            intro v w' hR hd
            obtain ⟨A23, k23, e23, r23⟩ : ∃ A c, v 23 = .slice A 3 c ∧ Rd w' A ([0, errIf (decide ((W : Int) ≤ n4)) 10, errIf (decide ((H : Int) ≤ n5)) 10].map (.int .i64)) := hd 23 (by decide)
            change SpecOp _ _ _ _ 24 (Act.put (canon _ v _ []) (some 73) (v 23)) w' _
            rw [e23]
            simp only [canon_nil, Act.put, List.setIfInBounds_toArray, List.set_cons_zero, List.set_cons_succ]
            refine spec_of rfl (fun KK hK => ?_)
            go_simp
            refine (firstL_n _ _ _ [_, _, _] _ rfl (by simp [maxLen]) r23).mono ?_
            rintro e wn ⟨rfl, rfl⟩
            exact hK.out _ _ (Below.refl _ _) (congrArg (Value.int .i64) (show firstE [0, errIf (decide ((W : Int) ≤ n4)) 10, errIf (decide ((H : Int) ≤ n5)) 10] = 0 from by have h := HF1.out; rw [decide_eq_false hlo1, decide_eq_false hlo2] at h; simp only [Bool.false_or] at h; exact h))
          | 25, _ =>
            intro v w' hR hd
            change SpecOp _ _ _ _ 25 (canon _ v _ []) w' _
            simp only [canon_nil]
            refine spec_of rfl (fun KK hK => ?_)
            go_simp
            exact hK.out _ _ (Below.refl _ _) rfl
          | 26, _ =>
            intro v w' hR hd
            change SpecOp _ _ _ _ 26 (canon _ v _ []) w' _
            simp only [canon_nil]
            have q0 := (hR.cell (p := ⟨bC, 0, none⟩) zC).trans cHXC_0
            have q1 := (hR.cell (p := ⟨bC, 1, none⟩) zC).trans cHXC_1
            refine spec_of rfl (fun KK hK => ?_)
            go_simp
            exact hK.out _ _ (Below.refl _ _) rfl
          | 27, _ =>
            intro v w' hR hd
            change SpecOp _ _ _ _ 27 (canon _ v _ []) w' _
            simp only [canon_nil]
            refine spec_of rfl (fun KK hK => ?_)
            go_simp
            exact hK.out _ _ (Below.refl _ _) rfl
          | 28, _ =>
            intro v w' hR hd
            have e27 : v 27 = .pointer (some ⟨bP, 1, none⟩) := hd 27 (by decide)
            change SpecOp _ _ _ _ 28 (Act.put (canon _ v _ []) (some 77) (v 27)) w' _
            rw [e27]
            simp only [canon_nil, Act.put, List.setIfInBounds_toArray, List.set_cons_zero, List.set_cons_succ]
            have q0 := (hR.cell (p := ⟨bP, 1, none⟩) zP).trans cHXP_1
            refine spec_of rfl (fun KK hK => ?_)
            go_simp
            exact hK.out _ _ (Below.refl _ _) rfl
          | 29, _ =>
            intro v w' hR hd
            have e26 : v 26 = .agg #[.int .i64 (cf : Int), .int .i64 ((cf : Int) + (M : Int))] := hd 26 (by decide)
            have e28 : v 28 = .int .i64 ((W : Int)) := hd 28 (by decide)
            change SpecOp _ _ _ _ 29 (Act.put (Act.put (canon _ v _ []) (some 78) (v 28)) (some 76) (v 26)) w' _
            rw [e26, e28]
            simp only [canon_nil, Act.put, List.setIfInBounds_toArray, List.set_cons_zero, List.set_cons_succ]
            refine spec_of rfl (fun KK hK => ?_)
            go_simp
            refine (checkFull_any _ _ _ _).mono ?_
            rintro e wn ⟨rfl, hbn⟩
            exact hK.out _ _ hbn rfl
          | 30, _ =>
            intro v w' hR hd
            change SpecOp _ _ _ _ 30 (canon _ v _ []) w' _
            simp only [canon_nil]
            have q0 := (hR.cell (p := ⟨bR, 0, none⟩) zR).trans cHXR_0
            have q1 := (hR.cell (p := ⟨bR, 1, none⟩) zR).trans cHXR_1
            refine spec_of rfl (fun KK hK => ?_)
            go_simp
            exact hK.out _ _ (Below.refl _ _) rfl
          | 31, _ =>
            intro v w' hR hd
            change SpecOp _ _ _ _ 31 (canon _ v _ []) w' _
            simp only [canon_nil]
            refine spec_of rfl (fun KK hK => ?_)
            go_simp
            exact hK.out _ _ (Below.refl _ _) rfl
          | 32, _ =>
            intro v w' hR hd
            have e31 : v 31 = .pointer (some ⟨bP, 2, none⟩) := hd 31 (by decide)
            change SpecOp _ _ _ _ 32 (Act.put (canon _ v _ []) (some 81) (v 31)) w' _
            rw [e31]
            simp only [canon_nil, Act.put, List.setIfInBounds_toArray, List.set_cons_zero, List.set_cons_succ]
            have q0 := (hR.cell (p := ⟨bP, 2, none⟩) zP).trans cHXP_2
            refine spec_of rfl (fun KK hK => ?_)
            go_simp
            exact hK.out _ _ (Below.refl _ _) rfl
          | 33, _ =>
            intro v w' hR hd
            have e30 : v 30 = .agg #[.int .i64 (rf : Int), .int .i64 ((rf : Int) + (K : Int))] := hd 30 (by decide)
            have e32 : v 32 = .int .i64 ((H : Int)) := hd 32 (by decide)
            change SpecOp _ _ _ _ 33 (Act.put (Act.put (canon _ v _ []) (some 82) (v 32)) (some 80) (v 30)) w' _
            rw [e30, e32]
            simp only [canon_nil, Act.put, List.setIfInBounds_toArray, List.set_cons_zero, List.set_cons_succ]
            refine spec_of rfl (fun KK hK => ?_)
            go_simp
            refine (checkFull_any _ _ _ _).mono ?_
            rintro e wn ⟨rfl, hbn⟩
            exact hK.out _ _ hbn rfl
          | 34, _ =>
            intro v w' hR hd
            have e25 : v 25 = .int .i64 (0) := hd 25 (by decide)
            have e29 : v 29 = .int .i64 (errIf (decide ((cf : Int) < 0) || decide (((cf : Int) + (M : Int)) ≤ (cf : Int)) || decide ((W : Int) < ((cf : Int) + (M : Int)))) 14) := hd 29 (by decide)
            have e33 : v 33 = .int .i64 (errIf (decide ((rf : Int) < 0) || decide (((rf : Int) + (K : Int)) ≤ (rf : Int)) || decide ((H : Int) < ((rf : Int) + (K : Int)))) 14) := hd 33 (by decide)
            change SpecOp _ _ _ _ 34 (Act.put (Act.put (Act.put (canon _ v _ []) (some 83) (v 33)) (some 79) (v 29)) (some 75) (v 25)) w' _
            rw [e25, e29, e33]
            simp only [canon_nil, Act.put, List.setIfInBounds_toArray, List.set_cons_zero, List.set_cons_succ]
            refine spec_of rfl (fun KK hK => ?_)
            go_simp
            exact hK.out _ _ ((Below.refl _ _).alloc (Nat.le_refl _) _) ⟨_, _, rfl, rd_of_blk (Blk.new _ _ _) rfl⟩
          | 35, _ =>
            intro v w' hR hd
            obtain ⟨A34, k34, e34, r34⟩ : ∃ A c, v 34 = .slice A 3 c ∧ Rd w' A ([0, errIf (decide ((cf : Int) < 0) || decide (((cf : Int) + (M : Int)) ≤ (cf : Int)) || decide ((W : Int) < ((cf : Int) + (M : Int)))) 14, errIf (decide ((rf : Int) < 0) || decide (((rf : Int) + (K : Int)) ≤ (rf : Int)) || decide ((H : Int) < ((rf : Int) + (K : Int)))) 14].map (.int .i64)) := hd 34 (by decide)
            change SpecOp _ _ _ _ 35 (Act.put (canon _ v _ []) (some 84) (v 34)) w' _
            rw [e34]
            simp only [canon_nil, Act.put, List.setIfInBounds_toArray, List.set_cons_zero, List.set_cons_succ]
            refine spec_of rfl (fun KK hK => ?_)
            go_simp
            refine (firstL_n _ _ _ [_, _, _] _ rfl (by simp [maxLen]) r34).mono ?_
            rintro e wn ⟨rfl, rfl⟩
            exact hK.out _ _ (Below.refl _ _) (congrArg (Value.int .i64) HF2.out)
          | 36, _ =>
            intro v w' hR hd
            have e24 : v 24 = .int .i64 (0) := hd 24 (by decide)
            change SpecOp _ _ _ _ 36 (Act.put (canon _ v _ []) (some 74) (v 24)) w' _
            rw [e24]
            simp only [canon_nil, Act.put, List.setIfInBounds_toArray, List.set_cons_zero, List.set_cons_succ]
            refine spec_of rfl (fun KK hK => ?_)
            go_simp
            exact hK.out _ _ (Below.refl _ _) rfl
          | 37, _ =>
            intro v w' hR hd
            have e35 : v 35 = .int .i64 (0) := hd 35 (by decide)
            change SpecOp _ _ _ _ 37 (Act.put (canon _ v _ []) (some 85) (v 35)) w' _
            rw [e35]
            simp only [canon_nil, Act.put, List.setIfInBounds_toArray, List.set_cons_zero, List.set_cons_succ]
            refine spec_of rfl (fun KK hK => ?_)
            go_simp
            exact hK.out _ _ (Below.refl _ _) rfl
          | i + 38, h => exact absurd h (Nat.not_lt.2 (Nat.le_add_left 38 i))
        case hend =>
          intro v w' hR hall
          simp only [putL, Act.put, List.setIfInBounds_toArray, List.set_cons_zero, List.set_cons_succ]
          have e0 : v 0 = .int .i64 (0) := hall 0 (by decide)
          have e1 : v 1 = .pointer (some ⟨bN, 4, none⟩) := hall 1 (by decide)
          have e2 : v 2 = .int .i64 (n4) := hall 2 (by decide)
          have e3 : v 3 = .bool false := hall 3 (by decide)
          have e4 : v 4 = .bool false := hall 4 (by decide)
          have e5 : v 5 = .pointer (some ⟨bN, 4, none⟩) := hall 5 (by decide)
          have e6 : v 6 = .int .i64 (n4) := hall 6 (by decide)
          have e7 : v 7 = .pointer (some ⟨bP, 1, none⟩) := hall 7 (by decide)
          have e8 : v 8 = .int .i64 ((W : Int)) := hall 8 (by decide)
          have e9 : v 9 = .bool (decide ((W : Int) ≤ n4)) := hall 9 (by decide)
          have e10 : v 10 = .bool (decide ((W : Int) ≤ n4)) := hall 10 (by decide)
          have e11 : v 11 = .int .i64 (errIf (decide ((W : Int) ≤ n4)) 10) := hall 11 (by decide)
          have e12 : v 12 = .pointer (some ⟨bN, 5, none⟩) := hall 12 (by decide)
          have e13 : v 13 = .int .i64 (n5) := hall 13 (by decide)
          have e14 : v 14 = .bool false := hall 14 (by decide)
          have e15 : v 15 = .bool false := hall 15 (by decide)
          have e16 : v 16 = .pointer (some ⟨bN, 5, none⟩) := hall 16 (by decide)
          have e17 : v 17 = .int .i64 (n5) := hall 17 (by decide)
          have e18 : v 18 = .pointer (some ⟨bP, 2, none⟩) := hall 18 (by decide)
          have e19 : v 19 = .int .i64 ((H : Int)) := hall 19 (by decide)
          have e20 : v 20 = .bool (decide ((H : Int) ≤ n5)) := hall 20 (by decide)
          have e21 : v 21 = .bool (decide ((H : Int) ≤ n5)) := hall 21 (by decide)
          have e22 : v 22 = .int .i64 (errIf (decide ((H : Int) ≤ n5)) 10) := hall 22 (by decide)
          obtain ⟨A23, k23, e23, r23⟩ : ∃ A c, v 23 = .slice A 3 c ∧ Rd w' A ([0, errIf (decide ((W : Int) ≤ n4)) 10, errIf (decide ((H : Int) ≤ n5)) 10].map (.int .i64)) := hall 23 (by decide)
          have e24 : v 24 = .int .i64 (0) := hall 24 (by decide)
          have e25 : v 25 = .int .i64 (0) := hall 25 (by decide)
          have e26 : v 26 = .agg #[.int .i64 (cf : Int), .int .i64 ((cf : Int) + (M : Int))] := hall 26 (by decide)
          have e27 : v 27 = .pointer (some ⟨bP, 1, none⟩) := hall 27 (by decide)
          have e28 : v 28 = .int .i64 ((W : Int)) := hall 28 (by decide)
          have e29 : v 29 = .int .i64 (errIf (decide ((cf : Int) < 0) || decide (((cf : Int) + (M : Int)) ≤ (cf : Int)) || decide ((W : Int) < ((cf : Int) + (M : Int)))) 14) := hall 29 (by decide)
          have e30 : v 30 = .agg #[.int .i64 (rf : Int), .int .i64 ((rf : Int) + (K : Int))] := hall 30 (by decide)
          have e31 : v 31 = .pointer (some ⟨bP, 2, none⟩) := hall 31 (by decide)
          have e32 : v 32 = .int .i64 ((H : Int)) := hall 32 (by decide)
          have e33 : v 33 = .int .i64 (errIf (decide ((rf : Int) < 0) || decide (((rf : Int) + (K : Int)) ≤ (rf : Int)) || decide ((H : Int) < ((rf : Int) + (K : Int)))) 14) := hall 33 (by decide)
          obtain ⟨A34, k34, e34, r34⟩ : ∃ A c, v 34 = .slice A 3 c ∧ Rd w' A ([0, errIf (decide ((cf : Int) < 0) || decide (((cf : Int) + (M : Int)) ≤ (cf : Int)) || decide ((W : Int) < ((cf : Int) + (M : Int)))) 14, errIf (decide ((rf : Int) < 0) || decide (((rf : Int) + (K : Int)) ≤ (rf : Int)) || decide ((H : Int) < ((rf : Int) + (K : Int)))) 14].map (.int .i64)) := hall 34 (by decide)
          have e35 : v 35 = .int .i64 (0) := hall 35 (by decide)
          have e36 : v 36 = .int .i64 (0) := hall 36 (by decide)
          have e37 : v 37 = .int .i64 (0) := hall 37 (by decide)
          go_wp2_with fail
          go_meet
          exact ⟨by first | rfl | exact e36, by first | rfl | exact e37, hR⟩
      case rest =>
        obtain ⟨rfl, rfl, hfin⟩ := hcut
        replace HR := Lib.hid (HR.out.below hfin); replace HLD := Lib.hid (HLD.out.below hfin); replace HXP := Lib.hid (HXP.out.below hfin); replace HXN := Lib.hid (HXN.out.below hfin)
        replace HXC := Lib.hid (HXC.out.below hfin); replace HXR := Lib.hid (HXR.out.below hfin); replace HXD := Lib.hid (HXD.out.below hfin); replace HB := Lib.hid (HB.out.trans (hfin.mono HB.out.size))
        clear hfin
        go_upto_region 10 with fail
        have hn := Blk.new wc 43 #[.string ⟨#[]⟩, .int .i64 0, .int .i64 0, .slice none 0 0]
        have hb : Below wc.heap.size wc (wc.alloc (.cells #[.string ⟨#[]⟩, .int .i64 0, .int .i64 0, .slice none 0 0] 43)) := (Below.refl _ _).alloc (Nat.le_refl _) _
        have hge := HB.out.size
        have hlt_HXP := HXP.out.lt
        have hlt_HXN := HXN.out.lt
        have hlt_HXC := HXC.out.lt
        have hlt_HXR := HXR.out.lt
        have hlt_HXD := HXD.out.lt
        obtain ⟨bZ, hl⟩ : ∃ b, wc.heap.size = b := ⟨_, rfl⟩
        generalize wc.alloc (.cells #[.string ⟨#[]⟩, .int .i64 0, .int .i64 0, .slice none 0 0] 43) = t1 at hn hb ⊢
        replace HR := Lib.hid (HR.out.below hb); replace HLD := Lib.hid (HLD.out.below hb); replace HXP := Lib.hid (HXP.out.below hb); replace HXN := Lib.hid (HXN.out.below hb)
        replace HXC := Lib.hid (HXC.out.below hb); replace HXR := Lib.hid (HXR.out.below hb); replace HXD := Lib.hid (HXD.out.below hb); replace HB := Lib.hid (HB.out.trans (hb.mono HB.out.size))
        clear hb
        rw [hl] at hn hge hlt_HXP hlt_HXN hlt_HXC hlt_HXR hlt_HXD
        try rw [hl]
        have HXZ := Lib.hid hn; have HGZ := Lib.hid hge; clear hn hl hge
        have HNZHXP : RowKit.Hid (¬ bP = bZ) := Lib.hid (by omega); have HNZHXN : RowKit.Hid (¬ bN = bZ) := Lib.hid (by omega); have HNZHXC : RowKit.Hid (¬ bC = bZ) := Lib.hid (by omega); have HNZHXR : RowKit.Hid (¬ bR = bZ) := Lib.hid (by omega); have HNZHXD : RowKit.Hid (¬ bD = bZ) := Lib.hid (by omega)
        clear hlt_HXP hlt_HXN hlt_HXC hlt_HXR hlt_HXD
        obtain ⟨cHXP_0, cHXP_1, cHXP_2, cHXP_3⟩ := box4 HXP.out
        obtain ⟨cHXN_0, cHXN_1, cHXN_2, cHXN_3, cHXN_4, cHXN_5⟩ := box6 HXN.out
        go_wp2_with fail
        refine (HSM.out _ HR.out).mono ?_
        rintro e t2 ⟨rfl, hb⟩
        replace HR := Lib.hid (HR.out.below hb); replace HLD := Lib.hid (HLD.out.below hb); replace HXP := Lib.hid (HXP.out.below hb); replace HXN := Lib.hid (HXN.out.below hb)
        replace HXC := Lib.hid (HXC.out.below hb); replace HXR := Lib.hid (HXR.out.below hb); replace HXD := Lib.hid (HXD.out.below hb); replace HXZ := Lib.hid (HXZ.out.below hb)
        replace HB := Lib.hid (HB.out.trans (hb.mono HB.out.size))
        clear hb
        clear cHXP_0 cHXP_1 cHXP_2 cHXP_3 cHXN_0 cHXN_1 cHXN_2 cHXN_3 cHXN_4 cHXN_5
        obtain ⟨cHXP_0, cHXP_1, cHXP_2, cHXP_3⟩ := box4 HXP.out
        obtain ⟨cHXC_0, cHXC_1⟩ := box2 HXC.out
        obtain ⟨cHXR_0, cHXR_1⟩ := box2 HXR.out
        go_wp2_with fail
        refine (HRC.out _ HR.out).mono ?_
        rintro e t3 ⟨gz, rfl, hr1, hb⟩
        replace HR := Lib.hid (HR.out.below hb); replace HLD := Lib.hid (HLD.out.below hb); replace HXP := Lib.hid (HXP.out.below hb); replace HXN := Lib.hid (HXN.out.below hb)
        replace HXC := Lib.hid (HXC.out.below hb); replace HXR := Lib.hid (HXR.out.below hb); replace HXD := Lib.hid (HXD.out.below hb); replace HXZ := Lib.hid (HXZ.out.below hb)
        replace HB := Lib.hid (HB.out.trans (hb.mono HB.out.size))
        clear hb
        have HLZ := Lib.hid hr1; clear hr1
        clear cHXP_0 cHXP_1 cHXP_2 cHXP_3 cHXC_0 cHXC_1 cHXR_0 cHXR_1
        have zZ := HXZ.out.lt
        have f0 := HXZ.out.frozen 0; have f1 := HXZ.out.frozen 1; have f2 := HXZ.out.frozen 2; have f3 := HXZ.out.frozen 3
        obtain ⟨cHXZ_0, cHXZ_1, cHXZ_2, cHXZ_3⟩ := box4 HXZ.out
        go_upto_region 14 with fail
        clear zZ f0 f1 f2 f3
        clear cHXZ_0 cHXZ_1 cHXZ_2 cHXZ_3
        have h_HR := rdl_set4 HR.out HXZ.out (nf_four rfl rfl rfl rfl) (.string nm) (.int .i64 (M : Int)) (.int .i64 (K : Int)) (.slice (some ⟨gz, 0, none⟩) r r) rfl rfl rfl
        have h_HLD := rdl_set4 HLD.out HXZ.out (nf_four rfl rfl rfl rfl) (.string nm) (.int .i64 (M : Int)) (.int .i64 (K : Int)) (.slice (some ⟨gz, 0, none⟩) r r) rfl rfl rfl
        have h_HLZ := rdl_set4 HLZ.out HXZ.out (nf_four rfl rfl rfl rfl) (.string nm) (.int .i64 (M : Int)) (.int .i64 (K : Int)) (.slice (some ⟨gz, 0, none⟩) r r) rfl rfl rfl
        have h_HXP := bl_far4 HXP.out (by have h1 := HNZHXP.out; exact h1) (.string nm) (.int .i64 (M : Int)) (.int .i64 (K : Int)) (.slice (some ⟨gz, 0, none⟩) r r)
        have h_HXN := bl_far4 HXN.out (by have h1 := HNZHXN.out; exact h1) (.string nm) (.int .i64 (M : Int)) (.int .i64 (K : Int)) (.slice (some ⟨gz, 0, none⟩) r r)
        have h_HXC := bl_far4 HXC.out (by have h1 := HNZHXC.out; exact h1) (.string nm) (.int .i64 (M : Int)) (.int .i64 (K : Int)) (.slice (some ⟨gz, 0, none⟩) r r)
        have h_HXR := bl_far4 HXR.out (by have h1 := HNZHXR.out; exact h1) (.string nm) (.int .i64 (M : Int)) (.int .i64 (K : Int)) (.slice (some ⟨gz, 0, none⟩) r r)
        have h_HXD := bl_far4 HXD.out (by have h1 := HNZHXD.out; exact h1) (.string nm) (.int .i64 (M : Int)) (.int .i64 (K : Int)) (.slice (some ⟨gz, 0, none⟩) r r)
        have h_HXZ := blk_set4' HXZ.out (.string nm) (.int .i64 (M : Int)) (.int .i64 (K : Int)) (.slice (some ⟨gz, 0, none⟩) r r)
        have h_B := below_set4 HB.out HGZ.out (.string nm) (.int .i64 (M : Int)) (.int .i64 (K : Int)) (.slice (some ⟨gz, 0, none⟩) r r)
        generalize ((((t3.setCell ⟨bZ, 0, none⟩ (.string nm)).setCell ⟨bZ, 1, none⟩ (.int .i64 (M : Int))).setCell ⟨bZ, 2, none⟩ (.int .i64 (K : Int))).setCell ⟨bZ, 3, none⟩ (.slice (some ⟨gz, 0, none⟩) r r)) = t4 at h_HR h_HLD h_HLZ h_HXP h_HXN h_HXC h_HXR h_HXD h_HXZ h_B ⊢
        replace HR := Lib.hid h_HR; replace HLD := Lib.hid h_HLD; replace HLZ := Lib.hid h_HLZ; replace HXP := Lib.hid h_HXP; replace HXN := Lib.hid h_HXN; replace HXC := Lib.hid h_HXC
        replace HXR := Lib.hid h_HXR; replace HXD := Lib.hid h_HXD; replace HXZ := Lib.hid h_HXZ; replace HB := Lib.hid h_B
        clear h_HR h_HLD h_HLZ h_HXP h_HXN h_HXC h_HXR h_HXD h_HXZ h_B
        obtain ⟨cHXP_0, cHXP_1, cHXP_2, cHXP_3⟩ := box4 HXP.out
        go_wp2_with fail
        refine (HOWN.out _ HR.out).mono ?_
        rintro e t5 ⟨g2, c2, rfl, hcc2, hrd, hb⟩
        replace HR := Lib.hid (HR.out.below hb); replace HLD := Lib.hid (HLD.out.below hb); replace HLZ := Lib.hid (HLZ.out.below hb); replace HXP := Lib.hid (HXP.out.below hb)
        replace HXN := Lib.hid (HXN.out.below hb); replace HXC := Lib.hid (HXC.out.below hb); replace HXR := Lib.hid (HXR.out.below hb); replace HXD := Lib.hid (HXD.out.below hb)
        replace HXZ := Lib.hid (HXZ.out.below hb); replace HB := Lib.hid (HB.out.trans (hb.mono HB.out.size))
        clear hb
        have HO := Lib.hid hrd; clear hrd
        clear cHXP_0 cHXP_1 cHXP_2 cHXP_3
        go_wp2_with fail
        refine (HCP.out g2 c2 _ HO.out).mono ?_
        rintro e t6 ⟨rfl, hb⟩
        replace HR := Lib.hid (HR.out.below hb); replace HLD := Lib.hid (HLD.out.below hb); replace HLZ := Lib.hid (HLZ.out.below hb); replace HO := Lib.hid (HO.out.below hb)
        replace HXP := Lib.hid (HXP.out.below hb); replace HXN := Lib.hid (HXN.out.below hb); replace HXC := Lib.hid (HXC.out.below hb); replace HXR := Lib.hid (HXR.out.below hb)
        replace HXD := Lib.hid (HXD.out.below hb); replace HXZ := Lib.hid (HXZ.out.below hb); replace HB := Lib.hid (HB.out.trans (hb.mono HB.out.size))
        clear hb
        clear hcc2
        clear HO
        obtain ⟨cHXD_0, cHXD_1, cHXD_2, cHXD_3⟩ := box4 HXD.out
        obtain ⟨cHXZ_0, cHXZ_1, cHXZ_2, cHXZ_3⟩ := box4 HXZ.out
        go_wp2_with fail
        refine (one_true nm (M : Int) (K : Int) _ _ r r r L L _ HNL.out.1 HNL.out.1 HNL.out.2.2 HNL.out.2.1 HLD.out HLZ.out).mono ?_
        rintro e t7 ⟨rfl, hb⟩
        replace HR := Lib.hid (HR.out.below hb); replace HLD := Lib.hid (HLD.out.below hb); replace HLZ := Lib.hid (HLZ.out.below hb); replace HXP := Lib.hid (HXP.out.below hb)
        replace HXN := Lib.hid (HXN.out.below hb); replace HXC := Lib.hid (HXC.out.below hb); replace HXR := Lib.hid (HXR.out.below hb); replace HXD := Lib.hid (HXD.out.below hb)
        replace HXZ := Lib.hid (HXZ.out.below hb); replace HB := Lib.hid (HB.out.trans (hb.mono HB.out.size))
        clear hb
        clear cHXD_0 cHXD_1 cHXD_2 cHXD_3 cHXZ_0 cHXZ_1 cHXZ_2 cHXZ_3
        go_wp2_with fail
        refine (awake_laid _ (HL.out.below HB.out)).mono ?_
        rintro e uz ⟨rfl, hb⟩
        replace HR := Lib.hid (HR.out.below hb); replace HLD := Lib.hid (HLD.out.below hb); replace HLZ := Lib.hid (HLZ.out.below hb); replace HXP := Lib.hid (HXP.out.below hb)
        replace HXN := Lib.hid (HXN.out.below hb); replace HXC := Lib.hid (HXC.out.below hb); replace HXR := Lib.hid (HXR.out.below hb); replace HXD := Lib.hid (HXD.out.below hb)
        replace HXZ := Lib.hid (HXZ.out.below hb); replace HB := Lib.hid (HB.out.trans (hb.mono HB.out.size))
        clear hb
        go_wp2
        go_ret
        exact trueEnd_mk rfl HB.out
end Go.Proofs.YtnbpcfakkphmcaaGreatDoor
