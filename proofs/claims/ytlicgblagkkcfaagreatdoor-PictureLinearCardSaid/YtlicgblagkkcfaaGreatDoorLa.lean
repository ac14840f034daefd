/- Sum and Scaled of the code, by levels. -/
import Derived.Test.YtlicgblagkkcfaaGreatDoorQ2
import Derived.Test.YtlicgblagkkcfaaGreatDoorQH
namespace Go.Proofs.YtlicgblagkkcfaaGreatDoor
open Go.RowKit
set_option linter.unusedVariables false
attribute [local go_sem] run_store_float run_store_complex
set_option maxRecDepth 100000
/-- The picture with these levels, or none if one is no sample's; its error. -/
def lvP (nm : ByteArray) (W H : Int) (G : List Int) : Pic := if G.any largeB then noPic else ⟨nm, W, H, G.map smp⟩
def lvZ (G : List Int) : Int := if G.any largeB then 4 else 0
def sumL (l k : List Nat) : List Int := List.zipWith (fun a b => lvl a + lvl b) l k
theorem lv_good {nm : ByteArray} {W H : Int} {G : List Int} (h : G.any largeB = false) : lvP nm W H G = ⟨nm, W, H, G.map smp⟩ ∧ lvZ G = 0 := by unfold lvP lvZ; rw [h]; exact ⟨rfl, rfl⟩
theorem lv_bad {nm : ByteArray} {W H : Int} {G : List Int} (h : G.any largeB = true) : lvP nm W H G = noPic ∧ lvZ G = 4 := by unfold lvP lvZ; rw [h]; exact ⟨rfl, rfl⟩
theorem any_take_succ {G : List Int} {k : Nat} (h : k < G.length) : (G.take (k + 1)).any largeB = ((G.take k).any largeB || largeB (G.getD k 0)) := by
  rw [List.take_succ_eq_append_getElem h, List.any_append]
  simp [List.getD, h]
theorem near_small (p den : Int) (hp : -16384000 ≤ p ∧ p ≤ 16384000) (hd : 1 ≤ den ∧ den ≤ 1000) : (nearestN p den).natAbs ≤ 100000000 := by
  unfold nearestN
  have h1 : (2 * p + den) / (2 * den) ≤ 100000000 := Int.ediv_le_of_le_mul (by omega) (by
    have : 100000000 * (2 * den) = 200000000 * den := by omega
    omega)
  have h2 : -100000000 ≤ (2 * p + den) / (2 * den) := (Int.le_ediv_iff_mul_le (by omega)).2 (by
    have : -100000000 * (2 * den) = -200000000 * den := by omega
    omega)
  omega
theorem any_of_large {G : List Int} {k : Nat} (h : k < G.length) (hl : largeB (G.getD k 0) = true) : G.any largeB = true := by
  rw [List.any_eq_true]
  exact ⟨G[k], List.getElem_mem h, by simpa [List.getD, h] using hl⟩
theorem join_bad {nm : ByteArray} {W H : Int} {G : List Int} (h : G.any largeB = true) {w w' : World} {e : Ending} (he : e = .returned (.tuple #[.agg #[.string ⟨#[]⟩, .int .i64 0, .int .i64 0, .slice none 0 0], .int .i64 4])) (hb : Below w.heap.size w w') : JoinEnd (lvP nm W H G) (lvZ G) w e w' := by
  rw [(lv_bad (nm := nm) (W := W) (H := H) h).1, (lv_bad (nm := nm) (W := W) (H := H) h).2]
  subst he
  exact join_none ⟨rfl, hb⟩
theorem join_good {nm : ByteArray} {W H : Int} {G : List Int} (h : G.any largeB = false) {n : Nat} (hn : G.length = n) {w w' : World} {e : Ending} {g c : Nat} (he : e = .returned (.tuple #[.agg #[.string nm, .int .i64 W, .int .i64 H, .slice (some ⟨g, 0, none⟩) n c], .int .i64 0])) (hg : Blk w' g 23 (fillN (fun j => .float .f32 (smp (G.getD j 0))) (.float .f32 0) n n)) (hb : Below w.heap.size w w') : JoinEnd (lvP nm W H G) (lvZ G) w e w' := by
  rw [(lv_good (nm := nm) (W := W) (H := H) h).1, (lv_good (nm := nm) (W := W) (H := H) h).2]
  refine ⟨some ⟨g, 0, none⟩, c, ?_, ?_, hb⟩
  · rw [he]; simp [hn]
  · rw [fill_mask] at hg
    exact rd_mask hg (fun i hi => by simp; exact hi) (by simp [fl, hn]) fun i hi => by rw [fl_get (by simp [hn]; exact hi)]; simp [List.getD, hn, hi]


theorem withLevels_bad (nm : ByteArray) (W H : Int) (A0 : Option Addr) (n0 c0 : Nat) (A : Option Addr) (c : Nat) (l : List Int) (hb : l.any largeB = true) (w : World) (hl : l.length ≤ 4096) (hr : Rd w A (l.map (Value.int .i64))) :
    Calls Tryz.prog 119 #[.agg #[.string nm, .int .i64 W, .int .i64 H, .slice A0 n0 c0], .slice A l.length c] w fun e w' => e = .returned (.tuple #[.agg #[.string ⟨#[]⟩, .int .i64 0, .int .i64 0, .slice none 0 0], .int .i64 4]) ∧ Below w.heap.size w w' := by
  have HB := Lib.hid hb; clear hb
  have HR := Lib.hid hr; clear hr
  go_enter Tryz.func119, Tryz.ntmps119
  go_wp2_with fail
  have hby := Blk.new (w.alloc (.cells #[.string nm, .int .i64 W, .int .i64 H, .slice A0 n0 c0] 50)) 50 #[.string ⟨#[]⟩, .int .i64 0, .int .i64 0, .slice none 0 0]
  simp only [World.size_alloc] at hby
  have hb0 : Below w.heap.size w ((w.alloc (.cells #[.string nm, .int .i64 W, .int .i64 H, .slice A0 n0 c0] 50)).alloc (.cells #[.string ⟨#[]⟩, .int .i64 0, .int .i64 0, .slice none 0 0] 50)) := ((Below.refl _ _).alloc (Nat.le_refl _) _).alloc (by simp) _
  generalize (w.alloc (.cells #[.string nm, .int .i64 W, .int .i64 H, .slice A0 n0 c0] 50)).alloc (.cells #[.string ⟨#[]⟩, .int .i64 0, .int .i64 0, .slice none 0 0] 50) = w0 at hby hb0 ⊢
  refine (samples_err A c l HB.out _ hl (HR.out.below hb0)).mono ?_
  rintro e w3 ⟨rfl, hb3⟩
  have hy := hby.below hb3
  have HBB := Lib.hid (hb0.trans (hb3.mono hb0.size))
  have z1 := hy.lt
  have f0 := hy.frozen 0; have f1 := hy.frozen 1; have f2 := hy.frozen 2; have f3 := hy.frozen 3
  obtain ⟨d0, d1, d2, d3⟩ := box4 hy
  have hyy := Lib.hid (blk_set4' hy (.string ⟨#[]⟩) (.int .i64 0) (.int .i64 0) (.slice none 0 0))
  clear hby hb0 hb3 hy
  go_wp2
  obtain ⟨r0, r1, r2, r3⟩ := box4 hyy.out
  exact bodyPost_ret (v := .tuple #[.agg #[.string ⟨#[]⟩, .int .i64 0, .int .i64 0, .slice none 0 0], .int .i64 4]) (by simp [results, Tryz.results119, go_sem, r0, r1, r2, r3]) rfl ⟨rfl, below_set4 HBB.out (by omega) _ _ _ _⟩
theorem withLevels_lv (nm : ByteArray) (W H : Int) (A0 : Option Addr) (n0 c0 : Nat) (A : Option Addr) (c n : Nat) (l : List Int) (hn : l.length = n) (w : World) (hl : n ≤ 4096) (hr : Rd w A (l.map (Value.int .i64))) :
    Calls Tryz.prog 119 #[.agg #[.string nm, .int .i64 W, .int .i64 H, .slice A0 n0 c0], .slice A n c] w (JoinEnd (lvP nm W H l) (lvZ l) w) := by
  subst hn
  cases h : l.any largeB
  · rw [(lv_good (nm := nm) (W := W) (H := H) h).1, (lv_good (nm := nm) (W := W) (H := H) h).2]
    exact (withLevels_ok nm W H A0 n0 c0 A c l h w hl hr).mono fun e w' ⟨ad, h1, h2, h3⟩ => ⟨some ad, l.length, by rw [h1]; simp, h2, h3⟩
  · exact (withLevels_bad nm W H A0 n0 c0 A c l h w hl hr).mono fun e w' ⟨h1, h2⟩ => join_bad h h1 h2

def sumErr (p q : Pic) : Int := firstE [p.err, q.err, errIf (p.w != q.w || p.h != q.h) 2]
set_option maxHeartbeats 4000000 in
theorem sum_err (p q : Pic) (A B : Option Addr) (c d : Nat) (w : World) (hs : p.name.size ≤ maxLen) (hl : p.l.length ≤ maxLen) (hs2 : q.name.size ≤ maxLen) (hl2 : q.l.length ≤ maxLen) (hr : Rd w A (fl p.l)) (hr2 : Rd w B (fl q.l)) (z : Int) (he : sumErr p q = z) (hz : z ≠ 0) :
    Calls Tryz.prog 52 #[p.val A c, q.val B d] w fun e w' => e = .returned (.tuple #[.agg #[.string ⟨#[]⟩, .int .i64 0, .int .i64 0, .slice none 0 0], .int .i64 z]) ∧ Below w.heap.size w w' := by
  have hcp := fun w hr => checkPicture_any p A c w hs hl hr
  have hcq := fun w hr => checkPicture_any q B d w hs2 hl2 hr
  unfold sumErr at he
  unfold Pic.val at hcp hcq ⊢
  obtain ⟨pe, hpe⟩ : ∃ z, p.err = z := ⟨_, rfl⟩
  obtain ⟨qe, hqe⟩ : ∃ z, q.err = z := ⟨_, rfl⟩
  rw [hpe] at hcp he
  rw [hqe] at hcq he
  clear hpe hqe
  obtain ⟨nm, Wa, Ha, l⟩ := p
  obtain ⟨nm2, Wb, Hb, k⟩ := q
  simp only [] at hcp hcq he hr hr2 ⊢
  obtain ⟨n, hn⟩ : ∃ n, l.length = n := ⟨_, rfl⟩
  obtain ⟨m, hm⟩ : ∃ m, k.length = m := ⟨_, rfl⟩
  rw [hn] at hcp ⊢
  rw [hm] at hcq ⊢
  clear hn hm hs hl hs2 hl2
  have HE := Lib.hid he; have HCP := Lib.hid hcp; have HCQ := Lib.hid hcq
  have hz' : (z != 0) = true := by simpa using hz
  clear he hcp hcq hz
  go_enter Tryz.func52, Tryz.ntmps52
  go_upto_region 1 with fail
  have hx0 := ((Blk.new w 50 #[.string nm, .int .i64 Wa, .int .i64 Ha, .slice A n c]).alloc (.cells #[.string nm2, .int .i64 Wb, .int .i64 Hb, .slice B m d] 50)).alloc (.cells #[.string ⟨#[]⟩, .int .i64 0, .int .i64 0, .slice none 0 0] 50)
  have hx1 := (Blk.new (w.alloc (.cells #[.string nm, .int .i64 Wa, .int .i64 Ha, .slice A n c] 50)) 50 #[.string nm2, .int .i64 Wb, .int .i64 Hb, .slice B m d]).alloc (.cells #[.string ⟨#[]⟩, .int .i64 0, .int .i64 0, .slice none 0 0] 50)
  have hx2 := Blk.new ((w.alloc (.cells #[.string nm, .int .i64 Wa, .int .i64 Ha, .slice A n c] 50)).alloc (.cells #[.string nm2, .int .i64 Wb, .int .i64 Hb, .slice B m d] 50)) 50 #[.string ⟨#[]⟩, .int .i64 0, .int .i64 0, .slice none 0 0]
  simp only [World.size_alloc] at hx1 hx2
  have hb0 := (((Below.refl w.heap.size w).alloc (Nat.le_refl _) (.cells #[.string nm, .int .i64 Wa, .int .i64 Ha, .slice A n c] 50)).alloc (by simp only [World.size_alloc]; omega) (.cells #[.string nm2, .int .i64 Wb, .int .i64 Hb, .slice B m d] 50)).alloc (by simp only [World.size_alloc]; omega) (.cells #[.string ⟨#[]⟩, .int .i64 0, .int .i64 0, .slice none 0 0] 50)
  generalize (((w.alloc (.cells #[.string nm, .int .i64 Wa, .int .i64 Ha, .slice A n c] 50)).alloc (.cells #[.string nm2, .int .i64 Wb, .int .i64 Hb, .slice B m d] 50)).alloc (.cells #[.string ⟨#[]⟩, .int .i64 0, .int .i64 0, .slice none 0 0] 50)) = w0 at hx0 hx1 hx2 hb0 ⊢
  obtain ⟨c0, c1, c2, c3⟩ := box4 hx0
  obtain ⟨d0, d1, d2, d3⟩ := box4 hx1
  have z0 := hx0.lt; have z1 := hx1.lt
  have HRa := Lib.hid (hr.below hb0); have HRb := Lib.hid (hr2.below hb0)
  have HX0 := Lib.hid hx0; have HX1 := Lib.hid hx1; have HY := Lib.hid hx2; have HB := Lib.hid hb0; clear hx0 hx1 hx2 hb0 hr hr2
  by_cases hW : Wa = Wb
  · subst hW
    refine wp_region_facts [Fact.is (.agg #[.string nm, .int .i64 Wa, .int .i64 Ha, .slice A n c]), Fact.is (.int .i64 (pe)), Fact.is (.agg #[.string nm2, .int .i64 Wa, .int .i64 Hb, .slice B m d]), Fact.is (.int .i64 (qe)), Fact.is (.pointer (some ⟨w.heap.size, 1, none⟩)), Fact.is (.int .i64 (Wa)), Fact.is (.pointer (some ⟨w.heap.size + 1, 1, none⟩)), Fact.is (.int .i64 (Wa)), Fact.is (.bool false), Fact.is (.bool false), Fact.is (.pointer (some ⟨w.heap.size, 2, none⟩)), Fact.is (.int .i64 (Ha)), Fact.is (.pointer (some ⟨w.heap.size + 1, 2, none⟩)), Fact.is (.int .i64 (Hb)), Fact.is (.bool (Ha != Hb)), Fact.is (.bool (Ha != Hb)), Fact.is (.int .i64 (errIf (Ha != Hb) 2)), Fact.ints 3 [pe, qe, errIf (Ha != Hb) 2], Fact.is (.int .i64 (z)), Fact.is (.int .i64 (z))] [[], [0], [], [2], [], [4], [], [6], [5, 7], [8], [9], [9, 10], [9], [9, 12], [9, 11, 13], [9, 14], [15], [1, 3, 16], [17], [18]] [(some 10, 0), (some 11, 1), (some 12, 2), (some 13, 3), (some 14, 4), (some 15, 5), (some 16, 6), (some 17, 7), (some 18, 8), (some 19, 9), (some 20, 10), (some 21, 11), (some 22, 12), (some 23, 13), (some 24, 14), (some 25, 15), (some 26, 16), (some 27, 17), (some 28, 18), (some 6, 19)] (by kernel_rfl) (by kernel_rfl) (by kernel_rfl) (by kernel_rfl) (fun _ _ _ _ e h => by have h1 : _ ∧ _ := h; exact ⟨e ▸ h1.1, h1.2⟩) ?hstep ?hend
    case hstep =>
      intro i hi
      match i, hi with
      | 0, _ =>
        intro v w' hR hd
        change SpecOp _ _ _ _ 0 (canon _ v _ []) w' _
        simp only [canon_nil]
        have q0 := (hR.cell (p := ⟨w.heap.size, 0, none⟩) z0).trans c0
        have q1 := (hR.cell (p := ⟨w.heap.size, 1, none⟩) z0).trans c1
        have q2 := (hR.cell (p := ⟨w.heap.size, 2, none⟩) z0).trans c2
        have q3 := (hR.cell (p := ⟨w.heap.size, 3, none⟩) z0).trans c3
        refine spec_of rfl (fun KK hK => ?_)
        go_simp
        exact hK.out _ _ (Below.refl _ _) rfl
      | 1, _ =>
        intro v w' hR hd
        have e0 : v 0 = .agg #[.string nm, .int .i64 Wa, .int .i64 Ha, .slice A n c] := hd 0 (by decide)
        change SpecOp _ _ _ _ 1 (Act.put (canon _ v _ []) (some 10) (v 0)) w' _
        rw [e0]
        simp only [canon_nil, Act.put, List.setIfInBounds_toArray, List.set_cons_zero, List.set_cons_succ]
        refine spec_of rfl (fun KK hK => ?_)
        go_simp
        refine (HCP.out _ (HRa.out.below hR)).mono ?_
        rintro e wn ⟨rfl, hbn⟩
        exact hK.out _ _ hbn rfl
      | 2, _ =>
        intro v w' hR hd
        change SpecOp _ _ _ _ 2 (canon _ v _ []) w' _
        simp only [canon_nil]
        have q0 := (hR.cell (p := ⟨w.heap.size + 1, 0, none⟩) z1).trans d0
        have q1 := (hR.cell (p := ⟨w.heap.size + 1, 1, none⟩) z1).trans d1
        have q2 := (hR.cell (p := ⟨w.heap.size + 1, 2, none⟩) z1).trans d2
        have q3 := (hR.cell (p := ⟨w.heap.size + 1, 3, none⟩) z1).trans d3
        refine spec_of rfl (fun KK hK => ?_)
        go_simp
        exact hK.out _ _ (Below.refl _ _) rfl
      | 3, _ =>
        intro v w' hR hd
        have e2 : v 2 = .agg #[.string nm2, .int .i64 Wa, .int .i64 Hb, .slice B m d] := hd 2 (by decide)
        change SpecOp _ _ _ _ 3 (Act.put (canon _ v _ []) (some 12) (v 2)) w' _
        rw [e2]
        simp only [canon_nil, Act.put, List.setIfInBounds_toArray, List.set_cons_zero, List.set_cons_succ]
        refine spec_of rfl (fun KK hK => ?_)
        go_simp
        refine (HCQ.out _ (HRb.out.below hR)).mono ?_
        rintro e wn ⟨rfl, hbn⟩
        exact hK.out _ _ hbn rfl
      | 4, _ =>
        intro v w' hR hd
        change SpecOp _ _ _ _ 4 (canon _ v _ []) w' _
        simp only [canon_nil]
        refine spec_of rfl (fun KK hK => ?_)
        go_simp
        exact hK.out _ _ (Below.refl _ _) rfl
      | 5, _ =>
        intro v w' hR hd
        have e4 : v 4 = .pointer (some ⟨w.heap.size, 1, none⟩) := hd 4 (by decide)
        change SpecOp _ _ _ _ 5 (Act.put (canon _ v _ []) (some 14) (v 4)) w' _
        rw [e4]
        simp only [canon_nil, Act.put, List.setIfInBounds_toArray, List.set_cons_zero, List.set_cons_succ]
        have q0 := (hR.cell (p := ⟨w.heap.size, 1, none⟩) z0).trans c1
        refine spec_of rfl (fun KK hK => ?_)
        go_simp
        exact hK.out _ _ (Below.refl _ _) rfl
      | 6, _ =>
        intro v w' hR hd
        change SpecOp _ _ _ _ 6 (canon _ v _ []) w' _
        simp only [canon_nil]
        refine spec_of rfl (fun KK hK => ?_)
        go_simp
        exact hK.out _ _ (Below.refl _ _) rfl
      | 7, _ =>
        intro v w' hR hd
        have e6 : v 6 = .pointer (some ⟨w.heap.size + 1, 1, none⟩) := hd 6 (by decide)
        change SpecOp _ _ _ _ 7 (Act.put (canon _ v _ []) (some 16) (v 6)) w' _
        rw [e6]
        simp only [canon_nil, Act.put, List.setIfInBounds_toArray, List.set_cons_zero, List.set_cons_succ]
        have q0 := (hR.cell (p := ⟨w.heap.size + 1, 1, none⟩) z1).trans d1
        refine spec_of rfl (fun KK hK => ?_)
        go_simp
        exact hK.out _ _ (Below.refl _ _) rfl
      | 8, _ =>
        intro v w' hR hd
        have e5 : v 5 = .int .i64 (Wa) := hd 5 (by decide)
        have e7 : v 7 = .int .i64 (Wa) := hd 7 (by decide)
        change SpecOp _ _ _ _ 8 (Act.put (Act.put (canon _ v _ []) (some 17) (v 7)) (some 15) (v 5)) w' _
        rw [e5, e7]
        simp only [canon_nil, Act.put, List.setIfInBounds_toArray, List.set_cons_zero, List.set_cons_succ]
        refine spec_of rfl (fun KK hK => ?_)
        go_simp
        exact hK.out _ _ (Below.refl _ _) (by first | rfl | (simp; done))
      | 9, _ =>
        intro v w' hR hd
        have e8 : v 8 = .bool false := hd 8 (by decide)
        change SpecOp _ _ _ _ 9 (Act.put (canon _ v _ []) (some 18) (v 8)) w' _
        rw [e8]
        simp only [canon_nil, Act.put, List.setIfInBounds_toArray, List.set_cons_zero, List.set_cons_succ]
        refine spec_of rfl (fun KK hK => ?_)
        go_simp
        exact hK.out _ _ (Below.refl _ _) rfl
      | 10, _ =>
        intro v w' hR hd
        have e9 : v 9 = .bool false := hd 9 (by decide)
        change SpecOp _ _ _ _ 10 (Act.put (canon _ v _ []) (some 19) (v 9)) w' _
        rw [e9]
        simp only [canon_nil, Act.put, List.setIfInBounds_toArray, List.set_cons_zero, List.set_cons_succ]
        refine spec_of rfl (fun KK hK => ?_)
        go_simp
        exact hK.out _ _ (Below.refl _ _) rfl
      | 11, _ =>
        intro v w' hR hd
        have e9 : v 9 = .bool false := hd 9 (by decide)
        have e10 : v 10 = .pointer (some ⟨w.heap.size, 2, none⟩) := hd 10 (by decide)
        change SpecOp _ _ _ _ 11 (Act.put (Act.put (canon _ v _ []) (some 20) (v 10)) (some 19) (v 9)) w' _
        rw [e9, e10]
        simp only [canon_nil, Act.put, List.setIfInBounds_toArray, List.set_cons_zero, List.set_cons_succ]
        have q0 := (hR.cell (p := ⟨w.heap.size, 2, none⟩) z0).trans c2
        refine spec_of rfl (fun KK hK => ?_)
        go_simp
        exact hK.out _ _ (Below.refl _ _) rfl
      | 12, _ =>
        intro v w' hR hd
        have e9 : v 9 = .bool false := hd 9 (by decide)
        change SpecOp _ _ _ _ 12 (Act.put (canon _ v _ []) (some 19) (v 9)) w' _
        rw [e9]
        simp only [canon_nil, Act.put, List.setIfInBounds_toArray, List.set_cons_zero, List.set_cons_succ]
        refine spec_of rfl (fun KK hK => ?_)
        go_simp
        exact hK.out _ _ (Below.refl _ _) rfl
      | 13, _ =>
        intro v w' hR hd
        have e9 : v 9 = .bool false := hd 9 (by decide)
        have e12 : v 12 = .pointer (some ⟨w.heap.size + 1, 2, none⟩) := hd 12 (by decide)
        change SpecOp _ _ _ _ 13 (Act.put (Act.put (canon _ v _ []) (some 22) (v 12)) (some 19) (v 9)) w' _
        rw [e9, e12]
        simp only [canon_nil, Act.put, List.setIfInBounds_toArray, List.set_cons_zero, List.set_cons_succ]
        have q0 := (hR.cell (p := ⟨w.heap.size + 1, 2, none⟩) z1).trans d2
        refine spec_of rfl (fun KK hK => ?_)
        go_simp
        exact hK.out _ _ (Below.refl _ _) rfl
      | 14, _ =>
        intro v w' hR hd
        have e9 : v 9 = .bool false := hd 9 (by decide)
        have e11 : v 11 = .int .i64 (Ha) := hd 11 (by decide)
        have e13 : v 13 = .int .i64 (Hb) := hd 13 (by decide)
        change SpecOp _ _ _ _ 14 (Act.put (Act.put (Act.put (canon _ v _ []) (some 23) (v 13)) (some 21) (v 11)) (some 19) (v 9)) w' _
        rw [e9, e11, e13]
        simp only [canon_nil, Act.put, List.setIfInBounds_toArray, List.set_cons_zero, List.set_cons_succ]
        refine spec_of rfl (fun KK hK => ?_)
        go_simp
        exact hK.out _ _ (Below.refl _ _) (by first | rfl | (simp; done))
      | 15, _ =>
        intro v w' hR hd
        have e9 : v 9 = .bool false := hd 9 (by decide)
        have e14 : v 14 = .bool (Ha != Hb) := hd 14 (by decide)
        change SpecOp _ _ _ _ 15 (Act.put (Act.put (canon _ v _ []) (some 24) (v 14)) (some 19) (v 9)) w' _
        rw [e9, e14]
        simp only [canon_nil, Act.put, List.setIfInBounds_toArray, List.set_cons_zero, List.set_cons_succ]
        refine spec_of rfl (fun KK hK => ?_)
        go_simp
        exact hK.out _ _ (Below.refl _ _) rfl
      | 16, _ =>
        intro v w' hR hd
        have e15 : v 15 = .bool (Ha != Hb) := hd 15 (by decide)
        change SpecOp _ _ _ _ 16 (Act.put (canon _ v _ []) (some 25) (v 15)) w' _
        rw [e15]
        simp only [canon_nil, Act.put, List.setIfInBounds_toArray, List.set_cons_zero, List.set_cons_succ]
        refine spec_of rfl (fun KK hK => ?_)
        go_simp
        refine (errorIf_any _ _ _).mono ?_
        rintro e wn ⟨rfl, rfl⟩
        exact hK.out _ _ (Below.refl _ _) rfl
      | 17, _ =>
        intro v w' hR hd
        have e1 : v 1 = .int .i64 (pe) := hd 1 (by decide)
        have e3 : v 3 = .int .i64 (qe) := hd 3 (by decide)
        have e16 : v 16 = .int .i64 (errIf (Ha != Hb) 2) := hd 16 (by decide)
        change SpecOp _ _ _ _ 17 (Act.put (Act.put (Act.put (canon _ v _ []) (some 26) (v 16)) (some 13) (v 3)) (some 11) (v 1)) w' _
        rw [e1, e3, e16]
        simp only [canon_nil, Act.put, List.setIfInBounds_toArray, List.set_cons_zero, List.set_cons_succ]
        refine spec_of rfl (fun KK hK => ?_)
        go_simp
        exact hK.out _ _ ((Below.refl _ _).alloc (Nat.le_refl _) _) ⟨_, _, rfl, rd_of_blk (Blk.new _ _ _) rfl⟩
      | 18, _ =>
        intro v w' hR hd
        obtain ⟨A17, k17, e17, r17⟩ : ∃ A c, v 17 = .slice A 3 c ∧ Rd w' A ([pe, qe, errIf (Ha != Hb) 2].map (.int .i64)) := hd 17 (by decide)
        change SpecOp _ _ _ _ 18 (Act.put (canon _ v _ []) (some 27) (v 17)) w' _
        rw [e17]
        simp only [canon_nil, Act.put, List.setIfInBounds_toArray, List.set_cons_zero, List.set_cons_succ]
        refine spec_of rfl (fun KK hK => ?_)
        go_simp
        refine (first_n _ _ _ [_, _, _] _ rfl (by simp [maxLen]) r17).mono ?_
        rintro e wn ⟨rfl, rfl⟩
        exact hK.out _ _ (Below.refl _ _) (congrArg (Value.int .i64) (by have h := HE.out; rw [show (Wa != Wa || Ha != Hb) = (Ha != Hb) by simp] at h; exact h))
      | 19, _ =>
        intro v w' hR hd
        have e18 : v 18 = .int .i64 (z) := hd 18 (by decide)
        change SpecOp _ _ _ _ 19 (Act.put (canon _ v _ []) (some 28) (v 18)) w' _
        rw [e18]
        simp only [canon_nil, Act.put, List.setIfInBounds_toArray, List.set_cons_zero, List.set_cons_succ]
        refine spec_of rfl (fun KK hK => ?_)
        go_simp
        exact hK.out _ _ (Below.refl _ _) rfl
      | i + 20, h => exact absurd h (Nat.not_lt.2 (Nat.le_add_left 20 i))
    case hend =>
      intro v w' hR hall
      simp only [putL, Act.put, List.setIfInBounds_toArray, List.set_cons_zero, List.set_cons_succ]
      have e0 : v 0 = .agg #[.string nm, .int .i64 Wa, .int .i64 Ha, .slice A n c] := hall 0 (by decide)
      have e1 : v 1 = .int .i64 (pe) := hall 1 (by decide)
      have e2 : v 2 = .agg #[.string nm2, .int .i64 Wa, .int .i64 Hb, .slice B m d] := hall 2 (by decide)
      have e3 : v 3 = .int .i64 (qe) := hall 3 (by decide)
      have e4 : v 4 = .pointer (some ⟨w.heap.size, 1, none⟩) := hall 4 (by decide)
      have e5 : v 5 = .int .i64 (Wa) := hall 5 (by decide)
      have e6 : v 6 = .pointer (some ⟨w.heap.size + 1, 1, none⟩) := hall 6 (by decide)
      have e7 : v 7 = .int .i64 (Wa) := hall 7 (by decide)
      have e8 : v 8 = .bool false := hall 8 (by decide)
      have e9 : v 9 = .bool false := hall 9 (by decide)
      have e10 : v 10 = .pointer (some ⟨w.heap.size, 2, none⟩) := hall 10 (by decide)
      have e11 : v 11 = .int .i64 (Ha) := hall 11 (by decide)
      have e12 : v 12 = .pointer (some ⟨w.heap.size + 1, 2, none⟩) := hall 12 (by decide)
      have e13 : v 13 = .int .i64 (Hb) := hall 13 (by decide)
      have e14 : v 14 = .bool (Ha != Hb) := hall 14 (by decide)
      have e15 : v 15 = .bool (Ha != Hb) := hall 15 (by decide)
      have e16 : v 16 = .int .i64 (errIf (Ha != Hb) 2) := hall 16 (by decide)
      obtain ⟨A17, k17, e17, r17⟩ : ∃ A c, v 17 = .slice A 3 c ∧ Rd w' A ([pe, qe, errIf (Ha != Hb) 2].map (.int .i64)) := hall 17 (by decide)
      have e18 : v 18 = .int .i64 (z) := hall 18 (by decide)
      have e19 : v 19 = .int .i64 (z) := hall 19 (by decide)
      rw [e19]
      clear e0 e1 e2 e3 e4 e5 e6 e7 e8 e9 e10 e11 e12 e13 e14 e15 e16 e17 e18 e19 hall r17
      have hy := HY.out.below hR
      have HB1 := Lib.hid (HB.out.trans (hR.mono HB.out.size))
      clear c0 c1 c2 c3 d0 d1 d2 d3 z0 z1
      have z1 := hy.lt
      have f0 := hy.frozen 0; have f1 := hy.frozen 1; have f2 := hy.frozen 2; have f3 := hy.frozen 3
      obtain ⟨d0, d1, d2, d3⟩ := box4 hy
      have hyy := Lib.hid (blk_set4' hy (.string ⟨#[]⟩) (.int .i64 0) (.int .i64 0) (.slice none 0 0))
      clear hy
      go_wp2
      obtain ⟨r0, r1, r2, r3⟩ := box4 hyy.out
      exact bodyPost_ret (v := .tuple #[.agg #[.string ⟨#[]⟩, .int .i64 0, .int .i64 0, .slice none 0 0], .int .i64 z]) (by simp [results, Tryz.results52, go_sem, r0, r1, r2, r3]) rfl ⟨rfl, below_set4 HB1.out (by omega) _ _ _ _⟩
  · have hne : (Wa != Wb) = true := by simpa using hW
    refine wp_region_facts [Fact.is (.agg #[.string nm, .int .i64 Wa, .int .i64 Ha, .slice A n c]), Fact.is (.int .i64 (pe)), Fact.is (.agg #[.string nm2, .int .i64 Wb, .int .i64 Hb, .slice B m d]), Fact.is (.int .i64 (qe)), Fact.is (.pointer (some ⟨w.heap.size, 1, none⟩)), Fact.is (.int .i64 (Wa)), Fact.is (.pointer (some ⟨w.heap.size + 1, 1, none⟩)), Fact.is (.int .i64 (Wb)), Fact.is (.bool true), Fact.is (.bool true), Fact.is (undef), Fact.is (undef), Fact.is (undef), Fact.is (undef), Fact.is (undef), Fact.is (.bool true), Fact.is (.int .i64 (errIf true 2)), Fact.ints 3 [pe, qe, errIf true 2], Fact.is (.int .i64 (z)), Fact.is (.int .i64 (z))] [[], [0], [], [2], [], [4], [], [6], [5, 7], [8], [9], [9, 10], [9], [9, 12], [9, 11, 13], [9, 14], [15], [1, 3, 16], [17], [18]] [(some 10, 0), (some 11, 1), (some 12, 2), (some 13, 3), (some 14, 4), (some 15, 5), (some 16, 6), (some 17, 7), (some 18, 8), (some 19, 9), (some 20, 10), (some 21, 11), (some 22, 12), (some 23, 13), (some 24, 14), (some 25, 15), (some 26, 16), (some 27, 17), (some 28, 18), (some 6, 19)] (by kernel_rfl) (by kernel_rfl) (by kernel_rfl) (by kernel_rfl) (fun _ _ _ _ e h => by have h1 : _ ∧ _ := h; exact ⟨e ▸ h1.1, h1.2⟩) ?hstep ?hend
    case hstep =>
      intro i hi
      match i, hi with
      | 0, _ =>
        intro v w' hR hd
        change SpecOp _ _ _ _ 0 (canon _ v _ []) w' _
        simp only [canon_nil]
        have q0 := (hR.cell (p := ⟨w.heap.size, 0, none⟩) z0).trans c0
        have q1 := (hR.cell (p := ⟨w.heap.size, 1, none⟩) z0).trans c1
        have q2 := (hR.cell (p := ⟨w.heap.size, 2, none⟩) z0).trans c2
        have q3 := (hR.cell (p := ⟨w.heap.size, 3, none⟩) z0).trans c3
        refine spec_of rfl (fun KK hK => ?_)
        go_simp
        exact hK.out _ _ (Below.refl _ _) rfl
      | 1, _ =>
        intro v w' hR hd
        have e0 : v 0 = .agg #[.string nm, .int .i64 Wa, .int .i64 Ha, .slice A n c] := hd 0 (by decide)
        change SpecOp _ _ _ _ 1 (Act.put (canon _ v _ []) (some 10) (v 0)) w' _
        rw [e0]
        simp only [canon_nil, Act.put, List.setIfInBounds_toArray, List.set_cons_zero, List.set_cons_succ]
        refine spec_of rfl (fun KK hK => ?_)
        go_simp
        refine (HCP.out _ (HRa.out.below hR)).mono ?_
        rintro e wn ⟨rfl, hbn⟩
        exact hK.out _ _ hbn rfl
      | 2, _ =>
        intro v w' hR hd
        change SpecOp _ _ _ _ 2 (canon _ v _ []) w' _
        simp only [canon_nil]
        have q0 := (hR.cell (p := ⟨w.heap.size + 1, 0, none⟩) z1).trans d0
        have q1 := (hR.cell (p := ⟨w.heap.size + 1, 1, none⟩) z1).trans d1
        have q2 := (hR.cell (p := ⟨w.heap.size + 1, 2, none⟩) z1).trans d2
        have q3 := (hR.cell (p := ⟨w.heap.size + 1, 3, none⟩) z1).trans d3
        refine spec_of rfl (fun KK hK => ?_)
        go_simp
        exact hK.out _ _ (Below.refl _ _) rfl
      | 3, _ =>
        intro v w' hR hd
        have e2 : v 2 = .agg #[.string nm2, .int .i64 Wb, .int .i64 Hb, .slice B m d] := hd 2 (by decide)
        change SpecOp _ _ _ _ 3 (Act.put (canon _ v _ []) (some 12) (v 2)) w' _
        rw [e2]
        simp only [canon_nil, Act.put, List.setIfInBounds_toArray, List.set_cons_zero, List.set_cons_succ]
        refine spec_of rfl (fun KK hK => ?_)
        go_simp
        refine (HCQ.out _ (HRb.out.below hR)).mono ?_
        rintro e wn ⟨rfl, hbn⟩
        exact hK.out _ _ hbn rfl
      | 4, _ =>
        intro v w' hR hd
        change SpecOp _ _ _ _ 4 (canon _ v _ []) w' _
        simp only [canon_nil]
        refine spec_of rfl (fun KK hK => ?_)
        go_simp
        exact hK.out _ _ (Below.refl _ _) rfl
      | 5, _ =>
        intro v w' hR hd
        have e4 : v 4 = .pointer (some ⟨w.heap.size, 1, none⟩) := hd 4 (by decide)
        change SpecOp _ _ _ _ 5 (Act.put (canon _ v _ []) (some 14) (v 4)) w' _
        rw [e4]
        simp only [canon_nil, Act.put, List.setIfInBounds_toArray, List.set_cons_zero, List.set_cons_succ]
        have q0 := (hR.cell (p := ⟨w.heap.size, 1, none⟩) z0).trans c1
        refine spec_of rfl (fun KK hK => ?_)
        go_simp
        exact hK.out _ _ (Below.refl _ _) rfl
      | 6, _ =>
        intro v w' hR hd
        change SpecOp _ _ _ _ 6 (canon _ v _ []) w' _
        simp only [canon_nil]
        refine spec_of rfl (fun KK hK => ?_)
        go_simp
        exact hK.out _ _ (Below.refl _ _) rfl
      | 7, _ =>
        intro v w' hR hd
        have e6 : v 6 = .pointer (some ⟨w.heap.size + 1, 1, none⟩) := hd 6 (by decide)
        change SpecOp _ _ _ _ 7 (Act.put (canon _ v _ []) (some 16) (v 6)) w' _
        rw [e6]
        simp only [canon_nil, Act.put, List.setIfInBounds_toArray, List.set_cons_zero, List.set_cons_succ]
        have q0 := (hR.cell (p := ⟨w.heap.size + 1, 1, none⟩) z1).trans d1
        refine spec_of rfl (fun KK hK => ?_)
        go_simp
        exact hK.out _ _ (Below.refl _ _) rfl
      | 8, _ =>
        intro v w' hR hd
        have e5 : v 5 = .int .i64 (Wa) := hd 5 (by decide)
        have e7 : v 7 = .int .i64 (Wb) := hd 7 (by decide)
        change SpecOp _ _ _ _ 8 (Act.put (Act.put (canon _ v _ []) (some 17) (v 7)) (some 15) (v 5)) w' _
        rw [e5, e7]
        simp only [canon_nil, Act.put, List.setIfInBounds_toArray, List.set_cons_zero, List.set_cons_succ]
        refine spec_of rfl (fun KK hK => ?_)
        go_simp
        exact hK.out _ _ (Below.refl _ _) (by first | rfl | (simp; done) | (simp [hne]; done))
      | 9, _ =>
        intro v w' hR hd
        have e8 : v 8 = .bool true := hd 8 (by decide)
        change SpecOp _ _ _ _ 9 (Act.put (canon _ v _ []) (some 18) (v 8)) w' _
        rw [e8]
        simp only [canon_nil, Act.put, List.setIfInBounds_toArray, List.set_cons_zero, List.set_cons_succ]
        refine spec_of rfl (fun KK hK => ?_)
        go_simp
        exact hK.out _ _ (Below.refl _ _) rfl
      | 10, _ =>
        intro v w' hR hd
        have e9 : v 9 = .bool true := hd 9 (by decide)
        change SpecOp _ _ _ _ 10 (Act.put (canon _ v _ []) (some 19) (v 9)) w' _
        rw [e9]
        simp only [canon_nil, Act.put, List.setIfInBounds_toArray, List.set_cons_zero, List.set_cons_succ]
        refine spec_of rfl (fun KK hK => ?_)
        go_simp
        exact hK.out _ _ (Below.refl _ _) rfl
      | 11, _ =>
        intro v w' hR hd
        have e9 : v 9 = .bool true := hd 9 (by decide)
        have e10 : v 10 = undef := hd 10 (by decide)
        change SpecOp _ _ _ _ 11 (Act.put (Act.put (canon _ v _ []) (some 20) (v 10)) (some 19) (v 9)) w' _
        rw [e9, e10]
        simp only [canon_nil, Act.put, List.setIfInBounds_toArray, List.set_cons_zero, List.set_cons_succ]
        refine spec_of rfl (fun KK hK => ?_)
        go_simp
        exact hK.out _ _ (Below.refl _ _) rfl
      | 12, _ =>
        intro v w' hR hd
        have e9 : v 9 = .bool true := hd 9 (by decide)
        change SpecOp _ _ _ _ 12 (Act.put (canon _ v _ []) (some 19) (v 9)) w' _
        rw [e9]
        simp only [canon_nil, Act.put, List.setIfInBounds_toArray, List.set_cons_zero, List.set_cons_succ]
        refine spec_of rfl (fun KK hK => ?_)
        go_simp
        exact hK.out _ _ (Below.refl _ _) rfl
      | 13, _ =>
        intro v w' hR hd
        have e9 : v 9 = .bool true := hd 9 (by decide)
        have e12 : v 12 = undef := hd 12 (by decide)
        change SpecOp _ _ _ _ 13 (Act.put (Act.put (canon _ v _ []) (some 22) (v 12)) (some 19) (v 9)) w' _
        rw [e9, e12]
        simp only [canon_nil, Act.put, List.setIfInBounds_toArray, List.set_cons_zero, List.set_cons_succ]
        refine spec_of rfl (fun KK hK => ?_)
        go_simp
        exact hK.out _ _ (Below.refl _ _) rfl
      | 14, _ =>
        intro v w' hR hd
        have e9 : v 9 = .bool true := hd 9 (by decide)
        have e11 : v 11 = undef := hd 11 (by decide)
        have e13 : v 13 = undef := hd 13 (by decide)
        change SpecOp _ _ _ _ 14 (Act.put (Act.put (Act.put (canon _ v _ []) (some 23) (v 13)) (some 21) (v 11)) (some 19) (v 9)) w' _
        rw [e9, e11, e13]
        simp only [canon_nil, Act.put, List.setIfInBounds_toArray, List.set_cons_zero, List.set_cons_succ]
        refine spec_of rfl (fun KK hK => ?_)
        go_simp
        exact hK.out _ _ (Below.refl _ _) rfl
      | 15, _ =>
        intro v w' hR hd
        have e9 : v 9 = .bool true := hd 9 (by decide)
        have e14 : v 14 = undef := hd 14 (by decide)
        change SpecOp _ _ _ _ 15 (Act.put (Act.put (canon _ v _ []) (some 24) (v 14)) (some 19) (v 9)) w' _
        rw [e9, e14]
        simp only [canon_nil, Act.put, List.setIfInBounds_toArray, List.set_cons_zero, List.set_cons_succ]
        refine spec_of rfl (fun KK hK => ?_)
        go_simp
        exact hK.out _ _ (Below.refl _ _) rfl
      | 16, _ =>
        intro v w' hR hd
        have e15 : v 15 = .bool true := hd 15 (by decide)
        change SpecOp _ _ _ _ 16 (Act.put (canon _ v _ []) (some 25) (v 15)) w' _
        rw [e15]
        simp only [canon_nil, Act.put, List.setIfInBounds_toArray, List.set_cons_zero, List.set_cons_succ]
        refine spec_of rfl (fun KK hK => ?_)
        go_simp
        refine (errorIf_any _ _ _).mono ?_
        rintro e wn ⟨rfl, rfl⟩
        exact hK.out _ _ (Below.refl _ _) rfl
      | 17, _ =>
        intro v w' hR hd
        have e1 : v 1 = .int .i64 (pe) := hd 1 (by decide)
        have e3 : v 3 = .int .i64 (qe) := hd 3 (by decide)
        have e16 : v 16 = .int .i64 (errIf true 2) := hd 16 (by decide)
        change SpecOp _ _ _ _ 17 (Act.put (Act.put (Act.put (canon _ v _ []) (some 26) (v 16)) (some 13) (v 3)) (some 11) (v 1)) w' _
        rw [e1, e3, e16]
        simp only [canon_nil, Act.put, List.setIfInBounds_toArray, List.set_cons_zero, List.set_cons_succ]
        refine spec_of rfl (fun KK hK => ?_)
        go_simp
        exact hK.out _ _ ((Below.refl _ _).alloc (Nat.le_refl _) _) ⟨_, _, rfl, rd_of_blk (Blk.new _ _ _) rfl⟩
      | 18, _ =>
        intro v w' hR hd
        obtain ⟨A17, k17, e17, r17⟩ : ∃ A c, v 17 = .slice A 3 c ∧ Rd w' A ([pe, qe, errIf true 2].map (.int .i64)) := hd 17 (by decide)
        change SpecOp _ _ _ _ 18 (Act.put (canon _ v _ []) (some 27) (v 17)) w' _
        rw [e17]
        simp only [canon_nil, Act.put, List.setIfInBounds_toArray, List.set_cons_zero, List.set_cons_succ]
        refine spec_of rfl (fun KK hK => ?_)
        go_simp
        refine (first_n _ _ _ [_, _, _] _ rfl (by simp [maxLen]) r17).mono ?_
        rintro e wn ⟨rfl, rfl⟩
        exact hK.out _ _ (Below.refl _ _) (congrArg (Value.int .i64) (by have h := HE.out; rw [show (Wa != Wb || Ha != Hb) = true by rw [hne]; rfl] at h; exact h))
      | 19, _ =>
        intro v w' hR hd
        have e18 : v 18 = .int .i64 (z) := hd 18 (by decide)
        change SpecOp _ _ _ _ 19 (Act.put (canon _ v _ []) (some 28) (v 18)) w' _
        rw [e18]
        simp only [canon_nil, Act.put, List.setIfInBounds_toArray, List.set_cons_zero, List.set_cons_succ]
        refine spec_of rfl (fun KK hK => ?_)
        go_simp
        exact hK.out _ _ (Below.refl _ _) rfl
      | i + 20, h => exact absurd h (Nat.not_lt.2 (Nat.le_add_left 20 i))
    case hend =>
      intro v w' hR hall
      simp only [putL, Act.put, List.setIfInBounds_toArray, List.set_cons_zero, List.set_cons_succ]
      have e0 : v 0 = .agg #[.string nm, .int .i64 Wa, .int .i64 Ha, .slice A n c] := hall 0 (by decide)
      have e1 : v 1 = .int .i64 (pe) := hall 1 (by decide)
      have e2 : v 2 = .agg #[.string nm2, .int .i64 Wb, .int .i64 Hb, .slice B m d] := hall 2 (by decide)
      have e3 : v 3 = .int .i64 (qe) := hall 3 (by decide)
      have e4 : v 4 = .pointer (some ⟨w.heap.size, 1, none⟩) := hall 4 (by decide)
      have e5 : v 5 = .int .i64 (Wa) := hall 5 (by decide)
      have e6 : v 6 = .pointer (some ⟨w.heap.size + 1, 1, none⟩) := hall 6 (by decide)
      have e7 : v 7 = .int .i64 (Wb) := hall 7 (by decide)
      have e8 : v 8 = .bool true := hall 8 (by decide)
      have e9 : v 9 = .bool true := hall 9 (by decide)
      have e10 : v 10 = undef := hall 10 (by decide)
      have e11 : v 11 = undef := hall 11 (by decide)
      have e12 : v 12 = undef := hall 12 (by decide)
      have e13 : v 13 = undef := hall 13 (by decide)
      have e14 : v 14 = undef := hall 14 (by decide)
      have e15 : v 15 = .bool true := hall 15 (by decide)
      have e16 : v 16 = .int .i64 (errIf true 2) := hall 16 (by decide)
      obtain ⟨A17, k17, e17, r17⟩ : ∃ A c, v 17 = .slice A 3 c ∧ Rd w' A ([pe, qe, errIf true 2].map (.int .i64)) := hall 17 (by decide)
      have e18 : v 18 = .int .i64 (z) := hall 18 (by decide)
      have e19 : v 19 = .int .i64 (z) := hall 19 (by decide)
      rw [e19]
      clear e0 e1 e2 e3 e4 e5 e6 e7 e8 e9 e10 e11 e12 e13 e14 e15 e16 e17 e18 e19 hall r17
      have hy := HY.out.below hR
      have HB1 := Lib.hid (HB.out.trans (hR.mono HB.out.size))
      clear c0 c1 c2 c3 d0 d1 d2 d3 z0 z1
      have z1 := hy.lt
      have f0 := hy.frozen 0; have f1 := hy.frozen 1; have f2 := hy.frozen 2; have f3 := hy.frozen 3
      obtain ⟨d0, d1, d2, d3⟩ := box4 hy
      have hyy := Lib.hid (blk_set4' hy (.string ⟨#[]⟩) (.int .i64 0) (.int .i64 0) (.slice none 0 0))
      clear hy
      go_wp2
      obtain ⟨r0, r1, r2, r3⟩ := box4 hyy.out
      exact bodyPost_ret (v := .tuple #[.agg #[.string ⟨#[]⟩, .int .i64 0, .int .i64 0, .slice none 0 0], .int .i64 z]) (by simp [results, Tryz.results52, go_sem, r0, r1, r2, r3]) rfl ⟨rfl, below_set4 HB1.out (by omega) _ _ _ _⟩

set_option maxRecDepth 100000 in
theorem mapFI_blk (A : Option Addr) (c : Nat) (l : List (Nat)) (F : FuncId) (g : Nat → Int) (w : World) (hl : l.length ≤ 4096) (hr : Rd w A (l.map (Value.float .f32))) (hcf : Enters Tryz.prog F)
    (hF : ∀ x ∈ l, ∀ w, Calls Tryz.prog F #[(Value.float .f32) x] w fun e w' => e = .returned (Value.int .i64 (g x)) ∧ Below w.heap.size w w') :
    Calls Tryz.prog 168 #[.slice A l.length c, .func (.func F) #[] #[]] w fun e w' => e = .returned (.slice (some ⟨w.heap.size, 0, none⟩) l.length l.length) ∧ Blk w' w.heap.size 3 (fillN (fun j => Value.int .i64 (g (l.getD j 0))) (.int .i64 0) l.length l.length) ∧ Below w.heap.size w w' := by
  have HF := Lib.hid hF; clear hF
  have HR := Lib.hid hr; clear hr
  unfold Enters at hcf
  have hmk := fun W => Go.run_make_row' (P := Tryz.prog) 25 3 (.int .i64 0) 8 Tryz.underlying25 info_mapFI rfl .i64 .i64 l.length (by omega) (by omega) W
  go_enter Tryz.func168, Tryz.ntmps168
  go_wp2
  go_loopw [13] (fun i wr => ∃ k : Nat, k ≤ l.length ∧ i = .int .i64 k ∧ Blk wr w.heap.size 3 (fillN (fun j => Value.int .i64 (g (l.getD j 0))) (.int .i64 0) l.length k) ∧ Below w.heap.size w wr) (fun i _ => l.length - (intOf i).toNat)
  case atStart => exact ⟨0, by omega, rfl, by rw [← fill_zero]; exact Blk.new _ _ _, (Below.refl _ _).alloc (Nat.le_refl _) _⟩
  case round =>
    obtain ⟨k, hk, rfl, hb, hbel⟩ := hrel
    by_cases hlt : k < l.length
    · obtain ⟨x, hx⟩ : ∃ x, l.getD k 0 = x := ⟨_, rfl⟩
      have hxm : x ∈ l := by rw [← hx]; simp [List.getD, hlt]
      obtain ⟨ad, rfl, hbl, hc⟩ := HR.out.get (k := k) (u := (Value.float .f32) x) (by rw [← hx]; simp [List.getD, hlt])
      have hc' := (hbel.cell (by rw [block_of_add]; exact hbl)).trans hc
      have hs := hbel.size
      have HB := Lib.hid hb; clear hb
      have HBel := Lib.hid hbel; clear hbel
      have HX := Lib.hid hx; clear hx
      clear hc hmk
      go_wp2_with fail
      refine (HF.out x hxm _).mono ?_
      rintro e w1 ⟨rfl, hb1⟩
      have hblk := HB.out.below hb1
      have hcell := hblk.cell k
      rw [fill_get, if_pos hlt, if_neg (by omega)] at hcell
      have hfr := hblk.frozen k
      have hset := hblk.set_ k (Value.int .i64 (g x))
      have hfs := fill_set (fun j => Value.int .i64 (g (l.getD j 0))) (.int .i64 0) l.length k
      simp only [HX.out] at hfs
      rw [hfs] at hset
      have hbel1 := (HBel.out.trans (hb1.mono HBel.out.size)).setCell (p := ⟨w.heap.size, k, none⟩) (Nat.le_refl _) (Value.int .i64 (g x))
      have HS := Lib.hid hset; have HB1 := Lib.hid hbel1
      clear hset hbel1 hblk hb1 hfs
      go_wp2
      go_roundw
      case rel => exact ⟨k + 1, by omega, by go_num, HS.out, HB1.out⟩
      case measure => simp [intOf]; omega
    · have : k = l.length := by omega
      subst this
      go_wp2
      go_ret
      exact ⟨rfl, hb, hbel⟩
set_option maxRecDepth 100000 in
theorem levels_blk (l : List Nat) (hb : l.length ≤ 4096) (hok : ∀ b ∈ l, chk 1024 b = 0) (A : Option Addr) (c : Nat) (w : World) (hr : Rd w A (fl l)) :
    Calls Tryz.prog 118 #[.slice A l.length c] w fun e w' => e = .returned (.slice (some ⟨w.heap.size, 0, none⟩) l.length l.length) ∧ Blk w' w.heap.size 3 (fillN (fun j => Value.int .i64 (lvl (l.getD j 0))) (.int .i64 0) l.length l.length) ∧ Below w.heap.size w w' := by
  have HOK := Lib.hid hok
  have HR := Lib.hid hr
  clear hok hr
  go_enter Tryz.func118, Tryz.ntmps118
  go_wp2_with fail
  refine (mapFI_blk A c l 169 lvl _ hb HR.out enters_level (fun b hb w => level_v b (HOK.out b hb) w)).mono ?_
  rintro e w3 ⟨rfl, hrd, hb3⟩
  go_wp2
  go_ret
  exact ⟨rfl, hrd, hb3⟩

/-- The first k by f, the others by h. -/
def mixN (f h : Nat → Value) (n k : Nat) : Array Value := (Array.range n).map fun i => if i < k then f i else h i
theorem mix_get (f h : Nat → Value) (n k i : Nat) : (mixN f h n k)[i]? = if i < n then some (if i < k then f i else h i) else none := by
  unfold mixN
  by_cases hi : i < n <;> simp [hi]
theorem mix_set (f h : Nat → Value) (n k : Nat) : (mixN f h n k).setIfInBounds k (f k) = mixN f h n (k + 1) := by
  apply Array.ext_getElem?
  intro i
  rw [Array.getElem?_setIfInBounds, mix_get, mix_get]
  have hsz : (mixN f h n k).size = n := by simp [mixN]
  by_cases e : k = i
  · subst e
    by_cases hk : k < n
    · rw [if_pos rfl, if_pos (by rw [hsz]; exact hk), if_pos hk, if_pos (by omega)]
    · rw [if_pos rfl, if_neg (by rw [hsz]; exact hk), if_neg hk]
  · rw [if_neg e]
    by_cases hi : i < n
    · rw [if_pos hi, if_pos hi]
      by_cases h1 : i < k
      · rw [if_pos h1, if_pos (by omega)]
      · rw [if_neg h1, if_neg (by omega)]
    · rw [if_neg hi, if_neg hi]
theorem mix_zero (f h : Nat → Value) (z : Value) (n : Nat) : fillN h z n n = mixN f h n 0 := by
  apply Array.ext_getElem?
  intro i
  rw [fill_get, mix_get]
  by_cases hi : i < n
  · rw [if_pos hi, if_pos hi, if_pos hi, if_neg (by omega)]
  · rw [if_neg hi, if_neg hi]
theorem mix_rd {w : World} {g : Nat} {T : TypeId} {f h : Nat → Value} {n : Nat} (hb : Blk w g T (mixN f h n n)) {xs : List Value} (hx : xs.length = n) (hf : ∀ i, i < n → xs[i]? = some (f i)) : Rd w (some ⟨g, 0, none⟩) xs := fun _ =>
  ⟨_, rfl, hb.lt, fun j u hu => by
    have hj : j < n := by have := (List.getElem?_eq_some_iff.1 hu).1; omega
    have h1 := hb.cell j
    rw [mix_get, if_pos hj, if_pos hj, ← hf j hj, hu] at h1
    unfold Addr.add
    split
    · rename_i h0; subst h0; exact h1
    · simpa using h1⟩

theorem sumL_take (l k : List Nat) (n : Nat) (hl : l.length = n) (hk : k.length = n) : (sumL l k).length = n := by simp [sumL, hl, hk]
set_option maxHeartbeats 8000000 in
theorem sum_lv (nm nm2 : ByteArray) (W H : Nat) (l k : List Nat) (n : Nat) (hl : l.length = n) (hk : k.length = n) (hp : (Pic.mk nm W H l).Ok) (hq : (Pic.mk nm2 W H k).Ok) (A B : Option Addr) (c d : Nat) (w : World) (hr : Rd w A (fl l)) (hr2 : Rd w B (fl k)) :
    Calls Tryz.prog 52 #[.agg #[.string nm, .int .i64 (W : Int), .int .i64 (H : Int), .slice A n c], .agg #[.string nm2, .int .i64 (W : Int), .int .i64 (H : Int), .slice B n d]] w (JoinEnd (lvP nm W H (sumL l k)) (lvZ (sumL l k)) w) := by
  obtain ⟨_, _, _, hs, hmax⟩ := ok_sizes hp
  obtain ⟨_, _, _, hs2, hmax2⟩ := ok_sizes hq
  have hn4 : n ≤ 4096 := by rw [← hl]; exact hp.big
  have hcp := fun w hr => checkPicture_any (Pic.mk nm W H l) A c w hs hmax hr
  have hcq := fun w hr => checkPicture_any (Pic.mk nm2 W H k) B d w hs2 hmax2 hr
  rw [ok_err hp] at hcp
  rw [ok_err hq] at hcq
  simp only [Pic.val, hl] at hcp
  simp only [Pic.val, hk] at hcq
  have HCP := Lib.hid hcp; have HCQ := Lib.hid hcq
  have HLV := Lib.hid (fun w hr => (levels_blk l hp.big hp.ok A c w hr))
  have HLV2 := Lib.hid (fun w hr => (levels_blk k hq.big hq.ok B d w hr))
  rw [hl] at HLV
  rw [hk] at HLV2
  obtain ⟨G, hG⟩ : ∃ G, sumL l k = G := ⟨_, rfl⟩
  have HGN : RowKit.Hid (G.length = n) := Lib.hid (by rw [← hG]; exact sumL_take l k n hl hk)
  have HGK : RowKit.Hid (∀ j, j < n → G.getD j 0 = lvl (l.getD j 0) + lvl (k.getD j 0)) := Lib.hid (fun j hj => by rw [← hG]; simp [sumL, List.getD, hl, hk, hj])
  have HWL := Lib.hid (fun (A0 : Option Addr) (n0 c0 : Nat) (A : Option Addr) (c : Nat) (w : World) (hr : Rd w A (G.map (Value.int .i64))) => withLevels_lv nm W H A0 n0 c0 A c n G HGN.out w hn4 hr)
  have HLB : RowKit.Hid (∀ j, j < n → -16384 ≤ lvl (l.getD j 0) ∧ lvl (l.getD j 0) ≤ 16384 ∧ -16384 ≤ lvl (k.getD j 0) ∧ lvl (k.getD j 0) ≤ 16384) := Lib.hid (fun j hj => by
    have h1 := hp.lv (getD_mem (l := l) (k := j) (by rw [hl]; exact hj)); have h2 := hq.lv (getD_mem (l := k) (k := j) (by rw [hk]; exact hj)); exact ⟨h1.1, h1.2, h2.1, h2.2⟩)
  rw [hG]
  have HLL := Lib.hid hl; have HKL := Lib.hid hk
  clear hG hcp hcq hs hs2 hmax hmax2 hp hq hl hk
  obtain ⟨⟨rn, rw', rh, rl⟩, hR0⟩ : ∃ R, lvP nm W H G = R := ⟨_, rfl⟩
  obtain ⟨z, hz0⟩ : ∃ z, lvZ G = z := ⟨_, rfl⟩
  obtain ⟨rc, hrc⟩ : ∃ x, rl.length = x := ⟨_, rfl⟩
  rw [hR0, hz0] at HWL ⊢
  unfold JoinEnd at HWL ⊢
  simp only [] at HWL ⊢
  rw [hrc] at HWL ⊢
  clear hR0 hz0 hrc
  go_enter Tryz.func52, Tryz.ntmps52
  go_upto_region 1 with fail
  have hx0 := ((Blk.new w 50 #[.string nm, .int .i64 (W : Int), .int .i64 (H : Int), .slice A n c]).alloc (.cells #[.string nm2, .int .i64 (W : Int), .int .i64 (H : Int), .slice B n d] 50)).alloc (.cells #[.string ⟨#[]⟩, .int .i64 0, .int .i64 0, .slice none 0 0] 50)
  have hx1 := (Blk.new (w.alloc (.cells #[.string nm, .int .i64 (W : Int), .int .i64 (H : Int), .slice A n c] 50)) 50 #[.string nm2, .int .i64 (W : Int), .int .i64 (H : Int), .slice B n d]).alloc (.cells #[.string ⟨#[]⟩, .int .i64 0, .int .i64 0, .slice none 0 0] 50)
  have hx2 := Blk.new ((w.alloc (.cells #[.string nm, .int .i64 (W : Int), .int .i64 (H : Int), .slice A n c] 50)).alloc (.cells #[.string nm2, .int .i64 (W : Int), .int .i64 (H : Int), .slice B n d] 50)) 50 #[.string ⟨#[]⟩, .int .i64 0, .int .i64 0, .slice none 0 0]
  simp only [World.size_alloc] at hx1 hx2
  have hb0 := (((Below.refl w.heap.size w).alloc (Nat.le_refl _) (.cells #[.string nm, .int .i64 (W : Int), .int .i64 (H : Int), .slice A n c] 50)).alloc (by simp only [World.size_alloc]; omega) (.cells #[.string nm2, .int .i64 (W : Int), .int .i64 (H : Int), .slice B n d] 50)).alloc (by simp only [World.size_alloc]; omega) (.cells #[.string ⟨#[]⟩, .int .i64 0, .int .i64 0, .slice none 0 0] 50)
  generalize (((w.alloc (.cells #[.string nm, .int .i64 (W : Int), .int .i64 (H : Int), .slice A n c] 50)).alloc (.cells #[.string nm2, .int .i64 (W : Int), .int .i64 (H : Int), .slice B n d] 50)).alloc (.cells #[.string ⟨#[]⟩, .int .i64 0, .int .i64 0, .slice none 0 0] 50)) = w0 at hx0 hx1 hx2 hb0 ⊢
  obtain ⟨c0, c1, c2, c3⟩ := box4 hx0
  obtain ⟨d0, d1, d2, d3⟩ := box4 hx1
  have z0 := hx0.lt; have z1 := hx1.lt
  have HRa := Lib.hid (hr.below hb0); have HRb := Lib.hid (hr2.below hb0)
  have HX0 := Lib.hid hx0; have HX1 := Lib.hid hx1; have HY := Lib.hid hx2; have HB := Lib.hid hb0; clear hx0 hx1 hx2 hb0 hr hr2
  refine wp_region_facts [Fact.is (.agg #[.string nm, .int .i64 (W : Int), .int .i64 (H : Int), .slice A n c]), Fact.is (.int .i64 (0)), Fact.is (.agg #[.string nm2, .int .i64 (W : Int), .int .i64 (H : Int), .slice B n d]), Fact.is (.int .i64 (0)), Fact.is (.pointer (some ⟨w.heap.size, 1, none⟩)), Fact.is (.int .i64 ((W : Int))), Fact.is (.pointer (some ⟨w.heap.size + 1, 1, none⟩)), Fact.is (.int .i64 ((W : Int))), Fact.is (.bool false), Fact.is (.bool false), Fact.is (.pointer (some ⟨w.heap.size, 2, none⟩)), Fact.is (.int .i64 ((H : Int))), Fact.is (.pointer (some ⟨w.heap.size + 1, 2, none⟩)), Fact.is (.int .i64 ((H : Int))), Fact.is (.bool false), Fact.is (.bool false), Fact.is (.int .i64 (errIf false 2)), Fact.ints 3 [0, 0, errIf false 2], Fact.is (.int .i64 (0)), Fact.is (.int .i64 (0))] [[], [0], [], [2], [], [4], [], [6], [5, 7], [8], [9], [9, 10], [9], [9, 12], [9, 11, 13], [9, 14], [15], [1, 3, 16], [17], [18]] [(some 10, 0), (some 11, 1), (some 12, 2), (some 13, 3), (some 14, 4), (some 15, 5), (some 16, 6), (some 17, 7), (some 18, 8), (some 19, 9), (some 20, 10), (some 21, 11), (some 22, 12), (some 23, 13), (some 24, 14), (some 25, 15), (some 26, 16), (some 27, 17), (some 28, 18), (some 6, 19)] (by kernel_rfl) (by kernel_rfl) (by kernel_rfl) (by kernel_rfl) (fun _ _ _ _ e h => by have h1 : _ ∧ _ := h; exact ⟨e ▸ h1.1, h1.2⟩) ?hstep ?hend
  case hstep =>
    intro i hi
    match i, hi with
    | 0, _ =>
      intro v w' hR hd
      change SpecOp _ _ _ _ 0 (canon _ v _ []) w' _
      simp only [canon_nil]
      have q0 := (hR.cell (p := ⟨w.heap.size, 0, none⟩) z0).trans c0
      have q1 := (hR.cell (p := ⟨w.heap.size, 1, none⟩) z0).trans c1
      have q2 := (hR.cell (p := ⟨w.heap.size, 2, none⟩) z0).trans c2
      have q3 := (hR.cell (p := ⟨w.heap.size, 3, none⟩) z0).trans c3
      refine spec_of rfl (fun KK hK => ?_)
      go_simp
      exact hK.out _ _ (Below.refl _ _) rfl
    | 1, _ =>
      intro v w' hR hd
      have e0 : v 0 = .agg #[.string nm, .int .i64 (W : Int), .int .i64 (H : Int), .slice A n c] := hd 0 (by decide)
      change SpecOp _ _ _ _ 1 (Act.put (canon _ v _ []) (some 10) (v 0)) w' _
      rw [e0]
      simp only [canon_nil, Act.put, List.setIfInBounds_toArray, List.set_cons_zero, List.set_cons_succ]
      refine spec_of rfl (fun KK hK => ?_)
      go_simp
      refine (HCP.out _ (HRa.out.below hR)).mono ?_
      rintro e wn ⟨rfl, hbn⟩
      exact hK.out _ _ hbn rfl
    | 2, _ =>
      intro v w' hR hd
      change SpecOp _ _ _ _ 2 (canon _ v _ []) w' _
      simp only [canon_nil]
      have q0 := (hR.cell (p := ⟨w.heap.size + 1, 0, none⟩) z1).trans d0
      have q1 := (hR.cell (p := ⟨w.heap.size + 1, 1, none⟩) z1).trans d1
      have q2 := (hR.cell (p := ⟨w.heap.size + 1, 2, none⟩) z1).trans d2
      have q3 := (hR.cell (p := ⟨w.heap.size + 1, 3, none⟩) z1).trans d3
      refine spec_of rfl (fun KK hK => ?_)
      go_simp
      exact hK.out _ _ (Below.refl _ _) rfl
    | 3, _ =>
      intro v w' hR hd
      have e2 : v 2 = .agg #[.string nm2, .int .i64 (W : Int), .int .i64 (H : Int), .slice B n d] := hd 2 (by decide)
      change SpecOp _ _ _ _ 3 (Act.put (canon _ v _ []) (some 12) (v 2)) w' _
      rw [e2]
      simp only [canon_nil, Act.put, List.setIfInBounds_toArray, List.set_cons_zero, List.set_cons_succ]
      refine spec_of rfl (fun KK hK => ?_)
      go_simp
      refine (HCQ.out _ (HRb.out.below hR)).mono ?_
      rintro e wn ⟨rfl, hbn⟩
      exact hK.out _ _ hbn rfl
    | 4, _ =>
      intro v w' hR hd
      change SpecOp _ _ _ _ 4 (canon _ v _ []) w' _
      simp only [canon_nil]
      refine spec_of rfl (fun KK hK => ?_)
      go_simp
      exact hK.out _ _ (Below.refl _ _) rfl
    | 5, _ =>
      intro v w' hR hd
      have e4 : v 4 = .pointer (some ⟨w.heap.size, 1, none⟩) := hd 4 (by decide)
      change SpecOp _ _ _ _ 5 (Act.put (canon _ v _ []) (some 14) (v 4)) w' _
      rw [e4]
      simp only [canon_nil, Act.put, List.setIfInBounds_toArray, List.set_cons_zero, List.set_cons_succ]
      have q0 := (hR.cell (p := ⟨w.heap.size, 1, none⟩) z0).trans c1
      refine spec_of rfl (fun KK hK => ?_)
      go_simp
      exact hK.out _ _ (Below.refl _ _) rfl
    | 6, _ =>
      intro v w' hR hd
      change SpecOp _ _ _ _ 6 (canon _ v _ []) w' _
      simp only [canon_nil]
      refine spec_of rfl (fun KK hK => ?_)
      go_simp
      exact hK.out _ _ (Below.refl _ _) rfl
    | 7, _ =>
      intro v w' hR hd
      have e6 : v 6 = .pointer (some ⟨w.heap.size + 1, 1, none⟩) := hd 6 (by decide)
      change SpecOp _ _ _ _ 7 (Act.put (canon _ v _ []) (some 16) (v 6)) w' _
      rw [e6]
      simp only [canon_nil, Act.put, List.setIfInBounds_toArray, List.set_cons_zero, List.set_cons_succ]
      have q0 := (hR.cell (p := ⟨w.heap.size + 1, 1, none⟩) z1).trans d1
      refine spec_of rfl (fun KK hK => ?_)
      go_simp
      exact hK.out _ _ (Below.refl _ _) rfl
    | 8, _ =>
      intro v w' hR hd
      have e5 : v 5 = .int .i64 ((W : Int)) := hd 5 (by decide)
      have e7 : v 7 = .int .i64 ((W : Int)) := hd 7 (by decide)
      change SpecOp _ _ _ _ 8 (Act.put (Act.put (canon _ v _ []) (some 17) (v 7)) (some 15) (v 5)) w' _
      rw [e5, e7]
      simp only [canon_nil, Act.put, List.setIfInBounds_toArray, List.set_cons_zero, List.set_cons_succ]
      refine spec_of rfl (fun KK hK => ?_)
      go_simp
      exact hK.out _ _ (Below.refl _ _) (by first | rfl | (simp; done))
    | 9, _ =>
      intro v w' hR hd
      have e8 : v 8 = .bool false := hd 8 (by decide)
      change SpecOp _ _ _ _ 9 (Act.put (canon _ v _ []) (some 18) (v 8)) w' _
      rw [e8]
      simp only [canon_nil, Act.put, List.setIfInBounds_toArray, List.set_cons_zero, List.set_cons_succ]
      refine spec_of rfl (fun KK hK => ?_)
      go_simp
      exact hK.out _ _ (Below.refl _ _) rfl
    | 10, _ =>
      intro v w' hR hd
      have e9 : v 9 = .bool false := hd 9 (by decide)
      change SpecOp _ _ _ _ 10 (Act.put (canon _ v _ []) (some 19) (v 9)) w' _
      rw [e9]
      simp only [canon_nil, Act.put, List.setIfInBounds_toArray, List.set_cons_zero, List.set_cons_succ]
      refine spec_of rfl (fun KK hK => ?_)
      go_simp
      exact hK.out _ _ (Below.refl _ _) rfl
    | 11, _ =>
      intro v w' hR hd
      have e9 : v 9 = .bool false := hd 9 (by decide)
      have e10 : v 10 = .pointer (some ⟨w.heap.size, 2, none⟩) := hd 10 (by decide)
      change SpecOp _ _ _ _ 11 (Act.put (Act.put (canon _ v _ []) (some 20) (v 10)) (some 19) (v 9)) w' _
      rw [e9, e10]
      simp only [canon_nil, Act.put, List.setIfInBounds_toArray, List.set_cons_zero, List.set_cons_succ]
      have q0 := (hR.cell (p := ⟨w.heap.size, 2, none⟩) z0).trans c2
      refine spec_of rfl (fun KK hK => ?_)
      go_simp
      exact hK.out _ _ (Below.refl _ _) rfl
    | 12, _ =>
      intro v w' hR hd
      have e9 : v 9 = .bool false := hd 9 (by decide)
      change SpecOp _ _ _ _ 12 (Act.put (canon _ v _ []) (some 19) (v 9)) w' _
      rw [e9]
      simp only [canon_nil, Act.put, List.setIfInBounds_toArray, List.set_cons_zero, List.set_cons_succ]
      refine spec_of rfl (fun KK hK => ?_)
      go_simp
      exact hK.out _ _ (Below.refl _ _) rfl
    | 13, _ =>
      intro v w' hR hd
      have e9 : v 9 = .bool false := hd 9 (by decide)
      have e12 : v 12 = .pointer (some ⟨w.heap.size + 1, 2, none⟩) := hd 12 (by decide)
      change SpecOp _ _ _ _ 13 (Act.put (Act.put (canon _ v _ []) (some 22) (v 12)) (some 19) (v 9)) w' _
      rw [e9, e12]
      simp only [canon_nil, Act.put, List.setIfInBounds_toArray, List.set_cons_zero, List.set_cons_succ]
      have q0 := (hR.cell (p := ⟨w.heap.size + 1, 2, none⟩) z1).trans d2
      refine spec_of rfl (fun KK hK => ?_)
      go_simp
      exact hK.out _ _ (Below.refl _ _) rfl
    | 14, _ =>
      intro v w' hR hd
      have e9 : v 9 = .bool false := hd 9 (by decide)
      have e11 : v 11 = .int .i64 ((H : Int)) := hd 11 (by decide)
      have e13 : v 13 = .int .i64 ((H : Int)) := hd 13 (by decide)
      change SpecOp _ _ _ _ 14 (Act.put (Act.put (Act.put (canon _ v _ []) (some 23) (v 13)) (some 21) (v 11)) (some 19) (v 9)) w' _
      rw [e9, e11, e13]
      simp only [canon_nil, Act.put, List.setIfInBounds_toArray, List.set_cons_zero, List.set_cons_succ]
      refine spec_of rfl (fun KK hK => ?_)
      go_simp
      exact hK.out _ _ (Below.refl _ _) (by first | rfl | (simp; done))
    | 15, _ =>
      intro v w' hR hd
      have e9 : v 9 = .bool false := hd 9 (by decide)
      have e14 : v 14 = .bool false := hd 14 (by decide)
      change SpecOp _ _ _ _ 15 (Act.put (Act.put (canon _ v _ []) (some 24) (v 14)) (some 19) (v 9)) w' _
      rw [e9, e14]
      simp only [canon_nil, Act.put, List.setIfInBounds_toArray, List.set_cons_zero, List.set_cons_succ]
      refine spec_of rfl (fun KK hK => ?_)
      go_simp
      exact hK.out _ _ (Below.refl _ _) rfl
    | 16, _ =>
      intro v w' hR hd
      have e15 : v 15 = .bool false := hd 15 (by decide)
      change SpecOp _ _ _ _ 16 (Act.put (canon _ v _ []) (some 25) (v 15)) w' _
      rw [e15]
      simp only [canon_nil, Act.put, List.setIfInBounds_toArray, List.set_cons_zero, List.set_cons_succ]
      refine spec_of rfl (fun KK hK => ?_)
      go_simp
      refine (errorIf_any _ _ _).mono ?_
      rintro e wn ⟨rfl, rfl⟩
      exact hK.out _ _ (Below.refl _ _) rfl
    | 17, _ =>
      intro v w' hR hd
      have e1 : v 1 = .int .i64 (0) := hd 1 (by decide)
      have e3 : v 3 = .int .i64 (0) := hd 3 (by decide)
      have e16 : v 16 = .int .i64 (errIf false 2) := hd 16 (by decide)
      change SpecOp _ _ _ _ 17 (Act.put (Act.put (Act.put (canon _ v _ []) (some 26) (v 16)) (some 13) (v 3)) (some 11) (v 1)) w' _
      rw [e1, e3, e16]
      simp only [canon_nil, Act.put, List.setIfInBounds_toArray, List.set_cons_zero, List.set_cons_succ]
      refine spec_of rfl (fun KK hK => ?_)
      go_simp
      exact hK.out _ _ ((Below.refl _ _).alloc (Nat.le_refl _) _) ⟨_, _, rfl, rd_of_blk (Blk.new _ _ _) rfl⟩
    | 18, _ =>
      intro v w' hR hd
      obtain ⟨A17, k17, e17, r17⟩ : ∃ A c, v 17 = .slice A 3 c ∧ Rd w' A ([0, 0, errIf false 2].map (.int .i64)) := hd 17 (by decide)
      change SpecOp _ _ _ _ 18 (Act.put (canon _ v _ []) (some 27) (v 17)) w' _
      rw [e17]
      simp only [canon_nil, Act.put, List.setIfInBounds_toArray, List.set_cons_zero, List.set_cons_succ]
      refine spec_of rfl (fun KK hK => ?_)
      go_simp
      refine (first_n _ _ _ [_, _, _] _ rfl (by simp [maxLen]) r17).mono ?_
      rintro e wn ⟨rfl, rfl⟩
      exact hK.out _ _ (Below.refl _ _) (congrArg (Value.int .i64) (by simp [firstE, errIf]))
    | 19, _ =>
      intro v w' hR hd
      have e18 : v 18 = .int .i64 (0) := hd 18 (by decide)
      change SpecOp _ _ _ _ 19 (Act.put (canon _ v _ []) (some 28) (v 18)) w' _
      rw [e18]
      simp only [canon_nil, Act.put, List.setIfInBounds_toArray, List.set_cons_zero, List.set_cons_succ]
      refine spec_of rfl (fun KK hK => ?_)
      go_simp
      exact hK.out _ _ (Below.refl _ _) rfl
    | i + 20, h => exact absurd h (Nat.not_lt.2 (Nat.le_add_left 20 i))
  case hend =>
    intro v w' hR hall
    simp only [putL, Act.put, List.setIfInBounds_toArray, List.set_cons_zero, List.set_cons_succ]
    have e0 : v 0 = .agg #[.string nm, .int .i64 (W : Int), .int .i64 (H : Int), .slice A n c] := hall 0 (by decide)
    have e1 : v 1 = .int .i64 (0) := hall 1 (by decide)
    have e2 : v 2 = .agg #[.string nm2, .int .i64 (W : Int), .int .i64 (H : Int), .slice B n d] := hall 2 (by decide)
    have e3 : v 3 = .int .i64 (0) := hall 3 (by decide)
    have e4 : v 4 = .pointer (some ⟨w.heap.size, 1, none⟩) := hall 4 (by decide)
    have e5 : v 5 = .int .i64 ((W : Int)) := hall 5 (by decide)
    have e6 : v 6 = .pointer (some ⟨w.heap.size + 1, 1, none⟩) := hall 6 (by decide)
    have e7 : v 7 = .int .i64 ((W : Int)) := hall 7 (by decide)
    have e8 : v 8 = .bool false := hall 8 (by decide)
    have e9 : v 9 = .bool false := hall 9 (by decide)
    have e10 : v 10 = .pointer (some ⟨w.heap.size, 2, none⟩) := hall 10 (by decide)
    have e11 : v 11 = .int .i64 ((H : Int)) := hall 11 (by decide)
    have e12 : v 12 = .pointer (some ⟨w.heap.size + 1, 2, none⟩) := hall 12 (by decide)
    have e13 : v 13 = .int .i64 ((H : Int)) := hall 13 (by decide)
    have e14 : v 14 = .bool false := hall 14 (by decide)
    have e15 : v 15 = .bool false := hall 15 (by decide)
    have e16 : v 16 = .int .i64 (errIf false 2) := hall 16 (by decide)
    obtain ⟨A17, k17, e17, r17⟩ : ∃ A c, v 17 = .slice A 3 c ∧ Rd w' A ([0, 0, errIf false 2].map (.int .i64)) := hall 17 (by decide)
    have e18 : v 18 = .int .i64 (0) := hall 18 (by decide)
    have e19 : v 19 = .int .i64 (0) := hall 19 (by decide)
    rw [e19]
    clear e0 e1 e2 e3 e4 e5 e6 e7 e8 e9 e10 e11 e12 e13 e14 e15 e16 e17 e18 e19 hall r17
    clear c0 c1 c2 c3 d0 d1 d2 d3 z0 z1
    replace HX0 := Lib.hid (HX0.out.below hR); replace HX1 := Lib.hid (HX1.out.below hR); replace HY := Lib.hid (HY.out.below hR); replace HRa := Lib.hid (HRa.out.below hR); replace HRb := Lib.hid (HRb.out.below hR); replace HB := Lib.hid (HB.out.trans (hR.mono HB.out.size))
    clear hR
    obtain ⟨c0, c1, c2, c3⟩ := box4 HX0.out
    go_wp2_with fail
    refine (HLV.out _ HRa.out).mono ?_
    rintro e u1 ⟨rfl, hg1, hb1⟩
    have hgz := HB.out.size
    have hy0 := HY.out.lt
    obtain ⟨g1, hg⟩ : ∃ b, w'.heap.size = b := ⟨_, rfl⟩
    rw [hg] at hg1 hgz hy0 ⊢
    have HGB : RowKit.Hid (w.heap.size + 1 + 1 < g1) := Lib.hid hy0
    replace HX0 := Lib.hid (HX0.out.below hb1); replace HX1 := Lib.hid (HX1.out.below hb1); replace HY := Lib.hid (HY.out.below hb1); replace HRb := Lib.hid (HRb.out.below hb1); replace HB := Lib.hid (HB.out.trans (hb1.mono HB.out.size))
    rw [mix_zero (fun j => Value.int .i64 (G.getD j 0))] at hg1
    have HG1 := Lib.hid hg1
    clear hg1 hb1 hg hgz hy0 c0 c1 c2 c3
    obtain ⟨d0, d1, d2, d3⟩ := box4 HX1.out
    go_wp2_with fail
    refine (HLV2.out _ HRb.out).mono ?_
    rintro e u2 ⟨rfl, hg2, hb1⟩
    have hgz := HG1.out.lt
    have hy0 := HY.out.lt
    obtain ⟨g2, hg⟩ : ∃ b, u1.heap.size = b := ⟨_, rfl⟩
    rw [hg] at hg2 hgz hy0 ⊢
    have HNG : RowKit.Hid (¬ g2 = g1) := Lib.hid (by omega)
    have HGC : RowKit.Hid (w.heap.size + 1 + 1 < g2) := Lib.hid hy0

    replace HX0 := Lib.hid (HX0.out.below hb1); replace HX1 := Lib.hid (HX1.out.below hb1); replace HY := Lib.hid (HY.out.below hb1); replace HG1 := Lib.hid (HG1.out.below hb1); replace HB := Lib.hid (HB.out.trans (hb1.mono HB.out.size))
    have HG2 := Lib.hid hg2
    clear hg2 hb1 hg hgz hy0 d0 d1 d2 d3 HX1
    go_wp2
    go_loopw [40] (fun i wr => ∃ y : Nat, y ≤ n ∧ i = .int .i64 y ∧ Blk wr w.heap.size 50 #[.string nm, .int .i64 (W : Int), .int .i64 (H : Int), .slice A n c] ∧ Blk wr (w.heap.size + 1 + 1) 50 #[.string ⟨#[]⟩, .int .i64 0, .int .i64 0, .slice none 0 0] ∧ Blk wr g2 3 (fillN (fun j => Value.int .i64 (lvl (k.getD j 0))) (.int .i64 0) n n) ∧ Blk wr g1 3 (mixN (fun j => Value.int .i64 (G.getD j 0)) (fun j => Value.int .i64 (lvl (l.getD j 0))) n y) ∧ Below w.heap.size w wr) (fun i _ => n - (intOf i).toNat)
    case atStart => exact ⟨0, by omega, rfl, HX0.out, HY.out, HG2.out, HG1.out, HB.out⟩
    case round =>
      clear HX0 HY HG1 HG2 HB
      obtain ⟨y, hy, rfl, hx0, hy0, hg2, hg1, hbel⟩ := hrel
      obtain ⟨wo, rfl⟩ : ∃ wo : World, wo = wr := ⟨_, rfl⟩
      have HX0 := Lib.hid hx0; have HY := Lib.hid hy0; have HG2 := Lib.hid hg2; have HG1 := Lib.hid hg1; have HB := Lib.hid hbel
      clear hx0 hy0 hg2 hg1 hbel
      by_cases hlt : y < n
      · obtain ⟨x, hx⟩ : ∃ x, lvl (l.getD y 0) = x := ⟨_, rfl⟩
        obtain ⟨z', hz⟩ : ∃ z, lvl (k.getD y 0) = z := ⟨_, rfl⟩
        obtain ⟨b1, b2, b3, b4⟩ := HLB.out y hlt
        have h1 := HG1.out.cell y
        rw [mix_get, if_pos hlt, if_neg (by omega)] at h1
        have h2 := HG2.out.cell y
        rw [fill_get, if_pos hlt, if_pos hlt] at h2
        rw [hx] at h1 b1 b2
        rw [hz] at h2 b3 b4
        have hfr := HG1.out.frozen y
        obtain ⟨m, hm⟩ : ∃ m, x + z' = m := ⟨_, rfl⟩
        have hw : IntKind.i64.wrap (x + z') = m := by rw [IntWalk.i64_in _ (by omega)]; exact hm
        have HGY : RowKit.Hid (G.getD y 0 = m) := Lib.hid (by rw [HGK.out y hlt, hx, hz, hm])
        have i0 : (0 : Int) ≤ (y : Int) := by omega
        have i1 : (y : Int) < (n : Int) := by omega
        have z1 := HG1.out.lt; have z2 := HG2.out.lt
        have HSET := Lib.hid (show Blk (wo.setCell ⟨g1, y, none⟩ (.int .i64 m)) g1 3 (mixN (fun j => Value.int .i64 (G.getD j 0)) (fun j => Value.int .i64 (lvl (l.getD j 0))) n (y + 1)) from by
          have h := HG1.out.set_ y (.int .i64 m)
          have h3 := mix_set (fun j => Value.int .i64 (G.getD j 0)) (fun j => Value.int .i64 (lvl (l.getD j 0))) n y
          simp only [HGY.out] at h3
          rw [h3] at h; exact h)
        have HW := Lib.hid (And.intro hx (And.intro hz hm))
        clear hx hz hm
        go_wp2
        go_roundw
        case rel => exact ⟨y + 1, by omega, by go_num, HX0.out.far (p := ⟨g1, y, none⟩) (by have := HGB.out; simp; omega) (.int .i64 m), HY.out.far (p := ⟨g1, y, none⟩) (by have := HGB.out; simp; omega) (.int .i64 m), HG2.out.far (p := ⟨g1, y, none⟩) HNG.out (.int .i64 m), HSET.out, HB.out.setCell (p := ⟨g1, y, none⟩) (by have := HGB.out; simp; omega) (.int .i64 m)⟩
        case measure => simp [intOf]; omega
      · have hye : y = n := by omega
        subst hye
        obtain ⟨c0, c1, c2, c3⟩ := box4 HX0.out
        have hrd := mix_rd (xs := G.map (Value.int .i64)) HG1.out (by simp [HGN.out]) (fun i hi => by simp [List.getD, HGN.out, hi])
        have HRD := Lib.hid hrd; clear hrd
        go_wp2_with fail
        refine (HWL.out A y c _ _ _ HRD.out).mono ?_
        rintro e u3 ⟨A3, k3, rfl, hrd3, hb1⟩
        have hyb := HY.out.below hb1
        have HBE := Lib.hid (HB.out.trans (hb1.mono HB.out.size))
        have HRE := Lib.hid (rd_set4 hrd3 hyb (.four rfl rfl rfl rfl) (.string rn) (.int .i64 rw') (.int .i64 rh) (.slice A3 rc k3) rfl rfl rfl)
        have zy := hyb.lt
        have f0 := hyb.frozen 0; have f1 := hyb.frozen 1; have f2 := hyb.frozen 2; have f3 := hyb.frozen 3
        obtain ⟨d0, d1, d2, d3⟩ := box4 hyb
        have hyy := Lib.hid (blk_set4' hyb (.string rn) (.int .i64 rw') (.int .i64 rh) (.slice A3 rc k3))
        clear hyb hb1 hrd3 c0 c1 c2 c3
        go_wp2
        obtain ⟨r0, r1, r2, r3⟩ := box4 hyy.out
        exact bodyPost_ret (v := .tuple #[.agg #[.string rn, .int .i64 rw', .int .i64 rh, .slice A3 rc k3], .int .i64 z]) (by simp [results, Tryz.results52, go_sem, r0, r1, r2, r3]) rfl ⟨A3, k3, rfl, HRE.out, below_set4 HBE.out (by omega) _ _ _ _⟩

set_option maxHeartbeats 1000000 in
theorem scaled_lv (nm : ByteArray) (W H : Nat) (l : List Nat) (hp : (Pic.mk nm W H l).Ok) (he : (Pic.mk nm W H l).err = 0) (num den : Int) (hnum : -1000 ≤ num ∧ num ≤ 1000) (hden : 1 ≤ den ∧ den ≤ 1000) (A : Option Addr) (c : Nat) (w : World) (hs : nm.size ≤ maxLen) (hr : Rd w A (fl l)) :
    Calls Tryz.prog 53 #[.agg #[.string nm, .int .i64 (W : Int), .int .i64 (H : Int), .slice A l.length c], .int .i64 num, .int .i64 den] w (JoinEnd (lvP nm W H (scaledL l num den)) (lvZ (scaledL l num den)) w) := by
  obtain ⟨⟨rn, rw', rh, rl⟩, hR0⟩ : ∃ R, lvP nm W H (scaledL l num den) = R := ⟨_, rfl⟩
  obtain ⟨z, hz0⟩ : ∃ z, lvZ (scaledL l num den) = z := ⟨_, rfl⟩
  have HWL := Lib.hid (fun (A0 : Option Addr) (n0 c0 : Nat) (A : Option Addr) (c : Nat) (w : World) (hr : Rd w A ((scaledL l num den).map (Value.int .i64))) => withLevels_lv nm W H A0 n0 c0 A c l.length (scaledL l num den) (by simp [scaledL]) w hp.big hr)
  obtain ⟨rc, hrc⟩ : ∃ x, rl.length = x := ⟨_, rfl⟩
  rw [hR0, hz0] at HWL ⊢
  unfold JoinEnd at HWL ⊢
  simp only [] at HWL ⊢
  rw [hrc] at HWL ⊢
  clear hR0 hz0 hrc
  have hbig : l.length ≤ 4096 := hp.big
  have hl : l.length ≤ maxLen := Nat.le_trans hbig (by decide)
  have HSE : RowKit.Hid (scaledL l num den = (l.map lvl).map (fun n => nearestN (n * num) den)) := Lib.hid (by simp [scaledL])
  have HR := Lib.hid hr; have HP := Lib.hid hp
  have hcp := fun w hr => checkPicture_any (Pic.mk nm W H l) A c w hs hl hr
  rw [he] at hcp
  simp only [Pic.val] at hcp
  have HCP := Lib.hid hcp
  have ho1 : outs num (-1000) 1000 = 0 := by simp [outs, errIf]; omega
  have ho2 : outs den 1 1000 = 0 := by simp [outs, errIf]; omega
  have HO1 := Lib.hid ho1; have HO2 := Lib.hid ho2
  clear hr hp he hcp ho1 ho2 hl hs
  go_enter Tryz.func53, Tryz.ntmps53
  go_wp2_with fail
  have hbx := ((Blk.new w 50 #[.string nm, .int .i64 (W : Int), .int .i64 (H : Int), .slice A l.length c]).alloc (.cells #[.int .i64 num] 3)).alloc (.cells #[.int .i64 den] 3)
  have hby := (Blk.new (w.alloc (.cells #[.string nm, .int .i64 (W : Int), .int .i64 (H : Int), .slice A l.length c] 50)) 3 #[.int .i64 num]).alloc (.cells #[.int .i64 den] 3)
  have hbz := Blk.new ((w.alloc (.cells #[.string nm, .int .i64 (W : Int), .int .i64 (H : Int), .slice A l.length c] 50)).alloc (.cells #[.int .i64 num] 3)) 3 #[.int .i64 den]
  simp only [World.size_alloc] at hby hbz
  have hb0 : Below w.heap.size w (((w.alloc (.cells #[.string nm, .int .i64 (W : Int), .int .i64 (H : Int), .slice A l.length c] 50)).alloc (.cells #[.int .i64 num] 3)).alloc (.cells #[.int .i64 den] 3)) := (((Below.refl _ _).alloc (Nat.le_refl _) _).alloc (by simp) _).alloc (by simp only [World.size_alloc]; omega) _
  have hsz : (((w.alloc (.cells #[.string nm, .int .i64 (W : Int), .int .i64 (H : Int), .slice A l.length c] 50)).alloc (.cells #[.int .i64 num] 3)).alloc (.cells #[.int .i64 den] 3)).heap.size = w.heap.size + 1 + 1 + 1 := by simp only [World.size_alloc]
  generalize ((w.alloc (.cells #[.string nm, .int .i64 (W : Int), .int .i64 (H : Int), .slice A l.length c] 50)).alloc (.cells #[.int .i64 num] 3)).alloc (.cells #[.int .i64 den] 3) = w0 at hbx hby hbz hb0 hsz ⊢
  have HSZ := Lib.hid hsz; clear hsz
  have z0 := hbx.lt; have z1 := hby.lt; have z2 := hbz.lt
  obtain ⟨c0, c1, c2, c3⟩ := box4 hbx
  have c4 := hby.cell 0
  have c5 := hbz.cell 0
  simp only [List.getElem?_toArray, List.getElem?_cons_zero] at c4 c5
  have HB0 := Lib.hid hb0; clear hb0 hbx hby hbz
  have hg := Blk.new w0 50 #[.string ⟨#[]⟩, .int .i64 0, .int .i64 0, .slice none 0 0]
  rw [HSZ.out] at hg
  have hs1 := sk_alloc (sk_refl w0) (.cells #[.string ⟨#[]⟩, .int .i64 0, .int .i64 0, .slice none 0 0] 50)
  generalize w0.alloc (.cells #[.string ⟨#[]⟩, .int .i64 0, .int .i64 0, .slice none 0 0] 50) = w1 at hg hs1 ⊢
  have zg := hg.lt
  go_region_held3 (SK w0)
    (first | exact sk_drew (by assumption) | assumption | exact sk_call (by assumption) (by assumption) | exact sk_alloc (by assumption) _)
    (first
      | (go_at_call 37; refine (HCP.out _ (HR.out.below (HB0.out.trans ((And.left (by assumption : SK w0 _)).mono HB0.out.size)))).mono ?_; rintro e wn ⟨rfl, hbn⟩; have hch := sk_call (w0 := w0) (by assumption) hbn; have hg := Blk.below (g := w.heap.size + 1 + 1 + 1) (by assumption) hbn)
      | (go_at_call 98; refine (outside_any _ _ _ _).mono ?_; rintro e wn ⟨rfl, rfl⟩)
      | (go_at_call 97; refine (first_n _ _ _ [0, _, _] _ rfl (by simp [maxLen]) (by exact rd_of_blk (Blk.new _ _ _) rfl)).mono ?_; rintro e wn ⟨rfl, rfl⟩; rw [show firstE [0, outs num (-1000) 1000, outs den 1 1000] = 0 by simp [firstE, HO1.out, HO2.out]]))
  have hch := sk_alloc hch (.cells #[.int .i64 0, .int .i64 (outs num (-1000) 1000), .int .i64 (outs den 1 1000)] 26)
  have hg := hg.alloc (.cells #[.int .i64 0, .int .i64 (outs num (-1000) 1000), .int .i64 (outs den 1 1000)] 26)
  generalize wn.alloc (.cells #[.int .i64 0, .int .i64 (outs num (-1000) 1000), .int .i64 (outs den 1 1000)] 26) = w2 at hch hg ⊢
  go_wp2_with fail
  go_region_held3 (SK w0)
    (first | exact sk_drew (by assumption) | assumption | exact sk_call (by assumption) (by assumption) | exact sk_alloc (by assumption) _ | exact sk_set4 (by assumption) (by have := HSZ.out; omega) _ _ _ _)
    (first
      | (go_at_call 118; refine (levels_any l HP.out.big HP.out.ok A c _ (HR.out.below (HB0.out.trans ((And.left (by assumption : SK w0 _)).mono HB0.out.size)))).mono ?_; rintro e wn ⟨ad1, rfl, hrd1, hbn⟩; have hch := sk_call (w0 := w0) (by assumption) hbn; have hg := Blk.below (g := w.heap.size + 1 + 1 + 1) (by assumption) hbn)
      | (go_at_call 120; refine (mapII2_n l.length (some ad1) _ (l.map lvl) (by simp) 121 ⟨w.heap.size + 1, 0, none⟩ ⟨w.heap.size + 1 + 1, 0, none⟩ (fun n => nearestN (n * num) den) _ hbig (by rw [List.map_map]; exact hrd1) enters_scaled1 (fun x hx wx hbx => (scaled1_any x num den _ _ wx (by obtain ⟨b, hb, rfl⟩ := List.mem_map.1 hx; exact HP.out.lv hb) hnum hden (((sk_call hch hbx).2.1 _ _ z1).trans c4) (((sk_call hch hbx).2.1 _ _ z2).trans c5)).mono fun e w' ⟨h1, h2⟩ => ⟨h1, by rw [← h2]; exact Below.refl _ _⟩)).mono ?_; rintro e wn ⟨ad2, rfl, hrd2, hbn⟩; have hch := sk_call (w0 := w0) (by assumption) hbn; have hg := Blk.below (g := w.heap.size + 1 + 1 + 1) (by assumption) hbn)
      | (go_at_call 119; refine (HWL.out A l.length c (some ad2) _ _ (by rw [HSE.out]; exact hrd2)).mono ?_; rintro e wn ⟨ad3, k3, rfl, hrd3, hbn⟩; have hch := sk_call (w0 := w0) (by assumption) hbn; have hg := Blk.below (g := w.heap.size + 1 + 1 + 1) (by assumption) hbn; obtain ⟨d0, d1, d2, d3⟩ := box4 hg; have fy := fun i => hg.frozen i))
  all_goals
    have HRD := Lib.hid (rd_set4 hrd3 hg (.four rfl rfl rfl rfl) (.string rn) (.int .i64 rw') (.int .i64 rh) (.slice ad3 rc k3) rfl rfl rfl)
    have HBB := Lib.hid (below_set4 (HB0.out.trans (hch.1.mono HB0.out.size)) (g := w.heap.size + 1 + 1 + 1) (by omega) (.string rn) (.int .i64 rw') (.int .i64 rh) (.slice ad3 rc k3))
    go_wp2
    exact bodyPost_ret (v := .tuple #[.agg #[.string rn, .int .i64 rw', .int .i64 rh, .slice ad3 rc k3], .int .i64 z]) (by simp [results, Tryz.results53, go_sem, d0, d1, d2, d3]) rfl ⟨ad3, k3, rfl, HRD.out, HBB.out⟩
end Go.Proofs.YtlicgblagkkcfaaGreatDoor
