/- Parts of a proof: Sum, Scaled and Mean of the code. A region that draws its order and stores into one older box without floats. Sum, Scaled, Energy, Peak and Mean: what each gives, by the code and by the reference. -/
import Derived.Test.YtfgeokeankfplaaGreatDoorS1
import Derived.Test.YtfgeokeankfplaaGreatDoorP4
namespace Go.Proofs.YtfgeokeankfplaaGreatDoor
open Go.RowKit
set_option linter.unusedVariables false
attribute [local go_sem] run_store_float
set_option maxRecDepth 100000

theorem withLevels_bad (nm : ByteArray) (W H : Int) (A0 : Option Addr) (n0 c0 : Nat) (A : Option Addr) (c : Nat) (l : List Int) (hb : l.any largeB = true) (w : World) (hl : l.length ≤ 4096) (hr : Rd w A (l.map (Value.int .i64))) :
    Calls Tryz.prog 119 #[.agg #[.string nm, .int .i64 W, .int .i64 H, .slice A0 n0 c0], .slice A l.length c] w fun e w' => e = .returned (.tuple #[.agg #[.string ⟨#[]⟩, .int .i64 0, .int .i64 0, .slice none 0 0], .int .i64 4]) ∧ Below w.heap.size w w' := by
  have HB := Lib.hid hb; clear hb
  have HR := Lib.hid hr; clear hr
  go_enter Tryz.func119, Tryz.ntmps119
  go_wp2_with fail
  have hby := Blk.new (w.alloc (.cells #[.string nm, .int .i64 W, .int .i64 H, .slice A0 n0 c0] 50)) 50 #[.string ⟨#[]⟩, .int .i64 0, .int .i64 0, .slice none 0 0]
  simp only [World.size_alloc] at hby
  have hb0 : Below w.heap.size w ((w.alloc (.cells #[.string nm, .int .i64 W, .int .i64 H, .slice A0 n0 c0] 50)).alloc (.cells #[.string ⟨#[]⟩, .int .i64 0, .int .i64 0, .slice none 0 0] 50)) := ((Below.refl _ _).alloc (Nat.le_refl _) _).alloc (by simp) _
  generalize (w.alloc (.cells #[.string nm, .int .i64 W, .int .i64 H, .slice A0 n0 c0] 50)).alloc (.cells #[.string ⟨#[]⟩, .int .i64 0, .int .i64 0, .slice none 0 0] 50) = w0 at hby hb0 ⊢
  refine (samples_err A c l HB.out _ hl (HR.out.below hb0)).mono ?_
  rintro e w3 ⟨rfl, hb3⟩
  have hy := hby.below hb3
  have HBB := Lib.hid (hb0.trans (hb3.mono hb0.size))
  have z1 := hy.lt
  have f0 := hy.frozen 0; have f1 := hy.frozen 1; have f2 := hy.frozen 2; have f3 := hy.frozen 3
  obtain ⟨d0, d1, d2, d3⟩ := box4 hy
  have hyy := Lib.hid (blk_set4' hy (.string ⟨#[]⟩) (.int .i64 0) (.int .i64 0) (.slice none 0 0))
  clear hby hb0 hb3 hy
  go_wp2
  obtain ⟨r0, r1, r2, r3⟩ := box4 hyy.out
  exact bodyPost_ret (v := .tuple #[.agg #[.string ⟨#[]⟩, .int .i64 0, .int .i64 0, .slice none 0 0], .int .i64 4]) (by simp [results, Tryz.results119, go_sem, r0, r1, r2, r3]) rfl ⟨rfl, below_set4 HBB.out (by omega) _ _ _ _⟩
theorem withLevels_lv (nm : ByteArray) (W H : Int) (A0 : Option Addr) (n0 c0 : Nat) (A : Option Addr) (c n : Nat) (l : List Int) (hn : l.length = n) (w : World) (hl : n ≤ 4096) (hr : Rd w A (l.map (Value.int .i64))) :
    Calls Tryz.prog 119 #[.agg #[.string nm, .int .i64 W, .int .i64 H, .slice A0 n0 c0], .slice A n c] w (JoinEnd (lvP nm W H l) (lvZ l) w) := by
  subst hn
  cases h : l.any largeB
  · rw [(lv_good (nm := nm) (W := W) (H := H) h).1, (lv_good (nm := nm) (W := W) (H := H) h).2]
    exact (withLevels_ok nm W H A0 n0 c0 A c l h w hl hr).mono fun e w' ⟨ad, h1, h2, h3⟩ => ⟨some ad, l.length, by rw [h1]; simp, h2, h3⟩
  · exact (withLevels_bad nm W H A0 n0 c0 A c l h w hl hr).mono fun e w' ⟨h1, h2⟩ => join_bad h h1 h2

def sumErr (p q : Pic) : Int := firstE [p.err, q.err, errIf (p.w != q.w || p.h != q.h) 2]
set_option maxHeartbeats 4000000 in
theorem sum_err (p q : Pic) (A B : Option Addr) (c d : Nat) (w : World) (hs : p.name.size ≤ maxLen) (hl : p.l.length ≤ maxLen) (hs2 : q.name.size ≤ maxLen) (hl2 : q.l.length ≤ maxLen) (hr : Rd w A (fl p.l)) (hr2 : Rd w B (fl q.l)) (z : Int) (he : sumErr p q = z) (hz : z ≠ 0) :
    Calls Tryz.prog 52 #[p.val A c, q.val B d] w fun e w' => e = .returned (.tuple #[.agg #[.string ⟨#[]⟩, .int .i64 0, .int .i64 0, .slice none 0 0], .int .i64 z]) ∧ Below w.heap.size w w' := by
  have hcp := fun w hr => checkPicture_any p A c w hs hl hr
  have hcq := fun w hr => checkPicture_any q B d w hs2 hl2 hr
  unfold sumErr at he
  unfold Pic.val at hcp hcq ⊢
  obtain ⟨pe, hpe⟩ : ∃ z, p.err = z := ⟨_, rfl⟩
  obtain ⟨qe, hqe⟩ : ∃ z, q.err = z := ⟨_, rfl⟩
  rw [hpe] at hcp he
  rw [hqe] at hcq he
  clear hpe hqe
  obtain ⟨nm, Wa, Ha, l⟩ := p
  obtain ⟨nm2, Wb, Hb, k⟩ := q
  simp only [] at hcp hcq he hr hr2 ⊢
  obtain ⟨n, hn⟩ : ∃ n, l.length = n := ⟨_, rfl⟩
  obtain ⟨m, hm⟩ : ∃ m, k.length = m := ⟨_, rfl⟩
  rw [hn] at hcp ⊢
  rw [hm] at hcq ⊢
  clear hn hm hs hl hs2 hl2
  have HE := Lib.hid he; have HCP := Lib.hid hcp; have HCQ := Lib.hid hcq
  have hz' : (z != 0) = true := by simpa using hz
  clear he hcp hcq hz
  go_enter Tryz.func52, Tryz.ntmps52
  go_upto_region 1 with fail
  have hx0 := ((Blk.new w 50 #[.string nm, .int .i64 Wa, .int .i64 Ha, .slice A n c]).alloc (.cells #[.string nm2, .int .i64 Wb, .int .i64 Hb, .slice B m d] 50)).alloc (.cells #[.string ⟨#[]⟩, .int .i64 0, .int .i64 0, .slice none 0 0] 50)
  have hx1 := (Blk.new (w.alloc (.cells #[.string nm, .int .i64 Wa, .int .i64 Ha, .slice A n c] 50)) 50 #[.string nm2, .int .i64 Wb, .int .i64 Hb, .slice B m d]).alloc (.cells #[.string ⟨#[]⟩, .int .i64 0, .int .i64 0, .slice none 0 0] 50)
  have hx2 := Blk.new ((w.alloc (.cells #[.string nm, .int .i64 Wa, .int .i64 Ha, .slice A n c] 50)).alloc (.cells #[.string nm2, .int .i64 Wb, .int .i64 Hb, .slice B m d] 50)) 50 #[.string ⟨#[]⟩, .int .i64 0, .int .i64 0, .slice none 0 0]
  simp only [World.size_alloc] at hx1 hx2
  have hb0 := (((Below.refl w.heap.size w).alloc (Nat.le_refl _) (.cells #[.string nm, .int .i64 Wa, .int .i64 Ha, .slice A n c] 50)).alloc (by simp only [World.size_alloc]; omega) (.cells #[.string nm2, .int .i64 Wb, .int .i64 Hb, .slice B m d] 50)).alloc (by simp only [World.size_alloc]; omega) (.cells #[.string ⟨#[]⟩, .int .i64 0, .int .i64 0, .slice none 0 0] 50)
  generalize (((w.alloc (.cells #[.string nm, .int .i64 Wa, .int .i64 Ha, .slice A n c] 50)).alloc (.cells #[.string nm2, .int .i64 Wb, .int .i64 Hb, .slice B m d] 50)).alloc (.cells #[.string ⟨#[]⟩, .int .i64 0, .int .i64 0, .slice none 0 0] 50)) = w0 at hx0 hx1 hx2 hb0 ⊢
  obtain ⟨c0, c1, c2, c3⟩ := box4 hx0
  obtain ⟨d0, d1, d2, d3⟩ := box4 hx1
  have z0 := hx0.lt; have z1 := hx1.lt
  have HRa := Lib.hid (hr.below hb0); have HRb := Lib.hid (hr2.below hb0)
  have HX0 := Lib.hid hx0; have HX1 := Lib.hid hx1; have HY := Lib.hid hx2; have HB := Lib.hid hb0; clear hx0 hx1 hx2 hb0 hr hr2
  by_cases hW : Wa = Wb
  · subst hW
    refine wp_region_facts [Fact.is (.agg #[.string nm, .int .i64 Wa, .int .i64 Ha, .slice A n c]), Fact.is (.int .i64 (pe)), Fact.is (.agg #[.string nm2, .int .i64 Wa, .int .i64 Hb, .slice B m d]), Fact.is (.int .i64 (qe)), Fact.is (.pointer (some ⟨w.heap.size, 1, none⟩)), Fact.is (.int .i64 (Wa)), Fact.is (.pointer (some ⟨w.heap.size + 1, 1, none⟩)), Fact.is (.int .i64 (Wa)), Fact.is (.bool false), Fact.is (.bool false), Fact.is (.pointer (some ⟨w.heap.size, 2, none⟩)), Fact.is (.int .i64 (Ha)), Fact.is (.pointer (some ⟨w.heap.size + 1, 2, none⟩)), Fact.is (.int .i64 (Hb)), Fact.is (.bool (Ha != Hb)), Fact.is (.bool (Ha != Hb)), Fact.is (.int .i64 (errIf (Ha != Hb) 2)), Fact.ints 3 [pe, qe, errIf (Ha != Hb) 2], Fact.is (.int .i64 (z)), Fact.is (.int .i64 (z))] [[], [0], [], [2], [], [4], [], [6], [5, 7], [8], [9], [9, 10], [9], [9, 12], [9, 11, 13], [9, 14], [15], [1, 3, 16], [17], [18]] [(some 10, 0), (some 11, 1), (some 12, 2), (some 13, 3), (some 14, 4), (some 15, 5), (some 16, 6), (some 17, 7), (some 18, 8), (some 19, 9), (some 20, 10), (some 21, 11), (some 22, 12), (some 23, 13), (some 24, 14), (some 25, 15), (some 26, 16), (some 27, 17), (some 28, 18), (some 6, 19)] (by kernel_rfl) (by kernel_rfl) (by kernel_rfl) (by kernel_rfl) (fun _ _ _ _ e h => by have h1 : _ ∧ _ := h; exact ⟨e ▸ h1.1, h1.2⟩) ?hstep ?hend
    case hstep =>
      intro i hi
      match i, hi with
      | 0, _ =>
        intro v w' hR hd
        change SpecOp _ _ _ _ 0 (canon _ v _ []) w' _
        simp only [canon_nil]
        have q0 := (hR.cell (p := ⟨w.heap.size, 0, none⟩) z0).trans c0
        have q1 := (hR.cell (p := ⟨w.heap.size, 1, none⟩) z0).trans c1
        have q2 := (hR.cell (p := ⟨w.heap.size, 2, none⟩) z0).trans c2
        have q3 := (hR.cell (p := ⟨w.heap.size, 3, none⟩) z0).trans c3
        refine spec_of rfl (fun KK hK => ?_)
        go_simp
        exact hK.out _ _ (Below.refl _ _) rfl
      | 1, _ =>
        intro v w' hR hd
        have e0 : v 0 = .agg #[.string nm, .int .i64 Wa, .int .i64 Ha, .slice A n c] := hd 0 (by decide)
        change SpecOp _ _ _ _ 1 (Act.put (canon _ v _ []) (some 10) (v 0)) w' _
        rw [e0]
        simp only [canon_nil, Act.put, List.setIfInBounds_toArray, List.set_cons_zero, List.set_cons_succ]
        refine spec_of rfl (fun KK hK => ?_)
        go_simp
        refine (HCP.out _ (HRa.out.below hR)).mono ?_
        rintro e wn ⟨rfl, hbn⟩
        exact hK.out _ _ hbn rfl
      | 2, _ =>
        intro v w' hR hd
        change SpecOp _ _ _ _ 2 (canon _ v _ []) w' _
        simp only [canon_nil]
        have q0 := (hR.cell (p := ⟨w.heap.size + 1, 0, none⟩) z1).trans d0
        have q1 := (hR.cell (p := ⟨w.heap.size + 1, 1, none⟩) z1).trans d1
        have q2 := (hR.cell (p := ⟨w.heap.size + 1, 2, none⟩) z1).trans d2
        have q3 := (hR.cell (p := ⟨w.heap.size + 1, 3, none⟩) z1).trans d3
        refine spec_of rfl (fun KK hK => ?_)
        go_simp
        exact hK.out _ _ (Below.refl _ _) rfl
      | 3, _ =>
        intro v w' hR hd
        have e2 : v 2 = .agg #[.string nm2, .int .i64 Wa, .int .i64 Hb, .slice B m d] := hd 2 (by decide)
        change SpecOp _ _ _ _ 3 (Act.put (canon _ v _ []) (some 12) (v 2)) w' _
        rw [e2]
        simp only [canon_nil, Act.put, List.setIfInBounds_toArray, List.set_cons_zero, List.set_cons_succ]
        refine spec_of rfl (fun KK hK => ?_)
        go_simp
        refine (HCQ.out _ (HRb.out.below hR)).mono ?_
        rintro e wn ⟨rfl, hbn⟩
        exact hK.out _ _ hbn rfl
      | 4, _ =>
        intro v w' hR hd
        change SpecOp _ _ _ _ 4 (canon _ v _ []) w' _
        simp only [canon_nil]
        refine spec_of rfl (fun KK hK => ?_)
        go_simp
        exact hK.out _ _ (Below.refl _ _) rfl
      | 5, _ =>
        intro v w' hR hd
        have e4 : v 4 = .pointer (some ⟨w.heap.size, 1, none⟩) := hd 4 (by decide)
        change SpecOp _ _ _ _ 5 (Act.put (canon _ v _ []) (some 14) (v 4)) w' _
        rw [e4]
        simp only [canon_nil, Act.put, List.setIfInBounds_toArray, List.set_cons_zero, List.set_cons_succ]
        have q0 := (hR.cell (p := ⟨w.heap.size, 1, none⟩) z0).trans c1
        refine spec_of rfl (fun KK hK => ?_)
        go_simp
        exact hK.out _ _ (Below.refl _ _) rfl
      | 6, _ =>
        intro v w' hR hd
        change SpecOp _ _ _ _ 6 (canon _ v _ []) w' _
        simp only [canon_nil]
        refine spec_of rfl (fun KK hK => ?_)
        go_simp
        exact hK.out _ _ (Below.refl _ _) rfl
      | 7, _ =>
        intro v w' hR hd
        have e6 : v 6 = .pointer (some ⟨w.heap.size + 1, 1, none⟩) := hd 6 (by decide)
        change SpecOp _ _ _ _ 7 (Act.put (canon _ v _ []) (some 16) (v 6)) w' _
        rw [e6]
        simp only [canon_nil, Act.put, List.setIfInBounds_toArray, List.set_cons_zero, List.set_cons_succ]
        have q0 := (hR.cell (p := ⟨w.heap.size + 1, 1, none⟩) z1).trans d1
        refine spec_of rfl (fun KK hK => ?_)
        go_simp
        exact hK.out _ _ (Below.refl _ _) rfl
      | 8, _ =>
        intro v w' hR hd
        have e5 : v 5 = .int .i64 (Wa) := hd 5 (by decide)
        have e7 : v 7 = .int .i64 (Wa) := hd 7 (by decide)
        change SpecOp _ _ _ _ 8 (Act.put (Act.put (canon _ v _ []) (some 17) (v 7)) (some 15) (v 5)) w' _
        rw [e5, e7]
        simp only [canon_nil, Act.put, List.setIfInBounds_toArray, List.set_cons_zero, List.set_cons_succ]
        refine spec_of rfl (fun KK hK => ?_)
        go_simp
        exact hK.out _ _ (Below.refl _ _) (by first | rfl | (simp; done))
      | 9, _ =>
        intro v w' hR hd
        have e8 : v 8 = .bool false := hd 8 (by decide)
        change SpecOp _ _ _ _ 9 (Act.put (canon _ v _ []) (some 18) (v 8)) w' _
        rw [e8]
        simp only [canon_nil, Act.put, List.setIfInBounds_toArray, List.set_cons_zero, List.set_cons_succ]
        refine spec_of rfl (fun KK hK => ?_)
        go_simp
        exact hK.out _ _ (Below.refl _ _) rfl
      | 10, _ =>
        intro v w' hR hd
        have e9 : v 9 = .bool false := hd 9 (by decide)
        change SpecOp _ _ _ _ 10 (Act.put (canon _ v _ []) (some 19) (v 9)) w' _
        rw [e9]
        simp only [canon_nil, Act.put, List.setIfInBounds_toArray, List.set_cons_zero, List.set_cons_succ]
        refine spec_of rfl (fun KK hK => ?_)
        go_simp
        exact hK.out _ _ (Below.refl _ _) rfl
      | 11, _ =>
        intro v w' hR hd
        have e9 : v 9 = .bool false := hd 9 (by decide)
        have e10 : v 10 = .pointer (some ⟨w.heap.size, 2, none⟩) := hd 10 (by decide)
        change SpecOp _ _ _ _ 11 (Act.put (Act.put (canon _ v _ []) (some 20) (v 10)) (some 19) (v 9)) w' _
        rw [e9, e10]
        simp only [canon_nil, Act.put, List.setIfInBounds_toArray, List.set_cons_zero, List.set_cons_succ]
        have q0 := (hR.cell (p := ⟨w.heap.size, 2, none⟩) z0).trans c2
        refine spec_of rfl (fun KK hK => ?_)
        go_simp
        exact hK.out _ _ (Below.refl _ _) rfl
      | 12, _ =>
        intro v w' hR hd
        have e9 : v 9 = .bool false := hd 9 (by decide)
        change SpecOp _ _ _ _ 12 (Act.put (canon _ v _ []) (some 19) (v 9)) w' _
        rw [e9]
        simp only [canon_nil, Act.put, List.setIfInBounds_toArray, List.set_cons_zero, List.set_cons_succ]
        refine spec_of rfl (fun KK hK => ?_)
        go_simp
        exact hK.out _ _ (Below.refl _ _) rfl
      | 13, _ =>
        intro v w' hR hd
        have e9 : v 9 = .bool false := hd 9 (by decide)
        have e12 : v 12 = .pointer (some ⟨w.heap.size + 1, 2, none⟩) := hd 12 (by decide)
        change SpecOp _ _ _ _ 13 (Act.put (Act.put (canon _ v _ []) (some 22) (v 12)) (some 19) (v 9)) w' _
        rw [e9, e12]
        simp only [canon_nil, Act.put, List.setIfInBounds_toArray, List.set_cons_zero, List.set_cons_succ]
        have q0 := (hR.cell (p := ⟨w.heap.size + 1, 2, none⟩) z1).trans d2
        refine spec_of rfl (fun KK hK => ?_)
        go_simp
        exact hK.out _ _ (Below.refl _ _) rfl
      | 14, _ =>
        intro v w' hR hd
        have e9 : v 9 = .bool false := hd 9 (by decide)
        have e11 : v 11 = .int .i64 (Ha) := hd 11 (by decide)
        have e13 : v 13 = .int .i64 (Hb) := hd 13 (by decide)
        change SpecOp _ _ _ _ 14 (Act.put (Act.put (Act.put (canon _ v _ []) (some 23) (v 13)) (some 21) (v 11)) (some 19) (v 9)) w' _
        rw [e9, e11, e13]
        simp only [canon_nil, Act.put, List.setIfInBounds_toArray, List.set_cons_zero, List.set_cons_succ]
        refine spec_of rfl (fun KK hK => ?_)
        go_simp
        exact hK.out _ _ (Below.refl _ _) (by first | rfl | (simp; done))
      | 15, _ =>
        intro v w' hR hd
        have e9 : v 9 = .bool false := hd 9 (by decide)
        have e14 : v 14 = .bool (Ha != Hb) := hd 14 (by decide)
        change SpecOp _ _ _ _ 15 (Act.put (Act.put (canon _ v _ []) (some 24) (v 14)) (some 19) (v 9)) w' _
        rw [e9, e14]
        simp only [canon_nil, Act.put, List.setIfInBounds_toArray, List.set_cons_zero, List.set_cons_succ]
        refine spec_of rfl (fun KK hK => ?_)
        go_simp
        exact hK.out _ _ (Below.refl _ _) rfl
      | 16, _ =>
        intro v w' hR hd
        have e15 : v 15 = .bool (Ha != Hb) := hd 15 (by decide)
        change SpecOp _ _ _ _ 16 (Act.put (canon _ v _ []) (some 25) (v 15)) w' _
        rw [e15]
        simp only [canon_nil, Act.put, List.setIfInBounds_toArray, List.set_cons_zero, List.set_cons_succ]
        refine spec_of rfl (fun KK hK => ?_)
        go_simp
        refine (errorIf_any _ _ _).mono ?_
        rintro e wn ⟨rfl, rfl⟩
        exact hK.out _ _ (Below.refl _ _) rfl
      | 17, _ =>
        intro v w' hR hd
        have e1 : v 1 = .int .i64 (pe) := hd 1 (by decide)
        have e3 : v 3 = .int .i64 (qe) := hd 3 (by decide)
        have e16 : v 16 = .int .i64 (errIf (Ha != Hb) 2) := hd 16 (by decide)
        change SpecOp _ _ _ _ 17 (Act.put (Act.put (Act.put (canon _ v _ []) (some 26) (v 16)) (some 13) (v 3)) (some 11) (v 1)) w' _
        rw [e1, e3, e16]
        simp only [canon_nil, Act.put, List.setIfInBounds_toArray, List.set_cons_zero, List.set_cons_succ]
        refine spec_of rfl (fun KK hK => ?_)
        go_simp
        exact hK.out _ _ ((Below.refl _ _).alloc (Nat.le_refl _) _) ⟨_, _, rfl, rd_of_blk (Blk.new _ _ _) rfl⟩
      | 18, _ =>
        intro v w' hR hd
        obtain ⟨A17, k17, e17, r17⟩ : ∃ A c, v 17 = .slice A 3 c ∧ Rd w' A ([pe, qe, errIf (Ha != Hb) 2].map (.int .i64)) := hd 17 (by decide)
        change SpecOp _ _ _ _ 18 (Act.put (canon _ v _ []) (some 27) (v 17)) w' _
        rw [e17]
        simp only [canon_nil, Act.put, List.setIfInBounds_toArray, List.set_cons_zero, List.set_cons_succ]
        refine spec_of rfl (fun KK hK => ?_)
        go_simp
        refine (first_n _ _ _ [_, _, _] _ rfl (by simp [maxLen]) r17).mono ?_
        rintro e wn ⟨rfl, rfl⟩
        exact hK.out _ _ (Below.refl _ _) (congrArg (Value.int .i64) (by have h := HE.out; rw [show (Wa != Wa || Ha != Hb) = (Ha != Hb) by simp] at h; exact h))
      | 19, _ =>
        intro v w' hR hd
        have e18 : v 18 = .int .i64 (z) := hd 18 (by decide)
        change SpecOp _ _ _ _ 19 (Act.put (canon _ v _ []) (some 28) (v 18)) w' _
        rw [e18]
        simp only [canon_nil, Act.put, List.setIfInBounds_toArray, List.set_cons_zero, List.set_cons_succ]
        refine spec_of rfl (fun KK hK => ?_)
        go_simp
        exact hK.out _ _ (Below.refl _ _) rfl
      | i + 20, h => exact absurd h (Nat.not_lt.2 (Nat.le_add_left 20 i))
    case hend =>
      intro v w' hR hall
      simp only [putL, Act.put, List.setIfInBounds_toArray, List.set_cons_zero, List.set_cons_succ]
      have e0 : v 0 = .agg #[.string nm, .int .i64 Wa, .int .i64 Ha, .slice A n c] := hall 0 (by decide)
      have e1 : v 1 = .int .i64 (pe) := hall 1 (by decide)
      have e2 : v 2 = .agg #[.string nm2, .int .i64 Wa, .int .i64 Hb, .slice B m d] := hall 2 (by decide)
      have e3 : v 3 = .int .i64 (qe) := hall 3 (by decide)
      have e4 : v 4 = .pointer (some ⟨w.heap.size, 1, none⟩) := hall 4 (by decide)
      have e5 : v 5 = .int .i64 (Wa) := hall 5 (by decide)
      have e6 : v 6 = .pointer (some ⟨w.heap.size + 1, 1, none⟩) := hall 6 (by decide)
      have e7 : v 7 = .int .i64 (Wa) := hall 7 (by decide)
      have e8 : v 8 = .bool false := hall 8 (by decide)
      have e9 : v 9 = .bool false := hall 9 (by decide)
      have e10 : v 10 = .pointer (some ⟨w.heap.size, 2, none⟩) := hall 10 (by decide)
      have e11 : v 11 = .int .i64 (Ha) := hall 11 (by decide)
      have e12 : v 12 = .pointer (some ⟨w.heap.size + 1, 2, none⟩) := hall 12 (by decide)
      have e13 : v 13 = .int .i64 (Hb) := hall 13 (by decide)
      have e14 : v 14 = .bool (Ha != Hb) := hall 14 (by decide)
      have e15 : v 15 = .bool (Ha != Hb) := hall 15 (by decide)
      have e16 : v 16 = .int .i64 (errIf (Ha != Hb) 2) := hall 16 (by decide)
      obtain ⟨A17, k17, e17, r17⟩ : ∃ A c, v 17 = .slice A 3 c ∧ Rd w' A ([pe, qe, errIf (Ha != Hb) 2].map (.int .i64)) := hall 17 (by decide)
      have e18 : v 18 = .int .i64 (z) := hall 18 (by decide)
      have e19 : v 19 = .int .i64 (z) := hall 19 (by decide)
      rw [e19]
      clear e0 e1 e2 e3 e4 e5 e6 e7 e8 e9 e10 e11 e12 e13 e14 e15 e16 e17 e18 e19 hall r17
      have hy := HY.out.below hR
      have HB1 := Lib.hid (HB.out.trans (hR.mono HB.out.size))
      clear c0 c1 c2 c3 d0 d1 d2 d3 z0 z1
      have z1 := hy.lt
      have f0 := hy.frozen 0; have f1 := hy.frozen 1; have f2 := hy.frozen 2; have f3 := hy.frozen 3
      obtain ⟨d0, d1, d2, d3⟩ := box4 hy
      have hyy := Lib.hid (blk_set4' hy (.string ⟨#[]⟩) (.int .i64 0) (.int .i64 0) (.slice none 0 0))
      clear hy
      go_wp2
      obtain ⟨r0, r1, r2, r3⟩ := box4 hyy.out
      exact bodyPost_ret (v := .tuple #[.agg #[.string ⟨#[]⟩, .int .i64 0, .int .i64 0, .slice none 0 0], .int .i64 z]) (by simp [results, Tryz.results52, go_sem, r0, r1, r2, r3]) rfl ⟨rfl, below_set4 HB1.out (by omega) _ _ _ _⟩
  · have hne : (Wa != Wb) = true := by simpa using hW
    refine wp_region_facts [Fact.is (.agg #[.string nm, .int .i64 Wa, .int .i64 Ha, .slice A n c]), Fact.is (.int .i64 (pe)), Fact.is (.agg #[.string nm2, .int .i64 Wb, .int .i64 Hb, .slice B m d]), Fact.is (.int .i64 (qe)), Fact.is (.pointer (some ⟨w.heap.size, 1, none⟩)), Fact.is (.int .i64 (Wa)), Fact.is (.pointer (some ⟨w.heap.size + 1, 1, none⟩)), Fact.is (.int .i64 (Wb)), Fact.is (.bool true), Fact.is (.bool true), Fact.is (undef), Fact.is (undef), Fact.is (undef), Fact.is (undef), Fact.is (undef), Fact.is (.bool true), Fact.is (.int .i64 (errIf true 2)), Fact.ints 3 [pe, qe, errIf true 2], Fact.is (.int .i64 (z)), Fact.is (.int .i64 (z))] [[], [0], [], [2], [], [4], [], [6], [5, 7], [8], [9], [9, 10], [9], [9, 12], [9, 11, 13], [9, 14], [15], [1, 3, 16], [17], [18]] [(some 10, 0), (some 11, 1), (some 12, 2), (some 13, 3), (some 14, 4), (some 15, 5), (some 16, 6), (some 17, 7), (some 18, 8), (some 19, 9), (some 20, 10), (some 21, 11), (some 22, 12), (some 23, 13), (some 24, 14), (some 25, 15), (some 26, 16), (some 27, 17), (some 28, 18), (some 6, 19)] (by kernel_rfl) (by kernel_rfl) (by kernel_rfl) (by kernel_rfl) (fun _ _ _ _ e h => by have h1 : _ ∧ _ := h; exact ⟨e ▸ h1.1, h1.2⟩) ?hstep ?hend
    case hstep =>
      intro i hi
      match i, hi with
      | 0, _ =>
        intro v w' hR hd
        change SpecOp _ _ _ _ 0 (canon _ v _ []) w' _
        simp only [canon_nil]
        have q0 := (hR.cell (p := ⟨w.heap.size, 0, none⟩) z0).trans c0
        have q1 := (hR.cell (p := ⟨w.heap.size, 1, none⟩) z0).trans c1
        have q2 := (hR.cell (p := ⟨w.heap.size, 2, none⟩) z0).trans c2
        have q3 := (hR.cell (p := ⟨w.heap.size, 3, none⟩) z0).trans c3
        refine spec_of rfl (fun KK hK => ?_)
        go_simp
        exact hK.out _ _ (Below.refl _ _) rfl
      | 1, _ =>
        intro v w' hR hd
        have e0 : v 0 = .agg #[.string nm, .int .i64 Wa, .int .i64 Ha, .slice A n c] := hd 0 (by decide)
        change SpecOp _ _ _ _ 1 (Act.put (canon _ v _ []) (some 10) (v 0)) w' _
        rw [e0]
        simp only [canon_nil, Act.put, List.setIfInBounds_toArray, List.set_cons_zero, List.set_cons_succ]
        refine spec_of rfl (fun KK hK => ?_)
        go_simp
        refine (HCP.out _ (HRa.out.below hR)).mono ?_
        rintro e wn ⟨rfl, hbn⟩
        exact hK.out _ _ hbn rfl
      | 2, _ =>
        intro v w' hR hd
        change SpecOp _ _ _ _ 2 (canon _ v _ []) w' _
        simp only [canon_nil]
        have q0 := (hR.cell (p := ⟨w.heap.size + 1, 0, none⟩) z1).trans d0
        have q1 := (hR.cell (p := ⟨w.heap.size + 1, 1, none⟩) z1).trans d1
        have q2 := (hR.cell (p := ⟨w.heap.size + 1, 2, none⟩) z1).trans d2
        have q3 := (hR.cell (p := ⟨w.heap.size + 1, 3, none⟩) z1).trans d3
        refine spec_of rfl (fun KK hK => ?_)
        go_simp
        exact hK.out _ _ (Below.refl _ _) rfl
      | 3, _ =>
        intro v w' hR hd
        have e2 : v 2 = .agg #[.string nm2, .int .i64 Wb, .int .i64 Hb, .slice B m d] := hd 2 (by decide)
        change SpecOp _ _ _ _ 3 (Act.put (canon _ v _ []) (some 12) (v 2)) w' _
        rw [e2]
        simp only [canon_nil, Act.put, List.setIfInBounds_toArray, List.set_cons_zero, List.set_cons_succ]
        refine spec_of rfl (fun KK hK => ?_)
        go_simp
        refine (HCQ.out _ (HRb.out.below hR)).mono ?_
        rintro e wn ⟨rfl, hbn⟩
        exact hK.out _ _ hbn rfl
      | 4, _ =>
        intro v w' hR hd
        change SpecOp _ _ _ _ 4 (canon _ v _ []) w' _
        simp only [canon_nil]
        refine spec_of rfl (fun KK hK => ?_)
        go_simp
        exact hK.out _ _ (Below.refl _ _) rfl
      | 5, _ =>
        intro v w' hR hd
        have e4 : v 4 = .pointer (some ⟨w.heap.size, 1, none⟩) := hd 4 (by decide)
        change SpecOp _ _ _ _ 5 (Act.put (canon _ v _ []) (some 14) (v 4)) w' _
        rw [e4]
        simp only [canon_nil, Act.put, List.setIfInBounds_toArray, List.set_cons_zero, List.set_cons_succ]
        have q0 := (hR.cell (p := ⟨w.heap.size, 1, none⟩) z0).trans c1
        refine spec_of rfl (fun KK hK => ?_)
        go_simp
        exact hK.out _ _ (Below.refl _ _) rfl
      | 6, _ =>
        intro v w' hR hd
        change SpecOp _ _ _ _ 6 (canon _ v _ []) w' _
        simp only [canon_nil]
        refine spec_of rfl (fun KK hK => ?_)
        go_simp
        exact hK.out _ _ (Below.refl _ _) rfl
      | 7, _ =>
        intro v w' hR hd
        have e6 : v 6 = .pointer (some ⟨w.heap.size + 1, 1, none⟩) := hd 6 (by decide)
        change SpecOp _ _ _ _ 7 (Act.put (canon _ v _ []) (some 16) (v 6)) w' _
        rw [e6]
        simp only [canon_nil, Act.put, List.setIfInBounds_toArray, List.set_cons_zero, List.set_cons_succ]
        have q0 := (hR.cell (p := ⟨w.heap.size + 1, 1, none⟩) z1).trans d1
        refine spec_of rfl (fun KK hK => ?_)
        go_simp
        exact hK.out _ _ (Below.refl _ _) rfl
      | 8, _ =>
        intro v w' hR hd
        have e5 : v 5 = .int .i64 (Wa) := hd 5 (by decide)
        have e7 : v 7 = .int .i64 (Wb) := hd 7 (by decide)
        change SpecOp _ _ _ _ 8 (Act.put (Act.put (canon _ v _ []) (some 17) (v 7)) (some 15) (v 5)) w' _
        rw [e5, e7]
        simp only [canon_nil, Act.put, List.setIfInBounds_toArray, List.set_cons_zero, List.set_cons_succ]
        refine spec_of rfl (fun KK hK => ?_)
        go_simp
        exact hK.out _ _ (Below.refl _ _) (by first | rfl | (simp; done) | (simp [hne]; done))
      | 9, _ =>
        intro v w' hR hd
        have e8 : v 8 = .bool true := hd 8 (by decide)
        change SpecOp _ _ _ _ 9 (Act.put (canon _ v _ []) (some 18) (v 8)) w' _
        rw [e8]
        simp only [canon_nil, Act.put, List.setIfInBounds_toArray, List.set_cons_zero, List.set_cons_succ]
        refine spec_of rfl (fun KK hK => ?_)
        go_simp
        exact hK.out _ _ (Below.refl _ _) rfl
      | 10, _ =>
        intro v w' hR hd
        have e9 : v 9 = .bool true := hd 9 (by decide)
        change SpecOp _ _ _ _ 10 (Act.put (canon _ v _ []) (some 19) (v 9)) w' _
        rw [e9]
        simp only [canon_nil, Act.put, List.setIfInBounds_toArray, List.set_cons_zero, List.set_cons_succ]
        refine spec_of rfl (fun KK hK => ?_)
        go_simp
        exact hK.out _ _ (Below.refl _ _) rfl
      | 11, _ =>
        intro v w' hR hd
        have e9 : v 9 = .bool true := hd 9 (by decide)
        have e10 : v 10 = undef := hd 10 (by decide)
        change SpecOp _ _ _ _ 11 (Act.put (Act.put (canon _ v _ []) (some 20) (v 10)) (some 19) (v 9)) w' _
        rw [e9, e10]
        simp only [canon_nil, Act.put, List.setIfInBounds_toArray, List.set_cons_zero, List.set_cons_succ]
        refine spec_of rfl (fun KK hK => ?_)
        go_simp
        exact hK.out _ _ (Below.refl _ _) rfl
      | 12, _ =>
        intro v w' hR hd
        have e9 : v 9 = .bool true := hd 9 (by decide)
        change SpecOp _ _ _ _ 12 (Act.put (canon _ v _ []) (some 19) (v 9)) w' _
        rw [e9]
        simp only [canon_nil, Act.put, List.setIfInBounds_toArray, List.set_cons_zero, List.set_cons_succ]
        refine spec_of rfl (fun KK hK => ?_)
        go_simp
        exact hK.out _ _ (Below.refl _ _) rfl
      | 13, _ =>
        intro v w' hR hd
        have e9 : v 9 = .bool true := hd 9 (by decide)
        have e12 : v 12 = undef := hd 12 (by decide)
        change SpecOp _ _ _ _ 13 (Act.put (Act.put (canon _ v _ []) (some 22) (v 12)) (some 19) (v 9)) w' _
        rw [e9, e12]
        simp only [canon_nil, Act.put, List.setIfInBounds_toArray, List.set_cons_zero, List.set_cons_succ]
        refine spec_of rfl (fun KK hK => ?_)
        go_simp
        exact hK.out _ _ (Below.refl _ _) rfl
      | 14, _ =>
        intro v w' hR hd
        have e9 : v 9 = .bool true := hd 9 (by decide)
        have e11 : v 11 = undef := hd 11 (by decide)
        have e13 : v 13 = undef := hd 13 (by decide)
        change SpecOp _ _ _ _ 14 (Act.put (Act.put (Act.put (canon _ v _ []) (some 23) (v 13)) (some 21) (v 11)) (some 19) (v 9)) w' _
        rw [e9, e11, e13]
        simp only [canon_nil, Act.put, List.setIfInBounds_toArray, List.set_cons_zero, List.set_cons_succ]
        refine spec_of rfl (fun KK hK => ?_)
        go_simp
        exact hK.out _ _ (Below.refl _ _) rfl
      | 15, _ =>
        intro v w' hR hd
        have e9 : v 9 = .bool true := hd 9 (by decide)
        have e14 : v 14 = undef := hd 14 (by decide)
        change SpecOp _ _ _ _ 15 (Act.put (Act.put (canon _ v _ []) (some 24) (v 14)) (some 19) (v 9)) w' _
        rw [e9, e14]
        simp only [canon_nil, Act.put, List.setIfInBounds_toArray, List.set_cons_zero, List.set_cons_succ]
        refine spec_of rfl (fun KK hK => ?_)
        go_simp
        exact hK.out _ _ (Below.refl _ _) rfl
      | 16, _ =>
        intro v w' hR hd
        have e15 : v 15 = .bool true := hd 15 (by decide)
        change SpecOp _ _ _ _ 16 (Act.put (canon _ v _ []) (some 25) (v 15)) w' _
        rw [e15]
        simp only [canon_nil, Act.put, List.setIfInBounds_toArray, List.set_cons_zero, List.set_cons_succ]
        refine spec_of rfl (fun KK hK => ?_)
        go_simp
        refine (errorIf_any _ _ _).mono ?_
        rintro e wn ⟨rfl, rfl⟩
        exact hK.out _ _ (Below.refl _ _) rfl
      | 17, _ =>
        intro v w' hR hd
        have e1 : v 1 = .int .i64 (pe) := hd 1 (by decide)
        have e3 : v 3 = .int .i64 (qe) := hd 3 (by decide)
        have e16 : v 16 = .int .i64 (errIf true 2) := hd 16 (by decide)
        change SpecOp _ _ _ _ 17 (Act.put (Act.put (Act.put (canon _ v _ []) (some 26) (v 16)) (some 13) (v 3)) (some 11) (v 1)) w' _
        rw [e1, e3, e16]
        simp only [canon_nil, Act.put, List.setIfInBounds_toArray, List.set_cons_zero, List.set_cons_succ]
        refine spec_of rfl (fun KK hK => ?_)
        go_simp
        exact hK.out _ _ ((Below.refl _ _).alloc (Nat.le_refl _) _) ⟨_, _, rfl, rd_of_blk (Blk.new _ _ _) rfl⟩
      | 18, _ =>
        intro v w' hR hd
        obtain ⟨A17, k17, e17, r17⟩ : ∃ A c, v 17 = .slice A 3 c ∧ Rd w' A ([pe, qe, errIf true 2].map (.int .i64)) := hd 17 (by decide)
        change SpecOp _ _ _ _ 18 (Act.put (canon _ v _ []) (some 27) (v 17)) w' _
        rw [e17]
        simp only [canon_nil, Act.put, List.setIfInBounds_toArray, List.set_cons_zero, List.set_cons_succ]
        refine spec_of rfl (fun KK hK => ?_)
        go_simp
        refine (first_n _ _ _ [_, _, _] _ rfl (by simp [maxLen]) r17).mono ?_
        rintro e wn ⟨rfl, rfl⟩
        exact hK.out _ _ (Below.refl _ _) (congrArg (Value.int .i64) (by have h := HE.out; rw [show (Wa != Wb || Ha != Hb) = true by rw [hne]; rfl] at h; exact h))
      | 19, _ =>
        intro v w' hR hd
        have e18 : v 18 = .int .i64 (z) := hd 18 (by decide)
        change SpecOp _ _ _ _ 19 (Act.put (canon _ v _ []) (some 28) (v 18)) w' _
        rw [e18]
        simp only [canon_nil, Act.put, List.setIfInBounds_toArray, List.set_cons_zero, List.set_cons_succ]
        refine spec_of rfl (fun KK hK => ?_)
        go_simp
        exact hK.out _ _ (Below.refl _ _) rfl
      | i + 20, h => exact absurd h (Nat.not_lt.2 (Nat.le_add_left 20 i))
    case hend =>
      intro v w' hR hall
      simp only [putL, Act.put, List.setIfInBounds_toArray, List.set_cons_zero, List.set_cons_succ]
      have e0 : v 0 = .agg #[.string nm, .int .i64 Wa, .int .i64 Ha, .slice A n c] := hall 0 (by decide)
      have e1 : v 1 = .int .i64 (pe) := hall 1 (by decide)
      have e2 : v 2 = .agg #[.string nm2, .int .i64 Wb, .int .i64 Hb, .slice B m d] := hall 2 (by decide)
      have e3 : v 3 = .int .i64 (qe) := hall 3 (by decide)
      have e4 : v 4 = .pointer (some ⟨w.heap.size, 1, none⟩) := hall 4 (by decide)
      have e5 : v 5 = .int .i64 (Wa) := hall 5 (by decide)
      have e6 : v 6 = .pointer (some ⟨w.heap.size + 1, 1, none⟩) := hall 6 (by decide)
      have e7 : v 7 = .int .i64 (Wb) := hall 7 (by decide)
      have e8 : v 8 = .bool true := hall 8 (by decide)
      have e9 : v 9 = .bool true := hall 9 (by decide)
      have e10 : v 10 = undef := hall 10 (by decide)
      have e11 : v 11 = undef := hall 11 (by decide)
      have e12 : v 12 = undef := hall 12 (by decide)
      have e13 : v 13 = undef := hall 13 (by decide)
      have e14 : v 14 = undef := hall 14 (by decide)
      have e15 : v 15 = .bool true := hall 15 (by decide)
      have e16 : v 16 = .int .i64 (errIf true 2) := hall 16 (by decide)
      obtain ⟨A17, k17, e17, r17⟩ : ∃ A c, v 17 = .slice A 3 c ∧ Rd w' A ([pe, qe, errIf true 2].map (.int .i64)) := hall 17 (by decide)
      have e18 : v 18 = .int .i64 (z) := hall 18 (by decide)
      have e19 : v 19 = .int .i64 (z) := hall 19 (by decide)
      rw [e19]
      clear e0 e1 e2 e3 e4 e5 e6 e7 e8 e9 e10 e11 e12 e13 e14 e15 e16 e17 e18 e19 hall r17
      have hy := HY.out.below hR
      have HB1 := Lib.hid (HB.out.trans (hR.mono HB.out.size))
      clear c0 c1 c2 c3 d0 d1 d2 d3 z0 z1
      have z1 := hy.lt
      have f0 := hy.frozen 0; have f1 := hy.frozen 1; have f2 := hy.frozen 2; have f3 := hy.frozen 3
      obtain ⟨d0, d1, d2, d3⟩ := box4 hy
      have hyy := Lib.hid (blk_set4' hy (.string ⟨#[]⟩) (.int .i64 0) (.int .i64 0) (.slice none 0 0))
      clear hy
      go_wp2
      obtain ⟨r0, r1, r2, r3⟩ := box4 hyy.out
      exact bodyPost_ret (v := .tuple #[.agg #[.string ⟨#[]⟩, .int .i64 0, .int .i64 0, .slice none 0 0], .int .i64 z]) (by simp [results, Tryz.results52, go_sem, r0, r1, r2, r3]) rfl ⟨rfl, below_set4 HB1.out (by omega) _ _ _ _⟩

set_option maxRecDepth 100000 in
theorem mapFI_blk (A : Option Addr) (c : Nat) (l : List (Nat)) (F : FuncId) (g : Nat → Int) (w : World) (hl : l.length ≤ 4096) (hr : Rd w A (l.map (Value.float .f32))) (hcf : Enters Tryz.prog F)
    (hF : ∀ x ∈ l, ∀ w, Calls Tryz.prog F #[(Value.float .f32) x] w fun e w' => e = .returned (Value.int .i64 (g x)) ∧ Below w.heap.size w w') :
    Calls Tryz.prog 168 #[.slice A l.length c, .func (.func F) #[] #[]] w fun e w' => e = .returned (.slice (some ⟨w.heap.size, 0, none⟩) l.length l.length) ∧ Blk w' w.heap.size 3 (fillN (fun j => Value.int .i64 (g (l.getD j 0))) (.int .i64 0) l.length l.length) ∧ Below w.heap.size w w' := by
  have HF := Lib.hid hF; clear hF
  have HR := Lib.hid hr; clear hr
  unfold Enters at hcf
  have hmk := fun W => Go.run_make_row' (P := Tryz.prog) 25 3 (.int .i64 0) 8 Tryz.underlying25 info_mapFI rfl .i64 .i64 l.length (by omega) (by omega) W
  go_enter Tryz.func168, Tryz.ntmps168
  go_wp2
  go_loopw [13] (fun i wr => ∃ k : Nat, k ≤ l.length ∧ i = .int .i64 k ∧ Blk wr w.heap.size 3 (fillN (fun j => Value.int .i64 (g (l.getD j 0))) (.int .i64 0) l.length k) ∧ Below w.heap.size w wr) (fun i _ => l.length - (intOf i).toNat)
  case atStart => exact ⟨0, by omega, rfl, by rw [← fill_zero]; exact Blk.new _ _ _, (Below.refl _ _).alloc (Nat.le_refl _) _⟩
  case round =>
    obtain ⟨k, hk, rfl, hb, hbel⟩ := hrel
    by_cases hlt : k < l.length
    · obtain ⟨x, hx⟩ : ∃ x, l.getD k 0 = x := ⟨_, rfl⟩
      have hxm : x ∈ l := by rw [← hx]; simp [List.getD, hlt]
      obtain ⟨ad, rfl, hbl, hc⟩ := HR.out.get (k := k) (u := (Value.float .f32) x) (by rw [← hx]; simp [List.getD, hlt])
      have hc' := (hbel.cell (by rw [block_of_add]; exact hbl)).trans hc
      have hs := hbel.size
      have HB := Lib.hid hb; clear hb
      have HBel := Lib.hid hbel; clear hbel
      have HX := Lib.hid hx; clear hx
      clear hc hmk
      go_wp2_with fail
      refine (HF.out x hxm _).mono ?_
      rintro e w1 ⟨rfl, hb1⟩
      have hblk := HB.out.below hb1
      have hcell := hblk.cell k
      rw [fill_get, if_pos hlt, if_neg (by omega)] at hcell
      have hfr := hblk.frozen k
      have hset := hblk.set_ k (Value.int .i64 (g x))
      have hfs := fill_set (fun j => Value.int .i64 (g (l.getD j 0))) (.int .i64 0) l.length k
      simp only [HX.out] at hfs
      rw [hfs] at hset
      have hbel1 := (HBel.out.trans (hb1.mono HBel.out.size)).setCell (p := ⟨w.heap.size, k, none⟩) (Nat.le_refl _) (Value.int .i64 (g x))
      have HS := Lib.hid hset; have HB1 := Lib.hid hbel1
      clear hset hbel1 hblk hb1 hfs
      go_wp2
      go_roundw
      case rel => exact ⟨k + 1, by omega, by go_num, HS.out, HB1.out⟩
      case measure => simp [intOf]; omega
    · have : k = l.length := by omega
      subst this
      go_wp2
      go_ret
      exact ⟨rfl, hb, hbel⟩
set_option maxRecDepth 100000 in
theorem levels_blk (l : List Nat) (hb : l.length ≤ 4096) (hok : ∀ b ∈ l, chk 1024 b = 0) (A : Option Addr) (c : Nat) (w : World) (hr : Rd w A (fl l)) :
    Calls Tryz.prog 118 #[.slice A l.length c] w fun e w' => e = .returned (.slice (some ⟨w.heap.size, 0, none⟩) l.length l.length) ∧ Blk w' w.heap.size 3 (fillN (fun j => Value.int .i64 (lvl (l.getD j 0))) (.int .i64 0) l.length l.length) ∧ Below w.heap.size w w' := by
  have HOK := Lib.hid hok
  have HR := Lib.hid hr
  clear hok hr
  go_enter Tryz.func118, Tryz.ntmps118
  go_wp2_with fail
  refine (mapFI_blk A c l 169 lvl _ hb HR.out enters_level (fun b hb w => level_v b (HOK.out b hb) w)).mono ?_
  rintro e w3 ⟨rfl, hrd, hb3⟩
  go_wp2
  go_ret
  exact ⟨rfl, hrd, hb3⟩

/-- The first k by f, the others by h. -/
def mixN (f h : Nat → Value) (n k : Nat) : Array Value := (Array.range n).map fun i => if i < k then f i else h i
theorem mix_get (f h : Nat → Value) (n k i : Nat) : (mixN f h n k)[i]? = if i < n then some (if i < k then f i else h i) else none := by
  unfold mixN
  by_cases hi : i < n <;> simp [hi]
theorem mix_set (f h : Nat → Value) (n k : Nat) : (mixN f h n k).setIfInBounds k (f k) = mixN f h n (k + 1) := by
  apply Array.ext_getElem?
  intro i
  rw [Array.getElem?_setIfInBounds, mix_get, mix_get]
  have hsz : (mixN f h n k).size = n := by simp [mixN]
  by_cases e : k = i
  · subst e
    by_cases hk : k < n
    · rw [if_pos rfl, if_pos (by rw [hsz]; exact hk), if_pos hk, if_pos (by omega)]
    · rw [if_pos rfl, if_neg (by rw [hsz]; exact hk), if_neg hk]
  · rw [if_neg e]
    by_cases hi : i < n
    · rw [if_pos hi, if_pos hi]
      by_cases h1 : i < k
      · rw [if_pos h1, if_pos (by omega)]
      · rw [if_neg h1, if_neg (by omega)]
    · rw [if_neg hi, if_neg hi]
theorem mix_zero (f h : Nat → Value) (z : Value) (n : Nat) : fillN h z n n = mixN f h n 0 := by
  apply Array.ext_getElem?
  intro i
  rw [fill_get, mix_get]
  by_cases hi : i < n
  · rw [if_pos hi, if_pos hi, if_pos hi, if_neg (by omega)]
  · rw [if_neg hi, if_neg hi]
theorem mix_rd {w : World} {g : Nat} {T : TypeId} {f h : Nat → Value} {n : Nat} (hb : Blk w g T (mixN f h n n)) {xs : List Value} (hx : xs.length = n) (hf : ∀ i, i < n → xs[i]? = some (f i)) : Rd w (some ⟨g, 0, none⟩) xs := fun _ =>
  ⟨_, rfl, hb.lt, fun j u hu => by
    have hj : j < n := by have := (List.getElem?_eq_some_iff.1 hu).1; omega
    have h1 := hb.cell j
    rw [mix_get, if_pos hj, if_pos hj, ← hf j hj, hu] at h1
    unfold Addr.add
    split
    · rename_i h0; subst h0; exact h1
    · simpa using h1⟩

theorem sumL_take (l k : List Nat) (n : Nat) (hl : l.length = n) (hk : k.length = n) : (sumL l k).length = n := by simp [sumL, hl, hk]
set_option maxHeartbeats 8000000 in
theorem sum_lv (nm nm2 : ByteArray) (W H : Nat) (l k : List Nat) (n : Nat) (hl : l.length = n) (hk : k.length = n) (hp : (Pic.mk nm W H l).Ok) (hq : (Pic.mk nm2 W H k).Ok) (A B : Option Addr) (c d : Nat) (w : World) (hr : Rd w A (fl l)) (hr2 : Rd w B (fl k)) :
    Calls Tryz.prog 52 #[.agg #[.string nm, .int .i64 (W : Int), .int .i64 (H : Int), .slice A n c], .agg #[.string nm2, .int .i64 (W : Int), .int .i64 (H : Int), .slice B n d]] w (JoinEnd (lvP nm W H (sumL l k)) (lvZ (sumL l k)) w) := by
  obtain ⟨_, _, _, hs, hmax⟩ := ok_sizes hp
  obtain ⟨_, _, _, hs2, hmax2⟩ := ok_sizes hq
  have hn4 : n ≤ 4096 := by rw [← hl]; exact hp.big
  have hcp := fun w hr => checkPicture_any (Pic.mk nm W H l) A c w hs hmax hr
  have hcq := fun w hr => checkPicture_any (Pic.mk nm2 W H k) B d w hs2 hmax2 hr
  rw [ok_err hp] at hcp
  rw [ok_err hq] at hcq
  simp only [Pic.val, hl] at hcp
  simp only [Pic.val, hk] at hcq
  have HCP := Lib.hid hcp; have HCQ := Lib.hid hcq
  have HLV := Lib.hid (fun w hr => (levels_blk l hp.big hp.ok A c w hr))
  have HLV2 := Lib.hid (fun w hr => (levels_blk k hq.big hq.ok B d w hr))
  rw [hl] at HLV
  rw [hk] at HLV2
  obtain ⟨G, hG⟩ : ∃ G, sumL l k = G := ⟨_, rfl⟩
  have HGN : RowKit.Hid (G.length = n) := Lib.hid (by rw [← hG]; exact sumL_take l k n hl hk)
  have HGK : RowKit.Hid (∀ j, j < n → G.getD j 0 = lvl (l.getD j 0) + lvl (k.getD j 0)) := Lib.hid (fun j hj => by rw [← hG]; simp [sumL, List.getD, hl, hk, hj])
  have HWL := Lib.hid (fun (A0 : Option Addr) (n0 c0 : Nat) (A : Option Addr) (c : Nat) (w : World) (hr : Rd w A (G.map (Value.int .i64))) => withLevels_lv nm W H A0 n0 c0 A c n G HGN.out w hn4 hr)
  have HLB : RowKit.Hid (∀ j, j < n → -16384 ≤ lvl (l.getD j 0) ∧ lvl (l.getD j 0) ≤ 16384 ∧ -16384 ≤ lvl (k.getD j 0) ∧ lvl (k.getD j 0) ≤ 16384) := Lib.hid (fun j hj => by
    have h1 := hp.lv (getD_mem (l := l) (k := j) (by rw [hl]; exact hj)); have h2 := hq.lv (getD_mem (l := k) (k := j) (by rw [hk]; exact hj)); exact ⟨h1.1, h1.2, h2.1, h2.2⟩)
  rw [hG]
  have HLL := Lib.hid hl; have HKL := Lib.hid hk
  clear hG hcp hcq hs hs2 hmax hmax2 hp hq hl hk
  obtain ⟨⟨rn, rw', rh, rl⟩, hR0⟩ : ∃ R, lvP nm W H G = R := ⟨_, rfl⟩
  obtain ⟨z, hz0⟩ : ∃ z, lvZ G = z := ⟨_, rfl⟩
  obtain ⟨rc, hrc⟩ : ∃ x, rl.length = x := ⟨_, rfl⟩
  rw [hR0, hz0] at HWL ⊢
  unfold JoinEnd at HWL ⊢
  simp only [] at HWL ⊢
  rw [hrc] at HWL ⊢
  clear hR0 hz0 hrc
  go_enter Tryz.func52, Tryz.ntmps52
  go_upto_region 1 with fail
  have hx0 := ((Blk.new w 50 #[.string nm, .int .i64 (W : Int), .int .i64 (H : Int), .slice A n c]).alloc (.cells #[.string nm2, .int .i64 (W : Int), .int .i64 (H : Int), .slice B n d] 50)).alloc (.cells #[.string ⟨#[]⟩, .int .i64 0, .int .i64 0, .slice none 0 0] 50)
  have hx1 := (Blk.new (w.alloc (.cells #[.string nm, .int .i64 (W : Int), .int .i64 (H : Int), .slice A n c] 50)) 50 #[.string nm2, .int .i64 (W : Int), .int .i64 (H : Int), .slice B n d]).alloc (.cells #[.string ⟨#[]⟩, .int .i64 0, .int .i64 0, .slice none 0 0] 50)
  have hx2 := Blk.new ((w.alloc (.cells #[.string nm, .int .i64 (W : Int), .int .i64 (H : Int), .slice A n c] 50)).alloc (.cells #[.string nm2, .int .i64 (W : Int), .int .i64 (H : Int), .slice B n d] 50)) 50 #[.string ⟨#[]⟩, .int .i64 0, .int .i64 0, .slice none 0 0]
  simp only [World.size_alloc] at hx1 hx2
  have hb0 := (((Below.refl w.heap.size w).alloc (Nat.le_refl _) (.cells #[.string nm, .int .i64 (W : Int), .int .i64 (H : Int), .slice A n c] 50)).alloc (by simp only [World.size_alloc]; omega) (.cells #[.string nm2, .int .i64 (W : Int), .int .i64 (H : Int), .slice B n d] 50)).alloc (by simp only [World.size_alloc]; omega) (.cells #[.string ⟨#[]⟩, .int .i64 0, .int .i64 0, .slice none 0 0] 50)
  generalize (((w.alloc (.cells #[.string nm, .int .i64 (W : Int), .int .i64 (H : Int), .slice A n c] 50)).alloc (.cells #[.string nm2, .int .i64 (W : Int), .int .i64 (H : Int), .slice B n d] 50)).alloc (.cells #[.string ⟨#[]⟩, .int .i64 0, .int .i64 0, .slice none 0 0] 50)) = w0 at hx0 hx1 hx2 hb0 ⊢
  obtain ⟨c0, c1, c2, c3⟩ := box4 hx0
  obtain ⟨d0, d1, d2, d3⟩ := box4 hx1
  have z0 := hx0.lt; have z1 := hx1.lt
  have HRa := Lib.hid (hr.below hb0); have HRb := Lib.hid (hr2.below hb0)
  have HX0 := Lib.hid hx0; have HX1 := Lib.hid hx1; have HY := Lib.hid hx2; have HB := Lib.hid hb0; clear hx0 hx1 hx2 hb0 hr hr2
  refine wp_region_facts [Fact.is (.agg #[.string nm, .int .i64 (W : Int), .int .i64 (H : Int), .slice A n c]), Fact.is (.int .i64 (0)), Fact.is (.agg #[.string nm2, .int .i64 (W : Int), .int .i64 (H : Int), .slice B n d]), Fact.is (.int .i64 (0)), Fact.is (.pointer (some ⟨w.heap.size, 1, none⟩)), Fact.is (.int .i64 ((W : Int))), Fact.is (.pointer (some ⟨w.heap.size + 1, 1, none⟩)), Fact.is (.int .i64 ((W : Int))), Fact.is (.bool false), Fact.is (.bool false), Fact.is (.pointer (some ⟨w.heap.size, 2, none⟩)), Fact.is (.int .i64 ((H : Int))), Fact.is (.pointer (some ⟨w.heap.size + 1, 2, none⟩)), Fact.is (.int .i64 ((H : Int))), Fact.is (.bool false), Fact.is (.bool false), Fact.is (.int .i64 (errIf false 2)), Fact.ints 3 [0, 0, errIf false 2], Fact.is (.int .i64 (0)), Fact.is (.int .i64 (0))] [[], [0], [], [2], [], [4], [], [6], [5, 7], [8], [9], [9, 10], [9], [9, 12], [9, 11, 13], [9, 14], [15], [1, 3, 16], [17], [18]] [(some 10, 0), (some 11, 1), (some 12, 2), (some 13, 3), (some 14, 4), (some 15, 5), (some 16, 6), (some 17, 7), (some 18, 8), (some 19, 9), (some 20, 10), (some 21, 11), (some 22, 12), (some 23, 13), (some 24, 14), (some 25, 15), (some 26, 16), (some 27, 17), (some 28, 18), (some 6, 19)] (by kernel_rfl) (by kernel_rfl) (by kernel_rfl) (by kernel_rfl) (fun _ _ _ _ e h => by have h1 : _ ∧ _ := h; exact ⟨e ▸ h1.1, h1.2⟩) ?hstep ?hend
  case hstep =>
    intro i hi
    match i, hi with
    | 0, _ =>
      intro v w' hR hd
      change SpecOp _ _ _ _ 0 (canon _ v _ []) w' _
      simp only [canon_nil]
      have q0 := (hR.cell (p := ⟨w.heap.size, 0, none⟩) z0).trans c0
      have q1 := (hR.cell (p := ⟨w.heap.size, 1, none⟩) z0).trans c1
      have q2 := (hR.cell (p := ⟨w.heap.size, 2, none⟩) z0).trans c2
      have q3 := (hR.cell (p := ⟨w.heap.size, 3, none⟩) z0).trans c3
      refine spec_of rfl (fun KK hK => ?_)
      go_simp
      exact hK.out _ _ (Below.refl _ _) rfl
    | 1, _ =>
      intro v w' hR hd
      have e0 : v 0 = .agg #[.string nm, .int .i64 (W : Int), .int .i64 (H : Int), .slice A n c] := hd 0 (by decide)
      change SpecOp _ _ _ _ 1 (Act.put (canon _ v _ []) (some 10) (v 0)) w' _
      rw [e0]
      simp only [canon_nil, Act.put, List.setIfInBounds_toArray, List.set_cons_zero, List.set_cons_succ]
      refine spec_of rfl (fun KK hK => ?_)
      go_simp
      refine (HCP.out _ (HRa.out.below hR)).mono ?_
      rintro e wn ⟨rfl, hbn⟩
      exact hK.out _ _ hbn rfl
    | 2, _ =>
      intro v w' hR hd
      change SpecOp _ _ _ _ 2 (canon _ v _ []) w' _
      simp only [canon_nil]
      have q0 := (hR.cell (p := ⟨w.heap.size + 1, 0, none⟩) z1).trans d0
      have q1 := (hR.cell (p := ⟨w.heap.size + 1, 1, none⟩) z1).trans d1
      have q2 := (hR.cell (p := ⟨w.heap.size + 1, 2, none⟩) z1).trans d2
      have q3 := (hR.cell (p := ⟨w.heap.size + 1, 3, none⟩) z1).trans d3
      refine spec_of rfl (fun KK hK => ?_)
      go_simp
      exact hK.out _ _ (Below.refl _ _) rfl
    | 3, _ =>
      intro v w' hR hd
      have e2 : v 2 = .agg #[.string nm2, .int .i64 (W : Int), .int .i64 (H : Int), .slice B n d] := hd 2 (by decide)
      change SpecOp _ _ _ _ 3 (Act.put (canon _ v _ []) (some 12) (v 2)) w' _
      rw [e2]
      simp only [canon_nil, Act.put, List.setIfInBounds_toArray, List.set_cons_zero, List.set_cons_succ]
      refine spec_of rfl (fun KK hK => ?_)
      go_simp
      refine (HCQ.out _ (HRb.out.below hR)).mono ?_
      rintro e wn ⟨rfl, hbn⟩
      exact hK.out _ _ hbn rfl
    | 4, _ =>
      intro v w' hR hd
      change SpecOp _ _ _ _ 4 (canon _ v _ []) w' _
      simp only [canon_nil]
      refine spec_of rfl (fun KK hK => ?_)
      go_simp
      exact hK.out _ _ (Below.refl _ _) rfl
    | 5, _ =>
      intro v w' hR hd
      have e4 : v 4 = .pointer (some ⟨w.heap.size, 1, none⟩) := hd 4 (by decide)
      change SpecOp _ _ _ _ 5 (Act.put (canon _ v _ []) (some 14) (v 4)) w' _
      rw [e4]
      simp only [canon_nil, Act.put, List.setIfInBounds_toArray, List.set_cons_zero, List.set_cons_succ]
      have q0 := (hR.cell (p := ⟨w.heap.size, 1, none⟩) z0).trans c1
      refine spec_of rfl (fun KK hK => ?_)
      go_simp
      exact hK.out _ _ (Below.refl _ _) rfl
    | 6, _ =>
      intro v w' hR hd
      change SpecOp _ _ _ _ 6 (canon _ v _ []) w' _
      simp only [canon_nil]
      refine spec_of rfl (fun KK hK => ?_)
      go_simp
      exact hK.out _ _ (Below.refl _ _) rfl
    | 7, _ =>
      intro v w' hR hd
      have e6 : v 6 = .pointer (some ⟨w.heap.size + 1, 1, none⟩) := hd 6 (by decide)
      change SpecOp _ _ _ _ 7 (Act.put (canon _ v _ []) (some 16) (v 6)) w' _
      rw [e6]
      simp only [canon_nil, Act.put, List.setIfInBounds_toArray, List.set_cons_zero, List.set_cons_succ]
      have q0 := (hR.cell (p := ⟨w.heap.size + 1, 1, none⟩) z1).trans d1
      refine spec_of rfl (fun KK hK => ?_)
      go_simp
      exact hK.out _ _ (Below.refl _ _) rfl
    | 8, _ =>
      intro v w' hR hd
      have e5 : v 5 = .int .i64 ((W : Int)) := hd 5 (by decide)
      have e7 : v 7 = .int .i64 ((W : Int)) := hd 7 (by decide)
      change SpecOp _ _ _ _ 8 (Act.put (Act.put (canon _ v _ []) (some 17) (v 7)) (some 15) (v 5)) w' _
      rw [e5, e7]
      simp only [canon_nil, Act.put, List.setIfInBounds_toArray, List.set_cons_zero, List.set_cons_succ]
      refine spec_of rfl (fun KK hK => ?_)
      go_simp
      exact hK.out _ _ (Below.refl _ _) (by first | rfl | (simp; done))
    | 9, _ =>
      intro v w' hR hd
      have e8 : v 8 = .bool false := hd 8 (by decide)
      change SpecOp _ _ _ _ 9 (Act.put (canon _ v _ []) (some 18) (v 8)) w' _
      rw [e8]
      simp only [canon_nil, Act.put, List.setIfInBounds_toArray, List.set_cons_zero, List.set_cons_succ]
      refine spec_of rfl (fun KK hK => ?_)
      go_simp
      exact hK.out _ _ (Below.refl _ _) rfl
    | 10, _ =>
      intro v w' hR hd
      have e9 : v 9 = .bool false := hd 9 (by decide)
      change SpecOp _ _ _ _ 10 (Act.put (canon _ v _ []) (some 19) (v 9)) w' _
      rw [e9]
      simp only [canon_nil, Act.put, List.setIfInBounds_toArray, List.set_cons_zero, List.set_cons_succ]
      refine spec_of rfl (fun KK hK => ?_)
      go_simp
      exact hK.out _ _ (Below.refl _ _) rfl
    | 11, _ =>
      intro v w' hR hd
      have e9 : v 9 = .bool false := hd 9 (by decide)
      have e10 : v 10 = .pointer (some ⟨w.heap.size, 2, none⟩) := hd 10 (by decide)
      change SpecOp _ _ _ _ 11 (Act.put (Act.put (canon _ v _ []) (some 20) (v 10)) (some 19) (v 9)) w' _
      rw [e9, e10]
      simp only [canon_nil, Act.put, List.setIfInBounds_toArray, List.set_cons_zero, List.set_cons_succ]
      have q0 := (hR.cell (p := ⟨w.heap.size, 2, none⟩) z0).trans c2
      refine spec_of rfl (fun KK hK => ?_)
      go_simp
      exact hK.out _ _ (Below.refl _ _) rfl
    | 12, _ =>
      intro v w' hR hd
      have e9 : v 9 = .bool false := hd 9 (by decide)
      change SpecOp _ _ _ _ 12 (Act.put (canon _ v _ []) (some 19) (v 9)) w' _
      rw [e9]
      simp only [canon_nil, Act.put, List.setIfInBounds_toArray, List.set_cons_zero, List.set_cons_succ]
      refine spec_of rfl (fun KK hK => ?_)
      go_simp
      exact hK.out _ _ (Below.refl _ _) rfl
    | 13, _ =>
      intro v w' hR hd
      have e9 : v 9 = .bool false := hd 9 (by decide)
      have e12 : v 12 = .pointer (some ⟨w.heap.size + 1, 2, none⟩) := hd 12 (by decide)
      change SpecOp _ _ _ _ 13 (Act.put (Act.put (canon _ v _ []) (some 22) (v 12)) (some 19) (v 9)) w' _
      rw [e9, e12]
      simp only [canon_nil, Act.put, List.setIfInBounds_toArray, List.set_cons_zero, List.set_cons_succ]
      have q0 := (hR.cell (p := ⟨w.heap.size + 1, 2, none⟩) z1).trans d2
      refine spec_of rfl (fun KK hK => ?_)
      go_simp
      exact hK.out _ _ (Below.refl _ _) rfl
    | 14, _ =>
      intro v w' hR hd
      have e9 : v 9 = .bool false := hd 9 (by decide)
      have e11 : v 11 = .int .i64 ((H : Int)) := hd 11 (by decide)
      have e13 : v 13 = .int .i64 ((H : Int)) := hd 13 (by decide)
      change SpecOp _ _ _ _ 14 (Act.put (Act.put (Act.put (canon _ v _ []) (some 23) (v 13)) (some 21) (v 11)) (some 19) (v 9)) w' _
      rw [e9, e11, e13]
      simp only [canon_nil, Act.put, List.setIfInBounds_toArray, List.set_cons_zero, List.set_cons_succ]
      refine spec_of rfl (fun KK hK => ?_)
      go_simp
      exact hK.out _ _ (Below.refl _ _) (by first | rfl | (simp; done))
    | 15, _ =>
      intro v w' hR hd
      have e9 : v 9 = .bool false := hd 9 (by decide)
      have e14 : v 14 = .bool false := hd 14 (by decide)
      change SpecOp _ _ _ _ 15 (Act.put (Act.put (canon _ v _ []) (some 24) (v 14)) (some 19) (v 9)) w' _
      rw [e9, e14]
      simp only [canon_nil, Act.put, List.setIfInBounds_toArray, List.set_cons_zero, List.set_cons_succ]
      refine spec_of rfl (fun KK hK => ?_)
      go_simp
      exact hK.out _ _ (Below.refl _ _) rfl
    | 16, _ =>
      intro v w' hR hd
      have e15 : v 15 = .bool false := hd 15 (by decide)
      change SpecOp _ _ _ _ 16 (Act.put (canon _ v _ []) (some 25) (v 15)) w' _
      rw [e15]
      simp only [canon_nil, Act.put, List.setIfInBounds_toArray, List.set_cons_zero, List.set_cons_succ]
      refine spec_of rfl (fun KK hK => ?_)
      go_simp
      refine (errorIf_any _ _ _).mono ?_
      rintro e wn ⟨rfl, rfl⟩
      exact hK.out _ _ (Below.refl _ _) rfl
    | 17, _ =>
      intro v w' hR hd
      have e1 : v 1 = .int .i64 (0) := hd 1 (by decide)
      have e3 : v 3 = .int .i64 (0) := hd 3 (by decide)
      have e16 : v 16 = .int .i64 (errIf false 2) := hd 16 (by decide)
      change SpecOp _ _ _ _ 17 (Act.put (Act.put (Act.put (canon _ v _ []) (some 26) (v 16)) (some 13) (v 3)) (some 11) (v 1)) w' _
      rw [e1, e3, e16]
      simp only [canon_nil, Act.put, List.setIfInBounds_toArray, List.set_cons_zero, List.set_cons_succ]
      refine spec_of rfl (fun KK hK => ?_)
      go_simp
      exact hK.out _ _ ((Below.refl _ _).alloc (Nat.le_refl _) _) ⟨_, _, rfl, rd_of_blk (Blk.new _ _ _) rfl⟩
    | 18, _ =>
      intro v w' hR hd
      obtain ⟨A17, k17, e17, r17⟩ : ∃ A c, v 17 = .slice A 3 c ∧ Rd w' A ([0, 0, errIf false 2].map (.int .i64)) := hd 17 (by decide)
      change SpecOp _ _ _ _ 18 (Act.put (canon _ v _ []) (some 27) (v 17)) w' _
      rw [e17]
      simp only [canon_nil, Act.put, List.setIfInBounds_toArray, List.set_cons_zero, List.set_cons_succ]
      refine spec_of rfl (fun KK hK => ?_)
      go_simp
      refine (first_n _ _ _ [_, _, _] _ rfl (by simp [maxLen]) r17).mono ?_
      rintro e wn ⟨rfl, rfl⟩
      exact hK.out _ _ (Below.refl _ _) (congrArg (Value.int .i64) (by simp [firstE, errIf]))
    | 19, _ =>
      intro v w' hR hd
      have e18 : v 18 = .int .i64 (0) := hd 18 (by decide)
      change SpecOp _ _ _ _ 19 (Act.put (canon _ v _ []) (some 28) (v 18)) w' _
      rw [e18]
      simp only [canon_nil, Act.put, List.setIfInBounds_toArray, List.set_cons_zero, List.set_cons_succ]
      refine spec_of rfl (fun KK hK => ?_)
      go_simp
      exact hK.out _ _ (Below.refl _ _) rfl
    | i + 20, h => exact absurd h (Nat.not_lt.2 (Nat.le_add_left 20 i))
  case hend =>
    intro v w' hR hall
    simp only [putL, Act.put, List.setIfInBounds_toArray, List.set_cons_zero, List.set_cons_succ]
    have e0 : v 0 = .agg #[.string nm, .int .i64 (W : Int), .int .i64 (H : Int), .slice A n c] := hall 0 (by decide)
    have e1 : v 1 = .int .i64 (0) := hall 1 (by decide)
    have e2 : v 2 = .agg #[.string nm2, .int .i64 (W : Int), .int .i64 (H : Int), .slice B n d] := hall 2 (by decide)
    have e3 : v 3 = .int .i64 (0) := hall 3 (by decide)
    have e4 : v 4 = .pointer (some ⟨w.heap.size, 1, none⟩) := hall 4 (by decide)
    have e5 : v 5 = .int .i64 ((W : Int)) := hall 5 (by decide)
    have e6 : v 6 = .pointer (some ⟨w.heap.size + 1, 1, none⟩) := hall 6 (by decide)
    have e7 : v 7 = .int .i64 ((W : Int)) := hall 7 (by decide)
    have e8 : v 8 = .bool false := hall 8 (by decide)
    have e9 : v 9 = .bool false := hall 9 (by decide)
    have e10 : v 10 = .pointer (some ⟨w.heap.size, 2, none⟩) := hall 10 (by decide)
    have e11 : v 11 = .int .i64 ((H : Int)) := hall 11 (by decide)
    have e12 : v 12 = .pointer (some ⟨w.heap.size + 1, 2, none⟩) := hall 12 (by decide)
    have e13 : v 13 = .int .i64 ((H : Int)) := hall 13 (by decide)
    have e14 : v 14 = .bool false := hall 14 (by decide)
    have e15 : v 15 = .bool false := hall 15 (by decide)
    have e16 : v 16 = .int .i64 (errIf false 2) := hall 16 (by decide)
    obtain ⟨A17, k17, e17, r17⟩ : ∃ A c, v 17 = .slice A 3 c ∧ Rd w' A ([0, 0, errIf false 2].map (.int .i64)) := hall 17 (by decide)
    have e18 : v 18 = .int .i64 (0) := hall 18 (by decide)
    have e19 : v 19 = .int .i64 (0) := hall 19 (by decide)
    rw [e19]
    clear e0 e1 e2 e3 e4 e5 e6 e7 e8 e9 e10 e11 e12 e13 e14 e15 e16 e17 e18 e19 hall r17
    clear c0 c1 c2 c3 d0 d1 d2 d3 z0 z1
    replace HX0 := Lib.hid (HX0.out.below hR); replace HX1 := Lib.hid (HX1.out.below hR); replace HY := Lib.hid (HY.out.below hR); replace HRa := Lib.hid (HRa.out.below hR); replace HRb := Lib.hid (HRb.out.below hR); replace HB := Lib.hid (HB.out.trans (hR.mono HB.out.size))
    clear hR
    obtain ⟨c0, c1, c2, c3⟩ := box4 HX0.out
    go_wp2_with fail
    refine (HLV.out _ HRa.out).mono ?_
    rintro e u1 ⟨rfl, hg1, hb1⟩
    have hgz := HB.out.size
    have hy0 := HY.out.lt
    obtain ⟨g1, hg⟩ : ∃ b, w'.heap.size = b := ⟨_, rfl⟩
    rw [hg] at hg1 hgz hy0 ⊢
    have HGB : RowKit.Hid (w.heap.size + 1 + 1 < g1) := Lib.hid hy0
    replace HX0 := Lib.hid (HX0.out.below hb1); replace HX1 := Lib.hid (HX1.out.below hb1); replace HY := Lib.hid (HY.out.below hb1); replace HRb := Lib.hid (HRb.out.below hb1); replace HB := Lib.hid (HB.out.trans (hb1.mono HB.out.size))
    rw [mix_zero (fun j => Value.int .i64 (G.getD j 0))] at hg1
    have HG1 := Lib.hid hg1
    clear hg1 hb1 hg hgz hy0 c0 c1 c2 c3
    obtain ⟨d0, d1, d2, d3⟩ := box4 HX1.out
    go_wp2_with fail
    refine (HLV2.out _ HRb.out).mono ?_
    rintro e u2 ⟨rfl, hg2, hb1⟩
    have hgz := HG1.out.lt
    have hy0 := HY.out.lt
    obtain ⟨g2, hg⟩ : ∃ b, u1.heap.size = b := ⟨_, rfl⟩
    rw [hg] at hg2 hgz hy0 ⊢
    have HNG : RowKit.Hid (¬ g2 = g1) := Lib.hid (by omega)
    have HGC : RowKit.Hid (w.heap.size + 1 + 1 < g2) := Lib.hid hy0

    replace HX0 := Lib.hid (HX0.out.below hb1); replace HX1 := Lib.hid (HX1.out.below hb1); replace HY := Lib.hid (HY.out.below hb1); replace HG1 := Lib.hid (HG1.out.below hb1); replace HB := Lib.hid (HB.out.trans (hb1.mono HB.out.size))
    have HG2 := Lib.hid hg2
    clear hg2 hb1 hg hgz hy0 d0 d1 d2 d3 HX1
    go_wp2
    go_loopw [40] (fun i wr => ∃ y : Nat, y ≤ n ∧ i = .int .i64 y ∧ Blk wr w.heap.size 50 #[.string nm, .int .i64 (W : Int), .int .i64 (H : Int), .slice A n c] ∧ Blk wr (w.heap.size + 1 + 1) 50 #[.string ⟨#[]⟩, .int .i64 0, .int .i64 0, .slice none 0 0] ∧ Blk wr g2 3 (fillN (fun j => Value.int .i64 (lvl (k.getD j 0))) (.int .i64 0) n n) ∧ Blk wr g1 3 (mixN (fun j => Value.int .i64 (G.getD j 0)) (fun j => Value.int .i64 (lvl (l.getD j 0))) n y) ∧ Below w.heap.size w wr) (fun i _ => n - (intOf i).toNat)
    case atStart => exact ⟨0, by omega, rfl, HX0.out, HY.out, HG2.out, HG1.out, HB.out⟩
    case round =>
      clear HX0 HY HG1 HG2 HB
      obtain ⟨y, hy, rfl, hx0, hy0, hg2, hg1, hbel⟩ := hrel
      obtain ⟨wo, rfl⟩ : ∃ wo : World, wo = wr := ⟨_, rfl⟩
      have HX0 := Lib.hid hx0; have HY := Lib.hid hy0; have HG2 := Lib.hid hg2; have HG1 := Lib.hid hg1; have HB := Lib.hid hbel
      clear hx0 hy0 hg2 hg1 hbel
      by_cases hlt : y < n
      · obtain ⟨x, hx⟩ : ∃ x, lvl (l.getD y 0) = x := ⟨_, rfl⟩
        obtain ⟨z', hz⟩ : ∃ z, lvl (k.getD y 0) = z := ⟨_, rfl⟩
        obtain ⟨b1, b2, b3, b4⟩ := HLB.out y hlt
        have h1 := HG1.out.cell y
        rw [mix_get, if_pos hlt, if_neg (by omega)] at h1
        have h2 := HG2.out.cell y
        rw [fill_get, if_pos hlt, if_pos hlt] at h2
        rw [hx] at h1 b1 b2
        rw [hz] at h2 b3 b4
        have hfr := HG1.out.frozen y
        obtain ⟨m, hm⟩ : ∃ m, x + z' = m := ⟨_, rfl⟩
        have hw : IntKind.i64.wrap (x + z') = m := by rw [IntWalk.i64_in _ (by omega)]; exact hm
        have HGY : RowKit.Hid (G.getD y 0 = m) := Lib.hid (by rw [HGK.out y hlt, hx, hz, hm])
        have i0 : (0 : Int) ≤ (y : Int) := by omega
        have i1 : (y : Int) < (n : Int) := by omega
        have z1 := HG1.out.lt; have z2 := HG2.out.lt
        have HSET := Lib.hid (show Blk (wo.setCell ⟨g1, y, none⟩ (.int .i64 m)) g1 3 (mixN (fun j => Value.int .i64 (G.getD j 0)) (fun j => Value.int .i64 (lvl (l.getD j 0))) n (y + 1)) from by
          have h := HG1.out.set_ y (.int .i64 m)
          have h3 := mix_set (fun j => Value.int .i64 (G.getD j 0)) (fun j => Value.int .i64 (lvl (l.getD j 0))) n y
          simp only [HGY.out] at h3
          rw [h3] at h; exact h)
        have HW := Lib.hid (And.intro hx (And.intro hz hm))
        clear hx hz hm
        go_wp2
        go_roundw
        case rel => exact ⟨y + 1, by omega, by go_num, HX0.out.far (p := ⟨g1, y, none⟩) (by have := HGB.out; simp; omega) (.int .i64 m), HY.out.far (p := ⟨g1, y, none⟩) (by have := HGB.out; simp; omega) (.int .i64 m), HG2.out.far (p := ⟨g1, y, none⟩) HNG.out (.int .i64 m), HSET.out, HB.out.setCell (p := ⟨g1, y, none⟩) (by have := HGB.out; simp; omega) (.int .i64 m)⟩
        case measure => simp [intOf]; omega
      · have hye : y = n := by omega
        subst hye
        obtain ⟨c0, c1, c2, c3⟩ := box4 HX0.out
        have hrd := mix_rd (xs := G.map (Value.int .i64)) HG1.out (by simp [HGN.out]) (fun i hi => by simp [List.getD, HGN.out, hi])
        have HRD := Lib.hid hrd; clear hrd
        go_wp2_with fail
        refine (HWL.out A y c _ _ _ HRD.out).mono ?_
        rintro e u3 ⟨A3, k3, rfl, hrd3, hb1⟩
        have hyb := HY.out.below hb1
        have HBE := Lib.hid (HB.out.trans (hb1.mono HB.out.size))
        have HRE := Lib.hid (rd_set4 hrd3 hyb (.four rfl rfl rfl rfl) (.string rn) (.int .i64 rw') (.int .i64 rh) (.slice A3 rc k3) rfl rfl rfl)
        have zy := hyb.lt
        have f0 := hyb.frozen 0; have f1 := hyb.frozen 1; have f2 := hyb.frozen 2; have f3 := hyb.frozen 3
        obtain ⟨d0, d1, d2, d3⟩ := box4 hyb
        have hyy := Lib.hid (blk_set4' hyb (.string rn) (.int .i64 rw') (.int .i64 rh) (.slice A3 rc k3))
        clear hyb hb1 hrd3 c0 c1 c2 c3
        go_wp2
        obtain ⟨r0, r1, r2, r3⟩ := box4 hyy.out
        exact bodyPost_ret (v := .tuple #[.agg #[.string rn, .int .i64 rw', .int .i64 rh, .slice A3 rc k3], .int .i64 z]) (by simp [results, Tryz.results52, go_sem, r0, r1, r2, r3]) rfl ⟨A3, k3, rfl, HRE.out, below_set4 HBE.out (by omega) _ _ _ _⟩

def scaledErr (p : Pic) (num den : Int) : Int := firstE [p.err, outs num (-1000) 1000, outs den 1 1000]
set_option maxHeartbeats 4000000 in
theorem scaled_err (p : Pic) (num den : Int) (A : Option Addr) (c : Nat) (w : World) (hs : p.name.size ≤ maxLen) (hl : p.l.length ≤ maxLen) (hr : Rd w A (fl p.l)) (z : Int) (he : scaledErr p num den = z) (hz : z ≠ 0) :
    Calls Tryz.prog 53 #[p.val A c, .int .i64 num, .int .i64 den] w fun e w' => e = .returned (.tuple #[.agg #[.string ⟨#[]⟩, .int .i64 0, .int .i64 0, .slice none 0 0], .int .i64 z]) ∧ Below w.heap.size w w' := by
  have hcp := fun w hr => checkPicture_any p A c w hs hl hr
  unfold scaledErr at he
  unfold Pic.val at hcp ⊢
  obtain ⟨pe, hpe⟩ : ∃ z, p.err = z := ⟨_, rfl⟩
  rw [hpe] at hcp he
  clear hpe
  obtain ⟨nm, Wa, Ha, l⟩ := p
  simp only [] at hcp he hr ⊢
  obtain ⟨n, hn⟩ : ∃ n, l.length = n := ⟨_, rfl⟩
  rw [hn] at hcp ⊢
  clear hn hs hl
  have HE := Lib.hid he; have HCP := Lib.hid hcp
  have hz' : (z != 0) = true := by simpa using hz
  clear he hcp hz
  go_enter Tryz.func53, Tryz.ntmps53
  go_upto_region 1 with fail
  have hx0 := (((Blk.new w 50 #[.string nm, .int .i64 Wa, .int .i64 Ha, .slice A n c]).alloc (.cells #[.int .i64 num] 3)).alloc (.cells #[.int .i64 den] 3)).alloc (.cells #[.string ⟨#[]⟩, .int .i64 0, .int .i64 0, .slice none 0 0] 50)
  have hx1 := ((Blk.new (w.alloc (.cells #[.string nm, .int .i64 Wa, .int .i64 Ha, .slice A n c] 50)) 3 #[.int .i64 num]).alloc (.cells #[.int .i64 den] 3)).alloc (.cells #[.string ⟨#[]⟩, .int .i64 0, .int .i64 0, .slice none 0 0] 50)
  have hx2 := (Blk.new ((w.alloc (.cells #[.string nm, .int .i64 Wa, .int .i64 Ha, .slice A n c] 50)).alloc (.cells #[.int .i64 num] 3)) 3 #[.int .i64 den]).alloc (.cells #[.string ⟨#[]⟩, .int .i64 0, .int .i64 0, .slice none 0 0] 50)
  have hx3 := Blk.new (((w.alloc (.cells #[.string nm, .int .i64 Wa, .int .i64 Ha, .slice A n c] 50)).alloc (.cells #[.int .i64 num] 3)).alloc (.cells #[.int .i64 den] 3)) 50 #[.string ⟨#[]⟩, .int .i64 0, .int .i64 0, .slice none 0 0]
  simp only [World.size_alloc] at hx1 hx2 hx3
  have hb0 := ((((Below.refl w.heap.size w).alloc (Nat.le_refl _) (.cells #[.string nm, .int .i64 Wa, .int .i64 Ha, .slice A n c] 50)).alloc (by simp only [World.size_alloc]; omega) (.cells #[.int .i64 num] 3)).alloc (by simp only [World.size_alloc]; omega) (.cells #[.int .i64 den] 3)).alloc (by simp only [World.size_alloc]; omega) (.cells #[.string ⟨#[]⟩, .int .i64 0, .int .i64 0, .slice none 0 0] 50)
  generalize ((((w.alloc (.cells #[.string nm, .int .i64 Wa, .int .i64 Ha, .slice A n c] 50)).alloc (.cells #[.int .i64 num] 3)).alloc (.cells #[.int .i64 den] 3)).alloc (.cells #[.string ⟨#[]⟩, .int .i64 0, .int .i64 0, .slice none 0 0] 50)) = w0 at hx0 hx1 hx2 hx3 hb0 ⊢
  obtain ⟨c0, c1, c2, c3⟩ := box4 hx0
  have c4 := hx1.cell 0
  have c5 := hx2.cell 0
  simp only [List.getElem?_toArray, List.getElem?_cons_zero] at c4 c5
  have z0 := hx0.lt; have z1 := hx1.lt; have z2 := hx2.lt
  have HRa := Lib.hid (hr.below hb0)
  have HY := Lib.hid hx3; have HB := Lib.hid hb0; clear hx0 hx1 hx2 hx3 hb0 hr
  refine wp_region_facts [Fact.is (.agg #[.string nm, .int .i64 Wa, .int .i64 Ha, .slice A n c]), Fact.is (.int .i64 (pe)), Fact.is (.int .i64 (num)), Fact.is (.int .i64 (outs num (-1000) 1000)), Fact.is (.int .i64 (den)), Fact.is (.int .i64 (outs den 1 1000)), Fact.ints 3 [pe, outs num (-1000) 1000, outs den 1 1000], Fact.is (.int .i64 (z)), Fact.is (.int .i64 (z))] [[], [0], [], [2], [], [4], [1, 3, 5], [6], [7]] [(some 9, 0), (some 10, 1), (some 11, 2), (some 12, 3), (some 13, 4), (some 14, 5), (some 15, 6), (some 16, 7), (some 8, 8)] (by kernel_rfl) (by kernel_rfl) (by kernel_rfl) (by kernel_rfl) (fun _ _ _ _ e h => by have h1 : _ ∧ _ := h; exact ⟨e ▸ h1.1, h1.2⟩) ?hstep ?hend
  case hstep =>
    intro i hi
    match i, hi with
    | 0, _ =>
      intro v w' hR hd
      change SpecOp _ _ _ _ 0 (canon _ v _ []) w' _
      simp only [canon_nil]
      have q0 := (hR.cell (p := ⟨w.heap.size, 0, none⟩) z0).trans c0
      have q1 := (hR.cell (p := ⟨w.heap.size, 1, none⟩) z0).trans c1
      have q2 := (hR.cell (p := ⟨w.heap.size, 2, none⟩) z0).trans c2
      have q3 := (hR.cell (p := ⟨w.heap.size, 3, none⟩) z0).trans c3
      refine spec_of rfl (fun KK hK => ?_)
      go_simp
      exact hK.out _ _ (Below.refl _ _) rfl
    | 1, _ =>
      intro v w' hR hd
      have e0 : v 0 = .agg #[.string nm, .int .i64 Wa, .int .i64 Ha, .slice A n c] := hd 0 (by decide)
      change SpecOp _ _ _ _ 1 (Act.put (canon _ v _ []) (some 9) (v 0)) w' _
      rw [e0]
      simp only [canon_nil, Act.put, List.setIfInBounds_toArray, List.set_cons_zero, List.set_cons_succ]
      refine spec_of rfl (fun KK hK => ?_)
      go_simp
      refine (HCP.out _ (HRa.out.below hR)).mono ?_
      rintro e wn ⟨rfl, hbn⟩
      exact hK.out _ _ hbn rfl
    | 2, _ =>
      intro v w' hR hd
      change SpecOp _ _ _ _ 2 (canon _ v _ []) w' _
      simp only [canon_nil]
      have q0 := (hR.cell (p := ⟨w.heap.size + 1, 0, none⟩) z1).trans c4
      refine spec_of rfl (fun KK hK => ?_)
      go_simp
      exact hK.out _ _ (Below.refl _ _) rfl
    | 3, _ =>
      intro v w' hR hd
      have e2 : v 2 = .int .i64 (num) := hd 2 (by decide)
      change SpecOp _ _ _ _ 3 (Act.put (canon _ v _ []) (some 11) (v 2)) w' _
      rw [e2]
      simp only [canon_nil, Act.put, List.setIfInBounds_toArray, List.set_cons_zero, List.set_cons_succ]
      refine spec_of rfl (fun KK hK => ?_)
      go_simp
      refine (outside_any _ _ _ _).mono ?_
      rintro e wn ⟨rfl, rfl⟩
      exact hK.out _ _ (Below.refl _ _) rfl
    | 4, _ =>
      intro v w' hR hd
      change SpecOp _ _ _ _ 4 (canon _ v _ []) w' _
      simp only [canon_nil]
      have q0 := (hR.cell (p := ⟨w.heap.size + 1 + 1, 0, none⟩) z2).trans c5
      refine spec_of rfl (fun KK hK => ?_)
      go_simp
      exact hK.out _ _ (Below.refl _ _) rfl
    | 5, _ =>
      intro v w' hR hd
      have e4 : v 4 = .int .i64 (den) := hd 4 (by decide)
      change SpecOp _ _ _ _ 5 (Act.put (canon _ v _ []) (some 13) (v 4)) w' _
      rw [e4]
      simp only [canon_nil, Act.put, List.setIfInBounds_toArray, List.set_cons_zero, List.set_cons_succ]
      refine spec_of rfl (fun KK hK => ?_)
      go_simp
      refine (outside_any _ _ _ _).mono ?_
      rintro e wn ⟨rfl, rfl⟩
      exact hK.out _ _ (Below.refl _ _) rfl
    | 6, _ =>
      intro v w' hR hd
      have e1 : v 1 = .int .i64 (pe) := hd 1 (by decide)
      have e3 : v 3 = .int .i64 (outs num (-1000) 1000) := hd 3 (by decide)
      have e5 : v 5 = .int .i64 (outs den 1 1000) := hd 5 (by decide)
      change SpecOp _ _ _ _ 6 (Act.put (Act.put (Act.put (canon _ v _ []) (some 14) (v 5)) (some 12) (v 3)) (some 10) (v 1)) w' _
      rw [e1, e3, e5]
      simp only [canon_nil, Act.put, List.setIfInBounds_toArray, List.set_cons_zero, List.set_cons_succ]
      refine spec_of rfl (fun KK hK => ?_)
      go_simp
      exact hK.out _ _ ((Below.refl _ _).alloc (Nat.le_refl _) _) ⟨_, _, rfl, rd_of_blk (Blk.new _ _ _) rfl⟩
    | 7, _ =>
      intro v w' hR hd
      obtain ⟨A6, k6, e6, r6⟩ : ∃ A c, v 6 = .slice A 3 c ∧ Rd w' A ([pe, outs num (-1000) 1000, outs den 1 1000].map (.int .i64)) := hd 6 (by decide)
      change SpecOp _ _ _ _ 7 (Act.put (canon _ v _ []) (some 15) (v 6)) w' _
      rw [e6]
      simp only [canon_nil, Act.put, List.setIfInBounds_toArray, List.set_cons_zero, List.set_cons_succ]
      refine spec_of rfl (fun KK hK => ?_)
      go_simp
      refine (first_n _ _ _ [_, _, _] _ rfl (by simp [maxLen]) r6).mono ?_
      rintro e wn ⟨rfl, rfl⟩
      exact hK.out _ _ (Below.refl _ _) (congrArg (Value.int .i64) HE.out)
    | 8, _ =>
      intro v w' hR hd
      have e7 : v 7 = .int .i64 (z) := hd 7 (by decide)
      change SpecOp _ _ _ _ 8 (Act.put (canon _ v _ []) (some 16) (v 7)) w' _
      rw [e7]
      simp only [canon_nil, Act.put, List.setIfInBounds_toArray, List.set_cons_zero, List.set_cons_succ]
      refine spec_of rfl (fun KK hK => ?_)
      go_simp
      exact hK.out _ _ (Below.refl _ _) rfl
    | i + 9, h => exact absurd h (Nat.not_lt.2 (Nat.le_add_left 9 i))
  case hend =>
    intro v w' hR hall
    simp only [putL, Act.put, List.setIfInBounds_toArray, List.set_cons_zero, List.set_cons_succ]
    have e0 : v 0 = .agg #[.string nm, .int .i64 Wa, .int .i64 Ha, .slice A n c] := hall 0 (by decide)
    have e1 : v 1 = .int .i64 (pe) := hall 1 (by decide)
    have e2 : v 2 = .int .i64 (num) := hall 2 (by decide)
    have e3 : v 3 = .int .i64 (outs num (-1000) 1000) := hall 3 (by decide)
    have e4 : v 4 = .int .i64 (den) := hall 4 (by decide)
    have e5 : v 5 = .int .i64 (outs den 1 1000) := hall 5 (by decide)
    obtain ⟨A6, k6, e6, r6⟩ : ∃ A c, v 6 = .slice A 3 c ∧ Rd w' A ([pe, outs num (-1000) 1000, outs den 1 1000].map (.int .i64)) := hall 6 (by decide)
    have e7 : v 7 = .int .i64 (z) := hall 7 (by decide)
    have e8 : v 8 = .int .i64 (z) := hall 8 (by decide)
    rw [e8]
    clear e0 e1 e2 e3 e4 e5 e6 e7 e8 hall r6
    have hy := HY.out.below hR
    have HB1 := Lib.hid (HB.out.trans (hR.mono HB.out.size))
    clear c0 c1 c2 c3 c4 c5 z0 z1 z2
    have z1 := hy.lt
    have f0 := hy.frozen 0; have f1 := hy.frozen 1; have f2 := hy.frozen 2; have f3 := hy.frozen 3
    obtain ⟨d0, d1, d2, d3⟩ := box4 hy
    have hyy := Lib.hid (blk_set4' hy (.string ⟨#[]⟩) (.int .i64 0) (.int .i64 0) (.slice none 0 0))
    clear hy
    go_wp2
    obtain ⟨r0, r1, r2, r3⟩ := box4 hyy.out
    exact bodyPost_ret (v := .tuple #[.agg #[.string ⟨#[]⟩, .int .i64 0, .int .i64 0, .slice none 0 0], .int .i64 z]) (by simp [results, Tryz.results53, go_sem, r0, r1, r2, r3]) rfl ⟨rfl, below_set4 HB1.out (by omega) _ _ _ _⟩

set_option maxHeartbeats 1000000 in
theorem scaled_lv (nm : ByteArray) (W H : Nat) (l : List Nat) (hp : (Pic.mk nm W H l).Ok) (he : (Pic.mk nm W H l).err = 0) (num den : Int) (hnum : -1000 ≤ num ∧ num ≤ 1000) (hden : 1 ≤ den ∧ den ≤ 1000) (A : Option Addr) (c : Nat) (w : World) (hs : nm.size ≤ maxLen) (hr : Rd w A (fl l)) :
    Calls Tryz.prog 53 #[.agg #[.string nm, .int .i64 (W : Int), .int .i64 (H : Int), .slice A l.length c], .int .i64 num, .int .i64 den] w (JoinEnd (lvP nm W H (scaledL l num den)) (lvZ (scaledL l num den)) w) := by
  obtain ⟨⟨rn, rw', rh, rl⟩, hR0⟩ : ∃ R, lvP nm W H (scaledL l num den) = R := ⟨_, rfl⟩
  obtain ⟨z, hz0⟩ : ∃ z, lvZ (scaledL l num den) = z := ⟨_, rfl⟩
  have HWL := Lib.hid (fun (A0 : Option Addr) (n0 c0 : Nat) (A : Option Addr) (c : Nat) (w : World) (hr : Rd w A ((scaledL l num den).map (Value.int .i64))) => withLevels_lv nm W H A0 n0 c0 A c l.length (scaledL l num den) (by simp [scaledL]) w hp.big hr)
  obtain ⟨rc, hrc⟩ : ∃ x, rl.length = x := ⟨_, rfl⟩
  rw [hR0, hz0] at HWL ⊢
  unfold JoinEnd at HWL ⊢
  simp only [] at HWL ⊢
  rw [hrc] at HWL ⊢
  clear hR0 hz0 hrc
  have hbig : l.length ≤ 4096 := hp.big
  have hl : l.length ≤ maxLen := Nat.le_trans hbig (by decide)
  have HSE : RowKit.Hid (scaledL l num den = (l.map lvl).map (fun n => nearestN (n * num) den)) := Lib.hid (by simp [scaledL])
  have HR := Lib.hid hr; have HP := Lib.hid hp
  have hcp := fun w hr => checkPicture_any (Pic.mk nm W H l) A c w hs hl hr
  rw [he] at hcp
  simp only [Pic.val] at hcp
  have HCP := Lib.hid hcp
  have ho1 : outs num (-1000) 1000 = 0 := by simp [outs, errIf]; omega
  have ho2 : outs den 1 1000 = 0 := by simp [outs, errIf]; omega
  have HO1 := Lib.hid ho1; have HO2 := Lib.hid ho2
  clear hr hp he hcp ho1 ho2 hl hs
  go_enter Tryz.func53, Tryz.ntmps53
  go_wp2_with fail
  have hbx := ((Blk.new w 50 #[.string nm, .int .i64 (W : Int), .int .i64 (H : Int), .slice A l.length c]).alloc (.cells #[.int .i64 num] 3)).alloc (.cells #[.int .i64 den] 3)
  have hby := (Blk.new (w.alloc (.cells #[.string nm, .int .i64 (W : Int), .int .i64 (H : Int), .slice A l.length c] 50)) 3 #[.int .i64 num]).alloc (.cells #[.int .i64 den] 3)
  have hbz := Blk.new ((w.alloc (.cells #[.string nm, .int .i64 (W : Int), .int .i64 (H : Int), .slice A l.length c] 50)).alloc (.cells #[.int .i64 num] 3)) 3 #[.int .i64 den]
  simp only [World.size_alloc] at hby hbz
  have hb0 : Below w.heap.size w (((w.alloc (.cells #[.string nm, .int .i64 (W : Int), .int .i64 (H : Int), .slice A l.length c] 50)).alloc (.cells #[.int .i64 num] 3)).alloc (.cells #[.int .i64 den] 3)) := (((Below.refl _ _).alloc (Nat.le_refl _) _).alloc (by simp) _).alloc (by simp only [World.size_alloc]; omega) _
  have hsz : (((w.alloc (.cells #[.string nm, .int .i64 (W : Int), .int .i64 (H : Int), .slice A l.length c] 50)).alloc (.cells #[.int .i64 num] 3)).alloc (.cells #[.int .i64 den] 3)).heap.size = w.heap.size + 1 + 1 + 1 := by simp only [World.size_alloc]
  generalize ((w.alloc (.cells #[.string nm, .int .i64 (W : Int), .int .i64 (H : Int), .slice A l.length c] 50)).alloc (.cells #[.int .i64 num] 3)).alloc (.cells #[.int .i64 den] 3) = w0 at hbx hby hbz hb0 hsz ⊢
  have HSZ := Lib.hid hsz; clear hsz
  have z0 := hbx.lt; have z1 := hby.lt; have z2 := hbz.lt
  obtain ⟨c0, c1, c2, c3⟩ := box4 hbx
  have c4 := hby.cell 0
  have c5 := hbz.cell 0
  simp only [List.getElem?_toArray, List.getElem?_cons_zero] at c4 c5
  have HB0 := Lib.hid hb0; clear hb0 hbx hby hbz
  have hg := Blk.new w0 50 #[.string ⟨#[]⟩, .int .i64 0, .int .i64 0, .slice none 0 0]
  rw [HSZ.out] at hg
  have hs1 := sk_alloc (sk_refl w0) (.cells #[.string ⟨#[]⟩, .int .i64 0, .int .i64 0, .slice none 0 0] 50)
  generalize w0.alloc (.cells #[.string ⟨#[]⟩, .int .i64 0, .int .i64 0, .slice none 0 0] 50) = w1 at hg hs1 ⊢
  have zg := hg.lt
  go_region_held3 (SK w0)
    (first | exact sk_drew (by assumption) | assumption | exact sk_call (by assumption) (by assumption) | exact sk_alloc (by assumption) _)
    (first
      | (go_at_call 37; refine (HCP.out _ (HR.out.below (HB0.out.trans ((And.left (by assumption : SK w0 _)).mono HB0.out.size)))).mono ?_; rintro e wn ⟨rfl, hbn⟩; have hch := sk_call (w0 := w0) (by assumption) hbn; have hg := Blk.below (g := w.heap.size + 1 + 1 + 1) (by assumption) hbn)
      | (go_at_call 98; refine (outside_any _ _ _ _).mono ?_; rintro e wn ⟨rfl, rfl⟩)
      | (go_at_call 97; refine (first_n _ _ _ [0, _, _] _ rfl (by simp [maxLen]) (by exact rd_of_blk (Blk.new _ _ _) rfl)).mono ?_; rintro e wn ⟨rfl, rfl⟩; rw [show firstE [0, outs num (-1000) 1000, outs den 1 1000] = 0 by simp [firstE, HO1.out, HO2.out]]))
  have hch := sk_alloc hch (.cells #[.int .i64 0, .int .i64 (outs num (-1000) 1000), .int .i64 (outs den 1 1000)] 26)
  have hg := hg.alloc (.cells #[.int .i64 0, .int .i64 (outs num (-1000) 1000), .int .i64 (outs den 1 1000)] 26)
  generalize wn.alloc (.cells #[.int .i64 0, .int .i64 (outs num (-1000) 1000), .int .i64 (outs den 1 1000)] 26) = w2 at hch hg ⊢
  go_wp2_with fail
  go_region_held3 (SK w0)
    (first | exact sk_drew (by assumption) | assumption | exact sk_call (by assumption) (by assumption) | exact sk_alloc (by assumption) _ | exact sk_set4 (by assumption) (by have := HSZ.out; omega) _ _ _ _)
    (first
      | (go_at_call 118; refine (levels_any l HP.out.big HP.out.ok A c _ (HR.out.below (HB0.out.trans ((And.left (by assumption : SK w0 _)).mono HB0.out.size)))).mono ?_; rintro e wn ⟨ad1, rfl, hrd1, hbn⟩; have hch := sk_call (w0 := w0) (by assumption) hbn; have hg := Blk.below (g := w.heap.size + 1 + 1 + 1) (by assumption) hbn)
      | (go_at_call 120; refine (mapII2_n l.length (some ad1) _ (l.map lvl) (by simp) 121 ⟨w.heap.size + 1, 0, none⟩ ⟨w.heap.size + 1 + 1, 0, none⟩ (fun n => nearestN (n * num) den) _ hbig (by rw [List.map_map]; exact hrd1) enters_scaled1 (fun x hx wx hbx => (scaled1_any x num den _ _ wx (by obtain ⟨b, hb, rfl⟩ := List.mem_map.1 hx; exact HP.out.lv hb) hnum hden (((sk_call hch hbx).2.1 _ _ z1).trans c4) (((sk_call hch hbx).2.1 _ _ z2).trans c5)).mono fun e w' ⟨h1, h2⟩ => ⟨h1, by rw [← h2]; exact Below.refl _ _⟩)).mono ?_; rintro e wn ⟨ad2, rfl, hrd2, hbn⟩; have hch := sk_call (w0 := w0) (by assumption) hbn; have hg := Blk.below (g := w.heap.size + 1 + 1 + 1) (by assumption) hbn)
      | (go_at_call 119; refine (HWL.out A l.length c (some ad2) _ _ (by rw [HSE.out]; exact hrd2)).mono ?_; rintro e wn ⟨ad3, k3, rfl, hrd3, hbn⟩; have hch := sk_call (w0 := w0) (by assumption) hbn; have hg := Blk.below (g := w.heap.size + 1 + 1 + 1) (by assumption) hbn; obtain ⟨d0, d1, d2, d3⟩ := box4 hg; have fy := fun i => hg.frozen i))
  all_goals
    have HRD := Lib.hid (rd_set4 hrd3 hg (.four rfl rfl rfl rfl) (.string rn) (.int .i64 rw') (.int .i64 rh) (.slice ad3 rc k3) rfl rfl rfl)
    have HBB := Lib.hid (below_set4 (HB0.out.trans (hch.1.mono HB0.out.size)) (g := w.heap.size + 1 + 1 + 1) (by omega) (.string rn) (.int .i64 rw') (.int .i64 rh) (.slice ad3 rc k3))
    go_wp2
    exact bodyPost_ret (v := .tuple #[.agg #[.string rn, .int .i64 rw', .int .i64 rh, .slice ad3 rc k3], .int .i64 z]) (by simp [results, Tryz.results53, go_sem, d0, d1, d2, d3]) rfl ⟨ad3, k3, rfl, HRD.out, HBB.out⟩
end Go.Proofs.YtfgeokeankfplaaGreatDoor
namespace Go.Proofs.YtfgeokeankfplaaGreatDoor
open Go Go.RowKit
set_option linter.unusedVariables false
theorem rst_grown {B : Nat} {w w' : World} (h : Below w.heap.size w w') (hB : B ≤ w.heap.size) : RSt B w w' where
  below := h.mono hB
  flt := fun p k b hp => by
    by_cases hlt : p.block < w.heap.size
    · exact (h.cell hlt).trans hp
    · have hn : w.heap[p.block]? = none := by simp; omega
      simp [World.cell?, hn] at hp
  blk := fun b T cs hb hn => ⟨cs, hb.below h, hn, rfl⟩
theorem rst_drew {B : Nat} {w : World} : RSt B w w.drew where
  below := (Below.refl B w).drew
  flt := fun p k b hp => hp
  blk := fun b T cs hb hn => ⟨cs, hb, hn, rfl⟩
section
variable {P : Program} {ops : Array Oper} {Q : Exit → Act → World → Prop}
/-- A region that draws its order, the operation js of which stores into a box that is older than it: nothing below B is changed. -/
theorem wp_region_store (fs : List Fact2) (js B : Nat) (FS : World → Prop) (hFS : ∀ w w', FS w → Below w.heap.size w w' → FS w') (tab : List (List Nat)) (ds : List (Option Tmp × Nat)) {id : Nat} {a0 : Act} {w : World} (hB : B ≤ w.heap.size)
    (hm : P.follows .mixedOrders = true) (hok : okOps ops = true) (htab : (List.range ops.size).map (depsOf ops) = tab) (hds : ((List.range ops.size).map fun i => (dstOf ops i, i)) = ds)
    (hjn : (tab.all fun l => !l.contains js) = true)
    (hQ : ∀ (c : List PanicEntry) (a a' : Act) w, a.defers = a'.defers → Q (.panic c) a w → Q (.panic c) a' w)
    (hstep : ∀ i, i < ops.size → i ≠ js → ∀ (v : Nat → Value) (w' : World), RSt B w w' → (∀ d ∈ tab.getD i [], (fs.getD d Fact2.any).p (v d) w') → SpecOp P ops Q Grown i (canon ops v a0 (tab.getD i [])) w' (fs.getD i Fact2.any).p)
    (hsto : ∀ (v : Nat → Value) (w' : World), RSt B w w' → (∀ d ∈ tab.getD js [], (fs.getD d Fact2.any).p (v d) w') → SpecOp P ops Q (RSt B) js (canon ops v a0 (tab.getD js [])) w' (fun _ w'' => FS w''))
    (hend : ∀ (v : Nat → Value) (w' : World), RSt B w w' → (∀ i, i < ops.size → i ≠ js → (fs.getD i Fact2.any).p (v i) w') → FS w' → Q .normal (putL v a0 ds) w')
    (hjs : js < ops.size) : (Code.region id ops true).wp P Q a0 w := by
  have htd : ∀ i, i < ops.size → tab.getD i [] = depsOf ops i := fun i hi => by rw [← htab]; simp [List.getD, hi]
  have hnj : ∀ i, i < ops.size → ∀ d ∈ depsOf ops i, d ≠ js := fun i hi d hd => by
    rintro rfl
    have hm : tab.getD i [] ∈ tab := by
      have : i < tab.length := by rw [← htab]; simpa using hi
      simp [List.getD, this]
    have h := List.all_eq_true.1 hjn _ hm
    rw [htd i hi] at h
    rw [List.contains_iff_mem.2 hd] at h
    cases h
  let F : Nat → (Nat → Value) → World → Prop := fun i v w => if i = js then FS w else (fs.getD i Fact2.any).p (v i) w
  have hFj : ∀ v w, F js v w = FS w := fun v w => if_pos rfl
  have hFn : ∀ i v w, i ≠ js → F i v w = (fs.getD i Fact2.any).p (v i) w := fun i v w h => if_neg h
  let Rj : Nat → World → World → Prop := fun j a b => if j = js then RSt B a b else Grown a b
  have hRj : Rj js = RSt B := by funext a b; exact if_pos rfl
  have hRn : ∀ j, j ≠ js → Rj j = Grown := fun j h => by funext a b; exact if_neg h
  refine wp_region_any hm (each_dep Rj (fun a b => RSt B a b) F a0 w (okOps_spec hok) (fun a b c h k => h.trans k) ?_ ?_ ?_ hQ ?_ ?_ ops.size _ (fun _ => undef) a0 _ (by simp) (by
      refine Nat.le_trans (List.length_filter_le _ _) (by simp)) ⟨rfl, rfl, fun i t hi hl => by simp [hi] at hl, fun t _ => rfl⟩ rst_drew (fun i hi hl => by simp [hi] at hl) fun i hi hl => by simp [hi] at hl)
  · intro j a b hw hr
    by_cases h : j = js
    · rw [h, hRj] at hr; exact hr
    · rw [hRn j h] at hr; exact rst_grown hr (Nat.le_trans hB hw.below.size)
  · intro i v v' w' hi hd hF
    by_cases h : i = js
    · rw [h, hFj] at hF ⊢; exact hF
    · rw [hFn _ _ _ h] at hF ⊢
      rw [← hd i (.inl rfl)]; exact hF
  · intro i j v a b hij hw hF hr
    by_cases h : i = js
    · have hj : j ≠ js := fun hj => hij (h.trans hj.symm)
      rw [h, hFj] at hF ⊢
      rw [hRn j hj] at hr
      exact hFS _ _ hF hr
    · rw [hFn _ _ _ h] at hF ⊢
      by_cases hj : j = js
      · rw [hj, hRj] at hr
        exact (fs.getD i Fact2.any).so _ _ _ _ hF hr
      · rw [hRn j hj] at hr
        exact (fs.getD i Fact2.any).st _ _ _ hF hr
  · intro i hi v w' hw hd
    have hd' : ∀ d ∈ tab.getD i [], (fs.getD d Fact2.any).p (v d) w' := fun d hm => by
      rw [htd i hi] at hm
      have := hd d hm
      rw [hFn _ _ _ (hnj i hi d hm)] at this
      exact this
    by_cases h : i = js
    · subst h
      have h1 := hsto v w' hw hd'
      rw [htd i hi] at h1
      rw [hRj]
      intro K hK
      refine h1 K fun u w'' hr hf => hK u w'' hr ?_
      exact Eq.mpr (hFj (fun k => if k = i then u else v k) w'') hf
    · have h1 := hstep i hi h v w' hw hd'
      rw [htd i hi] at h1
      rw [hRn i h]
      intro K hK
      refine h1 K fun u w'' hr hf => hK u w'' hr ?_
      refine Eq.mpr (hFn i (fun k => if k = i then u else v k) w'' h) ?_
      show (fs.getD i Fact2.any).p (if i = i then u else v i) w''
      rw [if_pos rfl]; exact hf
  · intro v w' hw hf
    rw [canon_putL, hds]
    refine hend v w' hw (fun i hi hne' => ?_) ?_
    · have := hf i hi; rw [hFn _ _ _ hne'] at this; exact this
    · have := hf js hjs; rw [hFj] at this; exact this
end
theorem rst_set2 {B : Nat} {w : World} {g : Nat} {T : TypeId} {cs : Array Value} (hb : Blk w g T cs) (hn : NF cs) (hB : B ≤ g) (a b : Value) (ha : fltV a = false) (hb' : fltV b = false) : RSt B w ((w.setCell ⟨g, 0, none⟩ a).setCell ⟨g, 1, none⟩ b) :=
  (rst_set hb hn hB 0 a ha).trans (rst_set (hb.set_ 0 a) (hn.set 0 a ha) hB 1 b hb')
theorem two_of {cs : Array Value} (h : cs.size = 2) : ∃ a b, cs = #[a, b] := by
  obtain ⟨l⟩ := cs
  match l, h with
  | [a, b], _ => exact ⟨a, b, rfl⟩
theorem blk_set2' {w : World} {g : Nat} {T : TypeId} {x y : Value} (h : Blk w g T #[x, y]) (a b : Value) : Blk ((w.setCell ⟨g, 0, none⟩ a).setCell ⟨g, 1, none⟩ b) g T #[a, b] := by
  have h1 := (h.set_ 0 a).set_ 1 b
  simpa using h1
theorem nf_two {a b : Value} (ha : fltV a = false) (hb : fltV b = false) : NF #[a, b] := fun k u hu => by
  match k, hu with
  | 0, hu => cases hu; exact ha
  | 1, hu => cases hu; exact hb
theorem below_rst {B C : Nat} {w w' : World} (h : RSt B w w') (hC : C ≤ B) : Below C w w' := h.below.mono hC
end Go.Proofs.YtfgeokeankfplaaGreatDoor
namespace Go.Proofs.YtfgeokeankfplaaGreatDoor
open Go.RowKit
set_option linter.unusedVariables false
set_option maxRecDepth 100000

theorem sumR_shape1 (nm nm2 : ByteArray) (Wa Ha Wb Hb : Int) (ba : 1 ≤ Wa ∧ Wa ≤ 64 ∧ 1 ≤ Ha ∧ Ha ≤ 64) (bb : 1 ≤ Wb ∧ Wb ≤ 64 ∧ 1 ≤ Hb ∧ Hb ≤ 64) (hne : ¬ Wa = Wb) (A B : Option Addr) (n m c d : Nat) (w : World) :
    Calls Tryz.prog 57 #[.agg #[.string nm, .int .i64 Wa, .int .i64 Ha, .slice A n c], .agg #[.string nm2, .int .i64 Wb, .int .i64 Hb, .slice B m d]] w fun e w' => e = .returned (.tuple #[.agg #[.string ⟨#[]⟩, .int .i64 0, .int .i64 0, .slice none 0 0], .int .i64 2]) ∧ Below w.heap.size w w' := by
  obtain ⟨ba1, ba2, ba3, ba4⟩ := ba
  obtain ⟨bb1, bb2, bb3, bb4⟩ := bb
  go_enter Tryz.func57, Tryz.ntmps57
  go_upto_region 1 with fail
  have hx0 := ((Blk.new w 43 #[.string nm, .int .i64 Wa, .int .i64 Ha, .slice A n c]).alloc (.cells #[.string nm2, .int .i64 Wb, .int .i64 Hb, .slice B m d] 43)).alloc (.cells #[.string ⟨#[]⟩, .int .i64 0, .int .i64 0, .slice none 0 0] 43)
  have hx1 := (Blk.new (w.alloc (.cells #[.string nm, .int .i64 Wa, .int .i64 Ha, .slice A n c] 43)) 43 #[.string nm2, .int .i64 Wb, .int .i64 Hb, .slice B m d]).alloc (.cells #[.string ⟨#[]⟩, .int .i64 0, .int .i64 0, .slice none 0 0] 43)
  have hx2 := Blk.new ((w.alloc (.cells #[.string nm, .int .i64 Wa, .int .i64 Ha, .slice A n c] 43)).alloc (.cells #[.string nm2, .int .i64 Wb, .int .i64 Hb, .slice B m d] 43)) 43 #[.string ⟨#[]⟩, .int .i64 0, .int .i64 0, .slice none 0 0]
  simp only [World.size_alloc] at hx1 hx2
  have hb0 := (((Below.refl w.heap.size w).alloc (Nat.le_refl _) (.cells #[.string nm, .int .i64 Wa, .int .i64 Ha, .slice A n c] 43)).alloc (by simp only [World.size_alloc]; omega) (.cells #[.string nm2, .int .i64 Wb, .int .i64 Hb, .slice B m d] 43)).alloc (by simp only [World.size_alloc]; omega) (.cells #[.string ⟨#[]⟩, .int .i64 0, .int .i64 0, .slice none 0 0] 43)
  generalize (((w.alloc (.cells #[.string nm, .int .i64 Wa, .int .i64 Ha, .slice A n c] 43)).alloc (.cells #[.string nm2, .int .i64 Wb, .int .i64 Hb, .slice B m d] 43)).alloc (.cells #[.string ⟨#[]⟩, .int .i64 0, .int .i64 0, .slice none 0 0] 43)) = w0 at hx0 hx1 hx2 hb0 ⊢
  obtain ⟨c0, c1, c2, c3⟩ := box4 hx0
  obtain ⟨d0, d1, d2, d3⟩ := box4 hx1
  have z1 := hx2.lt
  have f0 := hx2.frozen 0; have f1 := hx2.frozen 1; have f2 := hx2.frozen 2; have f3 := hx2.frozen 3
  obtain ⟨e0, e1, e2, e3⟩ := box4 hx2
  have hyy := Lib.hid (show Blk ((((w0.setCell ⟨w.heap.size + 1 + 1, 0, none⟩ (.string ⟨#[]⟩)).setCell ⟨w.heap.size + 1 + 1, 1, none⟩ (.int .i64 0)).setCell ⟨w.heap.size + 1 + 1, 2, none⟩ (.int .i64 0)).setCell ⟨w.heap.size + 1 + 1, 3, none⟩ (.slice none 0 0)) (w.heap.size + 1 + 1) 43 #[.string ⟨#[]⟩, .int .i64 0, .int .i64 0, .slice none 0 0] from (((hx2.set_ 0 _).set_ 1 _).set_ 2 _).set_ 3 _)
  have HB := Lib.hid hb0; clear hx0 hx1 hx2 hb0
  go_wp2
  all_goals
    obtain ⟨r0, r1, r2, r3⟩ := box4 hyy.out
    exact bodyPost_ret (v := .tuple #[.agg #[.string ⟨#[]⟩, .int .i64 0, .int .i64 0, .slice none 0 0], .int .i64 2]) (by simp [results, Tryz.results57, go_sem, r0, r1, r2, r3]) rfl ⟨rfl, below_set4 HB.out (by omega) _ _ _ _⟩


theorem sumR_shape2 (nm nm2 : ByteArray) (Wa Ha Hb : Int) (ba : 1 ≤ Wa ∧ Wa ≤ 64 ∧ 1 ≤ Ha ∧ Ha ≤ 64) (bb : 1 ≤ Wa ∧ Wa ≤ 64 ∧ 1 ≤ Hb ∧ Hb ≤ 64) (hne : ¬ Ha = Hb) (A B : Option Addr) (n m c d : Nat) (w : World) :
    Calls Tryz.prog 57 #[.agg #[.string nm, .int .i64 Wa, .int .i64 Ha, .slice A n c], .agg #[.string nm2, .int .i64 Wa, .int .i64 Hb, .slice B m d]] w fun e w' => e = .returned (.tuple #[.agg #[.string ⟨#[]⟩, .int .i64 0, .int .i64 0, .slice none 0 0], .int .i64 2]) ∧ Below w.heap.size w w' := by
  obtain ⟨ba1, ba2, ba3, ba4⟩ := ba
  obtain ⟨bb1, bb2, bb3, bb4⟩ := bb
  go_enter Tryz.func57, Tryz.ntmps57
  go_upto_region 1 with fail
  have hx0 := ((Blk.new w 43 #[.string nm, .int .i64 Wa, .int .i64 Ha, .slice A n c]).alloc (.cells #[.string nm2, .int .i64 Wa, .int .i64 Hb, .slice B m d] 43)).alloc (.cells #[.string ⟨#[]⟩, .int .i64 0, .int .i64 0, .slice none 0 0] 43)
  have hx1 := (Blk.new (w.alloc (.cells #[.string nm, .int .i64 Wa, .int .i64 Ha, .slice A n c] 43)) 43 #[.string nm2, .int .i64 Wa, .int .i64 Hb, .slice B m d]).alloc (.cells #[.string ⟨#[]⟩, .int .i64 0, .int .i64 0, .slice none 0 0] 43)
  have hx2 := Blk.new ((w.alloc (.cells #[.string nm, .int .i64 Wa, .int .i64 Ha, .slice A n c] 43)).alloc (.cells #[.string nm2, .int .i64 Wa, .int .i64 Hb, .slice B m d] 43)) 43 #[.string ⟨#[]⟩, .int .i64 0, .int .i64 0, .slice none 0 0]
  simp only [World.size_alloc] at hx1 hx2
  have hb0 := (((Below.refl w.heap.size w).alloc (Nat.le_refl _) (.cells #[.string nm, .int .i64 Wa, .int .i64 Ha, .slice A n c] 43)).alloc (by simp only [World.size_alloc]; omega) (.cells #[.string nm2, .int .i64 Wa, .int .i64 Hb, .slice B m d] 43)).alloc (by simp only [World.size_alloc]; omega) (.cells #[.string ⟨#[]⟩, .int .i64 0, .int .i64 0, .slice none 0 0] 43)
  generalize (((w.alloc (.cells #[.string nm, .int .i64 Wa, .int .i64 Ha, .slice A n c] 43)).alloc (.cells #[.string nm2, .int .i64 Wa, .int .i64 Hb, .slice B m d] 43)).alloc (.cells #[.string ⟨#[]⟩, .int .i64 0, .int .i64 0, .slice none 0 0] 43)) = w0 at hx0 hx1 hx2 hb0 ⊢
  obtain ⟨c0, c1, c2, c3⟩ := box4 hx0
  obtain ⟨d0, d1, d2, d3⟩ := box4 hx1
  have z1 := hx2.lt
  have f0 := hx2.frozen 0; have f1 := hx2.frozen 1; have f2 := hx2.frozen 2; have f3 := hx2.frozen 3
  obtain ⟨e0, e1, e2, e3⟩ := box4 hx2
  have hyy := Lib.hid (show Blk ((((w0.setCell ⟨w.heap.size + 1 + 1, 0, none⟩ (.string ⟨#[]⟩)).setCell ⟨w.heap.size + 1 + 1, 1, none⟩ (.int .i64 0)).setCell ⟨w.heap.size + 1 + 1, 2, none⟩ (.int .i64 0)).setCell ⟨w.heap.size + 1 + 1, 3, none⟩ (.slice none 0 0)) (w.heap.size + 1 + 1) 43 #[.string ⟨#[]⟩, .int .i64 0, .int .i64 0, .slice none 0 0] from (((hx2.set_ 0 _).set_ 1 _).set_ 2 _).set_ 3 _)
  have HB := Lib.hid hb0; clear hx0 hx1 hx2 hb0
  go_wp2
  all_goals
    obtain ⟨r0, r1, r2, r3⟩ := box4 hyy.out
    exact bodyPost_ret (v := .tuple #[.agg #[.string ⟨#[]⟩, .int .i64 0, .int .i64 0, .slice none 0 0], .int .i64 2]) (by simp [results, Tryz.results57, go_sem, r0, r1, r2, r3]) rfl ⟨rfl, below_set4 HB.out (by omega) _ _ _ _⟩


theorem mean_err (p : Pic) (hne : p.err ≠ 0) (A : Option Addr) (c : Nat) (w : World) (hs : p.name.size ≤ maxLen) (hl : p.l.length ≤ maxLen) (hr : Rd w A (fl p.l)) :
    Calls Tryz.prog 56 #[p.val A c] w fun e w' => e = .returned (.tuple #[.agg #[.int .i64 0, .int .i64 0], .int .i64 p.err]) ∧ Below w.heap.size w w' := by
  have HR := Lib.hid hr
  clear hr
  have hcp := fun w hr => checkPicture_any p A c w hs hl hr
  have hne' : (p.err != 0) = true := by simp [hne]
  clear hne
  have HCP := Lib.hid hcp; clear hcp
  unfold Pic.val at HCP ⊢
  go_enter Tryz.func56, Tryz.ntmps56
  go_wp2_with fail
  have hb0 : Below w.heap.size w ((w.alloc (.cells #[.string p.name, .int .i64 p.w, .int .i64 p.h, .slice A p.l.length c] 50)).alloc (.cells #[.int .i64 0, .int .i64 0] 33)) := ((Below.refl _ _).alloc (Nat.le_refl _) _).alloc (by simp) _
  have hby := Blk.new (w.alloc (.cells #[.string p.name, .int .i64 p.w, .int .i64 p.h, .slice A p.l.length c] 50)) 33 #[.int .i64 0, .int .i64 0]
  simp only [World.size_alloc] at hby
  generalize ((w.alloc (.cells #[.string p.name, .int .i64 p.w, .int .i64 p.h, .slice A p.l.length c] 50)).alloc (.cells #[.int .i64 0, .int .i64 0] 33)) = w0 at hb0 hby ⊢
  have HB0 := Lib.hid hb0; clear hb0
  refine (HCP.out _ (by exact HR.out.below HB0.out)).mono ?_
  rintro e w1 ⟨rfl, hb1⟩
  have hy := hby.below hb1
  have HB1 := Lib.hid (HB0.out.trans (hb1.mono HB0.out.size)); clear hb1 hby
  have z1 := hy.lt
  have f0 := hy.frozen 0; have f1 := hy.frozen 1
  obtain ⟨d0, d1⟩ := box2 hy
  have hyy := Lib.hid (blk_set2' hy (.int .i64 0) (.int .i64 0))
  clear hy
  go_wp2
  obtain ⟨r0, r1⟩ := box2 hyy.out
  exact bodyPost_ret (v := .tuple #[.agg #[.int .i64 0, .int .i64 0], .int .i64 p.err]) (by simp [results, Tryz.results56, go_sem, r0, r1]) rfl ⟨rfl, (HB1.out.setCell (p := ⟨_, 0, none⟩) (by simp) _).setCell (p := ⟨_, 1, none⟩) (by simp) _⟩

/-- What a function of a picture and two numbers gives. -/
def Joins3 (f : FuncId) (p : Pic) (num den : Int) (R : Pic) (z : Int) : Prop := ∀ (A : Option Addr) (c : Nat) (w : World), p.l.length ≤ c → Rd w A (fl p.l) → Calls Tryz.prog f #[p.val A c, .int .i64 num, .int .i64 den] w (JoinEnd R z w)
def Fit3 (f g : FuncId) (p : Pic) (num den : Int) : Prop := ∃ R z, (z ≠ 0 → R = noPic) ∧ sameF R.l R.l = true ∧ R.l.length ≤ maxLen ∧ Joins3 f p num den R z ∧ Joins3 g p num den R z
/-- What a function of a picture gives: a value, and maybe an error. -/
def Gives (f : FuncId) (p : Pic) (v : Value) : Prop := ∀ (A : Option Addr) (c : Nat) (w : World), Rd w A (fl p.l) → Calls Tryz.prog f #[p.val A c] w fun e w' => e = .returned v ∧ Below w.heap.size w w'
theorem lv_fit (nm : ByteArray) (W H : Int) (G : List Int) (hl : G.length ≤ maxLen) : (lvZ G ≠ 0 → lvP nm W H G = noPic) ∧ sameF (lvP nm W H G).l (lvP nm W H G).l = true ∧ (lvP nm W H G).l.length ≤ maxLen := by
  cases h : G.any largeB
  · rw [(lv_good (nm := nm) (W := W) (H := H) h).1, (lv_good (nm := nm) (W := W) (H := H) h).2]
    refine ⟨fun h => absurd rfl h, sameF_self fun b hb => ?_, by simpa using hl⟩
    obtain ⟨x, hx, rfl⟩ := List.mem_map.1 hb
    have h1 : largeB x = false := by
      cases h2 : largeB x
      · rfl
      · have := List.any_eq_false.1 h x hx; rw [h2] at this; exact absurd rfl this
    exact (smp_valid x (by unfold largeB at h1; simp at h1; omega)).1
  · rw [(lv_bad (nm := nm) (W := W) (H := H) h).1, (lv_bad (nm := nm) (W := W) (H := H) h).2]
    exact ⟨fun _ => rfl, rfl, by decide⟩
section
variable {nm nm2 : ByteArray} {W H V K : Nat} {l k : List Nat} (hp : (Pic.mk nm W H l).Ok) (hq : (Pic.mk nm2 V K k).Ok)
include hp hq
theorem sum_fit : Fit 52 57 (Pic.mk nm W H l) (Pic.mk nm2 V K k) := by
  obtain ⟨hW, hH, hlen, hs, hmax⟩ := ok_sizes hp
  obtain ⟨hV, hK, hlen2, hs2, hmax2⟩ := ok_sizes hq
  have hpe := ok_err hp
  have hqe := ok_err hq
  by_cases h1 : W = V
  · subst h1
    by_cases h2 : H = K
    · subst h2
      obtain ⟨n, hn⟩ : ∃ n, W * H = n := ⟨_, rfl⟩
      rw [hn] at hlen hlen2
      have hn4 : n ≤ 4096 := by rw [← hlen]; exact hp.big
      obtain ⟨a1, a2, a3⟩ := lv_fit nm W H (sumL l k) (by rw [sumL_take l k n hlen hlen2]; exact Nat.le_trans hn4 (by decide))
      refine ⟨_, _, a1, a2, a3, ?_, ?_⟩
      · intro A B c d w hc hd hr hr2
        have h := sum_lv nm nm2 W H l k n hlen hlen2 hp hq A B c d w hr hr2
        unfold Pic.val; simp only [hlen, hlen2]; exact h
      · intro A B c d w hc hd hr hr2
        obtain ⟨ad, rfl⟩ := addr_of hp hr
        obtain ⟨ad2, rfl⟩ := addr_of2 hq hr2
        have h := sumR_ok nm nm2 W H l k n hlen hlen2 hn hn4 hp.ok hq.ok ad ad2 c d w hr hr2
        unfold Pic.val; simp only [hlen, hlen2]; exact h
    · have he : sumErr (Pic.mk nm W H l) (Pic.mk nm2 W K k) = 2 := by
        unfold sumErr; rw [hpe, hqe]
        have : ((W : Int) != (W : Int) || (H : Int) != (K : Int)) = true := by simp; omega
        simp only []
        rw [this]
        simp [firstE, errIf]
      refine fit_refused (fun A B c d w hc hd hr hr2 => (sum_err _ _ A B c d w hs hmax hs2 hmax2 hr hr2 2 he (by decide)).mono fun e w' h => join_none h) (fun A B c d w hc hd hr hr2 => ?_)
      exact (sumR_shape2 nm nm2 W H K (by omega) (by omega) (by omega) A B _ _ c d w).mono fun e w' h => join_none h
  · have he : sumErr (Pic.mk nm W H l) (Pic.mk nm2 V K k) = 2 := by
      unfold sumErr; rw [hpe, hqe]
      have : ((W : Int) != (V : Int) || (H : Int) != (K : Int)) = true := by simp; omega
      simp only []
      rw [this]
      simp [firstE, errIf]
    refine fit_refused (fun A B c d w hc hd hr hr2 => (sum_err _ _ A B c d w hs hmax hs2 hmax2 hr hr2 2 he (by decide)).mono fun e w' h => join_none h) (fun A B c d w hc hd hr hr2 => ?_)
    exact (sumR_shape1 nm nm2 W H V K (by omega) (by omega) (by omega) A B _ _ c d w).mono fun e w' h => join_none h
omit hq
theorem scaled_fit (num den : Int) (hnum : -1000 ≤ num ∧ num ≤ 1000) (hden : 1 ≤ den ∧ den ≤ 1000) : Fit3 53 58 (Pic.mk nm W H l) num den := by
  obtain ⟨hW, hH, hlen, hs, hmax⟩ := ok_sizes hp
  obtain ⟨n, hn⟩ : ∃ n, W * H = n := ⟨_, rfl⟩
  rw [hn] at hlen
  have hn4 : n ≤ 4096 := by rw [← hlen]; exact hp.big
  obtain ⟨a1, a2, a3⟩ := lv_fit nm W H (scaledL l num den) (by rw [show (scaledL l num den).length = n by simp [scaledL, hlen]]; exact Nat.le_trans hn4 (by decide))
  refine ⟨_, _, a1, a2, a3, ?_, ?_⟩
  · intro A c w hc hr
    exact scaled_lv nm W H l hp (ok_err hp) num den hnum hden A c w hs hr
  · intro A c w hc hr
    obtain ⟨ad, rfl⟩ := addr_of hp hr
    have h := scaledR_ok nm W H l n hlen hn hn4 hp.ok num den hnum hden ad c w hr
    unfold Pic.val; simp only [hlen]; exact h
theorem energy_fit : ∃ E, Gives 54 (Pic.mk nm W H l) (.tuple #[.int .i64 E, .int .i64 0]) ∧ Gives 59 (Pic.mk nm W H l) (.int .i64 E) := by
  obtain ⟨hW, hH, hlen, hs, hmax⟩ := ok_sizes hp
  exact ⟨_, fun A c w hr => energy_ok _ hp (ok_err hp) A c w hs hmax hr, fun A c w hr => energyR_ok nm W H l _ rfl hp.big hp.ok A c w hr⟩
theorem peak_fit : ∃ E, Gives 55 (Pic.mk nm W H l) (.tuple #[.int .i64 E, .int .i64 0]) ∧ Gives 60 (Pic.mk nm W H l) (.int .i64 E) := by
  obtain ⟨hW, hH, hlen, hs, hmax⟩ := ok_sizes hp
  exact ⟨_, fun A c w hr => peak_ok _ hp (ok_err hp) A c w hs hmax hr, fun A c w hr => peakR_ok nm W H l _ rfl hp.big hp.ok A c w hr⟩
theorem mean_fit : ∃ a b, Gives 56 (Pic.mk nm W H l) (.tuple #[.agg #[.int .i64 a, .int .i64 b], .int .i64 0]) ∧ Gives 61 (Pic.mk nm W H l) (.agg #[.int .i64 a, .int .i64 b]) := by
  obtain ⟨hW, hH, hlen, hs, hmax⟩ := ok_sizes hp
  have h1 : 1 ≤ l.length := by rw [hlen]; exact prod_pos hW.1 hH.1
  exact ⟨_, _, fun A c w hr => mean_ok _ hp (ok_err hp) A c w hs hmax hr, fun A c w hr => meanR_ok nm W H l _ rfl hp.big hp.ok A c w hr h1⟩
end
end Go.Proofs.YtfgeokeankfplaaGreatDoor
