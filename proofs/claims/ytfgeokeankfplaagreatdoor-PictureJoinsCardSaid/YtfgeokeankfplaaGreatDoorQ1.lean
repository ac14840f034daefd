/- Parts of a proof: Whether a picture is narrow; the law's 'one' for any picture. Beside, Above and Woven of the code, where they are refused. -/
import Derived.Test.YtfgeokeankfplaaGreatDoorP2
import Derived.Test.YtfgeokeankfplaaGreatDoorP4
namespace Go.Proofs.YtfgeokeankfplaaGreatDoor
open Go.RowKit
set_option linter.unusedVariables false
set_option maxRecDepth 100000
def narrowB (p : Pic) : Bool := shortB p || (decide (p.name.size ≤ 40) && decide (p.l.length ≤ 64) && (decide (p.w = 1) || decide (p.h = 1)))
theorem narrow_facts {p : Pic} (h : narrowB p = true) : p.name.size ≤ 40 ∧ p.l.length ≤ 160 := by
  unfold narrowB at h
  rw [Bool.or_eq_true] at h
  rcases h with h | h
  · exact short_facts h
  · simp at h; omega
set_option maxHeartbeats 2000000 in
theorem narrow_any (p : Pic) (A : Option Addr) (c : Nat) (w : World) :
    Calls Tryz.prog 39 #[p.val A c] w fun e w' => e = .returned (.bool (narrowB p)) ∧ Below w.heap.size w w' := by
  have HS0 := Lib.hid (fun w => shortR_any p A c w)
  unfold Pic.val at HS0 ⊢
  have key : ∀ b, narrowB p = b → Calls Tryz.prog 39 #[.agg #[.string p.name, .int .i64 p.w, .int .i64 p.h, .slice A p.l.length c]] w fun e w' => e = .returned (.bool b) ∧ Below w.heap.size w w' := by
    intro b hb
    unfold narrowB at hb
    obtain ⟨nm, X, Y, l⟩ := p
    simp only [] at HS0 hb ⊢
    obtain ⟨n, hn⟩ : ∃ n, l.length = n := ⟨_, rfl⟩
    obtain ⟨sb, hsb⟩ : ∃ s, shortB (Pic.mk nm X Y l) = s := ⟨_, rfl⟩
    obtain ⟨m, hm⟩ : ∃ m, nm.size = m := ⟨_, rfl⟩
    rw [hn] at HS0 hb ⊢
    rw [hsb] at HS0 hb
    rw [hm] at hb
    have HN := Lib.hid hm
    have HB0 := Lib.hid hb
    clear hn hsb hb
    have HB := Lib.hid (Below.refl w.heap.size w)
    go_enter Tryz.func39, Tryz.ntmps39
    go_upto_region 1 with fail
    have hn := Blk.new w 43 #[.string nm, .int .i64 X, .int .i64 Y, .slice A n c]
    have hb := (Below.refl w.heap.size w).alloc (Nat.le_refl _) (.cells #[.string nm, .int .i64 X, .int .i64 Y, .slice A n c] 43)
    generalize w.alloc (.cells #[.string nm, .int .i64 X, .int .i64 Y, .slice A n c] 43) = w0 at hn hb ⊢
    obtain ⟨c0, c1, c2, c3⟩ := box4 hn
    replace HB := Lib.hid hb
    have HX := Lib.hid hn; clear hn hb
    go_wp2_with fail
    refine (HS0.out _).mono ?_
    rintro e u1 ⟨rfl, hb1⟩
    replace HX := Lib.hid (HX.out.below hb1); replace HB := Lib.hid (HB.out.trans (hb1.mono HB.out.size)); clear hb1 c0 c1 c2 c3
    obtain ⟨c0, c1, c2, c3⟩ := box4 HX.out
    cases sb
    case true =>
      go_wp2
      go_ret
      exact ⟨by have := HB0.out; simp at this; subst this; rfl, HB.out⟩
    case false =>
      by_cases h1 : m ≤ 40 <;> by_cases h2 : n ≤ 64 <;> by_cases h3 : X = 1 <;> by_cases h4 : Y = 1
      all_goals
        go_wp2
        go_ret
        exact ⟨by have := HB0.out; simp [h1, h2, h3, h4] at this; subst this; first | rfl | (simp [h3, h4]; done) | (simp [h3]; done) | simp [h4], HB.out⟩
  exact key _ rfl
/-- The law's 'one', where an error is expected, for any empty list. -/
theorem one_none (E : Option Addr) (k : Nat) (nm : ByteArray) (W H : Int) (B : Option Addr) (n d : Nat) (z : Int) (hz : z ≠ 0) (w : World) :
    Calls Tryz.prog 38 #[.agg #[.string ⟨#[]⟩, .int .i64 0, .int .i64 0, .slice E 0 k], .int .i64 z, .int .i64 z, .agg #[.string nm, .int .i64 W, .int .i64 H, .slice B n d]] w fun e w' => e = .returned (.bool true) ∧ Below w.heap.size w w' := by
  have hz' : (z != 0) = true := by simpa using hz
  have HZ := Lib.hid hz; clear hz
  go_enter Tryz.func38, Tryz.ntmps38
  go_upto_region 1 with fail
  have hbx := (Blk.new w 50 #[.string ⟨#[]⟩, .int .i64 0, .int .i64 0, .slice E 0 k]).alloc (.cells #[.string nm, .int .i64 W, .int .i64 H, .slice B n d] 43)
  have hby := Blk.new (w.alloc (.cells #[.string ⟨#[]⟩, .int .i64 0, .int .i64 0, .slice E 0 k] 50)) 43 #[.string nm, .int .i64 W, .int .i64 H, .slice B n d]
  have hb0 : Below w.heap.size w ((w.alloc (.cells #[.string ⟨#[]⟩, .int .i64 0, .int .i64 0, .slice E 0 k] 50)).alloc (.cells #[.string nm, .int .i64 W, .int .i64 H, .slice B n d] 43)) := ((Below.refl _ _).alloc (Nat.le_refl _) _).alloc (by simp) _
  simp only [World.size_alloc] at hby
  generalize (w.alloc (.cells #[.string ⟨#[]⟩, .int .i64 0, .int .i64 0, .slice E 0 k] 50)).alloc (.cells #[.string nm, .int .i64 W, .int .i64 H, .slice B n d] 43) = u0 at hbx hby hb0 ⊢
  have hx2 := (((hbx.far (p := ⟨w.heap.size + 1, 0, none⟩) (by simp) (.string ⟨#[]⟩)).far (p := ⟨w.heap.size + 1, 1, none⟩) (by simp) (.int .i64 0)).far (p := ⟨w.heap.size + 1, 2, none⟩) (by simp) (.int .i64 0)).far (p := ⟨w.heap.size + 1, 3, none⟩) (by simp) (.slice none 0 0)
  have hy2 : Blk ((((u0.setCell ⟨w.heap.size + 1, 0, none⟩ (.string ⟨#[]⟩)).setCell ⟨w.heap.size + 1, 1, none⟩ (.int .i64 0)).setCell ⟨w.heap.size + 1, 2, none⟩ (.int .i64 0)).setCell ⟨w.heap.size + 1, 3, none⟩ (.slice none 0 0)) (w.heap.size + 1) 43 #[.string ⟨#[]⟩, .int .i64 0, .int .i64 0, .slice none 0 0] := (((hby.set_ 0 _).set_ 1 _).set_ 2 _).set_ 3 _
  have hb2 := below_set4 hb0 (g := w.heap.size + 1) (by omega) (.string ⟨#[]⟩) (.int .i64 0) (.int .i64 0) (.slice none 0 0)
  have HX := Lib.hid hx2; have HY := Lib.hid hy2; have HB := Lib.hid hb2
  have f0 := hby.frozen 0; have f1 := hby.frozen 1; have f2 := hby.frozen 2; have f3 := hby.frozen 3
  obtain ⟨d0, d1, d2, d3⟩ := box4 hby
  have z1 := hby.lt
  clear hbx hby hb0 hx2 hy2 hb2
  go_upto_region 3 with fail
  generalize (((u0.setCell ⟨w.heap.size + 1, 0, none⟩ (.string ⟨#[]⟩)).setCell ⟨w.heap.size + 1, 1, none⟩ (.int .i64 0)).setCell ⟨w.heap.size + 1, 2, none⟩ (.int .i64 0)).setCell ⟨w.heap.size + 1, 3, none⟩ (.slice none 0 0) = w0 at HX HY HB ⊢
  clear d0 d1 d2 d3 f0 f1 f2 f3 z1
  obtain ⟨c0, c1, c2, c3⟩ := box4 HX.out
  obtain ⟨d0, d1, d2, d3⟩ := box4 HY.out
  have z0 := HX.out.lt; have z1 := HY.out.lt
  have HR : RowKit.Hid (∀ (A : Option Addr) W, Rd W A (fl [])) := Lib.hid (fun A W h => absurd h (by simp [fl]))
  clear HX HY
  go_region_held3 (SK w0)
    (first | exact sk_drew0 _ | exact sk_drew (by assumption) | assumption | exact sk_call (by assumption) (by assumption) | exact sk_alloc (by assumption) _)
    (first
      | (go_at_call 87; refine (told_any _ _ _ _ _ _ _).mono ?_; rintro e wn ⟨rfl, hbn⟩; have hch := sk_call (w0 := w0) (by assumption) hbn)
      | (go_at_call 88; refine (samePicture_true ⟨#[]⟩ 0 0 E none 0 k 0 [] [] _ rfl rfl (by decide) (by decide) (HR.out _ _) (HR.out _ _)).mono ?_; rintro e wn ⟨rfl, hbn⟩; have hch := sk_call (w0 := w0) (by assumption) hbn))
  have hfin := sk_call (w0 := w0) (by assumption) hbn
  go_wp2
  go_ret
  exact ⟨rfl, HB.out.trans (hfin.1.mono HB.out.size)⟩

/-- What a join gives: a picture, or none and an error. -/
def noPic : Pic := ⟨⟨#[]⟩, 0, 0, []⟩
def JoinEnd (R : Pic) (z : Int) (w : World) (e : Ending) (w' : World) : Prop := ∃ A c, e = .returned (.tuple #[.agg #[.string R.name, .int .i64 R.w, .int .i64 R.h, .slice A R.l.length c], .int .i64 z]) ∧ Rd w' A (fl R.l) ∧ Below w.heap.size w w'
theorem one_any (R : Pic) (z : Int) (hz : z ≠ 0 → R = noPic) (hs : sameF R.l R.l = true) (hl : R.l.length ≤ maxLen) (A B : Option Addr) (c d : Nat) (w : World) (hr : Rd w A (fl R.l)) (hr2 : Rd w B (fl R.l)) :
    Calls Tryz.prog 38 #[.agg #[.string R.name, .int .i64 R.w, .int .i64 R.h, .slice A R.l.length c], .int .i64 z, .int .i64 z, .agg #[.string R.name, .int .i64 R.w, .int .i64 R.h, .slice B R.l.length d]] w fun e w' => e = .returned (.bool true) ∧ Below w.heap.size w w' := by
  by_cases h : z = 0
  · subst h
    exact one_true R.name R.w R.h A B R.l.length c d R.l R.l w rfl rfl hl hs hr hr2
  · obtain rfl := hz h
    exact one_none A c ⟨#[]⟩ 0 0 B 0 d z h w
end Go.Proofs.YtfgeokeankfplaaGreatDoor
namespace Go.Proofs.YtfgeokeankfplaaGreatDoor
open Go.RowKit
set_option linter.unusedVariables false
set_option maxRecDepth 100000
def besideErr (p q : Pic) : Int := firstE [p.err, q.err, errIf (p.h != q.h) 2, errIf (decide (64 < IntKind.i64.wrap (p.w + q.w))) 5]
def aboveErr (p q : Pic) : Int := firstE [p.err, q.err, errIf (p.w != q.w) 2, errIf (decide (64 < IntKind.i64.wrap (p.h + q.h))) 5]
def wovenErr (p q : Pic) : Int := firstE [p.err, q.err, errIf (p.w != q.w) 2, errIf (p.h != q.h && p.h != IntKind.i64.wrap (q.h + 1)) 2, errIf (decide (64 < IntKind.i64.wrap (p.h + q.h))) 5]

set_option maxHeartbeats 4000000 in
theorem beside_err (p q : Pic) (A B : Option Addr) (c d : Nat) (w : World) (hs : p.name.size ≤ maxLen) (hl : p.l.length ≤ maxLen) (hs2 : q.name.size ≤ maxLen) (hl2 : q.l.length ≤ maxLen) (hr : Rd w A (fl p.l)) (hr2 : Rd w B (fl q.l)) (z : Int) (he : besideErr p q = z) (hz : z ≠ 0) :
    Calls Tryz.prog 40 #[p.val A c, q.val B d] w fun e w' => e = .returned (.tuple #[.agg #[.string ⟨#[]⟩, .int .i64 0, .int .i64 0, .slice none 0 0], .int .i64 z]) ∧ Below w.heap.size w w' := by
  have hcp := fun w hr => checkPicture_any p A c w hs hl hr
  have hcq := fun w hr => checkPicture_any q B d w hs2 hl2 hr
  unfold besideErr at he
  unfold Pic.val at hcp hcq ⊢
  obtain ⟨pe, hpe⟩ : ∃ z, p.err = z := ⟨_, rfl⟩
  obtain ⟨qe, hqe⟩ : ∃ z, q.err = z := ⟨_, rfl⟩
  rw [hpe] at hcp he
  rw [hqe] at hcq he
  clear hpe hqe
  obtain ⟨nm, Wa, Ha, l⟩ := p
  obtain ⟨nm2, Wb, Hb, k⟩ := q
  simp only [] at hcp hcq he hr hr2 ⊢
  obtain ⟨n, hn⟩ : ∃ n, l.length = n := ⟨_, rfl⟩
  obtain ⟨m, hm⟩ : ∃ m, k.length = m := ⟨_, rfl⟩
  rw [hn] at hcp ⊢
  rw [hm] at hcq ⊢
  clear hn hm hs hl hs2 hl2
  have HE := Lib.hid he; have HCP := Lib.hid hcp; have HCQ := Lib.hid hcq
  have hz' : (z != 0) = true := by simpa using hz
  clear he hcp hcq hz
  go_enter Tryz.func40, Tryz.ntmps40
  go_upto_region 1 with fail
  have hx0 := ((Blk.new w 50 #[.string nm, .int .i64 Wa, .int .i64 Ha, .slice A n c]).alloc (.cells #[.string nm2, .int .i64 Wb, .int .i64 Hb, .slice B m d] 50)).alloc (.cells #[.string ⟨#[]⟩, .int .i64 0, .int .i64 0, .slice none 0 0] 50)
  have hx1 := (Blk.new (w.alloc (.cells #[.string nm, .int .i64 Wa, .int .i64 Ha, .slice A n c] 50)) 50 #[.string nm2, .int .i64 Wb, .int .i64 Hb, .slice B m d]).alloc (.cells #[.string ⟨#[]⟩, .int .i64 0, .int .i64 0, .slice none 0 0] 50)
  have hx2 := Blk.new ((w.alloc (.cells #[.string nm, .int .i64 Wa, .int .i64 Ha, .slice A n c] 50)).alloc (.cells #[.string nm2, .int .i64 Wb, .int .i64 Hb, .slice B m d] 50)) 50 #[.string ⟨#[]⟩, .int .i64 0, .int .i64 0, .slice none 0 0]
  simp only [World.size_alloc] at hx1 hx2
  have hb0 := (((Below.refl w.heap.size w).alloc (Nat.le_refl _) (.cells #[.string nm, .int .i64 Wa, .int .i64 Ha, .slice A n c] 50)).alloc (by simp only [World.size_alloc]; omega) (.cells #[.string nm2, .int .i64 Wb, .int .i64 Hb, .slice B m d] 50)).alloc (by simp only [World.size_alloc]; omega) (.cells #[.string ⟨#[]⟩, .int .i64 0, .int .i64 0, .slice none 0 0] 50)
  generalize (((w.alloc (.cells #[.string nm, .int .i64 Wa, .int .i64 Ha, .slice A n c] 50)).alloc (.cells #[.string nm2, .int .i64 Wb, .int .i64 Hb, .slice B m d] 50)).alloc (.cells #[.string ⟨#[]⟩, .int .i64 0, .int .i64 0, .slice none 0 0] 50)) = w0 at hx0 hx1 hx2 hb0 ⊢
  obtain ⟨c0, c1, c2, c3⟩ := box4 hx0
  obtain ⟨d0, d1, d2, d3⟩ := box4 hx1
  have z0 := hx0.lt; have z1 := hx1.lt; have z2 := hx2.lt
  have HRa := Lib.hid (hr.below hb0); have HRb := Lib.hid (hr2.below hb0)
  have HY := Lib.hid hx2; have HB := Lib.hid hb0; clear hx0 hx1 hx2 hb0 hr hr2
  refine wp_region_facts [Fact.is (.agg #[.string nm, .int .i64 Wa, .int .i64 Ha, .slice A n c]), Fact.is (.int .i64 (pe)), Fact.is (.agg #[.string nm2, .int .i64 Wb, .int .i64 Hb, .slice B m d]), Fact.is (.int .i64 (qe)), Fact.is (.pointer (some ⟨w.heap.size, 2, none⟩)), Fact.is (.int .i64 (Ha)), Fact.is (.pointer (some ⟨w.heap.size + 1, 2, none⟩)), Fact.is (.int .i64 (Hb)), Fact.is (.bool (Ha != Hb)), Fact.is (.int .i64 (errIf (Ha != Hb) 2)), Fact.is (.pointer (some ⟨w.heap.size, 1, none⟩)), Fact.is (.int .i64 (Wa)), Fact.is (.pointer (some ⟨w.heap.size + 1, 1, none⟩)), Fact.is (.int .i64 (Wb)), Fact.is (.int .i64 (IntKind.i64.wrap (Wa + Wb))), Fact.is (.bool (decide (64 < IntKind.i64.wrap (Wa + Wb)))), Fact.is (.int .i64 (errIf (decide (64 < IntKind.i64.wrap (Wa + Wb))) 5)), Fact.ints 4 [pe, qe, errIf (Ha != Hb) 2, errIf (decide (64 < IntKind.i64.wrap (Wa + Wb))) 5], Fact.is (.int .i64 (z)), Fact.is (.int .i64 (z))] [[], [0], [], [2], [], [4], [], [6], [5, 7], [8], [], [10], [], [12], [11, 13], [14], [15], [1, 3, 9, 16], [17], [18]] [(some 9, 0), (some 10, 1), (some 11, 2), (some 12, 3), (some 13, 4), (some 14, 5), (some 15, 6), (some 16, 7), (some 17, 8), (some 18, 9), (some 19, 10), (some 20, 11), (some 21, 12), (some 22, 13), (some 23, 14), (some 24, 15), (some 25, 16), (some 26, 17), (some 27, 18), (some 6, 19)] (by kernel_rfl) (by kernel_rfl) (by kernel_rfl) (by kernel_rfl) (fun _ _ _ _ e h => by have h1 : _ ∧ _ := h; exact ⟨e ▸ h1.1, h1.2⟩) ?hstep ?hend
  case hstep =>
    intro i hi
    match i, hi with
    | 0, _ =>
      intro v w' hR hd
      change SpecOp _ _ _ _ 0 (canon _ v _ []) w' _
      simp only [canon_nil]
      have q0 := (hR.cell (p := ⟨w.heap.size, 0, none⟩) z0).trans c0
      have q1 := (hR.cell (p := ⟨w.heap.size, 1, none⟩) z0).trans c1
      have q2 := (hR.cell (p := ⟨w.heap.size, 2, none⟩) z0).trans c2
      have q3 := (hR.cell (p := ⟨w.heap.size, 3, none⟩) z0).trans c3
      refine spec_of rfl (fun KK hK => ?_)
      go_simp
      exact hK.out _ _ (Below.refl _ _) rfl
    | 1, _ =>
      intro v w' hR hd
      have e0 : v 0 = .agg #[.string nm, .int .i64 Wa, .int .i64 Ha, .slice A n c] := hd 0 (by decide)
      change SpecOp _ _ _ _ 1 (Act.put (canon _ v _ []) (some 9) (v 0)) w' _
      rw [e0]
      simp only [canon_nil, Act.put, List.setIfInBounds_toArray, List.set_cons_zero, List.set_cons_succ]
      refine spec_of rfl (fun KK hK => ?_)
      go_simp
      refine (HCP.out _ (HRa.out.below hR)).mono ?_
      rintro e wn ⟨rfl, hbn⟩
      exact hK.out _ _ hbn rfl
    | 2, _ =>
      intro v w' hR hd
      change SpecOp _ _ _ _ 2 (canon _ v _ []) w' _
      simp only [canon_nil]
      have q0 := (hR.cell (p := ⟨w.heap.size + 1, 0, none⟩) z1).trans d0
      have q1 := (hR.cell (p := ⟨w.heap.size + 1, 1, none⟩) z1).trans d1
      have q2 := (hR.cell (p := ⟨w.heap.size + 1, 2, none⟩) z1).trans d2
      have q3 := (hR.cell (p := ⟨w.heap.size + 1, 3, none⟩) z1).trans d3
      refine spec_of rfl (fun KK hK => ?_)
      go_simp
      exact hK.out _ _ (Below.refl _ _) rfl
    | 3, _ =>
      intro v w' hR hd
      have e2 : v 2 = .agg #[.string nm2, .int .i64 Wb, .int .i64 Hb, .slice B m d] := hd 2 (by decide)
      change SpecOp _ _ _ _ 3 (Act.put (canon _ v _ []) (some 11) (v 2)) w' _
      rw [e2]
      simp only [canon_nil, Act.put, List.setIfInBounds_toArray, List.set_cons_zero, List.set_cons_succ]
      refine spec_of rfl (fun KK hK => ?_)
      go_simp
      refine (HCQ.out _ (HRb.out.below hR)).mono ?_
      rintro e wn ⟨rfl, hbn⟩
      exact hK.out _ _ hbn rfl
    | 4, _ =>
      intro v w' hR hd
      change SpecOp _ _ _ _ 4 (canon _ v _ []) w' _
      simp only [canon_nil]
      refine spec_of rfl (fun KK hK => ?_)
      go_simp
      exact hK.out _ _ (Below.refl _ _) rfl
    | 5, _ =>
      intro v w' hR hd
      have e4 : v 4 = .pointer (some ⟨w.heap.size, 2, none⟩) := hd 4 (by decide)
      change SpecOp _ _ _ _ 5 (Act.put (canon _ v _ []) (some 13) (v 4)) w' _
      rw [e4]
      simp only [canon_nil, Act.put, List.setIfInBounds_toArray, List.set_cons_zero, List.set_cons_succ]
      have q0 := (hR.cell (p := ⟨w.heap.size, 2, none⟩) z0).trans c2
      refine spec_of rfl (fun KK hK => ?_)
      go_simp
      exact hK.out _ _ (Below.refl _ _) rfl
    | 6, _ =>
      intro v w' hR hd
      change SpecOp _ _ _ _ 6 (canon _ v _ []) w' _
      simp only [canon_nil]
      refine spec_of rfl (fun KK hK => ?_)
      go_simp
      exact hK.out _ _ (Below.refl _ _) rfl
    | 7, _ =>
      intro v w' hR hd
      have e6 : v 6 = .pointer (some ⟨w.heap.size + 1, 2, none⟩) := hd 6 (by decide)
      change SpecOp _ _ _ _ 7 (Act.put (canon _ v _ []) (some 15) (v 6)) w' _
      rw [e6]
      simp only [canon_nil, Act.put, List.setIfInBounds_toArray, List.set_cons_zero, List.set_cons_succ]
      have q0 := (hR.cell (p := ⟨w.heap.size + 1, 2, none⟩) z1).trans d2
      refine spec_of rfl (fun KK hK => ?_)
      go_simp
      exact hK.out _ _ (Below.refl _ _) rfl
    | 8, _ =>
      intro v w' hR hd
      have e5 : v 5 = .int .i64 (Ha) := hd 5 (by decide)
      have e7 : v 7 = .int .i64 (Hb) := hd 7 (by decide)
      change SpecOp _ _ _ _ 8 (Act.put (Act.put (canon _ v _ []) (some 16) (v 7)) (some 14) (v 5)) w' _
      rw [e5, e7]
      simp only [canon_nil, Act.put, List.setIfInBounds_toArray, List.set_cons_zero, List.set_cons_succ]
      refine spec_of rfl (fun KK hK => ?_)
      go_simp
      exact hK.out _ _ (Below.refl _ _) (by first | rfl | (simp; done))
    | 9, _ =>
      intro v w' hR hd
      have e8 : v 8 = .bool (Ha != Hb) := hd 8 (by decide)
      change SpecOp _ _ _ _ 9 (Act.put (canon _ v _ []) (some 17) (v 8)) w' _
      rw [e8]
      simp only [canon_nil, Act.put, List.setIfInBounds_toArray, List.set_cons_zero, List.set_cons_succ]
      refine spec_of rfl (fun KK hK => ?_)
      go_simp
      refine (errorIf_any _ _ _).mono ?_
      rintro e wn ⟨rfl, rfl⟩
      exact hK.out _ _ (Below.refl _ _) rfl
    | 10, _ =>
      intro v w' hR hd
      change SpecOp _ _ _ _ 10 (canon _ v _ []) w' _
      simp only [canon_nil]
      refine spec_of rfl (fun KK hK => ?_)
      go_simp
      exact hK.out _ _ (Below.refl _ _) rfl
    | 11, _ =>
      intro v w' hR hd
      have e10 : v 10 = .pointer (some ⟨w.heap.size, 1, none⟩) := hd 10 (by decide)
      change SpecOp _ _ _ _ 11 (Act.put (canon _ v _ []) (some 19) (v 10)) w' _
      rw [e10]
      simp only [canon_nil, Act.put, List.setIfInBounds_toArray, List.set_cons_zero, List.set_cons_succ]
      have q0 := (hR.cell (p := ⟨w.heap.size, 1, none⟩) z0).trans c1
      refine spec_of rfl (fun KK hK => ?_)
      go_simp
      exact hK.out _ _ (Below.refl _ _) rfl
    | 12, _ =>
      intro v w' hR hd
      change SpecOp _ _ _ _ 12 (canon _ v _ []) w' _
      simp only [canon_nil]
      refine spec_of rfl (fun KK hK => ?_)
      go_simp
      exact hK.out _ _ (Below.refl _ _) rfl
    | 13, _ =>
      intro v w' hR hd
      have e12 : v 12 = .pointer (some ⟨w.heap.size + 1, 1, none⟩) := hd 12 (by decide)
      change SpecOp _ _ _ _ 13 (Act.put (canon _ v _ []) (some 21) (v 12)) w' _
      rw [e12]
      simp only [canon_nil, Act.put, List.setIfInBounds_toArray, List.set_cons_zero, List.set_cons_succ]
      have q0 := (hR.cell (p := ⟨w.heap.size + 1, 1, none⟩) z1).trans d1
      refine spec_of rfl (fun KK hK => ?_)
      go_simp
      exact hK.out _ _ (Below.refl _ _) rfl
    | 14, _ =>
      intro v w' hR hd
      have e11 : v 11 = .int .i64 (Wa) := hd 11 (by decide)
      have e13 : v 13 = .int .i64 (Wb) := hd 13 (by decide)
      change SpecOp _ _ _ _ 14 (Act.put (Act.put (canon _ v _ []) (some 22) (v 13)) (some 20) (v 11)) w' _
      rw [e11, e13]
      simp only [canon_nil, Act.put, List.setIfInBounds_toArray, List.set_cons_zero, List.set_cons_succ]
      refine spec_of rfl (fun KK hK => ?_)
      go_simp
      exact hK.out _ _ (Below.refl _ _) rfl
    | 15, _ =>
      intro v w' hR hd
      have e14 : v 14 = .int .i64 (IntKind.i64.wrap (Wa + Wb)) := hd 14 (by decide)
      change SpecOp _ _ _ _ 15 (Act.put (canon _ v _ []) (some 23) (v 14)) w' _
      rw [e14]
      simp only [canon_nil, Act.put, List.setIfInBounds_toArray, List.set_cons_zero, List.set_cons_succ]
      refine spec_of rfl (fun KK hK => ?_)
      go_simp
      exact hK.out _ _ (Below.refl _ _) (by first | rfl | (simp; done))
    | 16, _ =>
      intro v w' hR hd
      have e15 : v 15 = .bool (decide (64 < IntKind.i64.wrap (Wa + Wb))) := hd 15 (by decide)
      change SpecOp _ _ _ _ 16 (Act.put (canon _ v _ []) (some 24) (v 15)) w' _
      rw [e15]
      simp only [canon_nil, Act.put, List.setIfInBounds_toArray, List.set_cons_zero, List.set_cons_succ]
      refine spec_of rfl (fun KK hK => ?_)
      go_simp
      refine (errorIf_any _ _ _).mono ?_
      rintro e wn ⟨rfl, rfl⟩
      exact hK.out _ _ (Below.refl _ _) rfl
    | 17, _ =>
      intro v w' hR hd
      have e1 : v 1 = .int .i64 (pe) := hd 1 (by decide)
      have e3 : v 3 = .int .i64 (qe) := hd 3 (by decide)
      have e9 : v 9 = .int .i64 (errIf (Ha != Hb) 2) := hd 9 (by decide)
      have e16 : v 16 = .int .i64 (errIf (decide (64 < IntKind.i64.wrap (Wa + Wb))) 5) := hd 16 (by decide)
      change SpecOp _ _ _ _ 17 (Act.put (Act.put (Act.put (Act.put (canon _ v _ []) (some 25) (v 16)) (some 18) (v 9)) (some 12) (v 3)) (some 10) (v 1)) w' _
      rw [e1, e3, e9, e16]
      simp only [canon_nil, Act.put, List.setIfInBounds_toArray, List.set_cons_zero, List.set_cons_succ]
      refine spec_of rfl (fun KK hK => ?_)
      go_simp
      exact hK.out _ _ ((Below.refl _ _).alloc (Nat.le_refl _) _) ⟨_, _, rfl, rd_of_blk (Blk.new _ _ _) rfl⟩
    | 18, _ =>
      intro v w' hR hd
      obtain ⟨A17, k17, e17, r17⟩ : ∃ A c, v 17 = .slice A 4 c ∧ Rd w' A ([pe, qe, errIf (Ha != Hb) 2, errIf (decide (64 < IntKind.i64.wrap (Wa + Wb))) 5].map (.int .i64)) := hd 17 (by decide)
      change SpecOp _ _ _ _ 18 (Act.put (canon _ v _ []) (some 26) (v 17)) w' _
      rw [e17]
      simp only [canon_nil, Act.put, List.setIfInBounds_toArray, List.set_cons_zero, List.set_cons_succ]
      refine spec_of rfl (fun KK hK => ?_)
      go_simp
      refine (first_n _ _ _ [_, _, _, _] _ rfl (by simp [maxLen]) r17).mono ?_
      rintro e wn ⟨rfl, rfl⟩
      exact hK.out _ _ (Below.refl _ _) (congrArg (Value.int .i64) HE.out)
    | 19, _ =>
      intro v w' hR hd
      have e18 : v 18 = .int .i64 (z) := hd 18 (by decide)
      change SpecOp _ _ _ _ 19 (Act.put (canon _ v _ []) (some 27) (v 18)) w' _
      rw [e18]
      simp only [canon_nil, Act.put, List.setIfInBounds_toArray, List.set_cons_zero, List.set_cons_succ]
      refine spec_of rfl (fun KK hK => ?_)
      go_simp
      exact hK.out _ _ (Below.refl _ _) rfl
    | i + 20, h => exact absurd h (Nat.not_lt.2 (Nat.le_add_left 20 i))
  case hend =>
    intro v w' hR hall
    simp only [putL, Act.put, List.setIfInBounds_toArray, List.set_cons_zero, List.set_cons_succ]
    have e0 : v 0 = .agg #[.string nm, .int .i64 Wa, .int .i64 Ha, .slice A n c] := hall 0 (by decide)
    have e1 : v 1 = .int .i64 (pe) := hall 1 (by decide)
    have e2 : v 2 = .agg #[.string nm2, .int .i64 Wb, .int .i64 Hb, .slice B m d] := hall 2 (by decide)
    have e3 : v 3 = .int .i64 (qe) := hall 3 (by decide)
    have e4 : v 4 = .pointer (some ⟨w.heap.size, 2, none⟩) := hall 4 (by decide)
    have e5 : v 5 = .int .i64 (Ha) := hall 5 (by decide)
    have e6 : v 6 = .pointer (some ⟨w.heap.size + 1, 2, none⟩) := hall 6 (by decide)
    have e7 : v 7 = .int .i64 (Hb) := hall 7 (by decide)
    have e8 : v 8 = .bool (Ha != Hb) := hall 8 (by decide)
    have e9 : v 9 = .int .i64 (errIf (Ha != Hb) 2) := hall 9 (by decide)
    have e10 : v 10 = .pointer (some ⟨w.heap.size, 1, none⟩) := hall 10 (by decide)
    have e11 : v 11 = .int .i64 (Wa) := hall 11 (by decide)
    have e12 : v 12 = .pointer (some ⟨w.heap.size + 1, 1, none⟩) := hall 12 (by decide)
    have e13 : v 13 = .int .i64 (Wb) := hall 13 (by decide)
    have e14 : v 14 = .int .i64 (IntKind.i64.wrap (Wa + Wb)) := hall 14 (by decide)
    have e15 : v 15 = .bool (decide (64 < IntKind.i64.wrap (Wa + Wb))) := hall 15 (by decide)
    have e16 : v 16 = .int .i64 (errIf (decide (64 < IntKind.i64.wrap (Wa + Wb))) 5) := hall 16 (by decide)
    obtain ⟨A17, k17, e17, r17⟩ : ∃ A c, v 17 = .slice A 4 c ∧ Rd w' A ([pe, qe, errIf (Ha != Hb) 2, errIf (decide (64 < IntKind.i64.wrap (Wa + Wb))) 5].map (.int .i64)) := hall 17 (by decide)
    have e18 : v 18 = .int .i64 (z) := hall 18 (by decide)
    have e19 : v 19 = .int .i64 (z) := hall 19 (by decide)
    rw [e19]
    clear e0 e1 e2 e3 e4 e5 e6 e7 e8 e9 e10 e11 e12 e13 e14 e15 e16 e17 e18 hall
    have hy := HY.out.below hR
    have HB1 := Lib.hid (HB.out.trans (hR.mono HB.out.size))
    clear c0 c1 c2 c3 d0 d1 d2 d3 z0 z1 z2
    have z1 := hy.lt
    have f0 := hy.frozen 0; have f1 := hy.frozen 1; have f2 := hy.frozen 2; have f3 := hy.frozen 3
    obtain ⟨d0, d1, d2, d3⟩ := box4 hy
    have hyy := Lib.hid (show Blk ((((w'.setCell ⟨w.heap.size + 1 + 1, 0, none⟩ (.string ⟨#[]⟩)).setCell ⟨w.heap.size + 1 + 1, 1, none⟩ (.int .i64 0)).setCell ⟨w.heap.size + 1 + 1, 2, none⟩ (.int .i64 0)).setCell ⟨w.heap.size + 1 + 1, 3, none⟩ (.slice none 0 0)) (w.heap.size + 1 + 1) 50 #[.string ⟨#[]⟩, .int .i64 0, .int .i64 0, .slice none 0 0] from (((hy.set_ 0 _).set_ 1 _).set_ 2 _).set_ 3 _)
    clear hy
    go_wp2
    obtain ⟨r0, r1, r2, r3⟩ := box4 hyy.out
    exact bodyPost_ret (v := .tuple #[.agg #[.string ⟨#[]⟩, .int .i64 0, .int .i64 0, .slice none 0 0], .int .i64 z]) (by simp [results, Tryz.results40, go_sem, r0, r1, r2, r3]) rfl ⟨rfl, below_set4 HB1.out (by omega) _ _ _ _⟩

set_option maxHeartbeats 4000000 in
theorem above_err (p q : Pic) (A B : Option Addr) (c d : Nat) (w : World) (hs : p.name.size ≤ maxLen) (hl : p.l.length ≤ maxLen) (hs2 : q.name.size ≤ maxLen) (hl2 : q.l.length ≤ maxLen) (hr : Rd w A (fl p.l)) (hr2 : Rd w B (fl q.l)) (z : Int) (he : aboveErr p q = z) (hz : z ≠ 0) :
    Calls Tryz.prog 41 #[p.val A c, q.val B d] w fun e w' => e = .returned (.tuple #[.agg #[.string ⟨#[]⟩, .int .i64 0, .int .i64 0, .slice none 0 0], .int .i64 z]) ∧ Below w.heap.size w w' := by
  have hcp := fun w hr => checkPicture_any p A c w hs hl hr
  have hcq := fun w hr => checkPicture_any q B d w hs2 hl2 hr
  unfold aboveErr at he
  unfold Pic.val at hcp hcq ⊢
  obtain ⟨pe, hpe⟩ : ∃ z, p.err = z := ⟨_, rfl⟩
  obtain ⟨qe, hqe⟩ : ∃ z, q.err = z := ⟨_, rfl⟩
  rw [hpe] at hcp he
  rw [hqe] at hcq he
  clear hpe hqe
  obtain ⟨nm, Wa, Ha, l⟩ := p
  obtain ⟨nm2, Wb, Hb, k⟩ := q
  simp only [] at hcp hcq he hr hr2 ⊢
  obtain ⟨n, hn⟩ : ∃ n, l.length = n := ⟨_, rfl⟩
  obtain ⟨m, hm⟩ : ∃ m, k.length = m := ⟨_, rfl⟩
  rw [hn] at hcp ⊢
  rw [hm] at hcq ⊢
  clear hn hm hs hl hs2 hl2
  have HE := Lib.hid he; have HCP := Lib.hid hcp; have HCQ := Lib.hid hcq
  have hz' : (z != 0) = true := by simpa using hz
  clear he hcp hcq hz
  go_enter Tryz.func41, Tryz.ntmps41
  go_upto_region 1 with fail
  have hx0 := ((Blk.new w 50 #[.string nm, .int .i64 Wa, .int .i64 Ha, .slice A n c]).alloc (.cells #[.string nm2, .int .i64 Wb, .int .i64 Hb, .slice B m d] 50)).alloc (.cells #[.string ⟨#[]⟩, .int .i64 0, .int .i64 0, .slice none 0 0] 50)
  have hx1 := (Blk.new (w.alloc (.cells #[.string nm, .int .i64 Wa, .int .i64 Ha, .slice A n c] 50)) 50 #[.string nm2, .int .i64 Wb, .int .i64 Hb, .slice B m d]).alloc (.cells #[.string ⟨#[]⟩, .int .i64 0, .int .i64 0, .slice none 0 0] 50)
  have hx2 := Blk.new ((w.alloc (.cells #[.string nm, .int .i64 Wa, .int .i64 Ha, .slice A n c] 50)).alloc (.cells #[.string nm2, .int .i64 Wb, .int .i64 Hb, .slice B m d] 50)) 50 #[.string ⟨#[]⟩, .int .i64 0, .int .i64 0, .slice none 0 0]
  simp only [World.size_alloc] at hx1 hx2
  have hb0 := (((Below.refl w.heap.size w).alloc (Nat.le_refl _) (.cells #[.string nm, .int .i64 Wa, .int .i64 Ha, .slice A n c] 50)).alloc (by simp only [World.size_alloc]; omega) (.cells #[.string nm2, .int .i64 Wb, .int .i64 Hb, .slice B m d] 50)).alloc (by simp only [World.size_alloc]; omega) (.cells #[.string ⟨#[]⟩, .int .i64 0, .int .i64 0, .slice none 0 0] 50)
  generalize (((w.alloc (.cells #[.string nm, .int .i64 Wa, .int .i64 Ha, .slice A n c] 50)).alloc (.cells #[.string nm2, .int .i64 Wb, .int .i64 Hb, .slice B m d] 50)).alloc (.cells #[.string ⟨#[]⟩, .int .i64 0, .int .i64 0, .slice none 0 0] 50)) = w0 at hx0 hx1 hx2 hb0 ⊢
  obtain ⟨c0, c1, c2, c3⟩ := box4 hx0
  obtain ⟨d0, d1, d2, d3⟩ := box4 hx1
  have z0 := hx0.lt; have z1 := hx1.lt; have z2 := hx2.lt
  have HRa := Lib.hid (hr.below hb0); have HRb := Lib.hid (hr2.below hb0)
  have HY := Lib.hid hx2; have HB := Lib.hid hb0; clear hx0 hx1 hx2 hb0 hr hr2
  refine wp_region_facts [Fact.is (.agg #[.string nm, .int .i64 Wa, .int .i64 Ha, .slice A n c]), Fact.is (.int .i64 (pe)), Fact.is (.agg #[.string nm2, .int .i64 Wb, .int .i64 Hb, .slice B m d]), Fact.is (.int .i64 (qe)), Fact.is (.pointer (some ⟨w.heap.size, 1, none⟩)), Fact.is (.int .i64 (Wa)), Fact.is (.pointer (some ⟨w.heap.size + 1, 1, none⟩)), Fact.is (.int .i64 (Wb)), Fact.is (.bool (Wa != Wb)), Fact.is (.int .i64 (errIf (Wa != Wb) 2)), Fact.is (.pointer (some ⟨w.heap.size, 2, none⟩)), Fact.is (.int .i64 (Ha)), Fact.is (.pointer (some ⟨w.heap.size + 1, 2, none⟩)), Fact.is (.int .i64 (Hb)), Fact.is (.int .i64 (IntKind.i64.wrap (Ha + Hb))), Fact.is (.bool (decide (64 < IntKind.i64.wrap (Ha + Hb)))), Fact.is (.int .i64 (errIf (decide (64 < IntKind.i64.wrap (Ha + Hb))) 5)), Fact.ints 4 [pe, qe, errIf (Wa != Wb) 2, errIf (decide (64 < IntKind.i64.wrap (Ha + Hb))) 5], Fact.is (.int .i64 (z)), Fact.is (.int .i64 (z))] [[], [0], [], [2], [], [4], [], [6], [5, 7], [8], [], [10], [], [12], [11, 13], [14], [15], [1, 3, 9, 16], [17], [18]] [(some 8, 0), (some 9, 1), (some 10, 2), (some 11, 3), (some 12, 4), (some 13, 5), (some 14, 6), (some 15, 7), (some 16, 8), (some 17, 9), (some 18, 10), (some 19, 11), (some 20, 12), (some 21, 13), (some 22, 14), (some 23, 15), (some 24, 16), (some 25, 17), (some 26, 18), (some 6, 19)] (by kernel_rfl) (by kernel_rfl) (by kernel_rfl) (by kernel_rfl) (fun _ _ _ _ e h => by have h1 : _ ∧ _ := h; exact ⟨e ▸ h1.1, h1.2⟩) ?hstep ?hend
  case hstep =>
    intro i hi
    match i, hi with
    | 0, _ =>
      intro v w' hR hd
      change SpecOp _ _ _ _ 0 (canon _ v _ []) w' _
      simp only [canon_nil]
      have q0 := (hR.cell (p := ⟨w.heap.size, 0, none⟩) z0).trans c0
      have q1 := (hR.cell (p := ⟨w.heap.size, 1, none⟩) z0).trans c1
      have q2 := (hR.cell (p := ⟨w.heap.size, 2, none⟩) z0).trans c2
      have q3 := (hR.cell (p := ⟨w.heap.size, 3, none⟩) z0).trans c3
      refine spec_of rfl (fun KK hK => ?_)
      go_simp
      exact hK.out _ _ (Below.refl _ _) rfl
    | 1, _ =>
      intro v w' hR hd
      have e0 : v 0 = .agg #[.string nm, .int .i64 Wa, .int .i64 Ha, .slice A n c] := hd 0 (by decide)
      change SpecOp _ _ _ _ 1 (Act.put (canon _ v _ []) (some 8) (v 0)) w' _
      rw [e0]
      simp only [canon_nil, Act.put, List.setIfInBounds_toArray, List.set_cons_zero, List.set_cons_succ]
      refine spec_of rfl (fun KK hK => ?_)
      go_simp
      refine (HCP.out _ (HRa.out.below hR)).mono ?_
      rintro e wn ⟨rfl, hbn⟩
      exact hK.out _ _ hbn rfl
    | 2, _ =>
      intro v w' hR hd
      change SpecOp _ _ _ _ 2 (canon _ v _ []) w' _
      simp only [canon_nil]
      have q0 := (hR.cell (p := ⟨w.heap.size + 1, 0, none⟩) z1).trans d0
      have q1 := (hR.cell (p := ⟨w.heap.size + 1, 1, none⟩) z1).trans d1
      have q2 := (hR.cell (p := ⟨w.heap.size + 1, 2, none⟩) z1).trans d2
      have q3 := (hR.cell (p := ⟨w.heap.size + 1, 3, none⟩) z1).trans d3
      refine spec_of rfl (fun KK hK => ?_)
      go_simp
      exact hK.out _ _ (Below.refl _ _) rfl
    | 3, _ =>
      intro v w' hR hd
      have e2 : v 2 = .agg #[.string nm2, .int .i64 Wb, .int .i64 Hb, .slice B m d] := hd 2 (by decide)
      change SpecOp _ _ _ _ 3 (Act.put (canon _ v _ []) (some 10) (v 2)) w' _
      rw [e2]
      simp only [canon_nil, Act.put, List.setIfInBounds_toArray, List.set_cons_zero, List.set_cons_succ]
      refine spec_of rfl (fun KK hK => ?_)
      go_simp
      refine (HCQ.out _ (HRb.out.below hR)).mono ?_
      rintro e wn ⟨rfl, hbn⟩
      exact hK.out _ _ hbn rfl
    | 4, _ =>
      intro v w' hR hd
      change SpecOp _ _ _ _ 4 (canon _ v _ []) w' _
      simp only [canon_nil]
      refine spec_of rfl (fun KK hK => ?_)
      go_simp
      exact hK.out _ _ (Below.refl _ _) rfl
    | 5, _ =>
      intro v w' hR hd
      have e4 : v 4 = .pointer (some ⟨w.heap.size, 1, none⟩) := hd 4 (by decide)
      change SpecOp _ _ _ _ 5 (Act.put (canon _ v _ []) (some 12) (v 4)) w' _
      rw [e4]
      simp only [canon_nil, Act.put, List.setIfInBounds_toArray, List.set_cons_zero, List.set_cons_succ]
      have q0 := (hR.cell (p := ⟨w.heap.size, 1, none⟩) z0).trans c1
      refine spec_of rfl (fun KK hK => ?_)
      go_simp
      exact hK.out _ _ (Below.refl _ _) rfl
    | 6, _ =>
      intro v w' hR hd
      change SpecOp _ _ _ _ 6 (canon _ v _ []) w' _
      simp only [canon_nil]
      refine spec_of rfl (fun KK hK => ?_)
      go_simp
      exact hK.out _ _ (Below.refl _ _) rfl
    | 7, _ =>
      intro v w' hR hd
      have e6 : v 6 = .pointer (some ⟨w.heap.size + 1, 1, none⟩) := hd 6 (by decide)
      change SpecOp _ _ _ _ 7 (Act.put (canon _ v _ []) (some 14) (v 6)) w' _
      rw [e6]
      simp only [canon_nil, Act.put, List.setIfInBounds_toArray, List.set_cons_zero, List.set_cons_succ]
      have q0 := (hR.cell (p := ⟨w.heap.size + 1, 1, none⟩) z1).trans d1
      refine spec_of rfl (fun KK hK => ?_)
      go_simp
      exact hK.out _ _ (Below.refl _ _) rfl
    | 8, _ =>
      intro v w' hR hd
      have e5 : v 5 = .int .i64 (Wa) := hd 5 (by decide)
      have e7 : v 7 = .int .i64 (Wb) := hd 7 (by decide)
      change SpecOp _ _ _ _ 8 (Act.put (Act.put (canon _ v _ []) (some 15) (v 7)) (some 13) (v 5)) w' _
      rw [e5, e7]
      simp only [canon_nil, Act.put, List.setIfInBounds_toArray, List.set_cons_zero, List.set_cons_succ]
      refine spec_of rfl (fun KK hK => ?_)
      go_simp
      exact hK.out _ _ (Below.refl _ _) (by first | rfl | (simp; done))
    | 9, _ =>
      intro v w' hR hd
      have e8 : v 8 = .bool (Wa != Wb) := hd 8 (by decide)
      change SpecOp _ _ _ _ 9 (Act.put (canon _ v _ []) (some 16) (v 8)) w' _
      rw [e8]
      simp only [canon_nil, Act.put, List.setIfInBounds_toArray, List.set_cons_zero, List.set_cons_succ]
      refine spec_of rfl (fun KK hK => ?_)
      go_simp
      refine (errorIf_any _ _ _).mono ?_
      rintro e wn ⟨rfl, rfl⟩
      exact hK.out _ _ (Below.refl _ _) rfl
    | 10, _ =>
      intro v w' hR hd
      change SpecOp _ _ _ _ 10 (canon _ v _ []) w' _
      simp only [canon_nil]
      refine spec_of rfl (fun KK hK => ?_)
      go_simp
      exact hK.out _ _ (Below.refl _ _) rfl
    | 11, _ =>
      intro v w' hR hd
      have e10 : v 10 = .pointer (some ⟨w.heap.size, 2, none⟩) := hd 10 (by decide)
      change SpecOp _ _ _ _ 11 (Act.put (canon _ v _ []) (some 18) (v 10)) w' _
      rw [e10]
      simp only [canon_nil, Act.put, List.setIfInBounds_toArray, List.set_cons_zero, List.set_cons_succ]
      have q0 := (hR.cell (p := ⟨w.heap.size, 2, none⟩) z0).trans c2
      refine spec_of rfl (fun KK hK => ?_)
      go_simp
      exact hK.out _ _ (Below.refl _ _) rfl
    | 12, _ =>
      intro v w' hR hd
      change SpecOp _ _ _ _ 12 (canon _ v _ []) w' _
      simp only [canon_nil]
      refine spec_of rfl (fun KK hK => ?_)
      go_simp
      exact hK.out _ _ (Below.refl _ _) rfl
    | 13, _ =>
      intro v w' hR hd
      have e12 : v 12 = .pointer (some ⟨w.heap.size + 1, 2, none⟩) := hd 12 (by decide)
      change SpecOp _ _ _ _ 13 (Act.put (canon _ v _ []) (some 20) (v 12)) w' _
      rw [e12]
      simp only [canon_nil, Act.put, List.setIfInBounds_toArray, List.set_cons_zero, List.set_cons_succ]
      have q0 := (hR.cell (p := ⟨w.heap.size + 1, 2, none⟩) z1).trans d2
      refine spec_of rfl (fun KK hK => ?_)
      go_simp
      exact hK.out _ _ (Below.refl _ _) rfl
    | 14, _ =>
      intro v w' hR hd
      have e11 : v 11 = .int .i64 (Ha) := hd 11 (by decide)
      have e13 : v 13 = .int .i64 (Hb) := hd 13 (by decide)
      change SpecOp _ _ _ _ 14 (Act.put (Act.put (canon _ v _ []) (some 21) (v 13)) (some 19) (v 11)) w' _
      rw [e11, e13]
      simp only [canon_nil, Act.put, List.setIfInBounds_toArray, List.set_cons_zero, List.set_cons_succ]
      refine spec_of rfl (fun KK hK => ?_)
      go_simp
      exact hK.out _ _ (Below.refl _ _) rfl
    | 15, _ =>
      intro v w' hR hd
      have e14 : v 14 = .int .i64 (IntKind.i64.wrap (Ha + Hb)) := hd 14 (by decide)
      change SpecOp _ _ _ _ 15 (Act.put (canon _ v _ []) (some 22) (v 14)) w' _
      rw [e14]
      simp only [canon_nil, Act.put, List.setIfInBounds_toArray, List.set_cons_zero, List.set_cons_succ]
      refine spec_of rfl (fun KK hK => ?_)
      go_simp
      exact hK.out _ _ (Below.refl _ _) (by first | rfl | (simp; done))
    | 16, _ =>
      intro v w' hR hd
      have e15 : v 15 = .bool (decide (64 < IntKind.i64.wrap (Ha + Hb))) := hd 15 (by decide)
      change SpecOp _ _ _ _ 16 (Act.put (canon _ v _ []) (some 23) (v 15)) w' _
      rw [e15]
      simp only [canon_nil, Act.put, List.setIfInBounds_toArray, List.set_cons_zero, List.set_cons_succ]
      refine spec_of rfl (fun KK hK => ?_)
      go_simp
      refine (errorIf_any _ _ _).mono ?_
      rintro e wn ⟨rfl, rfl⟩
      exact hK.out _ _ (Below.refl _ _) rfl
    | 17, _ =>
      intro v w' hR hd
      have e1 : v 1 = .int .i64 (pe) := hd 1 (by decide)
      have e3 : v 3 = .int .i64 (qe) := hd 3 (by decide)
      have e9 : v 9 = .int .i64 (errIf (Wa != Wb) 2) := hd 9 (by decide)
      have e16 : v 16 = .int .i64 (errIf (decide (64 < IntKind.i64.wrap (Ha + Hb))) 5) := hd 16 (by decide)
      change SpecOp _ _ _ _ 17 (Act.put (Act.put (Act.put (Act.put (canon _ v _ []) (some 24) (v 16)) (some 17) (v 9)) (some 11) (v 3)) (some 9) (v 1)) w' _
      rw [e1, e3, e9, e16]
      simp only [canon_nil, Act.put, List.setIfInBounds_toArray, List.set_cons_zero, List.set_cons_succ]
      refine spec_of rfl (fun KK hK => ?_)
      go_simp
      exact hK.out _ _ ((Below.refl _ _).alloc (Nat.le_refl _) _) ⟨_, _, rfl, rd_of_blk (Blk.new _ _ _) rfl⟩
    | 18, _ =>
      intro v w' hR hd
      obtain ⟨A17, k17, e17, r17⟩ : ∃ A c, v 17 = .slice A 4 c ∧ Rd w' A ([pe, qe, errIf (Wa != Wb) 2, errIf (decide (64 < IntKind.i64.wrap (Ha + Hb))) 5].map (.int .i64)) := hd 17 (by decide)
      change SpecOp _ _ _ _ 18 (Act.put (canon _ v _ []) (some 25) (v 17)) w' _
      rw [e17]
      simp only [canon_nil, Act.put, List.setIfInBounds_toArray, List.set_cons_zero, List.set_cons_succ]
      refine spec_of rfl (fun KK hK => ?_)
      go_simp
      refine (first_n _ _ _ [_, _, _, _] _ rfl (by simp [maxLen]) r17).mono ?_
      rintro e wn ⟨rfl, rfl⟩
      exact hK.out _ _ (Below.refl _ _) (congrArg (Value.int .i64) HE.out)
    | 19, _ =>
      intro v w' hR hd
      have e18 : v 18 = .int .i64 (z) := hd 18 (by decide)
      change SpecOp _ _ _ _ 19 (Act.put (canon _ v _ []) (some 26) (v 18)) w' _
      rw [e18]
      simp only [canon_nil, Act.put, List.setIfInBounds_toArray, List.set_cons_zero, List.set_cons_succ]
      refine spec_of rfl (fun KK hK => ?_)
      go_simp
      exact hK.out _ _ (Below.refl _ _) rfl
    | i + 20, h => exact absurd h (Nat.not_lt.2 (Nat.le_add_left 20 i))
  case hend =>
    intro v w' hR hall
    simp only [putL, Act.put, List.setIfInBounds_toArray, List.set_cons_zero, List.set_cons_succ]
    have e0 : v 0 = .agg #[.string nm, .int .i64 Wa, .int .i64 Ha, .slice A n c] := hall 0 (by decide)
    have e1 : v 1 = .int .i64 (pe) := hall 1 (by decide)
    have e2 : v 2 = .agg #[.string nm2, .int .i64 Wb, .int .i64 Hb, .slice B m d] := hall 2 (by decide)
    have e3 : v 3 = .int .i64 (qe) := hall 3 (by decide)
    have e4 : v 4 = .pointer (some ⟨w.heap.size, 1, none⟩) := hall 4 (by decide)
    have e5 : v 5 = .int .i64 (Wa) := hall 5 (by decide)
    have e6 : v 6 = .pointer (some ⟨w.heap.size + 1, 1, none⟩) := hall 6 (by decide)
    have e7 : v 7 = .int .i64 (Wb) := hall 7 (by decide)
    have e8 : v 8 = .bool (Wa != Wb) := hall 8 (by decide)
    have e9 : v 9 = .int .i64 (errIf (Wa != Wb) 2) := hall 9 (by decide)
    have e10 : v 10 = .pointer (some ⟨w.heap.size, 2, none⟩) := hall 10 (by decide)
    have e11 : v 11 = .int .i64 (Ha) := hall 11 (by decide)
    have e12 : v 12 = .pointer (some ⟨w.heap.size + 1, 2, none⟩) := hall 12 (by decide)
    have e13 : v 13 = .int .i64 (Hb) := hall 13 (by decide)
    have e14 : v 14 = .int .i64 (IntKind.i64.wrap (Ha + Hb)) := hall 14 (by decide)
    have e15 : v 15 = .bool (decide (64 < IntKind.i64.wrap (Ha + Hb))) := hall 15 (by decide)
    have e16 : v 16 = .int .i64 (errIf (decide (64 < IntKind.i64.wrap (Ha + Hb))) 5) := hall 16 (by decide)
    obtain ⟨A17, k17, e17, r17⟩ : ∃ A c, v 17 = .slice A 4 c ∧ Rd w' A ([pe, qe, errIf (Wa != Wb) 2, errIf (decide (64 < IntKind.i64.wrap (Ha + Hb))) 5].map (.int .i64)) := hall 17 (by decide)
    have e18 : v 18 = .int .i64 (z) := hall 18 (by decide)
    have e19 : v 19 = .int .i64 (z) := hall 19 (by decide)
    rw [e19]
    clear e0 e1 e2 e3 e4 e5 e6 e7 e8 e9 e10 e11 e12 e13 e14 e15 e16 e17 e18 hall
    have hy := HY.out.below hR
    have HB1 := Lib.hid (HB.out.trans (hR.mono HB.out.size))
    clear c0 c1 c2 c3 d0 d1 d2 d3 z0 z1 z2
    have z1 := hy.lt
    have f0 := hy.frozen 0; have f1 := hy.frozen 1; have f2 := hy.frozen 2; have f3 := hy.frozen 3
    obtain ⟨d0, d1, d2, d3⟩ := box4 hy
    have hyy := Lib.hid (show Blk ((((w'.setCell ⟨w.heap.size + 1 + 1, 0, none⟩ (.string ⟨#[]⟩)).setCell ⟨w.heap.size + 1 + 1, 1, none⟩ (.int .i64 0)).setCell ⟨w.heap.size + 1 + 1, 2, none⟩ (.int .i64 0)).setCell ⟨w.heap.size + 1 + 1, 3, none⟩ (.slice none 0 0)) (w.heap.size + 1 + 1) 50 #[.string ⟨#[]⟩, .int .i64 0, .int .i64 0, .slice none 0 0] from (((hy.set_ 0 _).set_ 1 _).set_ 2 _).set_ 3 _)
    clear hy
    go_wp2
    obtain ⟨r0, r1, r2, r3⟩ := box4 hyy.out
    exact bodyPost_ret (v := .tuple #[.agg #[.string ⟨#[]⟩, .int .i64 0, .int .i64 0, .slice none 0 0], .int .i64 z]) (by simp [results, Tryz.results41, go_sem, r0, r1, r2, r3]) rfl ⟨rfl, below_set4 HB1.out (by omega) _ _ _ _⟩

set_option maxHeartbeats 4000000 in
theorem woven_err (p q : Pic) (A B : Option Addr) (c d : Nat) (w : World) (hs : p.name.size ≤ maxLen) (hl : p.l.length ≤ maxLen) (hs2 : q.name.size ≤ maxLen) (hl2 : q.l.length ≤ maxLen) (hr : Rd w A (fl p.l)) (hr2 : Rd w B (fl q.l)) (z : Int) (he : wovenErr p q = z) (hz : z ≠ 0) :
    Calls Tryz.prog 42 #[p.val A c, q.val B d] w fun e w' => e = .returned (.tuple #[.agg #[.string ⟨#[]⟩, .int .i64 0, .int .i64 0, .slice none 0 0], .int .i64 z]) ∧ Below w.heap.size w w' := by
  have hcp := fun w hr => checkPicture_any p A c w hs hl hr
  have hcq := fun w hr => checkPicture_any q B d w hs2 hl2 hr
  unfold wovenErr at he
  unfold Pic.val at hcp hcq ⊢
  obtain ⟨pe, hpe⟩ : ∃ z, p.err = z := ⟨_, rfl⟩
  obtain ⟨qe, hqe⟩ : ∃ z, q.err = z := ⟨_, rfl⟩
  rw [hpe] at hcp he
  rw [hqe] at hcq he
  clear hpe hqe
  obtain ⟨nm, Wa, Ha, l⟩ := p
  obtain ⟨nm2, Wb, Hb, k⟩ := q
  simp only [] at hcp hcq he hr hr2 ⊢
  obtain ⟨n, hn⟩ : ∃ n, l.length = n := ⟨_, rfl⟩
  obtain ⟨m, hm⟩ : ∃ m, k.length = m := ⟨_, rfl⟩
  rw [hn] at hcp ⊢
  rw [hm] at hcq ⊢
  clear hn hm hs hl hs2 hl2
  have HE := Lib.hid he; have HCP := Lib.hid hcp; have HCQ := Lib.hid hcq
  have hz' : (z != 0) = true := by simpa using hz
  clear he hcp hcq hz
  go_enter Tryz.func42, Tryz.ntmps42
  go_upto_region 1 with fail
  have hx0 := ((Blk.new w 50 #[.string nm, .int .i64 Wa, .int .i64 Ha, .slice A n c]).alloc (.cells #[.string nm2, .int .i64 Wb, .int .i64 Hb, .slice B m d] 50)).alloc (.cells #[.string ⟨#[]⟩, .int .i64 0, .int .i64 0, .slice none 0 0] 50)
  have hx1 := (Blk.new (w.alloc (.cells #[.string nm, .int .i64 Wa, .int .i64 Ha, .slice A n c] 50)) 50 #[.string nm2, .int .i64 Wb, .int .i64 Hb, .slice B m d]).alloc (.cells #[.string ⟨#[]⟩, .int .i64 0, .int .i64 0, .slice none 0 0] 50)
  have hx2 := Blk.new ((w.alloc (.cells #[.string nm, .int .i64 Wa, .int .i64 Ha, .slice A n c] 50)).alloc (.cells #[.string nm2, .int .i64 Wb, .int .i64 Hb, .slice B m d] 50)) 50 #[.string ⟨#[]⟩, .int .i64 0, .int .i64 0, .slice none 0 0]
  simp only [World.size_alloc] at hx1 hx2
  have hb0 := (((Below.refl w.heap.size w).alloc (Nat.le_refl _) (.cells #[.string nm, .int .i64 Wa, .int .i64 Ha, .slice A n c] 50)).alloc (by simp only [World.size_alloc]; omega) (.cells #[.string nm2, .int .i64 Wb, .int .i64 Hb, .slice B m d] 50)).alloc (by simp only [World.size_alloc]; omega) (.cells #[.string ⟨#[]⟩, .int .i64 0, .int .i64 0, .slice none 0 0] 50)
  generalize (((w.alloc (.cells #[.string nm, .int .i64 Wa, .int .i64 Ha, .slice A n c] 50)).alloc (.cells #[.string nm2, .int .i64 Wb, .int .i64 Hb, .slice B m d] 50)).alloc (.cells #[.string ⟨#[]⟩, .int .i64 0, .int .i64 0, .slice none 0 0] 50)) = w0 at hx0 hx1 hx2 hb0 ⊢
  obtain ⟨c0, c1, c2, c3⟩ := box4 hx0
  obtain ⟨d0, d1, d2, d3⟩ := box4 hx1
  have z0 := hx0.lt; have z1 := hx1.lt; have z2 := hx2.lt
  have HRa := Lib.hid (hr.below hb0); have HRb := Lib.hid (hr2.below hb0)
  have HY := Lib.hid hx2; have HB := Lib.hid hb0; clear hx0 hx1 hx2 hb0 hr hr2
  by_cases hH : Ha = Hb
  · subst hH; have hHb : (Ha != Ha) = false := by simp
    refine wp_region_facts [Fact.is (.agg #[.string nm, .int .i64 Wa, .int .i64 Ha, .slice A n c]), Fact.is (.int .i64 (pe)), Fact.is (.agg #[.string nm2, .int .i64 Wb, .int .i64 Ha, .slice B m d]), Fact.is (.int .i64 (qe)), Fact.is (.pointer (some ⟨w.heap.size, 1, none⟩)), Fact.is (.int .i64 (Wa)), Fact.is (.pointer (some ⟨w.heap.size + 1, 1, none⟩)), Fact.is (.int .i64 (Wb)), Fact.is (.bool (Wa != Wb)), Fact.is (.int .i64 (errIf (Wa != Wb) 2)), Fact.is (.pointer (some ⟨w.heap.size, 2, none⟩)), Fact.is (.int .i64 (Ha)), Fact.is (.pointer (some ⟨w.heap.size + 1, 2, none⟩)), Fact.is (.int .i64 (Ha)), Fact.is (.bool false), Fact.is (.bool false), Fact.is (undef), Fact.is (undef), Fact.is (undef), Fact.is (undef), Fact.is (undef), Fact.is (undef), Fact.is (.bool false), Fact.is (.int .i64 (errIf false 2)), Fact.is (.pointer (some ⟨w.heap.size, 2, none⟩)), Fact.is (.int .i64 (Ha)), Fact.is (.pointer (some ⟨w.heap.size + 1, 2, none⟩)), Fact.is (.int .i64 (Ha)), Fact.is (.int .i64 (IntKind.i64.wrap (Ha + Ha))), Fact.is (.bool (decide (64 < IntKind.i64.wrap (Ha + Ha)))), Fact.is (.int .i64 (errIf (decide (64 < IntKind.i64.wrap (Ha + Ha))) 5)), Fact.ints 5 [pe, qe, errIf (Wa != Wb) 2, errIf false 2, errIf (decide (64 < IntKind.i64.wrap (Ha + Ha))) 5], Fact.is (.int .i64 (z)), Fact.is (.int .i64 (z))] [[], [0], [], [2], [], [4], [], [6], [5, 7], [8], [], [10], [], [12], [11, 13], [14], [15], [15, 16], [15], [15, 18], [15, 19], [15, 17, 20], [15, 21], [22], [], [24], [], [26], [25, 27], [28], [29], [1, 3, 9, 23, 30], [31], [32]] [(some 10, 0), (some 11, 1), (some 12, 2), (some 13, 3), (some 14, 4), (some 15, 5), (some 16, 6), (some 17, 7), (some 18, 8), (some 19, 9), (some 20, 10), (some 21, 11), (some 22, 12), (some 23, 13), (some 24, 14), (some 25, 15), (some 26, 16), (some 27, 17), (some 28, 18), (some 29, 19), (some 30, 20), (some 31, 21), (some 32, 22), (some 33, 23), (some 34, 24), (some 35, 25), (some 36, 26), (some 37, 27), (some 38, 28), (some 39, 29), (some 40, 30), (some 41, 31), (some 42, 32), (some 6, 33)] (by kernel_rfl) (by kernel_rfl) (by kernel_rfl) (by kernel_rfl) (fun _ _ _ _ e h => by have h1 : _ ∧ _ := h; exact ⟨e ▸ h1.1, h1.2⟩) ?hstep ?hend
    case hstep =>
      intro i hi
      match i, hi with
      | 0, _ =>
        intro v w' hR hd
        change SpecOp _ _ _ _ 0 (canon _ v _ []) w' _
        simp only [canon_nil]
        have q0 := (hR.cell (p := ⟨w.heap.size, 0, none⟩) z0).trans c0
        have q1 := (hR.cell (p := ⟨w.heap.size, 1, none⟩) z0).trans c1
        have q2 := (hR.cell (p := ⟨w.heap.size, 2, none⟩) z0).trans c2
        have q3 := (hR.cell (p := ⟨w.heap.size, 3, none⟩) z0).trans c3
        refine spec_of rfl (fun KK hK => ?_)
        go_simp
        exact hK.out _ _ (Below.refl _ _) rfl
      | 1, _ =>
        intro v w' hR hd
        have e0 : v 0 = .agg #[.string nm, .int .i64 Wa, .int .i64 Ha, .slice A n c] := hd 0 (by decide)
        change SpecOp _ _ _ _ 1 (Act.put (canon _ v _ []) (some 10) (v 0)) w' _
        rw [e0]
        simp only [canon_nil, Act.put, List.setIfInBounds_toArray, List.set_cons_zero, List.set_cons_succ]
        refine spec_of rfl (fun KK hK => ?_)
        go_simp
        refine (HCP.out _ (HRa.out.below hR)).mono ?_
        rintro e wn ⟨rfl, hbn⟩
        exact hK.out _ _ hbn rfl
      | 2, _ =>
        intro v w' hR hd
        change SpecOp _ _ _ _ 2 (canon _ v _ []) w' _
        simp only [canon_nil]
        have q0 := (hR.cell (p := ⟨w.heap.size + 1, 0, none⟩) z1).trans d0
        have q1 := (hR.cell (p := ⟨w.heap.size + 1, 1, none⟩) z1).trans d1
        have q2 := (hR.cell (p := ⟨w.heap.size + 1, 2, none⟩) z1).trans d2
        have q3 := (hR.cell (p := ⟨w.heap.size + 1, 3, none⟩) z1).trans d3
        refine spec_of rfl (fun KK hK => ?_)
        go_simp
        exact hK.out _ _ (Below.refl _ _) rfl
      | 3, _ =>
        intro v w' hR hd
        have e2 : v 2 = .agg #[.string nm2, .int .i64 Wb, .int .i64 Ha, .slice B m d] := hd 2 (by decide)
        change SpecOp _ _ _ _ 3 (Act.put (canon _ v _ []) (some 12) (v 2)) w' _
        rw [e2]
        simp only [canon_nil, Act.put, List.setIfInBounds_toArray, List.set_cons_zero, List.set_cons_succ]
        refine spec_of rfl (fun KK hK => ?_)
        go_simp
        refine (HCQ.out _ (HRb.out.below hR)).mono ?_
        rintro e wn ⟨rfl, hbn⟩
        exact hK.out _ _ hbn rfl
      | 4, _ =>
        intro v w' hR hd
        change SpecOp _ _ _ _ 4 (canon _ v _ []) w' _
        simp only [canon_nil]
        refine spec_of rfl (fun KK hK => ?_)
        go_simp
        exact hK.out _ _ (Below.refl _ _) rfl
      | 5, _ =>
        intro v w' hR hd
        have e4 : v 4 = .pointer (some ⟨w.heap.size, 1, none⟩) := hd 4 (by decide)
        change SpecOp _ _ _ _ 5 (Act.put (canon _ v _ []) (some 14) (v 4)) w' _
        rw [e4]
        simp only [canon_nil, Act.put, List.setIfInBounds_toArray, List.set_cons_zero, List.set_cons_succ]
        have q0 := (hR.cell (p := ⟨w.heap.size, 1, none⟩) z0).trans c1
        refine spec_of rfl (fun KK hK => ?_)
        go_simp
        exact hK.out _ _ (Below.refl _ _) rfl
      | 6, _ =>
        intro v w' hR hd
        change SpecOp _ _ _ _ 6 (canon _ v _ []) w' _
        simp only [canon_nil]
        refine spec_of rfl (fun KK hK => ?_)
        go_simp
        exact hK.out _ _ (Below.refl _ _) rfl
      | 7, _ =>
        intro v w' hR hd
        have e6 : v 6 = .pointer (some ⟨w.heap.size + 1, 1, none⟩) := hd 6 (by decide)
        change SpecOp _ _ _ _ 7 (Act.put (canon _ v _ []) (some 16) (v 6)) w' _
        rw [e6]
        simp only [canon_nil, Act.put, List.setIfInBounds_toArray, List.set_cons_zero, List.set_cons_succ]
        have q0 := (hR.cell (p := ⟨w.heap.size + 1, 1, none⟩) z1).trans d1
        refine spec_of rfl (fun KK hK => ?_)
        go_simp
        exact hK.out _ _ (Below.refl _ _) rfl
      | 8, _ =>
        intro v w' hR hd
        have e5 : v 5 = .int .i64 (Wa) := hd 5 (by decide)
        have e7 : v 7 = .int .i64 (Wb) := hd 7 (by decide)
        change SpecOp _ _ _ _ 8 (Act.put (Act.put (canon _ v _ []) (some 17) (v 7)) (some 15) (v 5)) w' _
        rw [e5, e7]
        simp only [canon_nil, Act.put, List.setIfInBounds_toArray, List.set_cons_zero, List.set_cons_succ]
        refine spec_of rfl (fun KK hK => ?_)
        go_simp
        exact hK.out _ _ (Below.refl _ _) (by first | rfl | (simp; done))
      | 9, _ =>
        intro v w' hR hd
        have e8 : v 8 = .bool (Wa != Wb) := hd 8 (by decide)
        change SpecOp _ _ _ _ 9 (Act.put (canon _ v _ []) (some 18) (v 8)) w' _
        rw [e8]
        simp only [canon_nil, Act.put, List.setIfInBounds_toArray, List.set_cons_zero, List.set_cons_succ]
        refine spec_of rfl (fun KK hK => ?_)
        go_simp
        refine (errorIf_any _ _ _).mono ?_
        rintro e wn ⟨rfl, rfl⟩
        exact hK.out _ _ (Below.refl _ _) rfl
      | 10, _ =>
        intro v w' hR hd
        change SpecOp _ _ _ _ 10 (canon _ v _ []) w' _
        simp only [canon_nil]
        refine spec_of rfl (fun KK hK => ?_)
        go_simp
        exact hK.out _ _ (Below.refl _ _) rfl
      | 11, _ =>
        intro v w' hR hd
        have e10 : v 10 = .pointer (some ⟨w.heap.size, 2, none⟩) := hd 10 (by decide)
        change SpecOp _ _ _ _ 11 (Act.put (canon _ v _ []) (some 20) (v 10)) w' _
        rw [e10]
        simp only [canon_nil, Act.put, List.setIfInBounds_toArray, List.set_cons_zero, List.set_cons_succ]
        have q0 := (hR.cell (p := ⟨w.heap.size, 2, none⟩) z0).trans c2
        refine spec_of rfl (fun KK hK => ?_)
        go_simp
        exact hK.out _ _ (Below.refl _ _) rfl
      | 12, _ =>
        intro v w' hR hd
        change SpecOp _ _ _ _ 12 (canon _ v _ []) w' _
        simp only [canon_nil]
        refine spec_of rfl (fun KK hK => ?_)
        go_simp
        exact hK.out _ _ (Below.refl _ _) rfl
      | 13, _ =>
        intro v w' hR hd
        have e12 : v 12 = .pointer (some ⟨w.heap.size + 1, 2, none⟩) := hd 12 (by decide)
        change SpecOp _ _ _ _ 13 (Act.put (canon _ v _ []) (some 22) (v 12)) w' _
        rw [e12]
        simp only [canon_nil, Act.put, List.setIfInBounds_toArray, List.set_cons_zero, List.set_cons_succ]
        have q0 := (hR.cell (p := ⟨w.heap.size + 1, 2, none⟩) z1).trans d2
        refine spec_of rfl (fun KK hK => ?_)
        go_simp
        exact hK.out _ _ (Below.refl _ _) rfl
      | 14, _ =>
        intro v w' hR hd
        have e11 : v 11 = .int .i64 (Ha) := hd 11 (by decide)
        have e13 : v 13 = .int .i64 (Ha) := hd 13 (by decide)
        change SpecOp _ _ _ _ 14 (Act.put (Act.put (canon _ v _ []) (some 23) (v 13)) (some 21) (v 11)) w' _
        rw [e11, e13]
        simp only [canon_nil, Act.put, List.setIfInBounds_toArray, List.set_cons_zero, List.set_cons_succ]
        refine spec_of rfl (fun KK hK => ?_)
        go_simp
        exact hK.out _ _ (Below.refl _ _) (by first | rfl | (simp; done))
      | 15, _ =>
        intro v w' hR hd
        have e14 : v 14 = .bool false := hd 14 (by decide)
        change SpecOp _ _ _ _ 15 (Act.put (canon _ v _ []) (some 24) (v 14)) w' _
        rw [e14]
        simp only [canon_nil, Act.put, List.setIfInBounds_toArray, List.set_cons_zero, List.set_cons_succ]
        refine spec_of rfl (fun KK hK => ?_)
        go_simp
        exact hK.out _ _ (Below.refl _ _) rfl
      | 16, _ =>
        intro v w' hR hd
        have e15 : v 15 = .bool false := hd 15 (by decide)
        change SpecOp _ _ _ _ 16 (Act.put (canon _ v _ []) (some 25) (v 15)) w' _
        rw [e15]
        simp only [canon_nil, Act.put, List.setIfInBounds_toArray, List.set_cons_zero, List.set_cons_succ]
        refine spec_of rfl (fun KK hK => ?_)
        go_simp
        exact hK.out _ _ (Below.refl _ _) rfl
      | 17, _ =>
        intro v w' hR hd
        have e15 : v 15 = .bool false := hd 15 (by decide)
        have e16 : v 16 = undef := hd 16 (by decide)
        change SpecOp _ _ _ _ 17 (Act.put (Act.put (canon _ v _ []) (some 26) (v 16)) (some 25) (v 15)) w' _
        rw [e15, e16]
        simp only [canon_nil, Act.put, List.setIfInBounds_toArray, List.set_cons_zero, List.set_cons_succ]
        refine spec_of rfl (fun KK hK => ?_)
        go_simp
        exact hK.out _ _ (Below.refl _ _) rfl
      | 18, _ =>
        intro v w' hR hd
        have e15 : v 15 = .bool false := hd 15 (by decide)
        change SpecOp _ _ _ _ 18 (Act.put (canon _ v _ []) (some 25) (v 15)) w' _
        rw [e15]
        simp only [canon_nil, Act.put, List.setIfInBounds_toArray, List.set_cons_zero, List.set_cons_succ]
        refine spec_of rfl (fun KK hK => ?_)
        go_simp
        exact hK.out _ _ (Below.refl _ _) rfl
      | 19, _ =>
        intro v w' hR hd
        have e15 : v 15 = .bool false := hd 15 (by decide)
        have e18 : v 18 = undef := hd 18 (by decide)
        change SpecOp _ _ _ _ 19 (Act.put (Act.put (canon _ v _ []) (some 28) (v 18)) (some 25) (v 15)) w' _
        rw [e15, e18]
        simp only [canon_nil, Act.put, List.setIfInBounds_toArray, List.set_cons_zero, List.set_cons_succ]
        refine spec_of rfl (fun KK hK => ?_)
        go_simp
        exact hK.out _ _ (Below.refl _ _) rfl
      | 20, _ =>
        intro v w' hR hd
        have e15 : v 15 = .bool false := hd 15 (by decide)
        have e19 : v 19 = undef := hd 19 (by decide)
        change SpecOp _ _ _ _ 20 (Act.put (Act.put (canon _ v _ []) (some 29) (v 19)) (some 25) (v 15)) w' _
        rw [e15, e19]
        simp only [canon_nil, Act.put, List.setIfInBounds_toArray, List.set_cons_zero, List.set_cons_succ]
        refine spec_of rfl (fun KK hK => ?_)
        go_simp
        exact hK.out _ _ (Below.refl _ _) rfl
      | 21, _ =>
        intro v w' hR hd
        have e15 : v 15 = .bool false := hd 15 (by decide)
        have e17 : v 17 = undef := hd 17 (by decide)
        have e20 : v 20 = undef := hd 20 (by decide)
        change SpecOp _ _ _ _ 21 (Act.put (Act.put (Act.put (canon _ v _ []) (some 30) (v 20)) (some 27) (v 17)) (some 25) (v 15)) w' _
        rw [e15, e17, e20]
        simp only [canon_nil, Act.put, List.setIfInBounds_toArray, List.set_cons_zero, List.set_cons_succ]
        refine spec_of rfl (fun KK hK => ?_)
        go_simp
        exact hK.out _ _ (Below.refl _ _) rfl
      | 22, _ =>
        intro v w' hR hd
        have e15 : v 15 = .bool false := hd 15 (by decide)
        have e21 : v 21 = undef := hd 21 (by decide)
        change SpecOp _ _ _ _ 22 (Act.put (Act.put (canon _ v _ []) (some 31) (v 21)) (some 25) (v 15)) w' _
        rw [e15, e21]
        simp only [canon_nil, Act.put, List.setIfInBounds_toArray, List.set_cons_zero, List.set_cons_succ]
        refine spec_of rfl (fun KK hK => ?_)
        go_simp
        exact hK.out _ _ (Below.refl _ _) rfl
      | 23, _ =>
        intro v w' hR hd
        have e22 : v 22 = .bool false := hd 22 (by decide)
        change SpecOp _ _ _ _ 23 (Act.put (canon _ v _ []) (some 32) (v 22)) w' _
        rw [e22]
        simp only [canon_nil, Act.put, List.setIfInBounds_toArray, List.set_cons_zero, List.set_cons_succ]
        refine spec_of rfl (fun KK hK => ?_)
        go_simp
        refine (errorIf_any _ _ _).mono ?_
        rintro e wn ⟨rfl, rfl⟩
        exact hK.out _ _ (Below.refl _ _) rfl
      | 24, _ =>
        intro v w' hR hd
        change SpecOp _ _ _ _ 24 (canon _ v _ []) w' _
        simp only [canon_nil]
        refine spec_of rfl (fun KK hK => ?_)
        go_simp
        exact hK.out _ _ (Below.refl _ _) rfl
      | 25, _ =>
        intro v w' hR hd
        have e24 : v 24 = .pointer (some ⟨w.heap.size, 2, none⟩) := hd 24 (by decide)
        change SpecOp _ _ _ _ 25 (Act.put (canon _ v _ []) (some 34) (v 24)) w' _
        rw [e24]
        simp only [canon_nil, Act.put, List.setIfInBounds_toArray, List.set_cons_zero, List.set_cons_succ]
        have q0 := (hR.cell (p := ⟨w.heap.size, 2, none⟩) z0).trans c2
        refine spec_of rfl (fun KK hK => ?_)
        go_simp
        exact hK.out _ _ (Below.refl _ _) rfl
      | 26, _ =>
        intro v w' hR hd
        change SpecOp _ _ _ _ 26 (canon _ v _ []) w' _
        simp only [canon_nil]
        refine spec_of rfl (fun KK hK => ?_)
        go_simp
        exact hK.out _ _ (Below.refl _ _) rfl
      | 27, _ =>
        intro v w' hR hd
        have e26 : v 26 = .pointer (some ⟨w.heap.size + 1, 2, none⟩) := hd 26 (by decide)
        change SpecOp _ _ _ _ 27 (Act.put (canon _ v _ []) (some 36) (v 26)) w' _
        rw [e26]
        simp only [canon_nil, Act.put, List.setIfInBounds_toArray, List.set_cons_zero, List.set_cons_succ]
        have q0 := (hR.cell (p := ⟨w.heap.size + 1, 2, none⟩) z1).trans d2
        refine spec_of rfl (fun KK hK => ?_)
        go_simp
        exact hK.out _ _ (Below.refl _ _) rfl
      | 28, _ =>
        intro v w' hR hd
        have e25 : v 25 = .int .i64 (Ha) := hd 25 (by decide)
        have e27 : v 27 = .int .i64 (Ha) := hd 27 (by decide)
        change SpecOp _ _ _ _ 28 (Act.put (Act.put (canon _ v _ []) (some 37) (v 27)) (some 35) (v 25)) w' _
        rw [e25, e27]
        simp only [canon_nil, Act.put, List.setIfInBounds_toArray, List.set_cons_zero, List.set_cons_succ]
        refine spec_of rfl (fun KK hK => ?_)
        go_simp
        exact hK.out _ _ (Below.refl _ _) rfl
      | 29, _ =>
        intro v w' hR hd
        have e28 : v 28 = .int .i64 (IntKind.i64.wrap (Ha + Ha)) := hd 28 (by decide)
        change SpecOp _ _ _ _ 29 (Act.put (canon _ v _ []) (some 38) (v 28)) w' _
        rw [e28]
        simp only [canon_nil, Act.put, List.setIfInBounds_toArray, List.set_cons_zero, List.set_cons_succ]
        refine spec_of rfl (fun KK hK => ?_)
        go_simp
        exact hK.out _ _ (Below.refl _ _) (by first | rfl | (simp; done))
      | 30, _ =>
        intro v w' hR hd
        have e29 : v 29 = .bool (decide (64 < IntKind.i64.wrap (Ha + Ha))) := hd 29 (by decide)
        change SpecOp _ _ _ _ 30 (Act.put (canon _ v _ []) (some 39) (v 29)) w' _
        rw [e29]
        simp only [canon_nil, Act.put, List.setIfInBounds_toArray, List.set_cons_zero, List.set_cons_succ]
        refine spec_of rfl (fun KK hK => ?_)
        go_simp
        refine (errorIf_any _ _ _).mono ?_
        rintro e wn ⟨rfl, rfl⟩
        exact hK.out _ _ (Below.refl _ _) rfl
      | 31, _ =>
        intro v w' hR hd
        have e1 : v 1 = .int .i64 (pe) := hd 1 (by decide)
        have e3 : v 3 = .int .i64 (qe) := hd 3 (by decide)
        have e9 : v 9 = .int .i64 (errIf (Wa != Wb) 2) := hd 9 (by decide)
        have e23 : v 23 = .int .i64 (errIf false 2) := hd 23 (by decide)
        have e30 : v 30 = .int .i64 (errIf (decide (64 < IntKind.i64.wrap (Ha + Ha))) 5) := hd 30 (by decide)
        change SpecOp _ _ _ _ 31 (Act.put (Act.put (Act.put (Act.put (Act.put (canon _ v _ []) (some 40) (v 30)) (some 33) (v 23)) (some 19) (v 9)) (some 13) (v 3)) (some 11) (v 1)) w' _
        rw [e1, e3, e9, e23, e30]
        simp only [canon_nil, Act.put, List.setIfInBounds_toArray, List.set_cons_zero, List.set_cons_succ]
        refine spec_of rfl (fun KK hK => ?_)
        go_simp
        exact hK.out _ _ ((Below.refl _ _).alloc (Nat.le_refl _) _) ⟨_, _, rfl, rd_of_blk (Blk.new _ _ _) rfl⟩
      | 32, _ =>
        intro v w' hR hd
        obtain ⟨A31, k31, e31, r31⟩ : ∃ A c, v 31 = .slice A 5 c ∧ Rd w' A ([pe, qe, errIf (Wa != Wb) 2, errIf false 2, errIf (decide (64 < IntKind.i64.wrap (Ha + Ha))) 5].map (.int .i64)) := hd 31 (by decide)
        change SpecOp _ _ _ _ 32 (Act.put (canon _ v _ []) (some 41) (v 31)) w' _
        rw [e31]
        simp only [canon_nil, Act.put, List.setIfInBounds_toArray, List.set_cons_zero, List.set_cons_succ]
        refine spec_of rfl (fun KK hK => ?_)
        go_simp
        refine (first_n _ _ _ [_, _, _, _, _] _ rfl (by simp [maxLen]) r31).mono ?_
        rintro e wn ⟨rfl, rfl⟩
        exact hK.out _ _ (Below.refl _ _) (congrArg (Value.int .i64) (by have h := HE.out; rw [hHb] at h; simpa only [Bool.false_and] using h))
      | 33, _ =>
        intro v w' hR hd
        have e32 : v 32 = .int .i64 (z) := hd 32 (by decide)
        change SpecOp _ _ _ _ 33 (Act.put (canon _ v _ []) (some 42) (v 32)) w' _
        rw [e32]
        simp only [canon_nil, Act.put, List.setIfInBounds_toArray, List.set_cons_zero, List.set_cons_succ]
        refine spec_of rfl (fun KK hK => ?_)
        go_simp
        exact hK.out _ _ (Below.refl _ _) rfl
      | i + 34, h => exact absurd h (Nat.not_lt.2 (Nat.le_add_left 34 i))
    case hend =>
      intro v w' hR hall
      simp only [putL, Act.put, List.setIfInBounds_toArray, List.set_cons_zero, List.set_cons_succ]
      have e0 : v 0 = .agg #[.string nm, .int .i64 Wa, .int .i64 Ha, .slice A n c] := hall 0 (by decide)
      have e1 : v 1 = .int .i64 (pe) := hall 1 (by decide)
      have e2 : v 2 = .agg #[.string nm2, .int .i64 Wb, .int .i64 Ha, .slice B m d] := hall 2 (by decide)
      have e3 : v 3 = .int .i64 (qe) := hall 3 (by decide)
      have e4 : v 4 = .pointer (some ⟨w.heap.size, 1, none⟩) := hall 4 (by decide)
      have e5 : v 5 = .int .i64 (Wa) := hall 5 (by decide)
      have e6 : v 6 = .pointer (some ⟨w.heap.size + 1, 1, none⟩) := hall 6 (by decide)
      have e7 : v 7 = .int .i64 (Wb) := hall 7 (by decide)
      have e8 : v 8 = .bool (Wa != Wb) := hall 8 (by decide)
      have e9 : v 9 = .int .i64 (errIf (Wa != Wb) 2) := hall 9 (by decide)
      have e10 : v 10 = .pointer (some ⟨w.heap.size, 2, none⟩) := hall 10 (by decide)
      have e11 : v 11 = .int .i64 (Ha) := hall 11 (by decide)
      have e12 : v 12 = .pointer (some ⟨w.heap.size + 1, 2, none⟩) := hall 12 (by decide)
      have e13 : v 13 = .int .i64 (Ha) := hall 13 (by decide)
      have e14 : v 14 = .bool false := hall 14 (by decide)
      have e15 : v 15 = .bool false := hall 15 (by decide)
      have e16 : v 16 = undef := hall 16 (by decide)
      have e17 : v 17 = undef := hall 17 (by decide)
      have e18 : v 18 = undef := hall 18 (by decide)
      have e19 : v 19 = undef := hall 19 (by decide)
      have e20 : v 20 = undef := hall 20 (by decide)
      have e21 : v 21 = undef := hall 21 (by decide)
      have e22 : v 22 = .bool false := hall 22 (by decide)
      have e23 : v 23 = .int .i64 (errIf false 2) := hall 23 (by decide)
      have e24 : v 24 = .pointer (some ⟨w.heap.size, 2, none⟩) := hall 24 (by decide)
      have e25 : v 25 = .int .i64 (Ha) := hall 25 (by decide)
      have e26 : v 26 = .pointer (some ⟨w.heap.size + 1, 2, none⟩) := hall 26 (by decide)
      have e27 : v 27 = .int .i64 (Ha) := hall 27 (by decide)
      have e28 : v 28 = .int .i64 (IntKind.i64.wrap (Ha + Ha)) := hall 28 (by decide)
      have e29 : v 29 = .bool (decide (64 < IntKind.i64.wrap (Ha + Ha))) := hall 29 (by decide)
      have e30 : v 30 = .int .i64 (errIf (decide (64 < IntKind.i64.wrap (Ha + Ha))) 5) := hall 30 (by decide)
      obtain ⟨A31, k31, e31, r31⟩ : ∃ A c, v 31 = .slice A 5 c ∧ Rd w' A ([pe, qe, errIf (Wa != Wb) 2, errIf false 2, errIf (decide (64 < IntKind.i64.wrap (Ha + Ha))) 5].map (.int .i64)) := hall 31 (by decide)
      have e32 : v 32 = .int .i64 (z) := hall 32 (by decide)
      have e33 : v 33 = .int .i64 (z) := hall 33 (by decide)
      rw [e33]
      clear e0 e1 e2 e3 e4 e5 e6 e7 e8 e9 e10 e11 e12 e13 e14 e15 e16 e17 e18 e19 e20 e21 e22 e23 e24 e25 e26 e27 e28 e29 e30 e31 e32 hall
      have hy := HY.out.below hR
      have HB1 := Lib.hid (HB.out.trans (hR.mono HB.out.size))
      clear c0 c1 c2 c3 d0 d1 d2 d3 z0 z1 z2
      have z1 := hy.lt
      have f0 := hy.frozen 0; have f1 := hy.frozen 1; have f2 := hy.frozen 2; have f3 := hy.frozen 3
      obtain ⟨d0, d1, d2, d3⟩ := box4 hy
      have hyy := Lib.hid (show Blk ((((w'.setCell ⟨w.heap.size + 1 + 1, 0, none⟩ (.string ⟨#[]⟩)).setCell ⟨w.heap.size + 1 + 1, 1, none⟩ (.int .i64 0)).setCell ⟨w.heap.size + 1 + 1, 2, none⟩ (.int .i64 0)).setCell ⟨w.heap.size + 1 + 1, 3, none⟩ (.slice none 0 0)) (w.heap.size + 1 + 1) 50 #[.string ⟨#[]⟩, .int .i64 0, .int .i64 0, .slice none 0 0] from (((hy.set_ 0 _).set_ 1 _).set_ 2 _).set_ 3 _)
      clear hy
      go_wp2
      obtain ⟨r0, r1, r2, r3⟩ := box4 hyy.out
      exact bodyPost_ret (v := .tuple #[.agg #[.string ⟨#[]⟩, .int .i64 0, .int .i64 0, .slice none 0 0], .int .i64 z]) (by simp [results, Tryz.results42, go_sem, r0, r1, r2, r3]) rfl ⟨rfl, below_set4 HB1.out (by omega) _ _ _ _⟩
  · have hHb : (Ha != Hb) = true := by simp [hH]
    refine wp_region_facts [Fact.is (.agg #[.string nm, .int .i64 Wa, .int .i64 Ha, .slice A n c]), Fact.is (.int .i64 (pe)), Fact.is (.agg #[.string nm2, .int .i64 Wb, .int .i64 Hb, .slice B m d]), Fact.is (.int .i64 (qe)), Fact.is (.pointer (some ⟨w.heap.size, 1, none⟩)), Fact.is (.int .i64 (Wa)), Fact.is (.pointer (some ⟨w.heap.size + 1, 1, none⟩)), Fact.is (.int .i64 (Wb)), Fact.is (.bool (Wa != Wb)), Fact.is (.int .i64 (errIf (Wa != Wb) 2)), Fact.is (.pointer (some ⟨w.heap.size, 2, none⟩)), Fact.is (.int .i64 (Ha)), Fact.is (.pointer (some ⟨w.heap.size + 1, 2, none⟩)), Fact.is (.int .i64 (Hb)), Fact.is (.bool true), Fact.is (.bool true), Fact.is (.pointer (some ⟨w.heap.size, 2, none⟩)), Fact.is (.int .i64 (Ha)), Fact.is (.pointer (some ⟨w.heap.size + 1, 2, none⟩)), Fact.is (.int .i64 (Hb)), Fact.is (.int .i64 (IntKind.i64.wrap (Hb + 1))), Fact.is (.bool (Ha != IntKind.i64.wrap (Hb + 1))), Fact.is (.bool (Ha != IntKind.i64.wrap (Hb + 1))), Fact.is (.int .i64 (errIf (Ha != IntKind.i64.wrap (Hb + 1)) 2)), Fact.is (.pointer (some ⟨w.heap.size, 2, none⟩)), Fact.is (.int .i64 (Ha)), Fact.is (.pointer (some ⟨w.heap.size + 1, 2, none⟩)), Fact.is (.int .i64 (Hb)), Fact.is (.int .i64 (IntKind.i64.wrap (Ha + Hb))), Fact.is (.bool (decide (64 < IntKind.i64.wrap (Ha + Hb)))), Fact.is (.int .i64 (errIf (decide (64 < IntKind.i64.wrap (Ha + Hb))) 5)), Fact.ints 5 [pe, qe, errIf (Wa != Wb) 2, errIf (Ha != IntKind.i64.wrap (Hb + 1)) 2, errIf (decide (64 < IntKind.i64.wrap (Ha + Hb))) 5], Fact.is (.int .i64 (z)), Fact.is (.int .i64 (z))] [[], [0], [], [2], [], [4], [], [6], [5, 7], [8], [], [10], [], [12], [11, 13], [14], [15], [15, 16], [15], [15, 18], [15, 19], [15, 17, 20], [15, 21], [22], [], [24], [], [26], [25, 27], [28], [29], [1, 3, 9, 23, 30], [31], [32]] [(some 10, 0), (some 11, 1), (some 12, 2), (some 13, 3), (some 14, 4), (some 15, 5), (some 16, 6), (some 17, 7), (some 18, 8), (some 19, 9), (some 20, 10), (some 21, 11), (some 22, 12), (some 23, 13), (some 24, 14), (some 25, 15), (some 26, 16), (some 27, 17), (some 28, 18), (some 29, 19), (some 30, 20), (some 31, 21), (some 32, 22), (some 33, 23), (some 34, 24), (some 35, 25), (some 36, 26), (some 37, 27), (some 38, 28), (some 39, 29), (some 40, 30), (some 41, 31), (some 42, 32), (some 6, 33)] (by kernel_rfl) (by kernel_rfl) (by kernel_rfl) (by kernel_rfl) (fun _ _ _ _ e h => by have h1 : _ ∧ _ := h; exact ⟨e ▸ h1.1, h1.2⟩) ?hstep ?hend
    case hstep =>
      intro i hi
      match i, hi with
      | 0, _ =>
        intro v w' hR hd
        change SpecOp _ _ _ _ 0 (canon _ v _ []) w' _
        simp only [canon_nil]
        have q0 := (hR.cell (p := ⟨w.heap.size, 0, none⟩) z0).trans c0
        have q1 := (hR.cell (p := ⟨w.heap.size, 1, none⟩) z0).trans c1
        have q2 := (hR.cell (p := ⟨w.heap.size, 2, none⟩) z0).trans c2
        have q3 := (hR.cell (p := ⟨w.heap.size, 3, none⟩) z0).trans c3
        refine spec_of rfl (fun KK hK => ?_)
        go_simp
        exact hK.out _ _ (Below.refl _ _) rfl
      | 1, _ =>
        intro v w' hR hd
        have e0 : v 0 = .agg #[.string nm, .int .i64 Wa, .int .i64 Ha, .slice A n c] := hd 0 (by decide)
        change SpecOp _ _ _ _ 1 (Act.put (canon _ v _ []) (some 10) (v 0)) w' _
        rw [e0]
        simp only [canon_nil, Act.put, List.setIfInBounds_toArray, List.set_cons_zero, List.set_cons_succ]
        refine spec_of rfl (fun KK hK => ?_)
        go_simp
        refine (HCP.out _ (HRa.out.below hR)).mono ?_
        rintro e wn ⟨rfl, hbn⟩
        exact hK.out _ _ hbn rfl
      | 2, _ =>
        intro v w' hR hd
        change SpecOp _ _ _ _ 2 (canon _ v _ []) w' _
        simp only [canon_nil]
        have q0 := (hR.cell (p := ⟨w.heap.size + 1, 0, none⟩) z1).trans d0
        have q1 := (hR.cell (p := ⟨w.heap.size + 1, 1, none⟩) z1).trans d1
        have q2 := (hR.cell (p := ⟨w.heap.size + 1, 2, none⟩) z1).trans d2
        have q3 := (hR.cell (p := ⟨w.heap.size + 1, 3, none⟩) z1).trans d3
        refine spec_of rfl (fun KK hK => ?_)
        go_simp
        exact hK.out _ _ (Below.refl _ _) rfl
      | 3, _ =>
        intro v w' hR hd
        have e2 : v 2 = .agg #[.string nm2, .int .i64 Wb, .int .i64 Hb, .slice B m d] := hd 2 (by decide)
        change SpecOp _ _ _ _ 3 (Act.put (canon _ v _ []) (some 12) (v 2)) w' _
        rw [e2]
        simp only [canon_nil, Act.put, List.setIfInBounds_toArray, List.set_cons_zero, List.set_cons_succ]
        refine spec_of rfl (fun KK hK => ?_)
        go_simp
        refine (HCQ.out _ (HRb.out.below hR)).mono ?_
        rintro e wn ⟨rfl, hbn⟩
        exact hK.out _ _ hbn rfl
      | 4, _ =>
        intro v w' hR hd
        change SpecOp _ _ _ _ 4 (canon _ v _ []) w' _
        simp only [canon_nil]
        refine spec_of rfl (fun KK hK => ?_)
        go_simp
        exact hK.out _ _ (Below.refl _ _) rfl
      | 5, _ =>
        intro v w' hR hd
        have e4 : v 4 = .pointer (some ⟨w.heap.size, 1, none⟩) := hd 4 (by decide)
        change SpecOp _ _ _ _ 5 (Act.put (canon _ v _ []) (some 14) (v 4)) w' _
        rw [e4]
        simp only [canon_nil, Act.put, List.setIfInBounds_toArray, List.set_cons_zero, List.set_cons_succ]
        have q0 := (hR.cell (p := ⟨w.heap.size, 1, none⟩) z0).trans c1
        refine spec_of rfl (fun KK hK => ?_)
        go_simp
        exact hK.out _ _ (Below.refl _ _) rfl
      | 6, _ =>
        intro v w' hR hd
        change SpecOp _ _ _ _ 6 (canon _ v _ []) w' _
        simp only [canon_nil]
        refine spec_of rfl (fun KK hK => ?_)
        go_simp
        exact hK.out _ _ (Below.refl _ _) rfl
      | 7, _ =>
        intro v w' hR hd
        have e6 : v 6 = .pointer (some ⟨w.heap.size + 1, 1, none⟩) := hd 6 (by decide)
        change SpecOp _ _ _ _ 7 (Act.put (canon _ v _ []) (some 16) (v 6)) w' _
        rw [e6]
        simp only [canon_nil, Act.put, List.setIfInBounds_toArray, List.set_cons_zero, List.set_cons_succ]
        have q0 := (hR.cell (p := ⟨w.heap.size + 1, 1, none⟩) z1).trans d1
        refine spec_of rfl (fun KK hK => ?_)
        go_simp
        exact hK.out _ _ (Below.refl _ _) rfl
      | 8, _ =>
        intro v w' hR hd
        have e5 : v 5 = .int .i64 (Wa) := hd 5 (by decide)
        have e7 : v 7 = .int .i64 (Wb) := hd 7 (by decide)
        change SpecOp _ _ _ _ 8 (Act.put (Act.put (canon _ v _ []) (some 17) (v 7)) (some 15) (v 5)) w' _
        rw [e5, e7]
        simp only [canon_nil, Act.put, List.setIfInBounds_toArray, List.set_cons_zero, List.set_cons_succ]
        refine spec_of rfl (fun KK hK => ?_)
        go_simp
        exact hK.out _ _ (Below.refl _ _) (by first | rfl | (simp; done))
      | 9, _ =>
        intro v w' hR hd
        have e8 : v 8 = .bool (Wa != Wb) := hd 8 (by decide)
        change SpecOp _ _ _ _ 9 (Act.put (canon _ v _ []) (some 18) (v 8)) w' _
        rw [e8]
        simp only [canon_nil, Act.put, List.setIfInBounds_toArray, List.set_cons_zero, List.set_cons_succ]
        refine spec_of rfl (fun KK hK => ?_)
        go_simp
        refine (errorIf_any _ _ _).mono ?_
        rintro e wn ⟨rfl, rfl⟩
        exact hK.out _ _ (Below.refl _ _) rfl
      | 10, _ =>
        intro v w' hR hd
        change SpecOp _ _ _ _ 10 (canon _ v _ []) w' _
        simp only [canon_nil]
        refine spec_of rfl (fun KK hK => ?_)
        go_simp
        exact hK.out _ _ (Below.refl _ _) rfl
      | 11, _ =>
        intro v w' hR hd
        have e10 : v 10 = .pointer (some ⟨w.heap.size, 2, none⟩) := hd 10 (by decide)
        change SpecOp _ _ _ _ 11 (Act.put (canon _ v _ []) (some 20) (v 10)) w' _
        rw [e10]
        simp only [canon_nil, Act.put, List.setIfInBounds_toArray, List.set_cons_zero, List.set_cons_succ]
        have q0 := (hR.cell (p := ⟨w.heap.size, 2, none⟩) z0).trans c2
        refine spec_of rfl (fun KK hK => ?_)
        go_simp
        exact hK.out _ _ (Below.refl _ _) rfl
      | 12, _ =>
        intro v w' hR hd
        change SpecOp _ _ _ _ 12 (canon _ v _ []) w' _
        simp only [canon_nil]
        refine spec_of rfl (fun KK hK => ?_)
        go_simp
        exact hK.out _ _ (Below.refl _ _) rfl
      | 13, _ =>
        intro v w' hR hd
        have e12 : v 12 = .pointer (some ⟨w.heap.size + 1, 2, none⟩) := hd 12 (by decide)
        change SpecOp _ _ _ _ 13 (Act.put (canon _ v _ []) (some 22) (v 12)) w' _
        rw [e12]
        simp only [canon_nil, Act.put, List.setIfInBounds_toArray, List.set_cons_zero, List.set_cons_succ]
        have q0 := (hR.cell (p := ⟨w.heap.size + 1, 2, none⟩) z1).trans d2
        refine spec_of rfl (fun KK hK => ?_)
        go_simp
        exact hK.out _ _ (Below.refl _ _) rfl
      | 14, _ =>
        intro v w' hR hd
        have e11 : v 11 = .int .i64 (Ha) := hd 11 (by decide)
        have e13 : v 13 = .int .i64 (Hb) := hd 13 (by decide)
        change SpecOp _ _ _ _ 14 (Act.put (Act.put (canon _ v _ []) (some 23) (v 13)) (some 21) (v 11)) w' _
        rw [e11, e13]
        simp only [canon_nil, Act.put, List.setIfInBounds_toArray, List.set_cons_zero, List.set_cons_succ]
        refine spec_of rfl (fun KK hK => ?_)
        go_simp
        exact hK.out _ _ (Below.refl _ _) (by first | rfl | (simp [hH]; done))
      | 15, _ =>
        intro v w' hR hd
        have e14 : v 14 = .bool true := hd 14 (by decide)
        change SpecOp _ _ _ _ 15 (Act.put (canon _ v _ []) (some 24) (v 14)) w' _
        rw [e14]
        simp only [canon_nil, Act.put, List.setIfInBounds_toArray, List.set_cons_zero, List.set_cons_succ]
        refine spec_of rfl (fun KK hK => ?_)
        go_simp
        exact hK.out _ _ (Below.refl _ _) rfl
      | 16, _ =>
        intro v w' hR hd
        have e15 : v 15 = .bool true := hd 15 (by decide)
        change SpecOp _ _ _ _ 16 (Act.put (canon _ v _ []) (some 25) (v 15)) w' _
        rw [e15]
        simp only [canon_nil, Act.put, List.setIfInBounds_toArray, List.set_cons_zero, List.set_cons_succ]
        refine spec_of rfl (fun KK hK => ?_)
        go_simp
        exact hK.out _ _ (Below.refl _ _) rfl
      | 17, _ =>
        intro v w' hR hd
        have e15 : v 15 = .bool true := hd 15 (by decide)
        have e16 : v 16 = .pointer (some ⟨w.heap.size, 2, none⟩) := hd 16 (by decide)
        change SpecOp _ _ _ _ 17 (Act.put (Act.put (canon _ v _ []) (some 26) (v 16)) (some 25) (v 15)) w' _
        rw [e15, e16]
        simp only [canon_nil, Act.put, List.setIfInBounds_toArray, List.set_cons_zero, List.set_cons_succ]
        have q0 := (hR.cell (p := ⟨w.heap.size, 2, none⟩) z0).trans c2
        refine spec_of rfl (fun KK hK => ?_)
        go_simp
        exact hK.out _ _ (Below.refl _ _) rfl
      | 18, _ =>
        intro v w' hR hd
        have e15 : v 15 = .bool true := hd 15 (by decide)
        change SpecOp _ _ _ _ 18 (Act.put (canon _ v _ []) (some 25) (v 15)) w' _
        rw [e15]
        simp only [canon_nil, Act.put, List.setIfInBounds_toArray, List.set_cons_zero, List.set_cons_succ]
        refine spec_of rfl (fun KK hK => ?_)
        go_simp
        exact hK.out _ _ (Below.refl _ _) rfl
      | 19, _ =>
        intro v w' hR hd
        have e15 : v 15 = .bool true := hd 15 (by decide)
        have e18 : v 18 = .pointer (some ⟨w.heap.size + 1, 2, none⟩) := hd 18 (by decide)
        change SpecOp _ _ _ _ 19 (Act.put (Act.put (canon _ v _ []) (some 28) (v 18)) (some 25) (v 15)) w' _
        rw [e15, e18]
        simp only [canon_nil, Act.put, List.setIfInBounds_toArray, List.set_cons_zero, List.set_cons_succ]
        have q0 := (hR.cell (p := ⟨w.heap.size + 1, 2, none⟩) z1).trans d2
        refine spec_of rfl (fun KK hK => ?_)
        go_simp
        exact hK.out _ _ (Below.refl _ _) rfl
      | 20, _ =>
        intro v w' hR hd
        have e15 : v 15 = .bool true := hd 15 (by decide)
        have e19 : v 19 = .int .i64 (Hb) := hd 19 (by decide)
        change SpecOp _ _ _ _ 20 (Act.put (Act.put (canon _ v _ []) (some 29) (v 19)) (some 25) (v 15)) w' _
        rw [e15, e19]
        simp only [canon_nil, Act.put, List.setIfInBounds_toArray, List.set_cons_zero, List.set_cons_succ]
        refine spec_of rfl (fun KK hK => ?_)
        go_simp
        exact hK.out _ _ (Below.refl _ _) rfl
      | 21, _ =>
        intro v w' hR hd
        have e15 : v 15 = .bool true := hd 15 (by decide)
        have e17 : v 17 = .int .i64 (Ha) := hd 17 (by decide)
        have e20 : v 20 = .int .i64 (IntKind.i64.wrap (Hb + 1)) := hd 20 (by decide)
        change SpecOp _ _ _ _ 21 (Act.put (Act.put (Act.put (canon _ v _ []) (some 30) (v 20)) (some 27) (v 17)) (some 25) (v 15)) w' _
        rw [e15, e17, e20]
        simp only [canon_nil, Act.put, List.setIfInBounds_toArray, List.set_cons_zero, List.set_cons_succ]
        refine spec_of rfl (fun KK hK => ?_)
        go_simp
        exact hK.out _ _ (Below.refl _ _) (by first | rfl | (simp; done))
      | 22, _ =>
        intro v w' hR hd
        have e15 : v 15 = .bool true := hd 15 (by decide)
        have e21 : v 21 = .bool (Ha != IntKind.i64.wrap (Hb + 1)) := hd 21 (by decide)
        change SpecOp _ _ _ _ 22 (Act.put (Act.put (canon _ v _ []) (some 31) (v 21)) (some 25) (v 15)) w' _
        rw [e15, e21]
        simp only [canon_nil, Act.put, List.setIfInBounds_toArray, List.set_cons_zero, List.set_cons_succ]
        refine spec_of rfl (fun KK hK => ?_)
        go_simp
        exact hK.out _ _ (Below.refl _ _) rfl
      | 23, _ =>
        intro v w' hR hd
        have e22 : v 22 = .bool (Ha != IntKind.i64.wrap (Hb + 1)) := hd 22 (by decide)
        change SpecOp _ _ _ _ 23 (Act.put (canon _ v _ []) (some 32) (v 22)) w' _
        rw [e22]
        simp only [canon_nil, Act.put, List.setIfInBounds_toArray, List.set_cons_zero, List.set_cons_succ]
        refine spec_of rfl (fun KK hK => ?_)
        go_simp
        refine (errorIf_any _ _ _).mono ?_
        rintro e wn ⟨rfl, rfl⟩
        exact hK.out _ _ (Below.refl _ _) rfl
      | 24, _ =>
        intro v w' hR hd
        change SpecOp _ _ _ _ 24 (canon _ v _ []) w' _
        simp only [canon_nil]
        refine spec_of rfl (fun KK hK => ?_)
        go_simp
        exact hK.out _ _ (Below.refl _ _) rfl
      | 25, _ =>
        intro v w' hR hd
        have e24 : v 24 = .pointer (some ⟨w.heap.size, 2, none⟩) := hd 24 (by decide)
        change SpecOp _ _ _ _ 25 (Act.put (canon _ v _ []) (some 34) (v 24)) w' _
        rw [e24]
        simp only [canon_nil, Act.put, List.setIfInBounds_toArray, List.set_cons_zero, List.set_cons_succ]
        have q0 := (hR.cell (p := ⟨w.heap.size, 2, none⟩) z0).trans c2
        refine spec_of rfl (fun KK hK => ?_)
        go_simp
        exact hK.out _ _ (Below.refl _ _) rfl
      | 26, _ =>
        intro v w' hR hd
        change SpecOp _ _ _ _ 26 (canon _ v _ []) w' _
        simp only [canon_nil]
        refine spec_of rfl (fun KK hK => ?_)
        go_simp
        exact hK.out _ _ (Below.refl _ _) rfl
      | 27, _ =>
        intro v w' hR hd
        have e26 : v 26 = .pointer (some ⟨w.heap.size + 1, 2, none⟩) := hd 26 (by decide)
        change SpecOp _ _ _ _ 27 (Act.put (canon _ v _ []) (some 36) (v 26)) w' _
        rw [e26]
        simp only [canon_nil, Act.put, List.setIfInBounds_toArray, List.set_cons_zero, List.set_cons_succ]
        have q0 := (hR.cell (p := ⟨w.heap.size + 1, 2, none⟩) z1).trans d2
        refine spec_of rfl (fun KK hK => ?_)
        go_simp
        exact hK.out _ _ (Below.refl _ _) rfl
      | 28, _ =>
        intro v w' hR hd
        have e25 : v 25 = .int .i64 (Ha) := hd 25 (by decide)
        have e27 : v 27 = .int .i64 (Hb) := hd 27 (by decide)
        change SpecOp _ _ _ _ 28 (Act.put (Act.put (canon _ v _ []) (some 37) (v 27)) (some 35) (v 25)) w' _
        rw [e25, e27]
        simp only [canon_nil, Act.put, List.setIfInBounds_toArray, List.set_cons_zero, List.set_cons_succ]
        refine spec_of rfl (fun KK hK => ?_)
        go_simp
        exact hK.out _ _ (Below.refl _ _) rfl
      | 29, _ =>
        intro v w' hR hd
        have e28 : v 28 = .int .i64 (IntKind.i64.wrap (Ha + Hb)) := hd 28 (by decide)
        change SpecOp _ _ _ _ 29 (Act.put (canon _ v _ []) (some 38) (v 28)) w' _
        rw [e28]
        simp only [canon_nil, Act.put, List.setIfInBounds_toArray, List.set_cons_zero, List.set_cons_succ]
        refine spec_of rfl (fun KK hK => ?_)
        go_simp
        exact hK.out _ _ (Below.refl _ _) (by first | rfl | (simp; done))
      | 30, _ =>
        intro v w' hR hd
        have e29 : v 29 = .bool (decide (64 < IntKind.i64.wrap (Ha + Hb))) := hd 29 (by decide)
        change SpecOp _ _ _ _ 30 (Act.put (canon _ v _ []) (some 39) (v 29)) w' _
        rw [e29]
        simp only [canon_nil, Act.put, List.setIfInBounds_toArray, List.set_cons_zero, List.set_cons_succ]
        refine spec_of rfl (fun KK hK => ?_)
        go_simp
        refine (errorIf_any _ _ _).mono ?_
        rintro e wn ⟨rfl, rfl⟩
        exact hK.out _ _ (Below.refl _ _) rfl
      | 31, _ =>
        intro v w' hR hd
        have e1 : v 1 = .int .i64 (pe) := hd 1 (by decide)
        have e3 : v 3 = .int .i64 (qe) := hd 3 (by decide)
        have e9 : v 9 = .int .i64 (errIf (Wa != Wb) 2) := hd 9 (by decide)
        have e23 : v 23 = .int .i64 (errIf (Ha != IntKind.i64.wrap (Hb + 1)) 2) := hd 23 (by decide)
        have e30 : v 30 = .int .i64 (errIf (decide (64 < IntKind.i64.wrap (Ha + Hb))) 5) := hd 30 (by decide)
        change SpecOp _ _ _ _ 31 (Act.put (Act.put (Act.put (Act.put (Act.put (canon _ v _ []) (some 40) (v 30)) (some 33) (v 23)) (some 19) (v 9)) (some 13) (v 3)) (some 11) (v 1)) w' _
        rw [e1, e3, e9, e23, e30]
        simp only [canon_nil, Act.put, List.setIfInBounds_toArray, List.set_cons_zero, List.set_cons_succ]
        refine spec_of rfl (fun KK hK => ?_)
        go_simp
        exact hK.out _ _ ((Below.refl _ _).alloc (Nat.le_refl _) _) ⟨_, _, rfl, rd_of_blk (Blk.new _ _ _) rfl⟩
      | 32, _ =>
        intro v w' hR hd
        obtain ⟨A31, k31, e31, r31⟩ : ∃ A c, v 31 = .slice A 5 c ∧ Rd w' A ([pe, qe, errIf (Wa != Wb) 2, errIf (Ha != IntKind.i64.wrap (Hb + 1)) 2, errIf (decide (64 < IntKind.i64.wrap (Ha + Hb))) 5].map (.int .i64)) := hd 31 (by decide)
        change SpecOp _ _ _ _ 32 (Act.put (canon _ v _ []) (some 41) (v 31)) w' _
        rw [e31]
        simp only [canon_nil, Act.put, List.setIfInBounds_toArray, List.set_cons_zero, List.set_cons_succ]
        refine spec_of rfl (fun KK hK => ?_)
        go_simp
        refine (first_n _ _ _ [_, _, _, _, _] _ rfl (by simp [maxLen]) r31).mono ?_
        rintro e wn ⟨rfl, rfl⟩
        exact hK.out _ _ (Below.refl _ _) (congrArg (Value.int .i64) (by have h := HE.out; rw [hHb] at h; simpa only [Bool.true_and] using h))
      | 33, _ =>
        intro v w' hR hd
        have e32 : v 32 = .int .i64 (z) := hd 32 (by decide)
        change SpecOp _ _ _ _ 33 (Act.put (canon _ v _ []) (some 42) (v 32)) w' _
        rw [e32]
        simp only [canon_nil, Act.put, List.setIfInBounds_toArray, List.set_cons_zero, List.set_cons_succ]
        refine spec_of rfl (fun KK hK => ?_)
        go_simp
        exact hK.out _ _ (Below.refl _ _) rfl
      | i + 34, h => exact absurd h (Nat.not_lt.2 (Nat.le_add_left 34 i))
    case hend =>
      intro v w' hR hall
      simp only [putL, Act.put, List.setIfInBounds_toArray, List.set_cons_zero, List.set_cons_succ]
      have e0 : v 0 = .agg #[.string nm, .int .i64 Wa, .int .i64 Ha, .slice A n c] := hall 0 (by decide)
      have e1 : v 1 = .int .i64 (pe) := hall 1 (by decide)
      have e2 : v 2 = .agg #[.string nm2, .int .i64 Wb, .int .i64 Hb, .slice B m d] := hall 2 (by decide)
      have e3 : v 3 = .int .i64 (qe) := hall 3 (by decide)
      have e4 : v 4 = .pointer (some ⟨w.heap.size, 1, none⟩) := hall 4 (by decide)
      have e5 : v 5 = .int .i64 (Wa) := hall 5 (by decide)
      have e6 : v 6 = .pointer (some ⟨w.heap.size + 1, 1, none⟩) := hall 6 (by decide)
      have e7 : v 7 = .int .i64 (Wb) := hall 7 (by decide)
      have e8 : v 8 = .bool (Wa != Wb) := hall 8 (by decide)
      have e9 : v 9 = .int .i64 (errIf (Wa != Wb) 2) := hall 9 (by decide)
      have e10 : v 10 = .pointer (some ⟨w.heap.size, 2, none⟩) := hall 10 (by decide)
      have e11 : v 11 = .int .i64 (Ha) := hall 11 (by decide)
      have e12 : v 12 = .pointer (some ⟨w.heap.size + 1, 2, none⟩) := hall 12 (by decide)
      have e13 : v 13 = .int .i64 (Hb) := hall 13 (by decide)
      have e14 : v 14 = .bool true := hall 14 (by decide)
      have e15 : v 15 = .bool true := hall 15 (by decide)
      have e16 : v 16 = .pointer (some ⟨w.heap.size, 2, none⟩) := hall 16 (by decide)
      have e17 : v 17 = .int .i64 (Ha) := hall 17 (by decide)
      have e18 : v 18 = .pointer (some ⟨w.heap.size + 1, 2, none⟩) := hall 18 (by decide)
      have e19 : v 19 = .int .i64 (Hb) := hall 19 (by decide)
      have e20 : v 20 = .int .i64 (IntKind.i64.wrap (Hb + 1)) := hall 20 (by decide)
      have e21 : v 21 = .bool (Ha != IntKind.i64.wrap (Hb + 1)) := hall 21 (by decide)
      have e22 : v 22 = .bool (Ha != IntKind.i64.wrap (Hb + 1)) := hall 22 (by decide)
      have e23 : v 23 = .int .i64 (errIf (Ha != IntKind.i64.wrap (Hb + 1)) 2) := hall 23 (by decide)
      have e24 : v 24 = .pointer (some ⟨w.heap.size, 2, none⟩) := hall 24 (by decide)
      have e25 : v 25 = .int .i64 (Ha) := hall 25 (by decide)
      have e26 : v 26 = .pointer (some ⟨w.heap.size + 1, 2, none⟩) := hall 26 (by decide)
      have e27 : v 27 = .int .i64 (Hb) := hall 27 (by decide)
      have e28 : v 28 = .int .i64 (IntKind.i64.wrap (Ha + Hb)) := hall 28 (by decide)
      have e29 : v 29 = .bool (decide (64 < IntKind.i64.wrap (Ha + Hb))) := hall 29 (by decide)
      have e30 : v 30 = .int .i64 (errIf (decide (64 < IntKind.i64.wrap (Ha + Hb))) 5) := hall 30 (by decide)
      obtain ⟨A31, k31, e31, r31⟩ : ∃ A c, v 31 = .slice A 5 c ∧ Rd w' A ([pe, qe, errIf (Wa != Wb) 2, errIf (Ha != IntKind.i64.wrap (Hb + 1)) 2, errIf (decide (64 < IntKind.i64.wrap (Ha + Hb))) 5].map (.int .i64)) := hall 31 (by decide)
      have e32 : v 32 = .int .i64 (z) := hall 32 (by decide)
      have e33 : v 33 = .int .i64 (z) := hall 33 (by decide)
      rw [e33]
      clear e0 e1 e2 e3 e4 e5 e6 e7 e8 e9 e10 e11 e12 e13 e14 e15 e16 e17 e18 e19 e20 e21 e22 e23 e24 e25 e26 e27 e28 e29 e30 e31 e32 hall
      have hy := HY.out.below hR
      have HB1 := Lib.hid (HB.out.trans (hR.mono HB.out.size))
      clear c0 c1 c2 c3 d0 d1 d2 d3 z0 z1 z2
      have z1 := hy.lt
      have f0 := hy.frozen 0; have f1 := hy.frozen 1; have f2 := hy.frozen 2; have f3 := hy.frozen 3
      obtain ⟨d0, d1, d2, d3⟩ := box4 hy
      have hyy := Lib.hid (show Blk ((((w'.setCell ⟨w.heap.size + 1 + 1, 0, none⟩ (.string ⟨#[]⟩)).setCell ⟨w.heap.size + 1 + 1, 1, none⟩ (.int .i64 0)).setCell ⟨w.heap.size + 1 + 1, 2, none⟩ (.int .i64 0)).setCell ⟨w.heap.size + 1 + 1, 3, none⟩ (.slice none 0 0)) (w.heap.size + 1 + 1) 50 #[.string ⟨#[]⟩, .int .i64 0, .int .i64 0, .slice none 0 0] from (((hy.set_ 0 _).set_ 1 _).set_ 2 _).set_ 3 _)
      clear hy
      go_wp2
      obtain ⟨r0, r1, r2, r3⟩ := box4 hyy.out
      exact bodyPost_ret (v := .tuple #[.agg #[.string ⟨#[]⟩, .int .i64 0, .int .i64 0, .slice none 0 0], .int .i64 z]) (by simp [results, Tryz.results42, go_sem, r0, r1, r2, r3]) rfl ⟨rfl, below_set4 HB1.out (by omega) _ _ _ _⟩
end Go.Proofs.YtfgeokeankfplaaGreatDoor
