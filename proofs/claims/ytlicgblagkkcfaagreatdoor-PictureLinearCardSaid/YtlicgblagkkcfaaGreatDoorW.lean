/- A scaled picture. -/
import Derived.Test.YtlicgblagkkcfaaGreatDoorV
namespace Go.Proofs.YtlicgblagkkcfaaGreatDoor
open Go.RowKit
set_option linter.unusedVariables false
attribute [local go_sem] run_store_float
theorem sk_trans {w0 w w' : World} (h : SK w0 w) (k : SK w w') : SK w0 w' := sk_call h k.1
theorem scaled1_any (n num den : Int) (p q : Addr) (w : World) (hn : -16384 ≤ n ∧ n ≤ 16384) (hnum : -1000 ≤ num ∧ num ≤ 1000) (hden : 1 ≤ den ∧ den ≤ 1000) (hp : w.cell? p = some (.int .i64 num)) (hq : w.cell? q = some (.int .i64 den)) :
    Calls Tryz.prog 121 #[.int .i64 n, .pointer (some p), .pointer (some q)] w fun e w' => e = .returned (.int .i64 (nearestN (n * num) den)) ∧ w = w' := by
  have hb : -16384000 ≤ n * num ∧ n * num ≤ 16384000 := by
    have h1 : (n * num).natAbs ≤ 16384 * 1000 := by rw [Int.natAbs_mul]; exact Nat.mul_le_mul (by omega) (by omega)
    omega
  obtain ⟨m, hm⟩ : ∃ m, n * num = m := ⟨_, rfl⟩
  rw [hm] at hb ⊢
  go_enter Tryz.func121, Tryz.ntmps121
  go_wp2_with (go_at_call 122; refine (nearest_any _ _ (by omega) (by omega) _).mono ?_; rintro e wn ⟨rfl, rfl⟩)
  go_ret
  exact ⟨rfl, rfl⟩
theorem mapII2_n (n : Nat) (A : Option Addr) (c : Nat) (l : List Int) (hn : l.length = n) (F : FuncId) (p q : Addr) (g : Int → Int) (w : World) (hl : n ≤ 4096) (hr : Rd w A (l.map (Value.int .i64))) (hcf : Enters Tryz.prog F)
    (hF : ∀ x ∈ l, ∀ wx, Below w.heap.size w wx → Calls Tryz.prog F #[.int .i64 x, .pointer (some p), .pointer (some q)] wx fun e w' => e = .returned (Value.int .i64 (g x)) ∧ Below wx.heap.size wx w') :
    Calls Tryz.prog 120 #[.slice A n c, .func (.func F) #[] #[.pointer (some p), .pointer (some q)]] w fun e w' => ∃ ad, e = .returned (.slice (some ad) n n) ∧ Rd w' (some ad) ((l.map g).map (Value.int .i64)) ∧ Below w.heap.size w w' := by
  subst hn
  exact (mapII2_any A c l F p q g w hl hr hcf hF).mono fun e w' ⟨ad, h1, h2, h3⟩ => ⟨ad, h1, by rw [List.map_map]; exact h2, h3⟩
theorem withLevels_n (n : Nat) (nm : ByteArray) (W H : Int) (A0 : Option Addr) (n0 c0 : Nat) (A : Option Addr) (c : Nat) (l : List Int) (hn : l.length = n) (hb : l.any largeB = false) (w : World) (hl : n ≤ 4096) (hr : Rd w A (l.map (Value.int .i64))) :
    Calls Tryz.prog 119 #[.agg #[.string nm, .int .i64 W, .int .i64 H, .slice A0 n0 c0], .slice A n c] w fun e w' => ∃ ad, e = .returned (.tuple #[.agg #[.string nm, .int .i64 W, .int .i64 H, .slice (some ad) n n], .int .i64 0]) ∧ Rd w' (some ad) (fl (l.map smp)) ∧ Below w.heap.size w w' := by
  subst hn
  exact withLevels_ok nm W H A0 n0 c0 A c l hb w hl hr
theorem enters_scaled1 : Enters Tryz.prog 121 := fun a w => by kernel_rfl
theorem sk_set4 {w0 w : World} (h : SK w0 w) {g : Nat} (hg : w0.heap.size ≤ g) (a b c d : Value) : SK w0 ((((w.setCell ⟨g, 0, none⟩ a).setCell ⟨g, 1, none⟩ b).setCell ⟨g, 2, none⟩ c).setCell ⟨g, 3, none⟩ d) :=
  sk_set (sk_set (sk_set (sk_set h hg a) hg b) hg c) hg d
theorem below_set4 {B : Nat} {w0 w : World} (h : Below B w0 w) {g : Nat} (hg : B ≤ g) (a b c d : Value) : Below B w0 ((((w.setCell ⟨g, 0, none⟩ a).setCell ⟨g, 1, none⟩ b).setCell ⟨g, 2, none⟩ c).setCell ⟨g, 3, none⟩ d) :=
  (((h.setCell (p := ⟨g, 0, none⟩) hg a).setCell (p := ⟨g, 1, none⟩) hg b).setCell (p := ⟨g, 2, none⟩) hg c).setCell (p := ⟨g, 3, none⟩) hg d
def scaledL (l : List Nat) (num den : Int) : List Int := l.map (fun b => nearestN (lvl b * num) den)
set_option maxRecDepth 100000 in
set_option maxHeartbeats 1000000 in
theorem scaled_ok (nm : ByteArray) (W H : Nat) (l : List Nat) (hp : (Pic.mk nm W H l).Ok) (he : (Pic.mk nm W H l).err = 0) (num den : Int) (hnum : -1000 ≤ num ∧ num ≤ 1000) (hden : 1 ≤ den ∧ den ≤ 1000) (hlg : (scaledL l num den).any largeB = false) (A : Option Addr) (c : Nat) (w : World) (hs : nm.size ≤ maxLen) (hr : Rd w A (fl l)) :
    Calls Tryz.prog 53 #[.agg #[.string nm, .int .i64 (W : Int), .int .i64 (H : Int), .slice A l.length c], .int .i64 num, .int .i64 den] w fun e w' => ∃ ad, e = .returned (.tuple #[.agg #[.string nm, .int .i64 (W : Int), .int .i64 (H : Int), .slice (some ad) l.length l.length], .int .i64 0]) ∧ Rd w' (some ad) (fl ((scaledL l num den).map smp)) ∧ Below w.heap.size w w' := by
  have hbig : l.length ≤ 4096 := hp.big
  have hl : l.length ≤ maxLen := Nat.le_trans hbig (by decide)
  have HSE : RowKit.Hid (scaledL l num den = (l.map lvl).map (fun n => nearestN (n * num) den)) := Lib.hid (by simp [scaledL])
  have HR := Lib.hid hr; have HP := Lib.hid hp; have HLG := Lib.hid hlg
  have hcp := fun w hr => checkPicture_any (Pic.mk nm W H l) A c w hs hl hr
  rw [he] at hcp
  simp only [Pic.val] at hcp
  have HCP := Lib.hid hcp
  have ho1 : outs num (-1000) 1000 = 0 := by simp [outs, errIf]; omega
  have ho2 : outs den 1 1000 = 0 := by simp [outs, errIf]; omega
  have HO1 := Lib.hid ho1; have HO2 := Lib.hid ho2
  clear hr hp he hlg hcp ho1 ho2 hl hs
  go_enter Tryz.func53, Tryz.ntmps53
  go_wp2_with fail
  have hbx := ((Blk.new w 50 #[.string nm, .int .i64 (W : Int), .int .i64 (H : Int), .slice A l.length c]).alloc (.cells #[.int .i64 num] 3)).alloc (.cells #[.int .i64 den] 3)
  have hby := (Blk.new (w.alloc (.cells #[.string nm, .int .i64 (W : Int), .int .i64 (H : Int), .slice A l.length c] 50)) 3 #[.int .i64 num]).alloc (.cells #[.int .i64 den] 3)
  have hbz := Blk.new ((w.alloc (.cells #[.string nm, .int .i64 (W : Int), .int .i64 (H : Int), .slice A l.length c] 50)).alloc (.cells #[.int .i64 num] 3)) 3 #[.int .i64 den]
  simp only [World.size_alloc] at hby hbz
  have hb0 : Below w.heap.size w (((w.alloc (.cells #[.string nm, .int .i64 (W : Int), .int .i64 (H : Int), .slice A l.length c] 50)).alloc (.cells #[.int .i64 num] 3)).alloc (.cells #[.int .i64 den] 3)) := (((Below.refl _ _).alloc (Nat.le_refl _) _).alloc (by simp) _).alloc (by simp only [World.size_alloc]; omega) _
  have hsz : (((w.alloc (.cells #[.string nm, .int .i64 (W : Int), .int .i64 (H : Int), .slice A l.length c] 50)).alloc (.cells #[.int .i64 num] 3)).alloc (.cells #[.int .i64 den] 3)).heap.size = w.heap.size + 1 + 1 + 1 := by simp only [World.size_alloc]
  generalize ((w.alloc (.cells #[.string nm, .int .i64 (W : Int), .int .i64 (H : Int), .slice A l.length c] 50)).alloc (.cells #[.int .i64 num] 3)).alloc (.cells #[.int .i64 den] 3) = w0 at hbx hby hbz hb0 hsz ⊢
  have HSZ := Lib.hid hsz; clear hsz
  have z0 := hbx.lt; have z1 := hby.lt; have z2 := hbz.lt
  obtain ⟨c0, c1, c2, c3⟩ := box4 hbx
  have c4 := hby.cell 0
  have c5 := hbz.cell 0
  simp only [List.getElem?_toArray, List.getElem?_cons_zero] at c4 c5
  have HB0 := Lib.hid hb0; clear hb0 hbx hby hbz
  have hg := Blk.new w0 50 #[.string ⟨#[]⟩, .int .i64 0, .int .i64 0, .slice none 0 0]
  rw [HSZ.out] at hg
  have hs1 := sk_alloc (sk_refl w0) (.cells #[.string ⟨#[]⟩, .int .i64 0, .int .i64 0, .slice none 0 0] 50)
  generalize w0.alloc (.cells #[.string ⟨#[]⟩, .int .i64 0, .int .i64 0, .slice none 0 0] 50) = w1 at hg hs1 ⊢
  have zg := hg.lt
  go_region_held3 (SK w0)
    (first | exact sk_drew (by assumption) | assumption | exact sk_call (by assumption) (by assumption) | exact sk_alloc (by assumption) _)
    (first
      | (go_at_call 37; refine (HCP.out _ (HR.out.below (HB0.out.trans ((And.left (by assumption : SK w0 _)).mono HB0.out.size)))).mono ?_; rintro e wn ⟨rfl, hbn⟩; have hch := sk_call (w0 := w0) (by assumption) hbn; have hg := Blk.below (g := w.heap.size + 1 + 1 + 1) (by assumption) hbn)
      | (go_at_call 98; refine (outside_any _ _ _ _).mono ?_; rintro e wn ⟨rfl, rfl⟩)
      | (go_at_call 97; refine (first_n _ _ _ [0, _, _] _ rfl (by simp [maxLen]) (by exact rd_of_blk (Blk.new _ _ _) rfl)).mono ?_; rintro e wn ⟨rfl, rfl⟩; rw [show firstE [0, outs num (-1000) 1000, outs den 1 1000] = 0 by simp [firstE, HO1.out, HO2.out]]))
  have hch := sk_alloc hch (.cells #[.int .i64 0, .int .i64 (outs num (-1000) 1000), .int .i64 (outs den 1 1000)] 26)
  have hg := hg.alloc (.cells #[.int .i64 0, .int .i64 (outs num (-1000) 1000), .int .i64 (outs den 1 1000)] 26)
  generalize wn.alloc (.cells #[.int .i64 0, .int .i64 (outs num (-1000) 1000), .int .i64 (outs den 1 1000)] 26) = w2 at hch hg ⊢
  go_wp2_with fail
  go_region_held3 (SK w0)
    (first | exact sk_drew (by assumption) | assumption | exact sk_call (by assumption) (by assumption) | exact sk_alloc (by assumption) _ | exact sk_set4 (by assumption) (by have := HSZ.out; omega) _ _ _ _)
    (first
      | (go_at_call 118; refine (levels_any l HP.out.big HP.out.ok A c _ (HR.out.below (HB0.out.trans ((And.left (by assumption : SK w0 _)).mono HB0.out.size)))).mono ?_; rintro e wn ⟨ad1, rfl, hrd1, hbn⟩; have hch := sk_call (w0 := w0) (by assumption) hbn; have hg := Blk.below (g := w.heap.size + 1 + 1 + 1) (by assumption) hbn)
      | (go_at_call 120; refine (mapII2_n l.length (some ad1) _ (l.map lvl) (by simp) 121 ⟨w.heap.size + 1, 0, none⟩ ⟨w.heap.size + 1 + 1, 0, none⟩ (fun n => nearestN (n * num) den) _ hbig (by rw [List.map_map]; exact hrd1) enters_scaled1 (fun x hx wx hbx => (scaled1_any x num den _ _ wx (by obtain ⟨b, hb, rfl⟩ := List.mem_map.1 hx; exact HP.out.lv hb) hnum hden (((sk_call hch hbx).2.1 _ _ z1).trans c4) (((sk_call hch hbx).2.1 _ _ z2).trans c5)).mono fun e w' ⟨h1, h2⟩ => ⟨h1, by rw [← h2]; exact Below.refl _ _⟩)).mono ?_; rintro e wn ⟨ad2, rfl, hrd2, hbn⟩; have hch := sk_call (w0 := w0) (by assumption) hbn; have hg := Blk.below (g := w.heap.size + 1 + 1 + 1) (by assumption) hbn)
      | (go_at_call 119; refine (withLevels_n l.length nm W H A _ c (some ad2) _ (scaledL l num den) (by simp [scaledL]) HLG.out _ hbig (by rw [HSE.out]; exact hrd2)).mono ?_; rintro e wn ⟨ad3, rfl, hrd3, hbn⟩; have hch := sk_call (w0 := w0) (by assumption) hbn; have hg := Blk.below (g := w.heap.size + 1 + 1 + 1) (by assumption) hbn; obtain ⟨d0, d1, d2, d3⟩ := box4 hg; have fy := fun i => hg.frozen i))
  all_goals
    have HRD := Lib.hid (rd_set4 hrd3 hg (.four rfl rfl rfl rfl) (.string nm) (.int .i64 (W : Int)) (.int .i64 (H : Int)) (.slice (some ad3) l.length l.length) rfl rfl rfl)
    have HBB := Lib.hid (below_set4 (HB0.out.trans (hch.1.mono HB0.out.size)) (g := w.heap.size + 1 + 1 + 1) (by omega) (.string nm) (.int .i64 (W : Int)) (.int .i64 (H : Int)) (.slice (some ad3) l.length l.length))
    go_wp2
    exact bodyPost_ret (v := .tuple #[.agg #[.string nm, .int .i64 (W : Int), .int .i64 (H : Int), .slice (some ad3) l.length l.length], .int .i64 0]) (by simp [results, Tryz.results53, go_sem, d0, d1, d2, d3]) rfl ⟨ad3, rfl, HRD.out, HBB.out⟩

end Go.Proofs.YtlicgblagkkcfaaGreatDoor
