/- Parts of a proof: A scaled picture. Both fields of a picture. -/
import Derived.Test.YtkjkjhheckfhbaaGreatDoorV
namespace Go.Proofs.YtkjkjhheckfhbaaGreatDoor
open Go.RowKit
set_option linter.unusedVariables false
attribute [local go_sem] run_store_float
theorem sk_trans {w0 w w' : World} (h : SK w0 w) (k : SK w w') : SK w0 w' := sk_call h k.1
theorem scaled1_any (n num den : Int) (p q : Addr) (w : World) (hn : -16384 ≤ n ∧ n ≤ 16384) (hnum : -1000 ≤ num ∧ num ≤ 1000) (hden : 1 ≤ den ∧ den ≤ 1000) (hp : w.cell? p = some (.int .i64 num)) (hq : w.cell? q = some (.int .i64 den)) :
    Calls Tryz.prog 121 #[.int .i64 n, .pointer (some p), .pointer (some q)] w fun e w' => e = .returned (.int .i64 (nearestN (n * num) den)) ∧ w = w' := by
  have hb : -16384000 ≤ n * num ∧ n * num ≤ 16384000 := by
    have h1 : (n * num).natAbs ≤ 16384 * 1000 := by rw [Int.natAbs_mul]; exact Nat.mul_le_mul (by omega) (by omega)
    omega
  obtain ⟨m, hm⟩ : ∃ m, n * num = m := ⟨_, rfl⟩
  rw [hm] at hb ⊢
  go_enter Tryz.func121, Tryz.ntmps121
  go_wp2_with (go_at_call 122; refine (nearest_any _ _ (by omega) (by omega) _).mono ?_; rintro e wn ⟨rfl, rfl⟩)
  go_ret
  exact ⟨rfl, rfl⟩
theorem mapII2_n (n : Nat) (A : Option Addr) (c : Nat) (l : List Int) (hn : l.length = n) (F : FuncId) (p q : Addr) (g : Int → Int) (w : World) (hl : n ≤ 4096) (hr : Rd w A (l.map (Value.int .i64))) (hcf : Enters Tryz.prog F)
    (hF : ∀ x ∈ l, ∀ wx, Below w.heap.size w wx → Calls Tryz.prog F #[.int .i64 x, .pointer (some p), .pointer (some q)] wx fun e w' => e = .returned (Value.int .i64 (g x)) ∧ Below wx.heap.size wx w') :
    Calls Tryz.prog 120 #[.slice A n c, .func (.func F) #[] #[.pointer (some p), .pointer (some q)]] w fun e w' => ∃ ad, e = .returned (.slice (some ad) n n) ∧ Rd w' (some ad) ((l.map g).map (Value.int .i64)) ∧ Below w.heap.size w w' := by
  subst hn
  exact (mapII2_any A c l F p q g w hl hr hcf hF).mono fun e w' ⟨ad, h1, h2, h3⟩ => ⟨ad, h1, by rw [List.map_map]; exact h2, h3⟩
theorem withLevels_n (n : Nat) (nm : ByteArray) (W H : Int) (A0 : Option Addr) (n0 c0 : Nat) (A : Option Addr) (c : Nat) (l : List Int) (hn : l.length = n) (hb : l.any largeB = false) (w : World) (hl : n ≤ 4096) (hr : Rd w A (l.map (Value.int .i64))) :
    Calls Tryz.prog 119 #[.agg #[.string nm, .int .i64 W, .int .i64 H, .slice A0 n0 c0], .slice A n c] w fun e w' => ∃ ad, e = .returned (.tuple #[.agg #[.string nm, .int .i64 W, .int .i64 H, .slice (some ad) n n], .int .i64 0]) ∧ Rd w' (some ad) (fl (l.map smp)) ∧ Below w.heap.size w w' := by
  subst hn
  exact withLevels_ok nm W H A0 n0 c0 A c l hb w hl hr
theorem enters_scaled1 : Enters Tryz.prog 121 := fun a w => by kernel_rfl
theorem sk_set4 {w0 w : World} (h : SK w0 w) {g : Nat} (hg : w0.heap.size ≤ g) (a b c d : Value) : SK w0 ((((w.setCell ⟨g, 0, none⟩ a).setCell ⟨g, 1, none⟩ b).setCell ⟨g, 2, none⟩ c).setCell ⟨g, 3, none⟩ d) :=
  sk_set (sk_set (sk_set (sk_set h hg a) hg b) hg c) hg d
theorem below_set4 {B : Nat} {w0 w : World} (h : Below B w0 w) {g : Nat} (hg : B ≤ g) (a b c d : Value) : Below B w0 ((((w.setCell ⟨g, 0, none⟩ a).setCell ⟨g, 1, none⟩ b).setCell ⟨g, 2, none⟩ c).setCell ⟨g, 3, none⟩ d) :=
  (((h.setCell (p := ⟨g, 0, none⟩) hg a).setCell (p := ⟨g, 1, none⟩) hg b).setCell (p := ⟨g, 2, none⟩) hg c).setCell (p := ⟨g, 3, none⟩) hg d
def scaledL (l : List Nat) (num den : Int) : List Int := l.map (fun b => nearestN (lvl b * num) den)
set_option maxRecDepth 100000 in
set_option maxHeartbeats 1000000 in
theorem scaled_ok (nm : ByteArray) (W H : Nat) (l : List Nat) (hp : (Pic.mk nm W H l).Ok) (he : (Pic.mk nm W H l).err = 0) (num den : Int) (hnum : -1000 ≤ num ∧ num ≤ 1000) (hden : 1 ≤ den ∧ den ≤ 1000) (hlg : (scaledL l num den).any largeB = false) (A : Option Addr) (c : Nat) (w : World) (hs : nm.size ≤ maxLen) (hr : Rd w A (fl l)) :
    Calls Tryz.prog 53 #[.agg #[.string nm, .int .i64 (W : Int), .int .i64 (H : Int), .slice A l.length c], .int .i64 num, .int .i64 den] w fun e w' => ∃ ad, e = .returned (.tuple #[.agg #[.string nm, .int .i64 (W : Int), .int .i64 (H : Int), .slice (some ad) l.length l.length], .int .i64 0]) ∧ Rd w' (some ad) (fl ((scaledL l num den).map smp)) ∧ Below w.heap.size w w' := by
  have hbig : l.length ≤ 4096 := hp.big
  have hl : l.length ≤ maxLen := Nat.le_trans hbig (by decide)
  have HSE : RowKit.Hid (scaledL l num den = (l.map lvl).map (fun n => nearestN (n * num) den)) := Lib.hid (by simp [scaledL])
  have HR := Lib.hid hr; have HP := Lib.hid hp; have HLG := Lib.hid hlg
  have hcp := fun w hr => checkPicture_any (Pic.mk nm W H l) A c w hs hl hr
  rw [he] at hcp
  simp only [Pic.val] at hcp
  have HCP := Lib.hid hcp
  have ho1 : outs num (-1000) 1000 = 0 := by simp [outs, errIf]; omega
  have ho2 : outs den 1 1000 = 0 := by simp [outs, errIf]; omega
  have HO1 := Lib.hid ho1; have HO2 := Lib.hid ho2
  clear hr hp he hlg hcp ho1 ho2 hl hs
  go_enter Tryz.func53, Tryz.ntmps53
  go_wp2_with fail
  have hbx := ((Blk.new w 50 #[.string nm, .int .i64 (W : Int), .int .i64 (H : Int), .slice A l.length c]).alloc (.cells #[.int .i64 num] 3)).alloc (.cells #[.int .i64 den] 3)
  have hby := (Blk.new (w.alloc (.cells #[.string nm, .int .i64 (W : Int), .int .i64 (H : Int), .slice A l.length c] 50)) 3 #[.int .i64 num]).alloc (.cells #[.int .i64 den] 3)
  have hbz := Blk.new ((w.alloc (.cells #[.string nm, .int .i64 (W : Int), .int .i64 (H : Int), .slice A l.length c] 50)).alloc (.cells #[.int .i64 num] 3)) 3 #[.int .i64 den]
  simp only [World.size_alloc] at hby hbz
  have hb0 : Below w.heap.size w (((w.alloc (.cells #[.string nm, .int .i64 (W : Int), .int .i64 (H : Int), .slice A l.length c] 50)).alloc (.cells #[.int .i64 num] 3)).alloc (.cells #[.int .i64 den] 3)) := (((Below.refl _ _).alloc (Nat.le_refl _) _).alloc (by simp) _).alloc (by simp only [World.size_alloc]; omega) _
  have hsz : (((w.alloc (.cells #[.string nm, .int .i64 (W : Int), .int .i64 (H : Int), .slice A l.length c] 50)).alloc (.cells #[.int .i64 num] 3)).alloc (.cells #[.int .i64 den] 3)).heap.size = w.heap.size + 1 + 1 + 1 := by simp only [World.size_alloc]
  generalize ((w.alloc (.cells #[.string nm, .int .i64 (W : Int), .int .i64 (H : Int), .slice A l.length c] 50)).alloc (.cells #[.int .i64 num] 3)).alloc (.cells #[.int .i64 den] 3) = w0 at hbx hby hbz hb0 hsz ⊢
  have HSZ := Lib.hid hsz; clear hsz
  have z0 := hbx.lt; have z1 := hby.lt; have z2 := hbz.lt
  obtain ⟨c0, c1, c2, c3⟩ := box4 hbx
  have c4 := hby.cell 0
  have c5 := hbz.cell 0
  simp only [List.getElem?_toArray, List.getElem?_cons_zero] at c4 c5
  have HB0 := Lib.hid hb0; clear hb0 hbx hby hbz
  have hg := Blk.new w0 50 #[.string ⟨#[]⟩, .int .i64 0, .int .i64 0, .slice none 0 0]
  rw [HSZ.out] at hg
  have hs1 := sk_alloc (sk_refl w0) (.cells #[.string ⟨#[]⟩, .int .i64 0, .int .i64 0, .slice none 0 0] 50)
  generalize w0.alloc (.cells #[.string ⟨#[]⟩, .int .i64 0, .int .i64 0, .slice none 0 0] 50) = w1 at hg hs1 ⊢
  have zg := hg.lt
  go_region_held3 (SK w0)
    (first | exact sk_drew (by assumption) | assumption | exact sk_call (by assumption) (by assumption) | exact sk_alloc (by assumption) _)
    (first
      | (go_at_call 37; refine (HCP.out _ (HR.out.below (HB0.out.trans ((And.left (by assumption : SK w0 _)).mono HB0.out.size)))).mono ?_; rintro e wn ⟨rfl, hbn⟩; have hch := sk_call (w0 := w0) (by assumption) hbn; have hg := Blk.below (g := w.heap.size + 1 + 1 + 1) (by assumption) hbn)
      | (go_at_call 98; refine (outside_any _ _ _ _).mono ?_; rintro e wn ⟨rfl, rfl⟩)
      | (go_at_call 97; refine (first_n _ _ _ [0, _, _] _ rfl (by simp [maxLen]) (by exact rd_of_blk (Blk.new _ _ _) rfl)).mono ?_; rintro e wn ⟨rfl, rfl⟩; rw [show firstE [0, outs num (-1000) 1000, outs den 1 1000] = 0 by simp [firstE, HO1.out, HO2.out]]))
  have hch := sk_alloc hch (.cells #[.int .i64 0, .int .i64 (outs num (-1000) 1000), .int .i64 (outs den 1 1000)] 26)
  have hg := hg.alloc (.cells #[.int .i64 0, .int .i64 (outs num (-1000) 1000), .int .i64 (outs den 1 1000)] 26)
  generalize wn.alloc (.cells #[.int .i64 0, .int .i64 (outs num (-1000) 1000), .int .i64 (outs den 1 1000)] 26) = w2 at hch hg ⊢
  go_wp2_with fail
  go_region_held3 (SK w0)
    (first | exact sk_drew (by assumption) | assumption | exact sk_call (by assumption) (by assumption) | exact sk_alloc (by assumption) _ | exact sk_set4 (by assumption) (by have := HSZ.out; omega) _ _ _ _)
    (first
      | (go_at_call 118; refine (levels_any l HP.out.big HP.out.ok A c _ (HR.out.below (HB0.out.trans ((And.left (by assumption : SK w0 _)).mono HB0.out.size)))).mono ?_; rintro e wn ⟨ad1, rfl, hrd1, hbn⟩; have hch := sk_call (w0 := w0) (by assumption) hbn; have hg := Blk.below (g := w.heap.size + 1 + 1 + 1) (by assumption) hbn)
      | (go_at_call 120; refine (mapII2_n l.length (some ad1) _ (l.map lvl) (by simp) 121 ⟨w.heap.size + 1, 0, none⟩ ⟨w.heap.size + 1 + 1, 0, none⟩ (fun n => nearestN (n * num) den) _ hbig (by rw [List.map_map]; exact hrd1) enters_scaled1 (fun x hx wx hbx => (scaled1_any x num den _ _ wx (by obtain ⟨b, hb, rfl⟩ := List.mem_map.1 hx; exact HP.out.lv hb) hnum hden (((sk_call hch hbx).2.1 _ _ z1).trans c4) (((sk_call hch hbx).2.1 _ _ z2).trans c5)).mono fun e w' ⟨h1, h2⟩ => ⟨h1, by rw [← h2]; exact Below.refl _ _⟩)).mono ?_; rintro e wn ⟨ad2, rfl, hrd2, hbn⟩; have hch := sk_call (w0 := w0) (by assumption) hbn; have hg := Blk.below (g := w.heap.size + 1 + 1 + 1) (by assumption) hbn)
      | (go_at_call 119; refine (withLevels_n l.length nm W H A _ c (some ad2) _ (scaledL l num den) (by simp [scaledL]) HLG.out _ hbig (by rw [HSE.out]; exact hrd2)).mono ?_; rintro e wn ⟨ad3, rfl, hrd3, hbn⟩; have hch := sk_call (w0 := w0) (by assumption) hbn; have hg := Blk.below (g := w.heap.size + 1 + 1 + 1) (by assumption) hbn; obtain ⟨d0, d1, d2, d3⟩ := box4 hg; have fy := fun i => hg.frozen i))
  all_goals
    have HRD := Lib.hid (rd_set4 hrd3 hg (.four rfl rfl rfl rfl) (.string nm) (.int .i64 (W : Int)) (.int .i64 (H : Int)) (.slice (some ad3) l.length l.length) rfl rfl rfl)
    have HBB := Lib.hid (below_set4 (HB0.out.trans (hch.1.mono HB0.out.size)) (g := w.heap.size + 1 + 1 + 1) (by omega) (.string nm) (.int .i64 (W : Int)) (.int .i64 (H : Int)) (.slice (some ad3) l.length l.length))
    go_wp2
    exact bodyPost_ret (v := .tuple #[.agg #[.string nm, .int .i64 (W : Int), .int .i64 (H : Int), .slice (some ad3) l.length l.length], .int .i64 0]) (by simp [results, Tryz.results53, go_sem, d0, d1, d2, d3]) rfl ⟨ad3, rfl, HRD.out, HBB.out⟩

end Go.Proofs.YtkjkjhheckfhbaaGreatDoor
namespace Go.Proofs.YtkjkjhheckfhbaaGreatDoor
open Go.RowKit
set_option linter.unusedVariables false
attribute [local go_sem] run_store_float
theorem sk_set8 {w0 w : World} (h : SK w0 w) {g : Nat} (hg : w0.heap.size ≤ g) (a b c d a' b' c' d' : Value) : SK w0 ((((((((w.setCell ⟨g, 0, none⟩ a).setCell ⟨g, 1, none⟩ b).setCell ⟨g, 2, none⟩ c).setCell ⟨g, 3, none⟩ d).setCell ⟨g, 4, none⟩ a').setCell ⟨g, 5, none⟩ b').setCell ⟨g, 6, none⟩ c').setCell ⟨g, 7, none⟩ d') :=
  sk_set (sk_set (sk_set (sk_set (sk_set4 h hg a b c d) hg a') hg b') hg c') hg d'
theorem below_set8 {B : Nat} {w0 w : World} (h : Below B w0 w) {g : Nat} (hg : B ≤ g) (a b c d a' b' c' d' : Value) : Below B w0 ((((((((w.setCell ⟨g, 0, none⟩ a).setCell ⟨g, 1, none⟩ b).setCell ⟨g, 2, none⟩ c).setCell ⟨g, 3, none⟩ d).setCell ⟨g, 4, none⟩ a').setCell ⟨g, 5, none⟩ b').setCell ⟨g, 6, none⟩ c').setCell ⟨g, 7, none⟩ d') :=
  ((((below_set4 h hg a b c d).setCell (p := ⟨g, 4, none⟩) hg a').setCell (p := ⟨g, 5, none⟩) hg b').setCell (p := ⟨g, 6, none⟩) hg c').setCell (p := ⟨g, 7, none⟩) hg d'
theorem blk_set8 {w : World} {g : Nat} {t : TypeId} {x0 x1 x2 x3 x4 x5 x6 x7 : Value} (h : Blk w g t #[x0, x1, x2, x3, x4, x5, x6, x7]) (a b c d a' b' c' d' : Value) : Blk ((((((((w.setCell ⟨g, 0, none⟩ a).setCell ⟨g, 1, none⟩ b).setCell ⟨g, 2, none⟩ c).setCell ⟨g, 3, none⟩ d).setCell ⟨g, 4, none⟩ a').setCell ⟨g, 5, none⟩ b').setCell ⟨g, 6, none⟩ c').setCell ⟨g, 7, none⟩ d') g t #[a, b, c, d, a', b', c', d'] := by
  have := (((((((h.set_ 0 a).set_ 1 b).set_ 2 c).set_ 3 d).set_ 4 a').set_ 5 b').set_ 6 c').set_ 7 d'
  simpa using this
theorem blk_far8 {w : World} {g k : Nat} {t : TypeId} {cs : Array Value} (h : Blk w k t cs) (hk : k ≠ g) (a b c d a' b' c' d' : Value) : Blk ((((((((w.setCell ⟨g, 0, none⟩ a).setCell ⟨g, 1, none⟩ b).setCell ⟨g, 2, none⟩ c).setCell ⟨g, 3, none⟩ d).setCell ⟨g, 4, none⟩ a').setCell ⟨g, 5, none⟩ b').setCell ⟨g, 6, none⟩ c').setCell ⟨g, 7, none⟩ d') k t cs :=
  (((((((h.far (p := ⟨g, 0, none⟩) hk a).far (p := ⟨g, 1, none⟩) hk b).far (p := ⟨g, 2, none⟩) hk c).far (p := ⟨g, 3, none⟩) hk d).far (p := ⟨g, 4, none⟩) hk a').far (p := ⟨g, 5, none⟩) hk b').far (p := ⟨g, 6, none⟩) hk c').far (p := ⟨g, 7, none⟩) hk d'
theorem Blk.drew {w : World} {g : Nat} {t : TypeId} {cs : Array Value} (h : Blk w g t cs) : Blk w.drew g t cs := h
def fieldF (l : List Nat) (W d : Nat) (i : Nat) : Value := .float .f32 (l.getD ((2 * (i / W) + d) * W + i % W) 0)
abbrev SX (g : Nat) (w0 w : World) : Prop := w0.heap.size ≤ w.heap.size ∧ (∀ b o, b < w0.heap.size → b ≠ g → w.cell? ⟨b, o, none⟩ = w0.cell? ⟨b, o, none⟩)
theorem sx_below {g : Nat} {w0 w : World} (h : Below w0.heap.size w0 w) : SX g w0 w := ⟨h.size, fun b o hb _ => h.cell (p := ⟨b, o, none⟩) hb⟩
theorem sx_only {g : Nat} {w0 w w' : World} (h : SX g w0 w) (k : Only g w w') : SX g w0 w' :=
  ⟨by rw [k.size]; exact h.1, fun b o hb hn => (World.cell?_of_block (w := w) (k.block b hn)).trans (h.2 b o hb hn)⟩
theorem fieldF_at (l : List Nat) (W d z j : Nat) (hj : j < W) : fieldF l W d (z * W + j) = .float .f32 (l.getD ((2 * z + d) * W + j) 0) := by
  unfold fieldF
  have h1 : (z * W + j) / W = z := by rw [Nat.mul_comm, Nat.mul_add_div (by omega), Nat.div_eq_of_lt hj, Nat.add_zero]
  have h2 : (z * W + j) % W = j := by rw [Nat.mul_comm, Nat.mul_add_mod, Nat.mod_eq_of_lt hj]
  rw [h1, h2]
set_option maxRecDepth 100000 in
set_option maxHeartbeats 1000000 in
theorem fields_ok (nm : ByteArray) (W H K1 K2 : Nat) (l : List Nat) (hp : (Pic.mk nm W H l).Ok) (he : (Pic.mk nm W H l).err = 0) (h2 : 2 ≤ H) (hK1 : (H + 1) / 2 = K1) (hK2 : H / 2 = K2) (A : Option Addr) (c : Nat) (w : World) (hs : nm.size ≤ maxLen) (hcap : l.length ≤ c) (hr : Rd w A (fl l)) :
    Calls Tryz.prog 48 #[.agg #[.string nm, .int .i64 (W : Int), .int .i64 (H : Int), .slice A l.length c]] w fun e w' => ∃ ga gb, e = .returned (.tuple #[.agg #[.string nm, .int .i64 (W : Int), .int .i64 (K1 : Int), .slice (some ⟨ga, 0, none⟩) (W * K1) (W * K1), .string nm, .int .i64 (W : Int), .int .i64 (K2 : Int), .slice (some ⟨gb, 0, none⟩) (W * K2) (W * K2)], .int .i64 0]) ∧ ga ≠ gb ∧ Blk w' ga 23 (maskN (fieldF l W 0) (.float .f32 0) (W * K1) (fun _ => true)) ∧ Blk w' gb 23 (maskN (fieldF l W 1) (.float .f32 0) (W * K2) (fun _ => true)) ∧ Below w.heap.size w w' := by
  have hW : 1 ≤ W ∧ W ≤ 64 := by have h1 := hp.w1; have h2 := hp.w2; simp at h1 h2; omega
  have hH : 1 ≤ H ∧ H ≤ 64 := by have h1 := hp.h1; have h2 := hp.h2; simp at h1 h2; omega
  have hlen : l.length = W * H := by have h1 := hp.len; simp only [] at h1; exact_mod_cast h1
  have hbig : l.length ≤ 4096 := hp.big
  have hpos : 0 < (fl l).length := by have := prod_pos hW.1 hH.1; simp [fl]; omega
  obtain ⟨ad, rfl, hadb, hadc⟩ := hr.some_ hpos
  have HAD := Lib.hid hadc
  have HLEN := Lib.hid hlen
  have HR := Lib.hid hr
  have hl : l.length ≤ maxLen := Nat.le_trans hbig (by decide)
  have hcp := fun w hr => checkPicture_any (Pic.mk nm W H l) (some ad) c w hs hl hr
  rw [he] at hcp
  simp only [Pic.val] at hcp
  have HCP := Lib.hid hcp
  have hneq : ((H : Int) == 1) = false := by simp; omega
  have q1 : IntKind.i64.wrap ((H : Int) + 1) = (H : Int) + 1 := IntWalk.i64_in _ (by omega)
  have q2 : ((H : Int) + 1) / 2 = (K1 : Int) := by omega
  have q3 : (H : Int) / 2 = (K2 : Int) := by omega
  have q4 : Int.tdiv ((H : Int) + 1) 2 = (K1 : Int) := by rw [Int.tdiv_eq_ediv_of_nonneg (by omega)]; omega
  have q5 : Int.tdiv (H : Int) 2 = (K2 : Int) := by rw [Int.tdiv_eq_ediv_of_nonneg (by omega)]; omega
  have q6 : IntKind.i64.wrap (K1 : Int) = (K1 : Int) := IntWalk.i64_in _ (by omega)
  have q7 : IntKind.i64.wrap (K2 : Int) = (K2 : Int) := IntWalk.i64_in _ (by omega)
  have hKH1 : 1 ≤ K1 ∧ K1 ≤ 64 := by omega
  have hKH2 : 1 ≤ K2 ∧ K2 ≤ 64 := by omega
  have hN1 : W * K1 ≤ 4096 := Nat.le_trans (Nat.mul_le_mul hW.2 hKH1.2) (by decide)
  have hN2 : W * K2 ≤ 4096 := Nat.le_trans (Nat.mul_le_mul hW.2 hKH2.2) (by decide)
  have HBL1 := Lib.hid (fun w => blank_any nm W K1 (W * K1) w rfl hN1)
  have HBL2 := Lib.hid (fun w => blank_any nm W K2 (W * K2) w rfl hN2)
  have HK1 := Lib.hid hK1; have HK2 := Lib.hid hK2
  clear hr hp he hcp hl hs hadc hlen hpos hK1 hK2
  go_enter Tryz.func48, Tryz.ntmps48
  go_wp2_with fail
  have hbx := Blk.new w 50 #[.string nm, .int .i64 (W : Int), .int .i64 (H : Int), .slice (some ad) l.length c]
  have hb0 : Below w.heap.size w (w.alloc (.cells #[.string nm, .int .i64 (W : Int), .int .i64 (H : Int), .slice (some ad) l.length c] 50)) := (Below.refl _ _).alloc (Nat.le_refl _) _
  have hsz : (w.alloc (.cells #[.string nm, .int .i64 (W : Int), .int .i64 (H : Int), .slice (some ad) l.length c] 50)).heap.size = w.heap.size + 1 := by simp only [World.size_alloc]
  generalize w.alloc (.cells #[.string nm, .int .i64 (W : Int), .int .i64 (H : Int), .slice (some ad) l.length c] 50) = w0 at hbx hb0 hsz ⊢
  have HSZ := Lib.hid hsz; clear hsz
  have z0 := hbx.lt
  obtain ⟨c0, c1, c2, c3⟩ := box4 hbx
  have HB0 := Lib.hid hb0; have HX0 := Lib.hid hbx; clear hb0 hbx
  have hg := Blk.new w0 67 #[.string ⟨#[]⟩, .int .i64 0, .int .i64 0, .slice none 0 0, .string ⟨#[]⟩, .int .i64 0, .int .i64 0, .slice none 0 0]
  rw [HSZ.out] at hg
  have hs1 := sk_alloc (sk_refl w0) (.cells #[.string ⟨#[]⟩, .int .i64 0, .int .i64 0, .slice none 0 0, .string ⟨#[]⟩, .int .i64 0, .int .i64 0, .slice none 0 0] 67)
  generalize w0.alloc (.cells #[.string ⟨#[]⟩, .int .i64 0, .int .i64 0, .slice none 0 0, .string ⟨#[]⟩, .int .i64 0, .int .i64 0, .slice none 0 0] 67) = w1 at hg hs1 ⊢
  have hch := hs1
  go_region_held3 (SK w0)
    (first | with_reducible assumption | with_reducible exact sk_drew (by assumption) | with_reducible exact sk_alloc (by assumption) _ | with_reducible exact sk_drew (sk_alloc (by assumption) _) | with_reducible exact sk_set8 (by assumption) (by first | exact (And.left (by assumption : SK w0 _)).size | omega) _ _ _ _ _ _ _ _)
    (first
      | (go_at_call 37; refine (HCP.out _ (HR.out.below (HB0.out.trans ((And.left (by assumption : SK w0 _)).mono HB0.out.size)))).mono ?_; rintro e wn ⟨rfl, hbn⟩; have hch := sk_call (w0 := w0) (by assumption) hbn; have hg := Blk.below (g := w.heap.size + 1) (by assumption) hbn)
      | (go_at_call 104; refine (errorIf_any _ _ _).mono ?_; rintro e wn ⟨rfl, rfl⟩)
      | (go_at_call 97; refine (first_n _ _ _ [0, errIf _ 16] _ rfl (by simp [maxLen]) (by exact rd_of_blk (Blk.new _ _ _) rfl)).mono ?_; rintro e wn ⟨rfl, rfl⟩))
  have hch := sk_alloc hch (.cells #[.int .i64 0, .int .i64 (errIf false 16)] 26)
  have hg := hg.alloc (.cells #[.int .i64 0, .int .i64 (errIf false 16)] 26)
  generalize wn.alloc (.cells #[.int .i64 0, .int .i64 (errIf false 16)] 26) = w2 at hch hg ⊢
  have HG := Lib.hid hg; clear hg
  go_upto_region 4 with fail
  go_cut [5] (fun s wx => ∃ b3 ga gb, s = .pointer (some ⟨b3, 0, none⟩) ∧ w.heap.size + 1 < b3 ∧ b3 ≠ ga ∧ b3 ≠ gb ∧ ga ≠ gb ∧ w.heap.size + 1 < ga ∧ w.heap.size + 1 < gb ∧ SK w0 wx ∧ Blk wx (w.heap.size + 1) 67 #[.string ⟨#[]⟩, .int .i64 0, .int .i64 0, .slice none 0 0, .string ⟨#[]⟩, .int .i64 0, .int .i64 0, .slice none 0 0] ∧ Blk wx b3 67 #[.string nm, .int .i64 (W : Int), .int .i64 (K1 : Int), .slice (some ⟨ga, 0, none⟩) (W * K1) (W * K1), .string nm, .int .i64 (W : Int), .int .i64 (K2 : Int), .slice (some ⟨gb, 0, none⟩) (W * K2) (W * K2)] ∧ Blk wx ga 23 (fillN (fun _ => .float .f32 0) (.float .f32 0) (W * K1) 0) ∧ Blk wx gb 23 (fillN (fun _ => .float .f32 0) (.float .f32 0) (W * K2) 0))
  case first =>
    go_region_held3 (SK w0)
      (first | with_reducible assumption | with_reducible exact sk_drew (by assumption) | with_reducible exact sk_alloc (by assumption) _ | with_reducible exact sk_drew (sk_alloc (by assumption) _) | with_reducible exact sk_set8 (by assumption) (by first | exact (And.left (by assumption : SK w0 _)).size | omega) _ _ _ _ _ _ _ _)
      (first
        | (go_at_call 112; with_reducible refine (HBL1.out _).mono ?_; rintro e wn ⟨ga, rfl, hga, hgab, hbn⟩; (first | (have hnb := (Blk.new _ 67 #[.string ⟨#[]⟩, .int .i64 0, .int .i64 0, .slice none 0 0, .string ⟨#[]⟩, .int .i64 0, .int .i64 0, .slice none 0 0]).below hbn; (try dsimp only [World.drew] at hnb); have nf := fun i => hnb.frozen i; have n0 := hnb.cell 0; have n1 := hnb.cell 1; have n2 := hnb.cell 2; have n3 := hnb.cell 3; have n4 := hnb.cell 4; have n5 := hnb.cell 5; have n6 := hnb.cell 6; have n7 := hnb.cell 7) | (have hnb := (Blk.new _ 67 #[.string ⟨#[]⟩, .int .i64 0, .int .i64 0, .slice none 0 0, .string ⟨#[]⟩, .int .i64 0, .int .i64 0, .slice none 0 0]).drew.below hbn; (try dsimp only [World.drew] at hnb); have nf := fun i => hnb.frozen i; have n0 := hnb.cell 0; have n1 := hnb.cell 1; have n2 := hnb.cell 2; have n3 := hnb.cell 3; have n4 := hnb.cell 4; have n5 := hnb.cell 5; have n6 := hnb.cell 6; have n7 := hnb.cell 7) | (have hnb := hnb.below hbn; have nf := fun i => hnb.frozen i; have n0 := hnb.cell 0; have n1 := hnb.cell 1; have n2 := hnb.cell 2; have n3 := hnb.cell 3; have n4 := hnb.cell 4; have n5 := hnb.cell 5; have n6 := hnb.cell 6; have n7 := hnb.cell 7) | skip); have hch := sk_call (w0 := w0) (by assumption) hbn; have HGA : RowKit.Hid (Blk wn ga 23 (fillN (fun _ => .float .f32 0) (.float .f32 0) (W * K1) 0)) := Lib.hid hgab; have hgab' := hgab; clear hgab; have HGc : RowKit.Hid (Blk wn (w.heap.size + 1) 67 #[.string ⟨#[]⟩, .int .i64 0, .int .i64 0, .slice none 0 0, .string ⟨#[]⟩, .int .i64 0, .int .i64 0, .slice none 0 0]) := Lib.hid (by first | exact HG.out.drew.below hbn | exact (HG.out.alloc _).drew.below hbn); have hl1 := hbn.size; have hgl1 := hgab'.lt; clear hgab')
        | (go_at_call 112; with_reducible refine (HBL2.out _).mono ?_; rintro e wn ⟨gb, rfl, hgb, hgbb, hbn⟩; (first | (have hnb := (Blk.new _ 67 #[.string ⟨#[]⟩, .int .i64 0, .int .i64 0, .slice none 0 0, .string ⟨#[]⟩, .int .i64 0, .int .i64 0, .slice none 0 0]).below hbn; (try dsimp only [World.drew] at hnb); have nf := fun i => hnb.frozen i; have n0 := hnb.cell 0; have n1 := hnb.cell 1; have n2 := hnb.cell 2; have n3 := hnb.cell 3; have n4 := hnb.cell 4; have n5 := hnb.cell 5; have n6 := hnb.cell 6; have n7 := hnb.cell 7) | (have hnb := (Blk.new _ 67 #[.string ⟨#[]⟩, .int .i64 0, .int .i64 0, .slice none 0 0, .string ⟨#[]⟩, .int .i64 0, .int .i64 0, .slice none 0 0]).drew.below hbn; (try dsimp only [World.drew] at hnb); have nf := fun i => hnb.frozen i; have n0 := hnb.cell 0; have n1 := hnb.cell 1; have n2 := hnb.cell 2; have n3 := hnb.cell 3; have n4 := hnb.cell 4; have n5 := hnb.cell 5; have n6 := hnb.cell 6; have n7 := hnb.cell 7) | (have hnb := hnb.below hbn; have nf := fun i => hnb.frozen i; have n0 := hnb.cell 0; have n1 := hnb.cell 1; have n2 := hnb.cell 2; have n3 := hnb.cell 3; have n4 := hnb.cell 4; have n5 := hnb.cell 5; have n6 := hnb.cell 6; have n7 := hnb.cell 7) | skip); have hch := sk_call (w0 := w0) (by assumption) hbn; have HGB := Lib.hid hgbb; clear hgbb; have HGA : RowKit.Hid (Blk wn ga 23 (fillN (fun _ => .float .f32 0) (.float .f32 0) (W * K1) 0)) := Lib.hid (by first | exact HGA.out.below hbn | exact (HGA.out.alloc _).below hbn); have HGc : RowKit.Hid (Blk wn (w.heap.size + 1) 67 #[.string ⟨#[]⟩, .int .i64 0, .int .i64 0, .slice none 0 0, .string ⟨#[]⟩, .int .i64 0, .int .i64 0, .slice none 0 0]) := Lib.hid (by first | exact HGc.out.below hbn | exact (HGc.out.alloc _).below hbn); have hlb := hbn.size))
    · have hgal := HGA.out.lt; have hgbl := HGB.out.lt
      go_wp2_with fail
      go_meet
      have hsz := HSZ.out; have hs2 := HG.out.lt
      simp at hga hgb hlb hs2 hl1
      exact ⟨_, ga, gb, rfl, by omega, by omega, by omega, by omega, by omega, by omega, sk_alloc hch _, HGc.out.alloc _, Blk.new _ _ _, HGA.out.alloc _, HGB.out.alloc _⟩
    · have hgal := HGA.out.lt; have hgbl := HGB.out.lt
      go_wp2_with fail
      go_meet
      have hsz := HSZ.out; have hs2 := HG.out.lt
      simp at hga hgb hlb hs2 hl1
      exact ⟨_, ga, gb, rfl, by omega, by omega, by omega, by omega, by omega, by omega, sk_set8 hch (by omega) _ _ _ _ _ _ _ _, blk_far8 HGc.out (by omega) _ _ _ _ _ _ _ _, blk_set8 hnb _ _ _ _ _ _ _ _, blk_far8 HGA.out (by omega) _ _ _ _ _ _ _ _, blk_far8 HGB.out (by omega) _ _ _ _ _ _ _ _⟩
    · have hgal := HGA.out.lt; have hgbl := HGB.out.lt
      go_wp2_with fail
      go_meet
      have hsz := HSZ.out; have hs2 := HG.out.lt
      simp at hga hgb hlb hs2 hl1
      exact ⟨_, ga, gb, rfl, by omega, by omega, by omega, by omega, by omega, by omega, sk_set8 hch (by omega) _ _ _ _ _ _ _ _, blk_far8 HGc.out (by omega) _ _ _ _ _ _ _ _, blk_set8 hnb _ _ _ _ _ _ _ _, blk_far8 HGA.out (by omega) _ _ _ _ _ _ _ _, blk_far8 HGB.out (by omega) _ _ _ _ _ _ _ _⟩
  case rest =>
    obtain ⟨b3, ga, gb, rfl, n1, n2, n3, n4, n5, n6, hsk, hz, hb3, hga, hgb⟩ := hcut
    have hx := HX0.out.below hsk.1
    have hbl := HB0.out.trans (hsk.1.mono HB0.out.size)
    rw [fill_mask, mask_congr (fun _ => .float .f32 0) (fieldF l W 0) _ _ _ (fun i => decide (i < 0 * W)) (by simp) (by simp)] at hga
    rw [fill_mask, mask_congr (fun _ => .float .f32 0) (fieldF l W 1) _ _ _ (fun i => decide (i < 0 * W)) (by simp) (by simp)] at hgb
    have k2 := hx.cell 2
    simp only [List.getElem?_toArray, List.getElem?_cons_zero, List.getElem?_cons_succ] at k2
    have HX := Lib.hid hx; have HZ := Lib.hid hz; have H3 := Lib.hid hb3; have HA := Lib.hid hga; have HB := Lib.hid hgb; have HBL := Lib.hid hbl
    clear hx hz hb3 hga hgb hbl hsk c0 c1 c2 c3 z0 hg hs1 hch
    go_wp2_with fail
    go_loopw [39] (fun i wr => ∃ y a b : Nat, y ≤ H ∧ a + b = y ∧ (a = b ∨ a = b + 1) ∧ i = .int .i64 y ∧ Blk wr w.heap.size 50 #[.string nm, .int .i64 (W : Int), .int .i64 (H : Int), .slice (some ad) l.length c] ∧ Blk wr (w.heap.size + 1) 67 #[.string ⟨#[]⟩, .int .i64 0, .int .i64 0, .slice none 0 0, .string ⟨#[]⟩, .int .i64 0, .int .i64 0, .slice none 0 0] ∧ Blk wr b3 67 #[.string nm, .int .i64 (W : Int), .int .i64 (K1 : Int), .slice (some ⟨ga, 0, none⟩) (W * K1) (W * K1), .string nm, .int .i64 (W : Int), .int .i64 (K2 : Int), .slice (some ⟨gb, 0, none⟩) (W * K2) (W * K2)] ∧ Blk wr ga 23 (maskN (fieldF l W 0) (.float .f32 0) (W * K1) (fun i => decide (i < a * W))) ∧ Blk wr gb 23 (maskN (fieldF l W 1) (.float .f32 0) (W * K2) (fun i => decide (i < b * W))) ∧ Below w.heap.size w wr) (fun i _ => H - (intOf i).toNat)
    case atStart => exact ⟨0, 0, 0, by omega, rfl, .inl rfl, rfl, HX.out, HZ.out, H3.out, HA.out, HB.out, HBL.out⟩
    case round =>
      obtain ⟨y, a, b, hy, hab, hor, rfl, hx, hz, hb3, hma, hmb, hbel⟩ := hrel
      obtain ⟨wo, rfl⟩ : ∃ wo : World, wo = wr := ⟨_, rfl⟩
      by_cases hlt : y < H
      · rcases hor with hor | hor
        · have hro : a * W + W ≤ W * K1 := row_le (W := W) (y := a) (H := K1) (by have := HK1.out; have := HK2.out; omega)
          have hrs : y * W + W ≤ W * H := row_le (W := W) hlt
          obtain ⟨o, ho⟩ : ∃ o, a * W = o := ⟨_, rfl⟩
          obtain ⟨q, hq⟩ : ∃ q, y * W = q := ⟨_, rfl⟩
          have hol : o + W ≤ W * K1 := by rw [← ho]; exact hro
          have hql : q + W ≤ l.length := by rw [← hq, HLEN.out]; exact hrs
          have m1 : Int.tmod (y : Int) 2 = 0 := by rw [Int.tmod_eq_emod_of_nonneg (by omega)]; omega
          have m2 : Int.tdiv (y : Int) 2 = (a : Int) := by rw [Int.tdiv_eq_ediv_of_nonneg (by omega)]; omega
          have m3 : (y : Int) % 2 = 0 := by omega
          have m4 : (y : Int) / 2 = (a : Int) := by omega
          have m5 : IntKind.i64.wrap (a : Int) = (a : Int) := IntWalk.i64_in _ (by omega)
          obtain ⟨cs, hcs⟩ : ∃ cs, (List.range W).map (fun j => fieldF l W 0 (o + j)) = cs := ⟨_, rfl⟩
          have hcl : cs.length = W := by rw [← hcs]; simp
          have hcg : ∀ j, j < cs.length → cs[j]? = some (fieldF l W 0 (o + j)) := fun j hj => by rw [← hcs]; rw [hcl] at hj; simp [hj]
          have hat : ∀ j, j < W → fieldF l W 0 (o + j) = .float .f32 (l.getD (q + j) 0) := fun j hj => by
            rw [← ho, fieldF_at l W 0 a j hj, ← hq, show 2 * a + 0 = y by omega]
          have HONE : RowKit.Hid (∀ v ∈ cs, v.oneCell' = true) := Lib.hid (fun v hv => by
            obtain ⟨j, hj, rfl⟩ := List.getElem_of_mem hv
            have h := hcg j hj
            rw [List.getElem?_eq_getElem hj] at h
            rw [hcl] at hj
            rw [Option.some.inj h, hat j hj]
            rfl)
          have HN := Lib.hid (mask_copy (fieldF l W 0) (.float .f32 0) (W * K1) (fun i => decide (i < a * W)) (fun i => decide (i < (a + 1) * W)) o cs (by omega) hcg (fun i hi => by rw [Nat.add_mul, Nat.one_mul, ho]; rw [hcl, Bool.eq_iff_iff]; simp; omega))
          have HSRC : RowKit.Hid (∀ j v, cs[j]? = some v → w.cell? ((ad.add q).add j) = some v) := Lib.hid (fun j v hj => by
            have hj1 : j < cs.length := (List.getElem?_eq_some_iff.1 hj).1
            rw [hcg j hj1] at hj
            cases hj
            rw [hcl] at hj1
            rw [add_of_add, HAD.out _ _ (fl_get (by omega)), hat j hj1])
          have HCL := Lib.hid hcl
          have HO := Lib.hid ho; have HQ := Lib.hid hq
          have HR1 := Lib.hid (fun w => row_blk nm W K1 (W * K1) (W * K1) o ga a w (by omega) HO.out hol (Nat.le_refl _) hN1 (by omega))
          have HR2 := Lib.hid (fun w => row_any nm W H l.length c q ad y w hW.1 HQ.out hql hcap hbig (by omega))
          clear hcl hcg hat hcs ho hq hro hrs
          have c0 := hx.cell 0; have c1 := hx.cell 1; have c2 := hx.cell 2; have c3 := hx.cell 3
          have e0 := hb3.cell 0; have e1 := hb3.cell 1; have e2 := hb3.cell 2; have e3 := hb3.cell 3; have e4 := hb3.cell 4; have e5 := hb3.cell 5; have e6 := hb3.cell 6; have e7 := hb3.cell 7
          simp only [List.getElem?_toArray, List.getElem?_cons_zero, List.getElem?_cons_succ] at c0 c1 c2 c3 e0 e1 e2 e3 e4 e5 e6 e7
          have y0 := hx.lt; have y1 := hb3.lt
          have HXo := Lib.hid hx; have HZo := Lib.hid hz; have H3o := Lib.hid hb3; have HGA := Lib.hid hma; have HGB := Lib.hid hmb; have HBo := Lib.hid hbel
          clear hx hz hb3 hma hmb hbel
          have hch : Below wo.heap.size wo wo.drew := (Below.refl _ _).drew
          have HAB := Lib.hid hab; have HOR := Lib.hid hor; clear hab hor
          have ng : w.heap.size ≠ ga := by omega
          have ng' : w.heap.size ≠ gb := by omega
          have hsx := sx_below (g := ga) hch
          go_wp2_with fail
          go_region_held3 (SX ga wo)
            (with_reducible assumption)
            (first
              | (go_at_call 109; (first | (with_reducible refine (HR1.out _).mono ?_) | (with_reducible refine (HR2.out _).mono ?_)); rintro e wn ⟨rfl, hbn⟩; have hch := chainB' (wo := wo) (by assumption) hbn; have hsx := sx_below (g := ga) hch)
              | (refine upon_copy_blk 41 41 3 23 Tryz.underlying41 info_f32 ga o _ _ (ad.add q) _ _ _ 23 (HGA.out.below (by assumption)) cs (by rw [HCL.out]; exact (Nat.min_self _).symm) (by intro j v hj; exact ((HBo.out.trans ((by assumption : Below wo.heap.size wo _).mono HBo.out.size)).cell (by rw [block_of_add, block_of_add]; exact hadb)).trans (HSRC.out j v hj)) (by rw [HCL.out]; simp [maskN]; omega) HONE.out _ HN.out ?_; intro wn2 hbk hon; have hsx := sx_only hsx hon))
          have hxs := And.intro (hon.far (HXo.out.below hch) (by omega)) (And.intro (hon.far (HZo.out.below hch) (by omega)) (And.intro (hon.far (H3o.out.below hch) (by omega)) (And.intro (hon.far (HGB.out.below hch) (by omega)) (hon.below (HBo.out.trans (hch.mono HBo.out.size)) (by omega)))))
          have HXS := Lib.hid hxs; clear hxs hch hbn hon
          have HBK := hbk; clear hbk
          go_wp2
          go_roundw
          case rel => exact ⟨y + 1, a + 1, b, by omega, by have := HAB.out; omega, by have := HOR.out; omega, by go_num, HXS.out.1, HXS.out.2.1, HXS.out.2.2.1, HBK.out, HXS.out.2.2.2.1, HXS.out.2.2.2.2⟩
          case measure => simp [intOf]; omega
        · have hro : b * W + W ≤ W * K2 := row_le (W := W) (y := b) (H := K2) (by have := HK1.out; have := HK2.out; omega)
          have hrs : y * W + W ≤ W * H := row_le (W := W) hlt
          obtain ⟨o, ho⟩ : ∃ o, b * W = o := ⟨_, rfl⟩
          obtain ⟨q, hq⟩ : ∃ q, y * W = q := ⟨_, rfl⟩
          have hol : o + W ≤ W * K2 := by rw [← ho]; exact hro
          have hql : q + W ≤ l.length := by rw [← hq, HLEN.out]; exact hrs
          have m1 : Int.tmod (y : Int) 2 = 1 := by rw [Int.tmod_eq_emod_of_nonneg (by omega)]; omega
          have m2 : Int.tdiv (y : Int) 2 = (b : Int) := by rw [Int.tdiv_eq_ediv_of_nonneg (by omega)]; omega
          have m3 : (y : Int) % 2 = 1 := by omega
          have m4 : (y : Int) / 2 = (b : Int) := by omega
          have m5 : IntKind.i64.wrap (b : Int) = (b : Int) := IntWalk.i64_in _ (by omega)
          obtain ⟨cs, hcs⟩ : ∃ cs, (List.range W).map (fun j => fieldF l W 1 (o + j)) = cs := ⟨_, rfl⟩
          have hcl : cs.length = W := by rw [← hcs]; simp
          have hcg : ∀ j, j < cs.length → cs[j]? = some (fieldF l W 1 (o + j)) := fun j hj => by rw [← hcs]; rw [hcl] at hj; simp [hj]
          have hat : ∀ j, j < W → fieldF l W 1 (o + j) = .float .f32 (l.getD (q + j) 0) := fun j hj => by
            rw [← ho, fieldF_at l W 1 b j hj, ← hq, show 2 * b + 1 = y by omega]
          have HONE : RowKit.Hid (∀ v ∈ cs, v.oneCell' = true) := Lib.hid (fun v hv => by
            obtain ⟨j, hj, rfl⟩ := List.getElem_of_mem hv
            have h := hcg j hj
            rw [List.getElem?_eq_getElem hj] at h
            rw [hcl] at hj
            rw [Option.some.inj h, hat j hj]
            rfl)
          have HN := Lib.hid (mask_copy (fieldF l W 1) (.float .f32 0) (W * K2) (fun i => decide (i < b * W)) (fun i => decide (i < (b + 1) * W)) o cs (by omega) hcg (fun i hi => by rw [Nat.add_mul, Nat.one_mul, ho]; rw [hcl, Bool.eq_iff_iff]; simp; omega))
          have HSRC : RowKit.Hid (∀ j v, cs[j]? = some v → w.cell? ((ad.add q).add j) = some v) := Lib.hid (fun j v hj => by
            have hj1 : j < cs.length := (List.getElem?_eq_some_iff.1 hj).1
            rw [hcg j hj1] at hj
            cases hj
            rw [hcl] at hj1
            rw [add_of_add, HAD.out _ _ (fl_get (by omega)), hat j hj1])
          have HCL := Lib.hid hcl
          have HO := Lib.hid ho; have HQ := Lib.hid hq
          have HR1 := Lib.hid (fun w => row_blk nm W K2 (W * K2) (W * K2) o gb b w (by omega) HO.out hol (Nat.le_refl _) hN2 (by omega))
          have HR2 := Lib.hid (fun w => row_any nm W H l.length c q ad y w hW.1 HQ.out hql hcap hbig (by omega))
          clear hcl hcg hat hcs ho hq hro hrs
          have c0 := hx.cell 0; have c1 := hx.cell 1; have c2 := hx.cell 2; have c3 := hx.cell 3
          have e0 := hb3.cell 0; have e1 := hb3.cell 1; have e2 := hb3.cell 2; have e3 := hb3.cell 3; have e4 := hb3.cell 4; have e5 := hb3.cell 5; have e6 := hb3.cell 6; have e7 := hb3.cell 7
          simp only [List.getElem?_toArray, List.getElem?_cons_zero, List.getElem?_cons_succ] at c0 c1 c2 c3 e0 e1 e2 e3 e4 e5 e6 e7
          have y0 := hx.lt; have y1 := hb3.lt
          have HXo := Lib.hid hx; have HZo := Lib.hid hz; have H3o := Lib.hid hb3; have HGA := Lib.hid hma; have HGB := Lib.hid hmb; have HBo := Lib.hid hbel
          clear hx hz hb3 hma hmb hbel
          have hch : Below wo.heap.size wo wo.drew := (Below.refl _ _).drew
          have HAB := Lib.hid hab; have HOR := Lib.hid hor; clear hab hor
          have ng : w.heap.size ≠ ga := by omega
          have ng' : w.heap.size ≠ gb := by omega
          have hsx := sx_below (g := gb) hch
          go_wp2_with fail
          go_region_held3 (SX gb wo)
            (with_reducible assumption)
            (first
              | (go_at_call 109; (first | (with_reducible refine (HR1.out _).mono ?_) | (with_reducible refine (HR2.out _).mono ?_)); rintro e wn ⟨rfl, hbn⟩; have hch := chainB' (wo := wo) (by assumption) hbn; have hsx := sx_below (g := gb) hch)
              | (refine upon_copy_blk 41 41 3 23 Tryz.underlying41 info_f32 gb o _ _ (ad.add q) _ _ _ 23 (HGB.out.below (by assumption)) cs (by rw [HCL.out]; exact (Nat.min_self _).symm) (by intro j v hj; exact ((HBo.out.trans ((by assumption : Below wo.heap.size wo _).mono HBo.out.size)).cell (by rw [block_of_add, block_of_add]; exact hadb)).trans (HSRC.out j v hj)) (by rw [HCL.out]; simp [maskN]; omega) HONE.out _ HN.out ?_; intro wn2 hbk hon; have hsx := sx_only hsx hon))
          have hxs := And.intro (hon.far (HXo.out.below hch) (by omega)) (And.intro (hon.far (HZo.out.below hch) (by omega)) (And.intro (hon.far (H3o.out.below hch) (by omega)) (And.intro (hon.far (HGA.out.below hch) (by omega)) (hon.below (HBo.out.trans (hch.mono HBo.out.size)) (by omega)))))
          have HXS := Lib.hid hxs; clear hxs hch hbn hon
          have HBK := hbk; clear hbk
          go_wp2
          go_roundw
          case rel => exact ⟨y + 1, a, b + 1, by omega, by have := HAB.out; omega, by have := HOR.out; omega, by go_num, HXS.out.1, HXS.out.2.1, HXS.out.2.2.1, HXS.out.2.2.2.1, HBK.out, HXS.out.2.2.2.2⟩
          case measure => simp [intOf]; omega
      · have hye : y = H := by omega
        have ha : a = K1 := by have := HK1.out; omega
        have hb : b = K2 := by have := HK2.out; omega
        have e0 := hb3.cell 0; have e1 := hb3.cell 1; have e2 := hb3.cell 2; have e3 := hb3.cell 3; have e4 := hb3.cell 4; have e5 := hb3.cell 5; have e6 := hb3.cell 6; have e7 := hb3.cell 7
        have d0 := hz.cell 0; have d1 := hz.cell 1; have d2 := hz.cell 2; have d3 := hz.cell 3; have d4 := hz.cell 4; have d5 := hz.cell 5; have d6 := hz.cell 6; have d7 := hz.cell 7
        have fz := fun i => hz.frozen i
        simp only [List.getElem?_toArray, List.getElem?_cons_zero, List.getElem?_cons_succ] at e0 e1 e2 e3 e4 e5 e6 e7 d0 d1 d2 d3 d4 d5 d6 d7
        subst hye ha hb
        have HMA := Lib.hid hma; have HMB := Lib.hid hmb; have HBE := Lib.hid hbel
        clear hx hz hb3 hma hmb hbel
        go_wp2
        refine bodyPost_ret (v := .tuple #[.agg #[.string nm, .int .i64 (W : Int), .int .i64 (a : Int), .slice (some ⟨ga, 0, none⟩) (W * a) (W * a), .string nm, .int .i64 (W : Int), .int .i64 (b : Int), .slice (some ⟨gb, 0, none⟩) (W * b) (W * b)], .int .i64 0]) (by simp [results, Tryz.results48, go_sem, d0, d1, d2, d3, d4, d5, d6, d7]) rfl ⟨ga, gb, rfl, n4, ?_, ?_, ?_⟩
        · have h := HMA.out
          rw [mask_congr (fieldF l W 0) (fieldF l W 0) _ _ _ (fun _ => true) (fun i hi => by rw [Nat.mul_comm] at hi; simp; omega) (fun _ _ _ => rfl)] at h
          exact blk_far8 h (by omega) _ _ _ _ _ _ _ _
        · have h := HMB.out
          rw [mask_congr (fieldF l W 1) (fieldF l W 1) _ _ _ (fun _ => true) (fun i hi => by rw [Nat.mul_comm] at hi; simp; omega) (fun _ _ _ => rfl)] at h
          exact blk_far8 h (by omega) _ _ _ _ _ _ _ _
        · exact below_set8 HBE.out (by simp) _ _ _ _ _ _ _ _

end Go.Proofs.YtkjkjhheckfhbaaGreatDoor
