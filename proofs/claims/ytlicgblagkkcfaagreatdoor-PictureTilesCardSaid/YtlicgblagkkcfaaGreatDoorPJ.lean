/- Parts of a proof: The errors of the sample at a place, and of a part. PictureTiles: what the calls give of the parts of a valid picture. PictureTiles, where it asks nothing: a picture that is not valid, or too narrow. -/
import Derived.Test.YtlicgblagkkcfaaGreatDoorP2
import Derived.Test.YtlicgblagkkcfaaGreatDoorN
import Derived.Test.YtlicgblagkkcfaaGreatDoorPI
namespace Go.Proofs.YtlicgblagkkcfaaGreatDoor
open Go.RowKit
set_option linter.unusedVariables false
set_option maxRecDepth 100000
theorem first_z (A : Option Addr) (c n : Nat) (es : List Int) (w : World) (hn : es.length = n) (hl : n ≤ maxLen) (hr : Rd w A (es.map (.int .i64))) (z : Int) (hz : firstE es = z) :
    Calls Tryz.prog 97 #[.slice A n c] w fun e' w' => e' = .returned (.int .i64 z) ∧ w = w' := by
  rw [← hz]; exact first_n A c n es w hn hl hr
def atErr (p : Pic) (x y : Int) : Int := firstE [p.err, errIf (decide (x < 0) || decide (p.w ≤ x)) 10, errIf (decide (y < 0) || decide (p.h ≤ y)) 10]
theorem at_err (p : Pic) (x y : Int) (A : Option Addr) (c : Nat) (w : World) (hs : p.name.size ≤ maxLen) (hl : p.l.length ≤ maxLen) (hr : Rd w A (fl p.l)) (z : Int) (he : atErr p x y = z) (hz : z ≠ 0) :
    Calls Tryz.prog 29 #[p.val A c, .int .i64 x, .int .i64 y] w fun e w' => e = .returned (.tuple #[.float .f32 0, .int .i64 z]) ∧ Below w.heap.size w w' := by
  have hcp := fun w hr => checkPicture_any p A c w hs hl hr
  unfold atErr at he
  have HE := Lib.hid he
  clear he
  unfold Pic.val at hcp ⊢
  obtain ⟨n, hn⟩ : ∃ n, p.l.length = n := ⟨_, rfl⟩
  rw [hn] at hcp ⊢
  clear hn hl
  have HCP := Lib.hid hcp; have HR := Lib.hid hr
  have hz' : (z != 0) = true := by simpa using hz
  clear hcp hr
  go_enter Tryz.func29, Tryz.ntmps29
  go_wp2_with fail
  have hx0 := Blk.new w 50 #[.string p.name, .int .i64 p.w, .int .i64 p.h, .slice A n c]
  have hb0 := (Below.refl w.heap.size w).alloc (Nat.le_refl _) (.cells #[.string p.name, .int .i64 p.w, .int .i64 p.h, .slice A n c] 50)
  generalize w.alloc (.cells #[.string p.name, .int .i64 p.w, .int .i64 p.h, .slice A n c] 50) = w0 at hx0 hb0 ⊢
  have HX := Lib.hid hx0
  have HB := Lib.hid hb0
  clear hx0 hb0
  refine (HCP.out _ (by exact HR.out.below HB.out)).mono ?_
  rintro e w1 ⟨rfl, hb1⟩
  replace HX := Lib.hid (HX.out.below hb1)
  replace HB := Lib.hid (HB.out.trans (hb1.mono HB.out.size))
  obtain ⟨c0, c1, c2, c3⟩ := box4 HX.out
  clear hb1
  by_cases hx0 : x < 0 <;> by_cases hy0 : y < 0
  all_goals
    go_wp2_with fail
    refine (errorIf_any _ _ _).mono ?_
    rintro e wn ⟨rfl, rfl⟩
    go_wp2_with fail
    refine (errorIf_any _ _ _).mono ?_
    rintro e wn ⟨rfl, rfl⟩
    go_wp2_with fail
    refine (first_z _ _ _ [_, _, _] _ rfl (by simp [maxLen]) (by exact rd_of_blk (Blk.new _ _ _) rfl) z (by first | exact HE.out | simpa [hx0, hy0] using HE.out)).mono ?_
    rintro e wn ⟨rfl, rfl⟩
    clear c0 c1 c2 c3
    go_wp2
    exact bodyPost_ret (v := .tuple #[.float .f32 0, .int .i64 z]) (by simp [results, Tryz.results29, go_sem]) rfl ⟨rfl, HB.out.alloc HB.out.size _⟩
def cropErr (p : Pic) (a b a' b' : Int) : Int := firstE [p.err, errIf (decide (a < 0) || decide (b ≤ a) || decide (p.w < b)) 14, errIf (decide (a' < 0) || decide (b' ≤ a') || decide (p.h < b')) 14]
theorem box2 {w : World} {g : Nat} {t : TypeId} {a b : Value} (h : Blk w g t #[a, b]) : w.cell? ⟨g, 0, none⟩ = some a ∧ w.cell? ⟨g, 1, none⟩ = some b := ⟨h.cell 0, h.cell 1⟩
set_option maxHeartbeats 1000000 in
theorem cropped_err (p : Pic) (a b a' b' : Int) (A : Option Addr) (c : Nat) (w : World) (hs : p.name.size ≤ maxLen) (hl : p.l.length ≤ maxLen) (hr : Rd w A (fl p.l)) (z : Int) (he : cropErr p a b a' b' = z) (hz : z ≠ 0) :
    Calls Tryz.prog 31 #[p.val A c, .agg #[.int .i64 a, .int .i64 b], .agg #[.int .i64 a', .int .i64 b']] w fun e w' => e = .returned (.tuple #[.agg #[.string ⟨#[]⟩, .int .i64 0, .int .i64 0, .slice none 0 0], .int .i64 z]) ∧ Below w.heap.size w w' := by
  have hcp := fun w hr => checkPicture_any p A c w hs hl hr
  unfold cropErr at he
  have HE := Lib.hid he
  clear he
  unfold Pic.val at hcp ⊢
  obtain ⟨n, hn⟩ : ∃ n, p.l.length = n := ⟨_, rfl⟩
  rw [hn] at hcp ⊢
  clear hn hl
  have HCP := Lib.hid hcp; have HR := Lib.hid hr
  have hz' : (z != 0) = true := by simpa using hz
  clear hcp hr
  go_enter Tryz.func31, Tryz.ntmps31
  go_wp2_with fail
  have hx0 := (((Blk.new w 50 #[.string p.name, .int .i64 p.w, .int .i64 p.h, .slice A n c]).alloc (.cells #[.int .i64 a, .int .i64 b] 47)).alloc (.cells #[.int .i64 a', .int .i64 b'] 47)).alloc (.cells #[.string ⟨#[]⟩, .int .i64 0, .int .i64 0, .slice none 0 0] 50)
  have hx1 := ((Blk.new (w.alloc (.cells #[.string p.name, .int .i64 p.w, .int .i64 p.h, .slice A n c] 50)) 47 #[.int .i64 a, .int .i64 b]).alloc (.cells #[.int .i64 a', .int .i64 b'] 47)).alloc (.cells #[.string ⟨#[]⟩, .int .i64 0, .int .i64 0, .slice none 0 0] 50)
  have hx2 := (Blk.new ((w.alloc (.cells #[.string p.name, .int .i64 p.w, .int .i64 p.h, .slice A n c] 50)).alloc (.cells #[.int .i64 a, .int .i64 b] 47)) 47 #[.int .i64 a', .int .i64 b']).alloc (.cells #[.string ⟨#[]⟩, .int .i64 0, .int .i64 0, .slice none 0 0] 50)
  have hx3 := Blk.new (((w.alloc (.cells #[.string p.name, .int .i64 p.w, .int .i64 p.h, .slice A n c] 50)).alloc (.cells #[.int .i64 a, .int .i64 b] 47)).alloc (.cells #[.int .i64 a', .int .i64 b'] 47)) 50 #[.string ⟨#[]⟩, .int .i64 0, .int .i64 0, .slice none 0 0]
  simp only [World.size_alloc] at hx1 hx2 hx3
  have hb0 := ((((Below.refl w.heap.size w).alloc (Nat.le_refl _) (.cells #[.string p.name, .int .i64 p.w, .int .i64 p.h, .slice A n c] 50)).alloc (by simp only [World.size_alloc]; omega) (.cells #[.int .i64 a, .int .i64 b] 47)).alloc (by simp only [World.size_alloc]; omega) (.cells #[.int .i64 a', .int .i64 b'] 47)).alloc (by simp only [World.size_alloc]; omega) (.cells #[.string ⟨#[]⟩, .int .i64 0, .int .i64 0, .slice none 0 0] 50)
  generalize ((((w.alloc (.cells #[.string p.name, .int .i64 p.w, .int .i64 p.h, .slice A n c] 50)).alloc (.cells #[.int .i64 a, .int .i64 b] 47)).alloc (.cells #[.int .i64 a', .int .i64 b'] 47)).alloc (.cells #[.string ⟨#[]⟩, .int .i64 0, .int .i64 0, .slice none 0 0] 50)) = w0 at hx0 hx1 hx2 hx3 hb0 ⊢
  obtain ⟨c0, c1, c2, c3⟩ := box4 hx0
  obtain ⟨s0, s1⟩ := box2 hx1
  obtain ⟨t0, t1⟩ := box2 hx2
  have z0 := hx0.lt; have z1 := hx1.lt; have z2 := hx2.lt; have z3 := hx3.lt
  have HY := Lib.hid hx3; have HB := Lib.hid hb0; clear hx0 hx1 hx2 hx3 hb0
  go_region_held3 (SK w0)
    (first | exact sk_drew0 _ | exact sk_drew (by assumption) | assumption | exact sk_call (by assumption) (by assumption) | exact sk_alloc (by assumption) _)
    (first
      | (go_at_call 37; refine (HCP.out _ (HR.out.below (HB.out.trans ((And.left (by assumption : SK w0 _)).mono HB.out.size)))).mono ?_; rintro e wn ⟨rfl, hbn⟩; have hch := sk_call (w0 := w0) (by assumption) hbn)
      | (go_at_call 111; refine (spanError_any _ _ _ _).mono ?_; rintro e wn ⟨rfl, hbn⟩; have hch := sk_call (w0 := w0) (by assumption) hbn)
      | (go_at_call 97; refine (first_n _ _ _ [_, _, _] _ rfl (by simp [maxLen]) (by exact rd_of_blk (Blk.new _ _ _) rfl)).mono ?_; rintro e wn ⟨rfl, rfl⟩))
  rw [HE.out]
  have hch2 := sk_alloc hch (.cells #[.int .i64 p.err, .int .i64 (errIf (decide (a < 0) || decide (b ≤ a) || decide (p.w < b)) 14), .int .i64 (errIf (decide (a' < 0) || decide (b' ≤ a') || decide (p.h < b')) 14)] 26)
  generalize wn.alloc (.cells #[.int .i64 p.err, .int .i64 (errIf (decide (a < 0) || decide (b ≤ a) || decide (p.w < b)) 14), .int .i64 (errIf (decide (a' < 0) || decide (b' ≤ a') || decide (p.h < b')) 14)] 26) = w2 at hch2 ⊢
  have hy := HY.out.below hch2.1
  have HB1 := Lib.hid (HB.out.trans (hch2.1.mono HB.out.size))
  clear c0 c1 c2 c3 s0 s1 t0 t1 HY HB HCP HR hch2 hch hbn z0 z1 z2 z3 HE
  have z1 := hy.lt
  have f0 := hy.frozen 0; have f1 := hy.frozen 1; have f2 := hy.frozen 2; have f3 := hy.frozen 3
  obtain ⟨d0, d1, d2, d3⟩ := box4 hy
  have hyy := Lib.hid (show Blk ((((w2.setCell ⟨w.heap.size + 1 + 1 + 1, 0, none⟩ (.string ⟨#[]⟩)).setCell ⟨w.heap.size + 1 + 1 + 1, 1, none⟩ (.int .i64 0)).setCell ⟨w.heap.size + 1 + 1 + 1, 2, none⟩ (.int .i64 0)).setCell ⟨w.heap.size + 1 + 1 + 1, 3, none⟩ (.slice none 0 0)) (w.heap.size + 1 + 1 + 1) 50 #[.string ⟨#[]⟩, .int .i64 0, .int .i64 0, .slice none 0 0] from (((hy.set_ 0 _).set_ 1 _).set_ 2 _).set_ 3 _)
  clear hy
  go_wp2
  obtain ⟨r0, r1, r2, r3⟩ := box4 hyy.out
  exact bodyPost_ret (v := .tuple #[.agg #[.string ⟨#[]⟩, .int .i64 0, .int .i64 0, .slice none 0 0], .int .i64 z]) (by simp [results, Tryz.results31, go_sem, r0, r1, r2, r3]) rfl ⟨rfl, below_set4 HB1.out (by omega) _ _ _ _⟩
end Go.Proofs.YtlicgblagkkcfaaGreatDoor
namespace Go.Proofs.YtlicgblagkkcfaaGreatDoor
open Go.RowKit
set_option linter.unusedVariables false
set_option maxRecDepth 100000
/-- A mean's numbers: s over b, cut down by their greatest common divisor. -/
theorem mean_parts (s : Int) (n : Nat) (h1 : 1 ≤ n) (hb : -(16384 * (n : Int)) ≤ s ∧ s ≤ 16384 * (n : Int)) : ∃ g a b : Int, 1 ≤ g ∧ 1 ≤ b ∧ (Int.gcd s (16 * n) : Nat) = g ∧ s / (Int.gcd s (16 * n) : Nat) = a ∧ 16 * (n : Int) / (Int.gcd s (16 * n) : Nat) = b ∧ s = g * a ∧ 16 * (n : Int) = g * b ∧ a ≤ 1024 * b ∧ -1024 * b ≤ a := by
  have hpos : 0 < (16 * (n : Int)) := by omega
  have hg0 : 0 < Int.gcd s (16 * n) := Int.gcd_pos_of_ne_zero_right _ (by omega)
  obtain ⟨a, ha⟩ := Int.gcd_dvd_left (a := s) (b := 16 * n)
  obtain ⟨b, hb2⟩ := Int.gcd_dvd_right (a := s) (b := 16 * n)
  obtain ⟨g, hg⟩ : ∃ g : Int, ((Int.gcd s (16 * n) : Nat) : Int) = g := ⟨_, rfl⟩
  have hg1 : 1 ≤ g := by omega
  rw [hg] at ha hb2 ⊢
  have hbp : 1 ≤ b := by
    have : 0 < g * b := by rw [← hb2]; exact hpos
    exact Int.pos_of_mul_pos_right this (by omega) |> fun h => by omega
  refine ⟨g, a, b, hg1, hbp, rfl, ?_, ?_, ha, hb2, ?_, ?_⟩
  · rw [ha]; exact Int.mul_ediv_cancel_left _ (by omega)
  · rw [hb2]; exact Int.mul_ediv_cancel_left _ (by omega)
  · have e : g * a ≤ g * (1024 * b) := by
      rw [← ha, show g * (1024 * b) = 1024 * (g * b) by rw [Int.mul_left_comm], ← hb2]; omega
    exact Int.le_of_mul_le_mul_left e (by omega)
  · have e : g * (-1024 * b) ≤ g * a := by
      rw [← ha, show g * (-1024 * b) = -1024 * (g * b) by rw [Int.mul_left_comm], ← hb2]; omega
    exact Int.le_of_mul_le_mul_left e (by omega)
/-- The part of m columns from c on and h rows from r on. -/
def mkD (l : List Nat) (W c r m h : Nat) : TileD where
  m := m
  h := h
  N := m * h
  L := tileL l W c r m h
  E := sumF (fun b => lvl b * lvl b) (tileL l W c r m h)
  P := peakF (tileL l W c r m h) 0
  S := sumF lvl (tileL l W c r m h) / (Int.gcd (sumF lvl (tileL l W c r m h)) (16 * (m * h : Nat)) : Nat)
  D := 16 * ((m * h : Nat) : Int) / (Int.gcd (sumF lvl (tileL l W c r m h)) (16 * (m * h : Nat)) : Nat)
  G := (Int.gcd (sumF lvl (tileL l W c r m h)) (16 * (m * h : Nat)) : Nat)
  T := sumF lvl (tileL l W c r m h)
section
variable {nm : ByteArray} {W H : Nat} {l : List Nat} (hp : (Pic.mk nm W H l).Ok)
include hp
theorem tile_ok {c r m h : Nat} (h1 : 1 ≤ m ∧ m ≤ 64) (h2 : 1 ≤ h ∧ h ≤ 64) : (Pic.mk nm m h (tileL l W c r m h)).Ok := ok_pick hp h1 h2 rfl _
theorem tile_p {n : Nat} (hn : l.length = n) (c r m h : Nat) (h1 : 1 ≤ m ∧ c + m ≤ W) (h2 : 1 ≤ h ∧ r + h ≤ H) :
    TileP nm W H n l (c : Int) ((c : Int) + (m : Int)) (r : Int) ((r : Int) + (h : Int)) (mkD l W c r m h) := by
  obtain ⟨hW, hH, hlen, hs, hmax⟩ := ok_sizes hp
  have hm : 1 ≤ m ∧ m ≤ 64 := by omega
  have hh : 1 ≤ h ∧ h ≤ 64 := by omega
  have hT := tile_ok hp (c := c) (r := r) hm hh
  have hTn : (tileL l W c r m h).length = m * h := tileL_len ..
  obtain ⟨N, hN⟩ : ∃ N, m * h = N := ⟨_, rfl⟩
  have hN1 : 1 ≤ N := by rw [← hN]; exact prod_pos hm.1 hh.1
  have hN2 : N ≤ 4096 := by rw [← hN]; exact Nat.le_trans (Nat.mul_le_mul hm.2 hh.2) (by decide)
  have hmh : (m : Int) * (h : Int) = (N : Int) := by rw [← hN]; exact (Int.natCast_mul m h).symm
  have hlv : ∀ b ∈ tileL l W c r m h, -16384 ≤ lvl b ∧ lvl b ≤ 16384 := fun b hb => hT.lv hb
  have hbd := sumF_bd lvl 16384 (tileL l W c r m h) (by omega) hlv
  rw [hTn, hN] at hbd
  obtain ⟨g, a, b, hg1, hb1, eg, ea, eb, es, en, hle, hge⟩ := mean_parts (sumF lvl (tileL l W c r m h)) N hN1 hbd
  have hmk : mkD l W c r m h = ⟨m, h, N, tileL l W c r m h, sumF (fun b => lvl b * lvl b) (tileL l W c r m h), peakF (tileL l W c r m h) 0, a, b, g, sumF lvl (tileL l W c r m h)⟩ := by
    unfold mkD; rw [hN, ea, eb, eg]
  have hgN : g ≤ 16 * (N : Int) := by have h3 := Int.mul_le_mul_of_nonneg_left hb1 (show 0 ≤ g by omega); rw [Int.mul_one] at h3; rw [en]; exact h3
  have hbN : b ≤ 16 * (N : Int) := by have h3 := Int.mul_le_mul_of_nonneg_right hg1 (show 0 ≤ b by omega); rw [Int.one_mul] at h3; rw [en]; exact h3
  have hpv : ∀ (A : Option Addr) (c' : Nat), (Pic.mk nm m h (tileL l W c r m h)).val A c' = .agg #[.string nm, .int .i64 (m : Int), .int .i64 (h : Int), .slice A N c'] := fun A c' => by unfold Pic.val; rw [hTn, hN]
  rw [hmk]
  exact {
    wm := by simp only []; rw [IntWalk.i64_in _ (by omega)]; omega
    wh := by simp only []; rw [IntWalk.i64_in _ (by omega)]; omega
    sz := by simp only []; rw [hmh, IntWalk.i64_in _ (by omega)]
    crop := fun A c' w hc hr => (crop_v hp hn A c' w c m r h N _ h1 h2 hN (by rw [← hN]; rfl) hc hr).mono fun e w' ⟨q, a1, a2, a3⟩ => ⟨some ⟨q, 0, none⟩, N, a1, Nat.le_refl _, a2, a3⟩
    en := fun A c' w hr => energy_v hT (hTn.trans hN) A c' w _ rfl hr
    pk := fun A c' w hr => by have h3 := peak_ok _ hT (ok_err hT) A c' w hs (ok_sizes hT).2.2.2.2 hr; rw [hpv] at h3; exact h3
    mn := fun A c' w hr => by have h3 := mean_v hT (hTn.trans hN) A c' w _ rfl hr; rw [ea, eb] at h3; exact h3
    ck := fun A c' w hr => by have h3 := checkPictureR_any (Pic.mk nm m h (tileL l W c r m h)) A c' w hs hT.big hr; rw [hpv, ok_err hT] at h3; exact h3
    at_ := fun j hj A c' w hc hr => by
      simp only [] at hj ⊢
      have hjm : j % m < m := Nat.mod_lt _ (by omega)
      have hjd : j / m < h := Nat.div_lt_of_lt_mul (by rw [hN]; exact hj)
      have h3 := at_ok nm W H l hp (ok_err hp) (c + j % m) (r + j / m) (by omega) (by omega) A c' w hs hmax (by rw [hn]; exact hc) hr
      rw [hn] at h3
      have hgt := tileL_get l W c r m h j (by rw [hN]; exact hj)
      unfold tileN at hgt
      have t1 : (j : Int).tmod (m : Int) = ((j % m : Nat) : Int) := by rw [Int.tmod_eq_emod_of_nonneg (by omega)]; exact (Int.natCast_emod j m).symm
      have t2 : (j : Int).tdiv (m : Int) = ((j / m : Nat) : Int) := by rw [Int.tdiv_eq_ediv_of_nonneg (by omega)]; exact (Int.natCast_ediv j m).symm
      rw [t1, t2, hgt]
      obtain ⟨q, hq⟩ : ∃ q, j % m = q := ⟨_, rfl⟩
      obtain ⟨s, hsq⟩ : ∃ s, j / m = s := ⟨_, rfl⟩
      rw [hq] at hjm h3 ⊢
      rw [hsq] at hjd h3 ⊢
      rw [IntWalk.i64_in (s : Int) (by omega), IntWalk.i64_in ((c : Int) + (q : Int)) (by omega), IntWalk.i64_in ((r : Int) + (s : Int)) (by omega)]
      rw [Int.natCast_add, Int.natCast_add] at h3
      exact h3
    ord := fun j => by have h3 := eqF_self (chk_getD hT.ok j); unfold eqF at h3; simpa using h3
    len := hTn.trans hN
    pos := hN1
    big := hN2
    m0 := by simp only []; omega
    d1 := by simp only []; omega
    d0 := by simp only []; omega
    w16 := by simp only []; rw [IntWalk.i64_in _ (by omega)]
    w24 := by simp only []; rw [IntWalk.i64_in _ (by omega)]
    w25 := by simp only []; rw [IntWalk.i64_in _ (by omega)]
    d2 := by simp only []; rw [en]; exact Int.mul_tmod_left _ _
    d3 := by simp only []; omega
    d4 := by simp only []; omega
    dq := by simp only []; rw [en, Int.mul_tdiv_cancel _ (by omega), IntWalk.i64_in _ (by omega)]
    tot := by
      simp only []
      rw [show a * g = sumF lvl (tileL l W c r m h) by rw [Int.mul_comm]; exact es.symm, IntWalk.i64_in _ (by omega)] }
theorem beside_t (c c' r m m2 K M : Nat) (hc : c' = c + m) (hM : M = m + m2) (h1 : 1 ≤ m) (h2 : 1 ≤ m2) (h3 : M ≤ 64) (h4 : 1 ≤ K ∧ K ≤ 64) :
    JoinT 40 nm m K (m * K) (tileL l W c r m K) m2 K (m2 * K) (tileL l W c' r m2 K) M K (M * K) (tileL l W c r M K) := by
  subst hc; subst hM
  have hs := (ok_sizes hp).2.2.2.1
  have hA := tile_ok hp (c := c) (r := r) (m := m) ⟨h1, by omega⟩ h4
  have hB := tile_ok hp (c := c + m) (r := r) (m := m2) ⟨h2, by omega⟩ h4
  intro A B c1 c2 w k1 k2 hr hr2
  have h := beside_ok nm nm m m2 K (m + m2) rfl _ _ hA (ok_err hA) hB (ok_err hB) h3 A B c1 c2 w hs hs (by rw [tileL_len]; exact k1) (by rw [tileL_len]; exact k2) hr hr2
  rw [tileL_len, tileL_len] at h
  refine h.mono fun e w' ⟨g, a1, a2, a3⟩ => ⟨some ⟨g, 0, none⟩, (m + m2) * K, a1, Nat.le_refl _, ?_, a3⟩
  exact rd_mask a2 (fun _ _ => rfl) (by simp [fl, tileL_len]) fun i hi => by rw [fl_get (by rw [tileL_len]; exact hi), beside_tile l W c r m m2 K i hi]
theorem above_t (c r r' m K K2 M : Nat) (hr0 : r' = r + K) (hM : M = K + K2) (h1 : 1 ≤ K) (h2 : 1 ≤ K2) (h3 : M ≤ 64) (h4 : 1 ≤ m ∧ m ≤ 64) :
    JoinT 41 nm m K (m * K) (tileL l W c r m K) m K2 (m * K2) (tileL l W c r' m K2) m M (m * M) (tileL l W c r m M) := by
  subst hr0; subst hM
  have hs := (ok_sizes hp).2.2.2.1
  have hA := tile_ok hp (c := c) (r := r) h4 (h := K) ⟨h1, by omega⟩
  have hB := tile_ok hp (c := c) (r := r + K) h4 (h := K2) ⟨h2, by omega⟩
  intro A B c1 c2 w k1 k2 hr hr2
  have h := above_ok nm nm m K K2 (K + K2) rfl _ _ hA (ok_err hA) hB (ok_err hB) h3 A B c1 c2 w (m * (K + K2)) rfl hs hs (by rw [tileL_len]; exact k1) (by rw [tileL_len]; exact k2) hr hr2
  rw [tileL_len, tileL_len] at h
  refine h.mono fun e w' ⟨g, a1, a2, a3⟩ => ⟨some ⟨g, 0, none⟩, m * (K + K2), a1, Nat.le_refl _, ?_, a3⟩
  exact rd_mask a2 (fun _ _ => rfl) (by simp [fl, tileL_len]) fun i hi => by rw [fl_get (by rw [tileL_len]; exact hi), above_tile l W c r m K K2 i hi]
end
end Go.Proofs.YtlicgblagkkcfaaGreatDoor
namespace Go.Proofs.YtlicgblagkkcfaaGreatDoor
open Go.RowKit
set_option linter.unusedVariables false
set_option maxRecDepth 100000

set_option maxHeartbeats 1000000 in
theorem tiles_long (p : Pic) (a b : Int) (A : Option Addr) (c : Nat) (w : World) (hlaid : Laid w) (hr : Rd w A (fl p.l)) (hsh : (shortB p && (p.err == 0)) = false) : Calls Tryz.prog 11 #[p.val A c, .agg #[.int .u8 a, .int .u8 b]] w (TrueEnd w) := by
  have HS : RowKit.Hid (∀ w, Rd w A (fl p.l) → Calls Tryz.prog 86 #[p.val A c] w (BoolEnd false w)) := Lib.hid (fun w hr => by have h := valid_any p A c w hr; rw [hsh] at h; exact h)
  unfold Pic.val at HS ⊢
  have HR := Lib.hid hr; clear hr hsh
  have HL := Lib.hid hlaid; clear hlaid
  have HB := Lib.hid (Below.refl w.heap.size w)
  go_enter Tryz.func11, Tryz.ntmps11
  go_upto_region 1 with fail
  have hn := (Blk.new w 43 #[.string p.name, .int .i64 p.w, .int .i64 p.h, .slice A p.l.length c]).alloc (.cells #[.int .u8 a, .int .u8 b] 129)
  have hb2 := ((Below.refl w.heap.size w).alloc (Nat.le_refl _) (.cells #[.string p.name, .int .i64 p.w, .int .i64 p.h, .slice A p.l.length c] 43)).alloc (by simp only [World.size_alloc]; omega) (.cells #[.int .u8 a, .int .u8 b] 129)
  obtain ⟨bP, hbP⟩ : ∃ g, w.heap.size = g := ⟨_, rfl⟩
  generalize (w.alloc (.cells #[.string p.name, .int .i64 p.w, .int .i64 p.h, .slice A p.l.length c] 43)).alloc (.cells #[.int .u8 a, .int .u8 b] 129) = w0 at hn hb2 ⊢
  rw [hbP] at hn
  try rw [hbP]
  have HXP := Lib.hid hn
  replace HB := Lib.hid hb2
  clear hn hb2 hbP
  go_wp2_with (first | (refine wpList_load_box rfl 43 _ rfl bP _ _ HXP.out rfl _ Tryz.underlying43 rfl (by kernel_rfl) ?_))
  refine (HS.out _ (HR.out.below HB.out)).mono ?_
  rintro e u1w ⟨rfl, hb⟩
  replace HXP := Lib.hid (HXP.out.below hb)
  replace HB := Lib.hid (HB.out.trans (hb.mono HB.out.size))
  clear hb
  go_wp2_with fail
  refine (awake_laid _ (HL.out.below HB.out)).mono ?_
  rintro e u2w ⟨rfl, hb⟩
  replace HXP := Lib.hid (HXP.out.below hb)
  replace HB := Lib.hid (HB.out.trans (hb.mono HB.out.size))
  clear hb
  go_wp2
  go_ret
  exact trueEnd_mk rfl HB.out

set_option maxHeartbeats 1000000 in
theorem tiles_thin (p : Pic) (a b : Int) (A : Option Addr) (c : Nat) (w : World) (hlaid : Laid w) (hr : Rd w A (fl p.l)) (hsh : (shortB p && (p.err == 0)) = true) (hw : p.w < 2) : Calls Tryz.prog 11 #[p.val A c, .agg #[.int .u8 a, .int .u8 b]] w (TrueEnd w) := by
  have HS : RowKit.Hid (∀ w, Rd w A (fl p.l) → Calls Tryz.prog 86 #[p.val A c] w (BoolEnd true w)) := Lib.hid (fun w hr => by have h := valid_any p A c w hr; rw [hsh] at h; exact h)
  unfold Pic.val at HS ⊢
  have HR := Lib.hid hr; clear hr hsh
  have HL := Lib.hid hlaid; clear hlaid
  have HB := Lib.hid (Below.refl w.heap.size w)
  go_enter Tryz.func11, Tryz.ntmps11
  go_upto_region 1 with fail
  have hn := (Blk.new w 43 #[.string p.name, .int .i64 p.w, .int .i64 p.h, .slice A p.l.length c]).alloc (.cells #[.int .u8 a, .int .u8 b] 129)
  have hb2 := ((Below.refl w.heap.size w).alloc (Nat.le_refl _) (.cells #[.string p.name, .int .i64 p.w, .int .i64 p.h, .slice A p.l.length c] 43)).alloc (by simp only [World.size_alloc]; omega) (.cells #[.int .u8 a, .int .u8 b] 129)
  obtain ⟨bP, hbP⟩ : ∃ g, w.heap.size = g := ⟨_, rfl⟩
  generalize (w.alloc (.cells #[.string p.name, .int .i64 p.w, .int .i64 p.h, .slice A p.l.length c] 43)).alloc (.cells #[.int .u8 a, .int .u8 b] 129) = w0 at hn hb2 ⊢
  rw [hbP] at hn
  try rw [hbP]
  have HXP := Lib.hid hn
  replace HB := Lib.hid hb2
  clear hn hb2 hbP
  go_wp2_with (first | (refine wpList_load_box rfl 43 _ rfl bP _ _ HXP.out rfl _ Tryz.underlying43 rfl (by kernel_rfl) ?_))
  refine (HS.out _ (HR.out.below HB.out)).mono ?_
  rintro e u1w ⟨rfl, hb⟩
  replace HXP := Lib.hid (HXP.out.below hb)
  replace HB := Lib.hid (HB.out.trans (hb.mono HB.out.size))
  clear hb
  obtain ⟨cP0, cP1, cP2, cP3⟩ := box4 HXP.out
  have hwd : decide (p.w < 2) = true := by simpa using hw
  go_wp2_with fail
  refine (awake_laid _ (HL.out.below HB.out)).mono ?_
  rintro e u2w ⟨rfl, hb⟩
  replace HXP := Lib.hid (HXP.out.below hb)
  replace HB := Lib.hid (HB.out.trans (hb.mono HB.out.size))
  clear hb
  go_wp2
  go_ret
  exact trueEnd_mk rfl HB.out

set_option maxHeartbeats 1000000 in
theorem tiles_flat (p : Pic) (a b : Int) (A : Option Addr) (c : Nat) (w : World) (hlaid : Laid w) (hr : Rd w A (fl p.l)) (hsh : (shortB p && (p.err == 0)) = true) (hw : ¬ p.w < 2) (hh : p.h < 2) : Calls Tryz.prog 11 #[p.val A c, .agg #[.int .u8 a, .int .u8 b]] w (TrueEnd w) := by
  have HS : RowKit.Hid (∀ w, Rd w A (fl p.l) → Calls Tryz.prog 86 #[p.val A c] w (BoolEnd true w)) := Lib.hid (fun w hr => by have h := valid_any p A c w hr; rw [hsh] at h; exact h)
  unfold Pic.val at HS ⊢
  have HR := Lib.hid hr; clear hr hsh
  have HL := Lib.hid hlaid; clear hlaid
  have HB := Lib.hid (Below.refl w.heap.size w)
  go_enter Tryz.func11, Tryz.ntmps11
  go_upto_region 1 with fail
  have hn := (Blk.new w 43 #[.string p.name, .int .i64 p.w, .int .i64 p.h, .slice A p.l.length c]).alloc (.cells #[.int .u8 a, .int .u8 b] 129)
  have hb2 := ((Below.refl w.heap.size w).alloc (Nat.le_refl _) (.cells #[.string p.name, .int .i64 p.w, .int .i64 p.h, .slice A p.l.length c] 43)).alloc (by simp only [World.size_alloc]; omega) (.cells #[.int .u8 a, .int .u8 b] 129)
  obtain ⟨bP, hbP⟩ : ∃ g, w.heap.size = g := ⟨_, rfl⟩
  generalize (w.alloc (.cells #[.string p.name, .int .i64 p.w, .int .i64 p.h, .slice A p.l.length c] 43)).alloc (.cells #[.int .u8 a, .int .u8 b] 129) = w0 at hn hb2 ⊢
  rw [hbP] at hn
  try rw [hbP]
  have HXP := Lib.hid hn
  replace HB := Lib.hid hb2
  clear hn hb2 hbP
  go_wp2_with (first | (refine wpList_load_box rfl 43 _ rfl bP _ _ HXP.out rfl _ Tryz.underlying43 rfl (by kernel_rfl) ?_))
  refine (HS.out _ (HR.out.below HB.out)).mono ?_
  rintro e u1w ⟨rfl, hb⟩
  replace HXP := Lib.hid (HXP.out.below hb)
  replace HB := Lib.hid (HB.out.trans (hb.mono HB.out.size))
  clear hb
  obtain ⟨cP0, cP1, cP2, cP3⟩ := box4 HXP.out
  have hwd : decide (p.w < 2) = false := by simpa using hw
  have hhd : decide (p.h < 2) = true := by simpa using hh
  go_wp2_with fail
  refine (awake_laid _ (HL.out.below HB.out)).mono ?_
  rintro e u2w ⟨rfl, hb⟩
  replace HXP := Lib.hid (HXP.out.below hb)
  replace HB := Lib.hid (HB.out.trans (hb.mono HB.out.size))
  clear hb
  go_wp2
  go_ret
  exact trueEnd_mk rfl HB.out
end Go.Proofs.YtlicgblagkkcfaaGreatDoor
