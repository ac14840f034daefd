/- PictureTiles, for any picture and any two cuts. -/
import Derived.Test.YtlicgblagkkcfaaGreatDoorJc
import Derived.Test.YtlicgblagkkcfaaGreatDoorPJ
import Derived.Test.YtlicgblagkkcfaaGreatDoorPJ
namespace Go.Proofs.YtlicgblagkkcfaaGreatDoor
open Go.RowKit
set_option linter.unusedVariables false
set_option maxRecDepth 100000
def accF (f : Nat → Int) : Nat → Int
  | 0 => 0
  | q + 1 => accF f q + f q
def accM (f : Nat → Int) : Nat → Int
  | 0 => 0
  | q + 1 => max (accM f q) (f q)
theorem mul_bd {u v U V : Int} (h1 : -U ≤ u ∧ u ≤ U) (h2 : 0 ≤ v ∧ v ≤ V) (hU : 0 ≤ U) : -(U * V) ≤ u * v ∧ u * v ≤ U * V := by
  have a1 := Int.mul_le_mul_of_nonneg_right h1.2 h2.1
  have a2 := Int.mul_le_mul_of_nonneg_right h1.1 h2.1
  have a3 := Int.mul_le_mul_of_nonneg_left h2.2 hU
  rw [Int.neg_mul] at a2
  omega
theorem wrap_acc (f : Nat → Int) (B : Int) (hB : 0 ≤ B ∧ B ≤ 1099511627776) (h : ∀ q, -B ≤ f q ∧ f q ≤ B) (q : Nat) (hq : q < 4) : IntKind.i64.wrap (accF f q + f q) = accF f (q + 1) := by
  have h0 := h 0; have h1 := h 1; have h2 := h 2; have h3 := h 3
  match q, hq with
  | 0, _ => simp only [accF]; rw [IntWalk.i64_in _ (by omega)]
  | 1, _ => simp only [accF]; rw [IntWalk.i64_in _ (by omega)]
  | 2, _ => simp only [accF]; rw [IntWalk.i64_in _ (by omega)]
  | 3, _ => simp only [accF]; rw [IntWalk.i64_in _ (by omega)]
theorem mkD_E {nm : ByteArray} {W H : Nat} {l : List Nat} (hp : (Pic.mk nm W H l).Ok) (c r m h : Nat) (h1 : 1 ≤ m ∧ m ≤ 64) (h2 : 1 ≤ h ∧ h ≤ 64) :
    (-1099511627776 ≤ (mkD l W c r m h).E ∧ (mkD l W c r m h).E ≤ 1099511627776) ∧ (-1099511627776 ≤ (mkD l W c r m h).T ∧ (mkD l W c r m h).T ≤ 1099511627776) ∧ 0 ≤ (mkD l W c r m h).P := by
  have hT := tile_ok hp (c := c) (r := r) h1 h2
  have hlv : ∀ b ∈ tileL l W c r m h, -16384 ≤ lvl b ∧ lvl b ≤ 16384 := fun b hb => hT.lv hb
  have hN2 : m * h ≤ 4096 := Nat.le_trans (Nat.mul_le_mul h1.2 h2.2) (by decide)
  have a1 := sumF_bd lvl 16384 _ (by omega) hlv
  have a2 := sumF_bd (fun b => lvl b * lvl b) 268435456 _ (by omega) (fun b hb => by have := sq_bd _ (hlv b hb); show _ ≤ lvl b * lvl b ∧ lvl b * lvl b ≤ _; omega)
  have a3 := peakF_bd _ 0 (by omega) hlv
  rw [tileL_len] at a1 a2
  refine ⟨?_, ?_, a3.1⟩
  · show -1099511627776 ≤ sumF (fun b => lvl b * lvl b) (tileL l W c r m h) ∧ sumF (fun b => lvl b * lvl b) (tileL l W c r m h) ≤ _
    omega
  · show -1099511627776 ≤ sumF lvl (tileL l W c r m h) ∧ sumF lvl (tileL l W c r m h) ≤ _
    omega
/-- The four parts of a picture that is cut behind x columns and y rows. -/
def partsD (l : List Nat) (W x V y K : Nat) : Nat → TileD
  | 0 => mkD l W 0 0 x y
  | 1 => mkD l W x 0 V y
  | 2 => mkD l W 0 y x K
  | _ => mkD l W x y V K
theorem tiles_ok (nm : ByteArray) (W H : Nat) (l : List Nat) (hp : (Pic.mk nm W H l).Ok) (hW2 : 2 ≤ W) (hH2 : 2 ≤ H) (a b : U8) (A : Option Addr) (c : Nat) (w : World) (hlaid : Laid w) (hsh : (shortB (Pic.mk nm W H l) && ((Pic.mk nm W H l).err == 0)) = true) (hcap : l.length ≤ c) (hr : Rd w A (fl l)) :
    Calls Tryz.prog 11 #[(Pic.mk nm W H l).val A c, .agg #[.int .u8 a.1, .int .u8 b.1]] w (TrueEnd w) := by
  obtain ⟨hW, hH, hlen, hs, hmax⟩ := ok_sizes hp
  obtain ⟨n, hn⟩ : ∃ n, l.length = n := ⟨_, rfl⟩
  have hn4 : n ≤ 4096 := by rw [← hn]; exact hp.big
  have hn1 : 1 ≤ n := by rw [← hn, hlen]; exact prod_pos hW.1 hH.1
  have hnW : W * H = n := by rw [← hn, hlen]
  obtain ⟨an, han⟩ : ∃ an : Nat, a.1 = (an : Int) := ⟨a.1.toNat, by have := a.2; omega⟩
  obtain ⟨bn, hbn⟩ : ∃ bn : Nat, b.1 = (bn : Int) := ⟨b.1.toNat, by have := b.2; omega⟩
  have ha2 := a.2; have hb2 := b.2
  obtain ⟨x, hx⟩ : ∃ x, 1 + an % (W - 1) = x := ⟨_, rfl⟩
  obtain ⟨y, hy⟩ : ∃ y, 1 + bn % (H - 1) = y := ⟨_, rfl⟩
  have hx0 : an % (W - 1) < W - 1 := Nat.mod_lt _ (by omega)
  have hy0 : bn % (H - 1) < H - 1 := Nat.mod_lt _ (by omega)
  have hx1 : 1 ≤ x ∧ x + 1 ≤ W := by omega
  have hy1 : 1 ≤ y ∧ y + 1 ≤ H := by omega
  obtain ⟨V, hV⟩ : ∃ V, x + V = W := ⟨W - x, by omega⟩
  obtain ⟨K, hK⟩ : ∃ K, y + K = H := ⟨H - y, by omega⟩
  have hxw : IntKind.i64.wrap (1 + a.1.tmod ((W : Int) - 1)) = (x : Int) := by
    have t1 : a.1.tmod ((W : Int) - 1) = ((an % (W - 1) : Nat) : Int) := by
      rw [han, show (W : Int) - 1 = ((W - 1 : Nat) : Int) by omega, Int.tmod_eq_emod_of_nonneg (by omega)]; exact (Int.natCast_emod an (W - 1)).symm
    rw [t1]
    obtain ⟨q, hq⟩ : ∃ q, an % (W - 1) = q := ⟨_, rfl⟩
    rw [hq] at hx hx0 ⊢
    rw [IntWalk.i64_in _ (by omega)]; omega
  have hyw : IntKind.i64.wrap (1 + b.1.tmod ((H : Int) - 1)) = (y : Int) := by
    have t1 : b.1.tmod ((H : Int) - 1) = ((bn % (H - 1) : Nat) : Int) := by
      rw [hbn, show (H : Int) - 1 = ((H - 1 : Nat) : Int) by omega, Int.tmod_eq_emod_of_nonneg (by omega)]; exact (Int.natCast_emod bn (H - 1)).symm
    rw [t1]
    obtain ⟨q, hq⟩ : ∃ q, bn % (H - 1) = q := ⟨_, rfl⟩
    rw [hq] at hy hy0 ⊢
    rw [IntWalk.i64_in _ (by omega)]; omega
  have hb0 := mkD_E hp 0 0 x y (by omega) (by omega)
  have hb1 := mkD_E hp x 0 V y (by omega) (by omega)
  have hb2' := mkD_E hp 0 y x K (by omega) (by omega)
  have hb3 := mkD_E hp x y V K (by omega) (by omega)
  have hEb : ∀ q, -1099511627776 ≤ (partsD l W x V y K q).E ∧ (partsD l W x V y K q).E ≤ 1099511627776 := fun q => by
    match q with
    | 0 => exact hb0.1
    | 1 => exact hb1.1
    | 2 => exact hb2'.1
    | q + 3 => exact hb3.1
  have hTb : ∀ q, -1099511627776 ≤ (partsD l W x V y K q).T ∧ (partsD l W x V y K q).T ≤ 1099511627776 := fun q => by
    match q with
    | 0 => exact hb0.2.1
    | 1 => exact hb1.2.1
    | 2 => exact hb2'.2.1
    | q + 3 => exact hb3.2.1
  have hlen2 : l.length = (x + V) * (y + K) := by rw [hV, hK]; exact hlen
  have e4 : sumF (fun b => lvl b * lvl b) l = accF (fun q => (partsD l W x V y K q).E) 4 := by
    have h := sumF_four (fun b => lvl b * lvl b) l x V y K hlen2
    rw [hV] at h
    rw [h]; simp only [accF, partsD, mkD]; omega
  have s4 : sumF lvl l = accF (fun q => (partsD l W x V y K q).T) 4 := by
    have h := sumF_four lvl l x V y K hlen2
    rw [hV] at h
    rw [h]; simp only [accF, partsD, mkD]; omega
  have p4 : peakF l 0 = accM (fun q => (partsD l W x V y K q).P) 4 := by
    have h := peakF_four l x V y K hlen2
    rw [hV] at h
    rw [h]
    have q0 := hb0.2.2
    simp only [accM, partsD, mkD] at q0 ⊢
    omega
  have hlv : ∀ b ∈ l, -16384 ≤ lvl b ∧ lvl b ≤ 16384 := fun b hb => hp.lv hb
  have hbd := sumF_bd lvl 16384 l (by omega) hlv
  rw [hn] at hbd
  obtain ⟨g, ma, mb, hg1, hm1, eg, ea, eb, es, en, hle, hge⟩ := mean_parts (sumF lvl l) n hn1 hbd
  have hmb : mb ≤ 16 * (n : Int) := by have h3 := Int.mul_le_mul_of_nonneg_right hg1 (show 0 ≤ mb by omega); rw [Int.one_mul] at h3; rw [en]; exact h3
  have hab := mul_bd (u := ma) (v := (n : Int)) (U := 67108864) (V := 4096) (by omega) (by omega) (by omega)
  have x1 : IntKind.i64.wrap (IntKind.i64.wrap (ma * 16) * (n : Int)) = ma * 16 * (n : Int) := by
    have e : ma * 16 * (n : Int) = 16 * (ma * (n : Int)) := by rw [Int.mul_comm ma 16, Int.mul_assoc]
    rw [IntWalk.i64_in (ma * 16) (by omega), e, IntWalk.i64_in _ (by omega)]
  have x2 : IntKind.i64.wrap (accF (fun q => (partsD l W x V y K q).T) 4 * mb) = ma * 16 * (n : Int) := by
    have e : ma * 16 * (n : Int) = 16 * (ma * (n : Int)) := by rw [Int.mul_comm ma 16, Int.mul_assoc]
    have e2 : sumF lvl l * mb = ma * 16 * (n : Int) := by
      rw [es, Int.mul_assoc ma 16, en, Int.mul_comm g ma, Int.mul_assoc]
    rw [← s4, e2, e, IntWalk.i64_in _ (by omega)]
  have hpv : ∀ (A : Option Addr) (c' : Nat), (Pic.mk nm W H l).val A c' = .agg #[.string nm, .int .i64 (W : Int), .int .i64 (H : Int), .slice A n c'] := fun A c' => by unfold Pic.val; rw [hn]
  have hwhole : tileL l W 0 0 W H = l := tileL_whole l W H hlen
  rw [hpv]
  exact tiles_walk nm W H n l a.1 b.1 (x : Int) (y : Int) ((W : Int) - 1) ((H : Int) - 1) A c w (partsD l W x V y K) (accF fun q => (partsD l W x V y K q).E) (accM fun q => (partsD l W x V y K q).P) (accF fun q => (partsD l W x V y K q).T)
    (by omega) (by omega) (IntWalk.i64_in _ (by omega)) (IntWalk.i64_in _ (by omega)) (by omega) (by omega) (IntWalk.i64_in _ (by omega)) (IntWalk.i64_in _ (by omega)) hxw hyw hr (by rw [← hn]; exact hcap)
    (fun w' hb => awake_laid w' (hlaid.below hb))
    (fun w hr => by have h := valid_any (Pic.mk nm W H l) A c w hr; rw [hsh, hpv] at h; exact h)
    (fun w hr => own_v hp hn A c w hr)
    (fun i k hi hk => by
      have q0 := tile_p hp hn 0 0 x y (by omega) (by omega)
      have q1 := tile_p hp hn x 0 V y (by omega) (by omega)
      have q2 := tile_p hp hn 0 y x K (by omega) (by omega)
      have q3 := tile_p hp hn x y V K (by omega) (by omega)
      rw [show ((0 : Nat) : Int) + (x : Int) = (x : Int) by omega] at q0 q2
      rw [show ((0 : Nat) : Int) + (y : Int) = (y : Int) by omega] at q0 q1
      rw [show (x : Int) + (V : Int) = (W : Int) by omega] at q1 q3
      rw [show (y : Int) + (K : Int) = (H : Int) by omega] at q2 q3
      match i, k, hi, hk with
      | 0, 0, _, _ => exact q0
      | 0, 1, _, _ => exact q1
      | 1, 0, _, _ => exact q2
      | 1, 1, _, _ => exact q3)
    (mkD l W 0 0 W y) (mkD l W 0 y W K) (mkD l W 0 0 x H) (mkD l W x 0 V H) ma mb (ma * 16 * (n : Int))
    (beside_t hp 0 x 0 x V y W (by omega) hV.symm (by omega) (by omega) (by omega) (by omega))
    (beside_t hp 0 x y x V K W (by omega) hV.symm (by omega) (by omega) (by omega) (by omega))
    (above_t hp 0 0 y x y K H (by omega) hK.symm (by omega) (by omega) (by omega) (by omega))
    (above_t hp x 0 y V y K H (by omega) hK.symm (by omega) (by omega) (by omega) (by omega))
    (by have h := above_t hp 0 0 y W y K H (by omega) hK.symm (by omega) (by omega) (by omega) (by omega); rw [hwhole, hnW] at h; exact h)
    (by have h := beside_t hp 0 x 0 x V H W (by omega) hV.symm (by omega) (by omega) (by omega) (by omega); rw [hwhole, hnW] at h; exact h)
    (fun A' c' w h1 h2 => samePicture_true nm W H A' A n c' c l l w hn hn (Nat.le_trans hn4 (by decide)) (sameF_self hp.ok) h1 h2)
    (fun A' c' w h1 => energy_v hp hn A' c' w _ e4 h1)
    (fun A' c' w h1 => by have h3 := peak_ok _ hp (ok_err hp) A' c' w hs hmax h1; rw [hpv] at h3; unfold Pic.peak at h3; rw [p4] at h3; exact h3)
    (fun A' c' w h1 => by have h3 := mean_v hp hn A' c' w _ rfl h1; rw [ea, eb] at h3; exact h3)
    (by omega) x1 x2 rfl rfl rfl (wrap_acc _ 1099511627776 (by omega) hEb) (fun q _ => rfl) (wrap_acc _ 1099511627776 (by omega) hTb)
theorem tiles_any (p : Pic) (a b : U8) (A : Option Addr) (c : Nat) (w : World) (hlaid : Laid w) (hcap : p.l.length ≤ c) (hr : Rd w A (fl p.l)) :
    Calls Tryz.prog 11 #[p.val A c, .agg #[.int .u8 a.1, .int .u8 b.1]] w (TrueEnd w) := by
  by_cases hsh : (shortB p && (p.err == 0)) = true
  · by_cases hw : p.w < 2
    · exact tiles_thin p a.1 b.1 A c w hlaid hr hsh hw
    · by_cases hh : p.h < 2
      · exact tiles_flat p a.1 b.1 A c w hlaid hr hsh hw hh
      · have h2 := hsh
        simp only [Bool.and_eq_true, beq_iff_eq] at h2
        obtain ⟨_, he⟩ := h2
        have hp := ok_of he
        obtain ⟨nm, pw, ph, l⟩ := p
        simp only [] at hw hh
        obtain ⟨W, rfl⟩ : ∃ W : Nat, pw = W := ⟨pw.toNat, by omega⟩
        obtain ⟨H, rfl⟩ : ∃ H : Nat, ph = H := ⟨ph.toNat, by omega⟩
        exact tiles_ok nm W H l hp (by omega) (by omega) a b A c w hlaid hsh hcap hr
  · exact tiles_long p a.1 b.1 A c w hlaid hr (by simpa using hsh)
end Go.Proofs.YtlicgblagkkcfaaGreatDoor
