/- Parts of a proof: PictureRound: the walk of the law, by cases. -/
import Derived.Test.YthbdiifinkbcnaaGreatDoorR0
namespace Go.Proofs.YthbdiifinkbcnaaGreatDoor
open Go.RowKit
set_option linter.unusedVariables false
set_option maxRecDepth 100000

set_option maxHeartbeats 8000000 in
theorem round_one (nm : ByteArray) (W H : Nat) (l : List Nat) (hp : (Pic.mk nm W H l).Ok) (hh : H = 1) (A : Option Addr) (c : Nat) (w : World) (hlaid : Laid w) (hsh : shortB (Pic.mk nm W H l) = true) (hcap : l.length ≤ c) (hr : Rd w A (fl l)) : Calls Tryz.prog 12 #[(Pic.mk nm W H l).val A c] w (TrueEnd w) := by
  obtain ⟨hW, hH, hlen, _, hmax⟩ := ok_sizes hp
  have hl4 : l.length ≤ 4096 := hp.big
  have hpos : 0 < (fl l).length := by have := prod_pos hW.1 hH.1; simp [fl]; omega
  obtain ⟨ad, rfl, _, _⟩ := hr.some_ hpos
  have hva := valid_any (Pic.mk nm W H l) (some ad) c w
  obtain ⟨n, hn⟩ : ∃ n, l.length = n := ⟨_, rfl⟩
  have HS : RowKit.Hid (∀ w, Rd w (some ad) (fl l) → Calls Tryz.prog 84 #[.agg #[.string nm, .int .i64 (W : Int), .int .i64 (H : Int), .slice (some ad) n c]] w (BoolEnd true w)) := Lib.hid (fun w hr => by have h := valid_any (Pic.mk nm W H l) (some ad) c w hr; rw [hsh, ok_err hp] at h; rw [← hn]; exact h)
  have hnW : n = W * H := by rw [← hn]; exact hlen
  have hnH : n = H * W := by rw [hnW, Nat.mul_comm]
  have HV := Lib.hid hp; have HN := Lib.hid hn; have HN0 : RowKit.Hid (n ≤ maxLen) := Lib.hid (by rw [← hn]; exact hmax)
  have HSAME : RowKit.Hid (sameF l l = true) := Lib.hid (sameF_self hp.ok)
  obtain ⟨L1, e1⟩ : ∃ L, pickL l (flipN W) n = L := ⟨_, rfl⟩
  obtain ⟨L2, e2⟩ : ∃ L, pickL l (transN W H) n = L := ⟨_, rfl⟩
  obtain ⟨L3, e3⟩ : ∃ L, pickL L1 (transN W H) n = L := ⟨_, rfl⟩
  obtain ⟨L4, e4⟩ : ∃ L, pickL L3 (flipN H) n = L := ⟨_, rfl⟩
  obtain ⟨L5, e5⟩ : ∃ L, pickL L4 (transN H W) n = L := ⟨_, rfl⟩
  have hp1 : (Pic.mk nm W H L1).Ok := by rw [← e1]; exact ok_pick hp hW hH hnW _
  have hp2 : (Pic.mk nm H W L2).Ok := by rw [← e2]; exact ok_pick hp hH hW hnH _
  have hp3 : (Pic.mk nm H W L3).Ok := by rw [← e3]; exact ok_pick hp1 hH hW hnH _
  have hp4 : (Pic.mk nm H W L4).Ok := by rw [← e4]; exact ok_pick hp3 hH hW hnH _
  have hp5 : (Pic.mk nm W H L5).Ok := by rw [← e5]; exact ok_pick hp4 hW hH hnW _
  have n1 : L1.length = n := by rw [← e1, pickL_len]
  have n2 : L2.length = n := by rw [← e2, pickL_len]
  have n3 : L3.length = n := by rw [← e3, pickL_len]
  have n4 : L4.length = n := by rw [← e4, pickL_len]
  have n5 : L5.length = n := by rw [← e5, pickL_len]
  have f1 : pickL L1 (flipN W) n = l := by have h := ff_list l W H hlen; rw [hn, e1] at h; exact h
  have f2 : pickL L2 (transN H W) n = l := by have h := tt_list l W H hlen; rw [hn, e2] at h; exact h
  have f5 : ∀ i, i < n → L5.getD (n - 1 - i) 0 = l.getD i 0 := fun i hi => by
    have h := half_list l W H hlen
    rw [hn, e1, e3, e4, e5] at h
    rw [h, pickL_get _ _ _ _ (by omega)]; congr 1; omega
  obtain ⟨E, hE⟩ : ∃ E, sumF (fun b => lvl b * lvl b) l = E := ⟨_, rfl⟩
  obtain ⟨S, hS⟩ : ∃ S, sumF lvl l = S := ⟨_, rfl⟩
  have q3 : ∀ f : Nat → Int, sumF f L3 = sumF f l := fun f => by
    have a := sumF_flip f l W H hlen; rw [hn, e1] at a
    have b := sumF_trans f L1 W H (by rw [n1]; exact hnW); rw [n1, e3] at b
    rw [b, a]
  have q5 : ∀ f : Nat → Int, sumF f L5 = sumF f l := fun f => by
    have a := sumF_flip f L3 H W (by rw [n3]; exact hnH); rw [n3, e4] at a
    have b := sumF_trans f L4 H W (by rw [n4]; exact hnH); rw [n4, e5] at b
    rw [b, a, q3]
  have HE0 := Lib.hid hE; have HE5 := Lib.hid ((q5 _).trans hE); have HS0 := Lib.hid hS; have HS3 := Lib.hid ((q3 _).trans hS)
  obtain ⟨x1, hx1⟩ : ∃ x : Int, S / (Int.gcd S (16 * n) : Nat) = x := ⟨_, rfl⟩
  obtain ⟨x2, hx2⟩ : ∃ x : Int, 16 * (n : Int) / (Int.gcd S (16 * n) : Nat) = x := ⟨_, rfl⟩
  have HM0 := Lib.hid (fun A c w hr => mean_v hp hn A c w S hS hr)
  have HM3 := Lib.hid (fun A c w hr => mean_v hp3 n3 A c w S ((q3 _).trans hS) hr)
  rw [hx1, hx2] at HM0 HM3
  have heq := fun w => eq_ratio_any x1 x2 w
  have HV1 := Lib.hid hp1; have HV2 := Lib.hid hp2; have HV3 := Lib.hid hp3; have HV4 := Lib.hid hp4; have HV5 := Lib.hid hp5
  have HN1 := Lib.hid n1; have HN2 := Lib.hid n2; have HN3 := Lib.hid n3; have HN4 := Lib.hid n4; have HN5 := Lib.hid n5
  have HP1 := Lib.hid e1; have HP2 := Lib.hid e2; have HP3 := Lib.hid e3; have HP4 := Lib.hid e4; have HP5 := Lib.hid e5
  have HQ1 := Lib.hid f1; have HQ2 := Lib.hid f2; have HQ5 := Lib.hid f5
  have HCH : RowKit.Hid (∀ i, (FloatKind.f32.format.order (l.getD i 0) (l.getD i 0) != some .eq) = false) := Lib.hid (fun i => by have h := eqF_self (chk_getD hp.ok i); unfold eqF at h; simpa using h)
  have hfe : firstE [(Pic.mk nm W H l).err, errIf ((Pic.mk nm W H l).h == 1) 16] = 16 := by rw [ok_err hp]; simp [firstE, errIf, hh]
  have HF3 : RowKit.Hid (∀ g c' w, Rd w (some ⟨g, 0, none⟩) (fl l) → Calls Tryz.prog 46 #[.agg #[.string nm, .int .i64 (W : Int), .int .i64 (H : Int), .slice (some ⟨g, 0, none⟩) n c']] w fun e w' => e = .returned (.tuple #[.agg #[.string ⟨#[]⟩, .int .i64 0, .int .i64 0, .slice none 0 0, .string ⟨#[]⟩, .int .i64 0, .int .i64 0, .slice none 0 0], .int .i64 16]) ∧ Below w.heap.size w w') := Lib.hid (fun g c' w h2 => by have h := fields_err (Pic.mk nm W H l) (some ⟨g, 0, none⟩) c' w (ok_sizes hp).2.2.2.1 hmax h2 16 hfe (by decide); rw [← hn]; exact h)
  clear hfe
  rw [show (Pic.mk nm W H l).val (some ad) c = .agg #[.string nm, .int .i64 (W : Int), .int .i64 (H : Int), .slice (some ad) n c] by unfold Pic.val; rw [hn]]
  have hn4 : n ≤ 4096 := by rw [← hn]; exact hl4
  have hn1 : 1 ≤ n := by rw [hnW]; exact prod_pos hW.1 hH.1
  clear hlen hmax hl4 hpos hva hnW hnH hsh hcap hn hp hp1 hp2 hp3 hp4 hp5 n1 n2 n3 n4 n5 e1 e2 e3 e4 e5 f1 f2 f5 hE hS q3 q5 hx1 hx2
  have HR := Lib.hid hr; clear hr
  have HHH := Lib.hid hh; clear hh
  have HL := Lib.hid hlaid; clear hlaid
  have HB := Lib.hid (Below.refl w.heap.size w)
  go_enter Tryz.func12, Tryz.ntmps12
  go_upto_region 1 with fail
  have hn := Blk.new w 43 #[.string nm, .int .i64 (W : Int), .int .i64 (H : Int), .slice (some ad) n c]
  have hb : Below w.heap.size w (w.alloc (.cells #[.string nm, .int .i64 (W : Int), .int .i64 (H : Int), .slice (some ad) n c] 43)) := (Below.refl _ _).alloc (Nat.le_refl _) _
  have hge := HB.out.size
  obtain ⟨bP, hl⟩ : ∃ b, w.heap.size = b := ⟨_, rfl⟩
  generalize w.alloc (.cells #[.string nm, .int .i64 (W : Int), .int .i64 (H : Int), .slice (some ad) n c] 43) = s0 at hn hb ⊢
  replace HR := Lib.hid (HR.out.below hb); replace HB := Lib.hid (HB.out.trans (hb.mono HB.out.size))
  clear hb
  rw [hl] at hn hge
  try rw [hl]
  have HXP := Lib.hid hn; have HGP := Lib.hid hge; clear hn hl hge
  obtain ⟨cHXP_0, cHXP_1, cHXP_2, cHXP_3⟩ := box4 HXP.out
  go_wp2_with fail
  refine (HS.out _ HR.out).mono ?_
  rintro e s1 ⟨rfl, hb⟩
  replace HR := Lib.hid (HR.out.below hb); replace HXP := Lib.hid (HXP.out.below hb); replace HB := Lib.hid (HB.out.trans (hb.mono HB.out.size))
  clear hb
  clear cHXP_0 cHXP_1 cHXP_2 cHXP_3
  obtain ⟨cHXP_0, cHXP_1, cHXP_2, cHXP_3⟩ := box4 HXP.out
  go_wp2_with fail
  refine (own_v HV.out HN.out _ _ _ HR.out).mono ?_
  rintro e s2 ⟨g, c', rfl, hcc, hrd, hb⟩
  replace HR := Lib.hid (HR.out.below hb); replace HXP := Lib.hid (HXP.out.below hb); replace HB := Lib.hid (HB.out.trans (hb.mono HB.out.size))
  clear hb
  have HO := Lib.hid hrd; clear hrd
  clear cHXP_0 cHXP_1 cHXP_2 cHXP_3
  go_wp2_with fail
  refine (flip_v HV.out HN.out _ _ _ L1 HP1.out hcc HO.out).mono ?_
  rintro e s3 ⟨g1, rfl, hr1, hb⟩
  replace HR := Lib.hid (HR.out.below hb); replace HO := Lib.hid (HO.out.below hb); replace HXP := Lib.hid (HXP.out.below hb); replace HB := Lib.hid (HB.out.trans (hb.mono HB.out.size))
  clear hb
  have HL1 := Lib.hid hr1; clear hr1
  clear hcc
  clear HO
  go_upto_region 4 with fail
  have hn := Blk.new s3 50 #[.string nm, .int .i64 (W : Int), .int .i64 (H : Int), .slice (some ⟨g1, 0, none⟩) n n]
  have hb : Below s3.heap.size s3 (s3.alloc (.cells #[.string nm, .int .i64 (W : Int), .int .i64 (H : Int), .slice (some ⟨g1, 0, none⟩) n n] 50)) := (Below.refl _ _).alloc (Nat.le_refl _) _
  have hge := HB.out.size
  have hlt_HXP := HXP.out.lt
  obtain ⟨bF1, hl⟩ : ∃ b, s3.heap.size = b := ⟨_, rfl⟩
  generalize s3.alloc (.cells #[.string nm, .int .i64 (W : Int), .int .i64 (H : Int), .slice (some ⟨g1, 0, none⟩) n n] 50) = s4 at hn hb ⊢
  replace HR := Lib.hid (HR.out.below hb); replace HL1 := Lib.hid (HL1.out.below hb); replace HXP := Lib.hid (HXP.out.below hb); replace HB := Lib.hid (HB.out.trans (hb.mono HB.out.size))
  clear hb
  rw [hl] at hn hge hlt_HXP
  try rw [hl]
  have HXF1 := Lib.hid hn; have HGF1 := Lib.hid hge; clear hn hl hge
  have HNF1HXP : RowKit.Hid (¬ bP = bF1) := Lib.hid (by omega)
  clear hlt_HXP
  obtain ⟨cHXP_0, cHXP_1, cHXP_2, cHXP_3⟩ := box4 HXP.out
  go_wp2_with fail
  refine (own_v HV.out HN.out _ _ _ HR.out).mono ?_
  rintro e s5 ⟨g, c', rfl, hcc, hrd, hb⟩
  replace HR := Lib.hid (HR.out.below hb); replace HL1 := Lib.hid (HL1.out.below hb); replace HXP := Lib.hid (HXP.out.below hb); replace HXF1 := Lib.hid (HXF1.out.below hb)
  replace HB := Lib.hid (HB.out.trans (hb.mono HB.out.size))
  clear hb
  have HO := Lib.hid hrd; clear hrd
  clear cHXP_0 cHXP_1 cHXP_2 cHXP_3
  go_wp2_with fail
  refine (trans_v HV.out HN.out _ _ _ L2 HP2.out hcc HO.out).mono ?_
  rintro e s6 ⟨g2, rfl, hr1, hb⟩
  replace HR := Lib.hid (HR.out.below hb); replace HL1 := Lib.hid (HL1.out.below hb); replace HO := Lib.hid (HO.out.below hb); replace HXP := Lib.hid (HXP.out.below hb)
  replace HXF1 := Lib.hid (HXF1.out.below hb); replace HB := Lib.hid (HB.out.trans (hb.mono HB.out.size))
  clear hb
  have HL2 := Lib.hid hr1; clear hr1
  clear hcc
  clear HO
  go_upto_region 5 with fail
  have hn := Blk.new s6 50 #[.string nm, .int .i64 (H : Int), .int .i64 (W : Int), .slice (some ⟨g2, 0, none⟩) n n]
  have hb : Below s6.heap.size s6 (s6.alloc (.cells #[.string nm, .int .i64 (H : Int), .int .i64 (W : Int), .slice (some ⟨g2, 0, none⟩) n n] 50)) := (Below.refl _ _).alloc (Nat.le_refl _) _
  have hge := HB.out.size
  have hlt_HXP := HXP.out.lt
  have hlt_HXF1 := HXF1.out.lt
  obtain ⟨bF2, hl⟩ : ∃ b, s6.heap.size = b := ⟨_, rfl⟩
  generalize s6.alloc (.cells #[.string nm, .int .i64 (H : Int), .int .i64 (W : Int), .slice (some ⟨g2, 0, none⟩) n n] 50) = s7 at hn hb ⊢
  replace HR := Lib.hid (HR.out.below hb); replace HL1 := Lib.hid (HL1.out.below hb); replace HL2 := Lib.hid (HL2.out.below hb); replace HXP := Lib.hid (HXP.out.below hb)
  replace HXF1 := Lib.hid (HXF1.out.below hb); replace HB := Lib.hid (HB.out.trans (hb.mono HB.out.size))
  clear hb
  rw [hl] at hn hge hlt_HXP hlt_HXF1
  try rw [hl]
  have HXF2 := Lib.hid hn; have HGF2 := Lib.hid hge; clear hn hl hge
  have HNF2HXP : RowKit.Hid (¬ bP = bF2) := Lib.hid (by omega); have HNF2HXF1 : RowKit.Hid (¬ bF1 = bF2) := Lib.hid (by omega)
  clear hlt_HXP hlt_HXF1
  obtain ⟨cHXF1_0, cHXF1_1, cHXF1_2, cHXF1_3⟩ := box4 HXF1.out
  go_wp2_with fail
  refine (told_any _ _ _ _ _ _ _).mono ?_
  rintro e s8 ⟨rfl, hb⟩
  replace HR := Lib.hid (HR.out.below hb); replace HL1 := Lib.hid (HL1.out.below hb); replace HL2 := Lib.hid (HL2.out.below hb); replace HXP := Lib.hid (HXP.out.below hb)
  replace HXF1 := Lib.hid (HXF1.out.below hb); replace HXF2 := Lib.hid (HXF2.out.below hb); replace HB := Lib.hid (HB.out.trans (hb.mono HB.out.size))
  clear hb
  clear cHXF1_0 cHXF1_1 cHXF1_2 cHXF1_3
  go_wp2_with fail
  refine (own_v HV1.out HN1.out _ _ _ HL1.out).mono ?_
  rintro e s9 ⟨g, c', rfl, hcc, hrd, hb⟩
  replace HR := Lib.hid (HR.out.below hb); replace HL1 := Lib.hid (HL1.out.below hb); replace HL2 := Lib.hid (HL2.out.below hb); replace HXP := Lib.hid (HXP.out.below hb)
  replace HXF1 := Lib.hid (HXF1.out.below hb); replace HXF2 := Lib.hid (HXF2.out.below hb); replace HB := Lib.hid (HB.out.trans (hb.mono HB.out.size))
  clear hb
  have HO := Lib.hid hrd; clear hrd
  go_wp2_with fail
  refine (flip_v HV1.out HN1.out _ _ _ l HQ1.out hcc HO.out).mono ?_
  rintro e s10 ⟨g3, rfl, hr1, hb⟩
  replace HR := Lib.hid (HR.out.below hb); replace HL1 := Lib.hid (HL1.out.below hb); replace HL2 := Lib.hid (HL2.out.below hb); replace HO := Lib.hid (HO.out.below hb)
  replace HXP := Lib.hid (HXP.out.below hb); replace HXF1 := Lib.hid (HXF1.out.below hb); replace HXF2 := Lib.hid (HXF2.out.below hb); replace HB := Lib.hid (HB.out.trans (hb.mono HB.out.size))
  clear hb
  have HL3 := Lib.hid hr1; clear hr1
  clear hcc
  clear HO
  go_upto_region 8 with fail
  have hn := Blk.new s10 50 #[.string nm, .int .i64 (W : Int), .int .i64 (H : Int), .slice (some ⟨g3, 0, none⟩) n n]
  have hb : Below s10.heap.size s10 (s10.alloc (.cells #[.string nm, .int .i64 (W : Int), .int .i64 (H : Int), .slice (some ⟨g3, 0, none⟩) n n] 50)) := (Below.refl _ _).alloc (Nat.le_refl _) _
  have hge := HB.out.size
  have hlt_HXP := HXP.out.lt
  have hlt_HXF1 := HXF1.out.lt
  have hlt_HXF2 := HXF2.out.lt
  obtain ⟨bF3, hl⟩ : ∃ b, s10.heap.size = b := ⟨_, rfl⟩
  generalize s10.alloc (.cells #[.string nm, .int .i64 (W : Int), .int .i64 (H : Int), .slice (some ⟨g3, 0, none⟩) n n] 50) = s11 at hn hb ⊢
  replace HR := Lib.hid (HR.out.below hb); replace HL1 := Lib.hid (HL1.out.below hb); replace HL2 := Lib.hid (HL2.out.below hb); replace HL3 := Lib.hid (HL3.out.below hb)
  replace HXP := Lib.hid (HXP.out.below hb); replace HXF1 := Lib.hid (HXF1.out.below hb); replace HXF2 := Lib.hid (HXF2.out.below hb); replace HB := Lib.hid (HB.out.trans (hb.mono HB.out.size))
  clear hb
  rw [hl] at hn hge hlt_HXP hlt_HXF1 hlt_HXF2
  try rw [hl]
  have HXF3 := Lib.hid hn; have HGF3 := Lib.hid hge; clear hn hl hge
  have HNF3HXP : RowKit.Hid (¬ bP = bF3) := Lib.hid (by omega); have HNF3HXF1 : RowKit.Hid (¬ bF1 = bF3) := Lib.hid (by omega); have HNF3HXF2 : RowKit.Hid (¬ bF2 = bF3) := Lib.hid (by omega)
  clear hlt_HXP hlt_HXF1 hlt_HXF2
  obtain ⟨cHXF2_0, cHXF2_1, cHXF2_2, cHXF2_3⟩ := box4 HXF2.out
  go_wp2_with fail
  refine (told_any _ _ _ _ _ _ _).mono ?_
  rintro e s12 ⟨rfl, hb⟩
  replace HR := Lib.hid (HR.out.below hb); replace HL1 := Lib.hid (HL1.out.below hb); replace HL2 := Lib.hid (HL2.out.below hb); replace HL3 := Lib.hid (HL3.out.below hb)
  replace HXP := Lib.hid (HXP.out.below hb); replace HXF1 := Lib.hid (HXF1.out.below hb); replace HXF2 := Lib.hid (HXF2.out.below hb); replace HXF3 := Lib.hid (HXF3.out.below hb)
  replace HB := Lib.hid (HB.out.trans (hb.mono HB.out.size))
  clear hb
  clear cHXF2_0 cHXF2_1 cHXF2_2 cHXF2_3
  go_wp2_with fail
  refine (own_v HV2.out HN2.out _ _ _ HL2.out).mono ?_
  rintro e s13 ⟨g, c', rfl, hcc, hrd, hb⟩
  replace HR := Lib.hid (HR.out.below hb); replace HL1 := Lib.hid (HL1.out.below hb); replace HL2 := Lib.hid (HL2.out.below hb); replace HL3 := Lib.hid (HL3.out.below hb)
  replace HXP := Lib.hid (HXP.out.below hb); replace HXF1 := Lib.hid (HXF1.out.below hb); replace HXF2 := Lib.hid (HXF2.out.below hb); replace HXF3 := Lib.hid (HXF3.out.below hb)
  replace HB := Lib.hid (HB.out.trans (hb.mono HB.out.size))
  clear hb
  have HO := Lib.hid hrd; clear hrd
  go_wp2_with fail
  refine (trans_v HV2.out HN2.out _ _ _ l HQ2.out hcc HO.out).mono ?_
  rintro e s14 ⟨g4, rfl, hr1, hb⟩
  replace HR := Lib.hid (HR.out.below hb); replace HL1 := Lib.hid (HL1.out.below hb); replace HL2 := Lib.hid (HL2.out.below hb); replace HL3 := Lib.hid (HL3.out.below hb)
  replace HO := Lib.hid (HO.out.below hb); replace HXP := Lib.hid (HXP.out.below hb); replace HXF1 := Lib.hid (HXF1.out.below hb); replace HXF2 := Lib.hid (HXF2.out.below hb)
  replace HXF3 := Lib.hid (HXF3.out.below hb); replace HB := Lib.hid (HB.out.trans (hb.mono HB.out.size))
  clear hb
  have HL4 := Lib.hid hr1; clear hr1
  clear hcc
  clear HO
  go_upto_region 9 with fail
  have hn := Blk.new s14 50 #[.string nm, .int .i64 (W : Int), .int .i64 (H : Int), .slice (some ⟨g4, 0, none⟩) n n]
  have hb : Below s14.heap.size s14 (s14.alloc (.cells #[.string nm, .int .i64 (W : Int), .int .i64 (H : Int), .slice (some ⟨g4, 0, none⟩) n n] 50)) := (Below.refl _ _).alloc (Nat.le_refl _) _
  have hge := HB.out.size
  have hlt_HXP := HXP.out.lt
  have hlt_HXF1 := HXF1.out.lt
  have hlt_HXF2 := HXF2.out.lt
  have hlt_HXF3 := HXF3.out.lt
  obtain ⟨bF4, hl⟩ : ∃ b, s14.heap.size = b := ⟨_, rfl⟩
  generalize s14.alloc (.cells #[.string nm, .int .i64 (W : Int), .int .i64 (H : Int), .slice (some ⟨g4, 0, none⟩) n n] 50) = s15 at hn hb ⊢
  replace HR := Lib.hid (HR.out.below hb); replace HL1 := Lib.hid (HL1.out.below hb); replace HL2 := Lib.hid (HL2.out.below hb); replace HL3 := Lib.hid (HL3.out.below hb)
  replace HL4 := Lib.hid (HL4.out.below hb); replace HXP := Lib.hid (HXP.out.below hb); replace HXF1 := Lib.hid (HXF1.out.below hb); replace HXF2 := Lib.hid (HXF2.out.below hb)
  replace HXF3 := Lib.hid (HXF3.out.below hb); replace HB := Lib.hid (HB.out.trans (hb.mono HB.out.size))
  clear hb
  rw [hl] at hn hge hlt_HXP hlt_HXF1 hlt_HXF2 hlt_HXF3
  try rw [hl]
  have HXF4 := Lib.hid hn; have HGF4 := Lib.hid hge; clear hn hl hge
  have HNF4HXP : RowKit.Hid (¬ bP = bF4) := Lib.hid (by omega); have HNF4HXF1 : RowKit.Hid (¬ bF1 = bF4) := Lib.hid (by omega); have HNF4HXF2 : RowKit.Hid (¬ bF2 = bF4) := Lib.hid (by omega); have HNF4HXF3 : RowKit.Hid (¬ bF3 = bF4) := Lib.hid (by omega)
  clear hlt_HXP hlt_HXF1 hlt_HXF2 hlt_HXF3
  obtain ⟨cHXF1_0, cHXF1_1, cHXF1_2, cHXF1_3⟩ := box4 HXF1.out
  go_wp2_with fail
  refine (told_any _ _ _ _ _ _ _).mono ?_
  rintro e s16 ⟨rfl, hb⟩
  replace HR := Lib.hid (HR.out.below hb); replace HL1 := Lib.hid (HL1.out.below hb); replace HL2 := Lib.hid (HL2.out.below hb); replace HL3 := Lib.hid (HL3.out.below hb)
  replace HL4 := Lib.hid (HL4.out.below hb); replace HXP := Lib.hid (HXP.out.below hb); replace HXF1 := Lib.hid (HXF1.out.below hb); replace HXF2 := Lib.hid (HXF2.out.below hb)
  replace HXF3 := Lib.hid (HXF3.out.below hb); replace HXF4 := Lib.hid (HXF4.out.below hb); replace HB := Lib.hid (HB.out.trans (hb.mono HB.out.size))
  clear hb
  clear cHXF1_0 cHXF1_1 cHXF1_2 cHXF1_3
  go_wp2_with fail
  refine (own_v HV1.out HN1.out _ _ _ HL1.out).mono ?_
  rintro e s17 ⟨g, c', rfl, hcc, hrd, hb⟩
  replace HR := Lib.hid (HR.out.below hb); replace HL1 := Lib.hid (HL1.out.below hb); replace HL2 := Lib.hid (HL2.out.below hb); replace HL3 := Lib.hid (HL3.out.below hb)
  replace HL4 := Lib.hid (HL4.out.below hb); replace HXP := Lib.hid (HXP.out.below hb); replace HXF1 := Lib.hid (HXF1.out.below hb); replace HXF2 := Lib.hid (HXF2.out.below hb)
  replace HXF3 := Lib.hid (HXF3.out.below hb); replace HXF4 := Lib.hid (HXF4.out.below hb); replace HB := Lib.hid (HB.out.trans (hb.mono HB.out.size))
  clear hb
  have HO := Lib.hid hrd; clear hrd
  go_wp2_with fail
  refine (trans_v HV1.out HN1.out _ _ _ L3 HP3.out hcc HO.out).mono ?_
  rintro e s18 ⟨g5, rfl, hr1, hb⟩
  replace HR := Lib.hid (HR.out.below hb); replace HL1 := Lib.hid (HL1.out.below hb); replace HL2 := Lib.hid (HL2.out.below hb); replace HL3 := Lib.hid (HL3.out.below hb)
  replace HL4 := Lib.hid (HL4.out.below hb); replace HO := Lib.hid (HO.out.below hb); replace HXP := Lib.hid (HXP.out.below hb); replace HXF1 := Lib.hid (HXF1.out.below hb)
  replace HXF2 := Lib.hid (HXF2.out.below hb); replace HXF3 := Lib.hid (HXF3.out.below hb); replace HXF4 := Lib.hid (HXF4.out.below hb); replace HB := Lib.hid (HB.out.trans (hb.mono HB.out.size))
  clear hb
  have HL5 := Lib.hid hr1; clear hr1
  clear hcc
  clear HO
  go_upto_region 10 with fail
  have hn := Blk.new s18 50 #[.string nm, .int .i64 (H : Int), .int .i64 (W : Int), .slice (some ⟨g5, 0, none⟩) n n]
  have hb : Below s18.heap.size s18 (s18.alloc (.cells #[.string nm, .int .i64 (H : Int), .int .i64 (W : Int), .slice (some ⟨g5, 0, none⟩) n n] 50)) := (Below.refl _ _).alloc (Nat.le_refl _) _
  have hge := HB.out.size
  have hlt_HXP := HXP.out.lt
  have hlt_HXF1 := HXF1.out.lt
  have hlt_HXF2 := HXF2.out.lt
  have hlt_HXF3 := HXF3.out.lt
  have hlt_HXF4 := HXF4.out.lt
  obtain ⟨bF5, hl⟩ : ∃ b, s18.heap.size = b := ⟨_, rfl⟩
  generalize s18.alloc (.cells #[.string nm, .int .i64 (H : Int), .int .i64 (W : Int), .slice (some ⟨g5, 0, none⟩) n n] 50) = s19 at hn hb ⊢
  replace HR := Lib.hid (HR.out.below hb); replace HL1 := Lib.hid (HL1.out.below hb); replace HL2 := Lib.hid (HL2.out.below hb); replace HL3 := Lib.hid (HL3.out.below hb)
  replace HL4 := Lib.hid (HL4.out.below hb); replace HL5 := Lib.hid (HL5.out.below hb); replace HXP := Lib.hid (HXP.out.below hb); replace HXF1 := Lib.hid (HXF1.out.below hb)
  replace HXF2 := Lib.hid (HXF2.out.below hb); replace HXF3 := Lib.hid (HXF3.out.below hb); replace HXF4 := Lib.hid (HXF4.out.below hb); replace HB := Lib.hid (HB.out.trans (hb.mono HB.out.size))
  clear hb
  rw [hl] at hn hge hlt_HXP hlt_HXF1 hlt_HXF2 hlt_HXF3 hlt_HXF4
  try rw [hl]
  have HXF5 := Lib.hid hn; have HGF5 := Lib.hid hge; clear hn hl hge
  have HNF5HXP : RowKit.Hid (¬ bP = bF5) := Lib.hid (by omega); have HNF5HXF1 : RowKit.Hid (¬ bF1 = bF5) := Lib.hid (by omega); have HNF5HXF2 : RowKit.Hid (¬ bF2 = bF5) := Lib.hid (by omega); have HNF5HXF3 : RowKit.Hid (¬ bF3 = bF5) := Lib.hid (by omega); have HNF5HXF4 : RowKit.Hid (¬ bF4 = bF5) := Lib.hid (by omega)
  clear hlt_HXP hlt_HXF1 hlt_HXF2 hlt_HXF3 hlt_HXF4
  obtain ⟨cHXF3_0, cHXF3_1, cHXF3_2, cHXF3_3⟩ := box4 HXF3.out
  obtain ⟨cHXF4_0, cHXF4_1, cHXF4_2, cHXF4_3⟩ := box4 HXF4.out
  obtain ⟨cHXP_0, cHXP_1, cHXP_2, cHXP_3⟩ := box4 HXP.out
  have zP := HXP.out.lt; have z3 := HXF3.out.lt; have z4 := HXF4.out.lt
  go_region_held3 (SK s19)
    (first | exact sk_drew0 _ | exact sk_drew (by assumption) | assumption | exact sk_call (by assumption) (by assumption) | exact sk_alloc (by assumption) _)
    (first
      | (go_at_call 85; refine (told_any _ _ _ _ _ _ _).mono ?_; rintro e wn ⟨rfl, hbn⟩; have hch := sk_call (w0 := s19) (by assumption) hbn)
      | (go_at_call_of 86 (Value.slice (some ⟨g3, 0, none⟩) n n); refine (samePicture_true nm W H _ _ n _ _ l l _ HN.out HN.out HN0.out HSAME.out (HL3.out.below (And.left (by assumption : SK s19 _))) (HR.out.below (And.left (by assumption : SK s19 _)))).mono ?_; rintro e wn ⟨rfl, hbn⟩; have hch := sk_call (w0 := s19) (by assumption) hbn)
      | (go_at_call_of 86 (Value.slice (some ⟨g4, 0, none⟩) n n); refine (samePicture_true nm W H _ _ n _ _ l l _ HN.out HN.out HN0.out HSAME.out (HL4.out.below (And.left (by assumption : SK s19 _))) (HR.out.below (And.left (by assumption : SK s19 _)))).mono ?_; rintro e wn ⟨rfl, hbn⟩; have hch := sk_call (w0 := s19) (by assumption) hbn))
  have hfin := hch.1
  clear hch hbn zP z3 z4
  clear cHXF3_0 cHXF3_1 cHXF3_2 cHXF3_3 cHXF4_0 cHXF4_1 cHXF4_2 cHXF4_3 cHXP_0 cHXP_1 cHXP_2 cHXP_3
  replace HR := Lib.hid (HR.out.below hfin); replace HL1 := Lib.hid (HL1.out.below hfin); replace HL2 := Lib.hid (HL2.out.below hfin); replace HL3 := Lib.hid (HL3.out.below hfin)
  replace HL4 := Lib.hid (HL4.out.below hfin); replace HL5 := Lib.hid (HL5.out.below hfin); replace HXP := Lib.hid (HXP.out.below hfin); replace HXF1 := Lib.hid (HXF1.out.below hfin)
  replace HXF2 := Lib.hid (HXF2.out.below hfin); replace HXF3 := Lib.hid (HXF3.out.below hfin); replace HXF4 := Lib.hid (HXF4.out.below hfin); replace HXF5 := Lib.hid (HXF5.out.below hfin)
  replace HB := Lib.hid (HB.out.trans (hfin.mono HB.out.size))
  clear hfin
  clear HXF3 HXF4 HL3 HL4 HXF2 HL2
  obtain ⟨cHXF5_0, cHXF5_1, cHXF5_2, cHXF5_3⟩ := box4 HXF5.out
  go_wp2_with fail
  refine (told_any _ _ _ _ _ _ _).mono ?_
  rintro e s21 ⟨rfl, hb⟩
  replace HR := Lib.hid (HR.out.below hb); replace HL1 := Lib.hid (HL1.out.below hb); replace HL5 := Lib.hid (HL5.out.below hb); replace HXP := Lib.hid (HXP.out.below hb)
  replace HXF1 := Lib.hid (HXF1.out.below hb); replace HXF5 := Lib.hid (HXF5.out.below hb); replace HB := Lib.hid (HB.out.trans (hb.mono HB.out.size))
  clear hb
  clear cHXF5_0 cHXF5_1 cHXF5_2 cHXF5_3
  go_wp2_with fail
  refine (own_v HV3.out HN3.out _ _ _ HL5.out).mono ?_
  rintro e s22 ⟨g, c', rfl, hcc, hrd, hb⟩
  replace HR := Lib.hid (HR.out.below hb); replace HL1 := Lib.hid (HL1.out.below hb); replace HL5 := Lib.hid (HL5.out.below hb); replace HXP := Lib.hid (HXP.out.below hb)
  replace HXF1 := Lib.hid (HXF1.out.below hb); replace HXF5 := Lib.hid (HXF5.out.below hb); replace HB := Lib.hid (HB.out.trans (hb.mono HB.out.size))
  clear hb
  have HO := Lib.hid hrd; clear hrd
  go_wp2_with fail
  refine (flip_v HV3.out HN3.out _ _ _ L4 HP4.out hcc HO.out).mono ?_
  rintro e s23 ⟨g6, rfl, hr1, hb⟩
  replace HR := Lib.hid (HR.out.below hb); replace HL1 := Lib.hid (HL1.out.below hb); replace HL5 := Lib.hid (HL5.out.below hb); replace HO := Lib.hid (HO.out.below hb)
  replace HXP := Lib.hid (HXP.out.below hb); replace HXF1 := Lib.hid (HXF1.out.below hb); replace HXF5 := Lib.hid (HXF5.out.below hb); replace HB := Lib.hid (HB.out.trans (hb.mono HB.out.size))
  clear hb
  have HL6 := Lib.hid hr1; clear hr1
  clear hcc
  clear HO
  go_upto_region 13 with fail
  have hn := Blk.new s23 50 #[.string nm, .int .i64 (H : Int), .int .i64 (W : Int), .slice (some ⟨g6, 0, none⟩) n n]
  have hb : Below s23.heap.size s23 (s23.alloc (.cells #[.string nm, .int .i64 (H : Int), .int .i64 (W : Int), .slice (some ⟨g6, 0, none⟩) n n] 50)) := (Below.refl _ _).alloc (Nat.le_refl _) _
  have hge := HB.out.size
  have hlt_HXP := HXP.out.lt
  have hlt_HXF1 := HXF1.out.lt
  have hlt_HXF5 := HXF5.out.lt
  obtain ⟨bF6, hl⟩ : ∃ b, s23.heap.size = b := ⟨_, rfl⟩
  generalize s23.alloc (.cells #[.string nm, .int .i64 (H : Int), .int .i64 (W : Int), .slice (some ⟨g6, 0, none⟩) n n] 50) = s24 at hn hb ⊢
  replace HR := Lib.hid (HR.out.below hb); replace HL1 := Lib.hid (HL1.out.below hb); replace HL5 := Lib.hid (HL5.out.below hb); replace HL6 := Lib.hid (HL6.out.below hb)
  replace HXP := Lib.hid (HXP.out.below hb); replace HXF1 := Lib.hid (HXF1.out.below hb); replace HXF5 := Lib.hid (HXF5.out.below hb); replace HB := Lib.hid (HB.out.trans (hb.mono HB.out.size))
  clear hb
  rw [hl] at hn hge hlt_HXP hlt_HXF1 hlt_HXF5
  try rw [hl]
  have HXF6 := Lib.hid hn; have HGF6 := Lib.hid hge; clear hn hl hge
  have HNF6HXP : RowKit.Hid (¬ bP = bF6) := Lib.hid (by omega); have HNF6HXF1 : RowKit.Hid (¬ bF1 = bF6) := Lib.hid (by omega); have HNF6HXF5 : RowKit.Hid (¬ bF5 = bF6) := Lib.hid (by omega)
  clear hlt_HXP hlt_HXF1 hlt_HXF5
  obtain ⟨cHXF6_0, cHXF6_1, cHXF6_2, cHXF6_3⟩ := box4 HXF6.out
  go_wp2_with fail
  refine (told_any _ _ _ _ _ _ _).mono ?_
  rintro e s25 ⟨rfl, hb⟩
  replace HR := Lib.hid (HR.out.below hb); replace HL1 := Lib.hid (HL1.out.below hb); replace HL5 := Lib.hid (HL5.out.below hb); replace HL6 := Lib.hid (HL6.out.below hb)
  replace HXP := Lib.hid (HXP.out.below hb); replace HXF1 := Lib.hid (HXF1.out.below hb); replace HXF5 := Lib.hid (HXF5.out.below hb); replace HXF6 := Lib.hid (HXF6.out.below hb)
  replace HB := Lib.hid (HB.out.trans (hb.mono HB.out.size))
  clear hb
  clear cHXF6_0 cHXF6_1 cHXF6_2 cHXF6_3
  go_wp2_with fail
  refine (own_v HV4.out HN4.out _ _ _ HL6.out).mono ?_
  rintro e s26 ⟨g, c', rfl, hcc, hrd, hb⟩
  replace HR := Lib.hid (HR.out.below hb); replace HL1 := Lib.hid (HL1.out.below hb); replace HL5 := Lib.hid (HL5.out.below hb); replace HL6 := Lib.hid (HL6.out.below hb)
  replace HXP := Lib.hid (HXP.out.below hb); replace HXF1 := Lib.hid (HXF1.out.below hb); replace HXF5 := Lib.hid (HXF5.out.below hb); replace HXF6 := Lib.hid (HXF6.out.below hb)
  replace HB := Lib.hid (HB.out.trans (hb.mono HB.out.size))
  clear hb
  have HO := Lib.hid hrd; clear hrd
  go_wp2_with fail
  refine (trans_v HV4.out HN4.out _ _ _ L5 HP5.out hcc HO.out).mono ?_
  rintro e s27 ⟨g7, rfl, hr1, hb⟩
  replace HR := Lib.hid (HR.out.below hb); replace HL1 := Lib.hid (HL1.out.below hb); replace HL5 := Lib.hid (HL5.out.below hb); replace HL6 := Lib.hid (HL6.out.below hb)
  replace HO := Lib.hid (HO.out.below hb); replace HXP := Lib.hid (HXP.out.below hb); replace HXF1 := Lib.hid (HXF1.out.below hb); replace HXF5 := Lib.hid (HXF5.out.below hb)
  replace HXF6 := Lib.hid (HXF6.out.below hb); replace HB := Lib.hid (HB.out.trans (hb.mono HB.out.size))
  clear hb
  have HL7 := Lib.hid hr1; clear hr1
  clear hcc
  clear HO
  go_upto_region 14 with fail
  have hn := Blk.new s27 50 #[.string nm, .int .i64 (W : Int), .int .i64 (H : Int), .slice (some ⟨g7, 0, none⟩) n n]
  have hb : Below s27.heap.size s27 (s27.alloc (.cells #[.string nm, .int .i64 (W : Int), .int .i64 (H : Int), .slice (some ⟨g7, 0, none⟩) n n] 50)) := (Below.refl _ _).alloc (Nat.le_refl _) _
  have hge := HB.out.size
  have hlt_HXP := HXP.out.lt
  have hlt_HXF1 := HXF1.out.lt
  have hlt_HXF5 := HXF5.out.lt
  have hlt_HXF6 := HXF6.out.lt
  obtain ⟨bF7, hl⟩ : ∃ b, s27.heap.size = b := ⟨_, rfl⟩
  generalize s27.alloc (.cells #[.string nm, .int .i64 (W : Int), .int .i64 (H : Int), .slice (some ⟨g7, 0, none⟩) n n] 50) = s28 at hn hb ⊢
  replace HR := Lib.hid (HR.out.below hb); replace HL1 := Lib.hid (HL1.out.below hb); replace HL5 := Lib.hid (HL5.out.below hb); replace HL6 := Lib.hid (HL6.out.below hb)
  replace HL7 := Lib.hid (HL7.out.below hb); replace HXP := Lib.hid (HXP.out.below hb); replace HXF1 := Lib.hid (HXF1.out.below hb); replace HXF5 := Lib.hid (HXF5.out.below hb)
  replace HXF6 := Lib.hid (HXF6.out.below hb); replace HB := Lib.hid (HB.out.trans (hb.mono HB.out.size))
  clear hb
  rw [hl] at hn hge hlt_HXP hlt_HXF1 hlt_HXF5 hlt_HXF6
  try rw [hl]
  have HXF7 := Lib.hid hn; have HGF7 := Lib.hid hge; clear hn hl hge
  have HNF7HXP : RowKit.Hid (¬ bP = bF7) := Lib.hid (by omega); have HNF7HXF1 : RowKit.Hid (¬ bF1 = bF7) := Lib.hid (by omega); have HNF7HXF5 : RowKit.Hid (¬ bF5 = bF7) := Lib.hid (by omega); have HNF7HXF6 : RowKit.Hid (¬ bF6 = bF7) := Lib.hid (by omega)
  clear hlt_HXP hlt_HXF1 hlt_HXF5 hlt_HXF6
  clear HXF6 HL6
  obtain ⟨cHXP_0, cHXP_1, cHXP_2, cHXP_3⟩ := box4 HXP.out
  go_wp2_with fail
  refine (own_v HV.out HN.out _ _ _ HR.out).mono ?_
  rintro e s29 ⟨g, c', rfl, hcc, hrd, hb⟩
  replace HR := Lib.hid (HR.out.below hb); replace HL1 := Lib.hid (HL1.out.below hb); replace HL5 := Lib.hid (HL5.out.below hb); replace HL7 := Lib.hid (HL7.out.below hb)
  replace HXP := Lib.hid (HXP.out.below hb); replace HXF1 := Lib.hid (HXF1.out.below hb); replace HXF5 := Lib.hid (HXF5.out.below hb); replace HXF7 := Lib.hid (HXF7.out.below hb)
  replace HB := Lib.hid (HB.out.trans (hb.mono HB.out.size))
  clear hb
  have HO := Lib.hid hrd; clear hrd
  clear cHXP_0 cHXP_1 cHXP_2 cHXP_3
  go_wp2_with fail
  refine (energy_v HV.out HN.out _ _ _ E HE0.out HO.out).mono ?_
  rintro e s30 ⟨rfl, hb⟩
  replace HR := Lib.hid (HR.out.below hb); replace HL1 := Lib.hid (HL1.out.below hb); replace HL5 := Lib.hid (HL5.out.below hb); replace HL7 := Lib.hid (HL7.out.below hb)
  replace HO := Lib.hid (HO.out.below hb); replace HXP := Lib.hid (HXP.out.below hb); replace HXF1 := Lib.hid (HXF1.out.below hb); replace HXF5 := Lib.hid (HXF5.out.below hb)
  replace HXF7 := Lib.hid (HXF7.out.below hb); replace HB := Lib.hid (HB.out.trans (hb.mono HB.out.size))
  clear hb
  clear hcc
  clear HO
  obtain ⟨cHXF7_0, cHXF7_1, cHXF7_2, cHXF7_3⟩ := box4 HXF7.out
  go_wp2_with fail
  refine (told_any _ _ _ _ _ _ _).mono ?_
  rintro e s31 ⟨rfl, hb⟩
  replace HR := Lib.hid (HR.out.below hb); replace HL1 := Lib.hid (HL1.out.below hb); replace HL5 := Lib.hid (HL5.out.below hb); replace HL7 := Lib.hid (HL7.out.below hb)
  replace HXP := Lib.hid (HXP.out.below hb); replace HXF1 := Lib.hid (HXF1.out.below hb); replace HXF5 := Lib.hid (HXF5.out.below hb); replace HXF7 := Lib.hid (HXF7.out.below hb)
  replace HB := Lib.hid (HB.out.trans (hb.mono HB.out.size))
  clear hb
  clear cHXF7_0 cHXF7_1 cHXF7_2 cHXF7_3
  go_wp2_with fail
  refine (own_v HV5.out HN5.out _ _ _ HL7.out).mono ?_
  rintro e s32 ⟨g, c', rfl, hcc, hrd, hb⟩
  replace HR := Lib.hid (HR.out.below hb); replace HL1 := Lib.hid (HL1.out.below hb); replace HL5 := Lib.hid (HL5.out.below hb); replace HL7 := Lib.hid (HL7.out.below hb)
  replace HXP := Lib.hid (HXP.out.below hb); replace HXF1 := Lib.hid (HXF1.out.below hb); replace HXF5 := Lib.hid (HXF5.out.below hb); replace HXF7 := Lib.hid (HXF7.out.below hb)
  replace HB := Lib.hid (HB.out.trans (hb.mono HB.out.size))
  clear hb
  have HO := Lib.hid hrd; clear hrd
  go_wp2_with fail
  refine (energy_v HV5.out HN5.out _ _ _ E HE5.out HO.out).mono ?_
  rintro e s33 ⟨rfl, hb⟩
  replace HR := Lib.hid (HR.out.below hb); replace HL1 := Lib.hid (HL1.out.below hb); replace HL5 := Lib.hid (HL5.out.below hb); replace HL7 := Lib.hid (HL7.out.below hb)
  replace HO := Lib.hid (HO.out.below hb); replace HXP := Lib.hid (HXP.out.below hb); replace HXF1 := Lib.hid (HXF1.out.below hb); replace HXF5 := Lib.hid (HXF5.out.below hb)
  replace HXF7 := Lib.hid (HXF7.out.below hb); replace HB := Lib.hid (HB.out.trans (hb.mono HB.out.size))
  clear hb
  clear hcc
  clear HO
  obtain ⟨cHXP_0, cHXP_1, cHXP_2, cHXP_3⟩ := box4 HXP.out
  go_wp2_with fail
  refine (own_v HV.out HN.out _ _ _ HR.out).mono ?_
  rintro e s34 ⟨g, c', rfl, hcc, hrd, hb⟩
  replace HR := Lib.hid (HR.out.below hb); replace HL1 := Lib.hid (HL1.out.below hb); replace HL5 := Lib.hid (HL5.out.below hb); replace HL7 := Lib.hid (HL7.out.below hb)
  replace HXP := Lib.hid (HXP.out.below hb); replace HXF1 := Lib.hid (HXF1.out.below hb); replace HXF5 := Lib.hid (HXF5.out.below hb); replace HXF7 := Lib.hid (HXF7.out.below hb)
  replace HB := Lib.hid (HB.out.trans (hb.mono HB.out.size))
  clear hb
  have HO := Lib.hid hrd; clear hrd
  clear cHXP_0 cHXP_1 cHXP_2 cHXP_3
  go_wp2_with fail
  refine (HM0.out _ _ _ HO.out).mono ?_
  rintro e s35 ⟨rfl, hb⟩
  replace HR := Lib.hid (HR.out.below hb); replace HL1 := Lib.hid (HL1.out.below hb); replace HL5 := Lib.hid (HL5.out.below hb); replace HL7 := Lib.hid (HL7.out.below hb)
  replace HO := Lib.hid (HO.out.below hb); replace HXP := Lib.hid (HXP.out.below hb); replace HXF1 := Lib.hid (HXF1.out.below hb); replace HXF5 := Lib.hid (HXF5.out.below hb)
  replace HXF7 := Lib.hid (HXF7.out.below hb); replace HB := Lib.hid (HB.out.trans (hb.mono HB.out.size))
  clear hb
  clear hcc
  clear HO
  go_upto_region 17 with fail
  have hn := Blk.new s35 33 #[.int .i64 x1, .int .i64 x2]
  have hb : Below s35.heap.size s35 (s35.alloc (.cells #[.int .i64 x1, .int .i64 x2] 33)) := (Below.refl _ _).alloc (Nat.le_refl _) _
  have hge := HB.out.size
  have hlt_HXP := HXP.out.lt
  have hlt_HXF1 := HXF1.out.lt
  have hlt_HXF5 := HXF5.out.lt
  have hlt_HXF7 := HXF7.out.lt
  obtain ⟨bM1, hl⟩ : ∃ b, s35.heap.size = b := ⟨_, rfl⟩
  generalize s35.alloc (.cells #[.int .i64 x1, .int .i64 x2] 33) = s36 at hn hb ⊢
  replace HR := Lib.hid (HR.out.below hb); replace HL1 := Lib.hid (HL1.out.below hb); replace HL5 := Lib.hid (HL5.out.below hb); replace HL7 := Lib.hid (HL7.out.below hb)
  replace HXP := Lib.hid (HXP.out.below hb); replace HXF1 := Lib.hid (HXF1.out.below hb); replace HXF5 := Lib.hid (HXF5.out.below hb); replace HXF7 := Lib.hid (HXF7.out.below hb)
  replace HB := Lib.hid (HB.out.trans (hb.mono HB.out.size))
  clear hb
  rw [hl] at hn hge hlt_HXP hlt_HXF1 hlt_HXF5 hlt_HXF7
  try rw [hl]
  have HXM1 := Lib.hid hn; have HGM1 := Lib.hid hge; clear hn hl hge
  have HNM1HXP : RowKit.Hid (¬ bP = bM1) := Lib.hid (by omega); have HNM1HXF1 : RowKit.Hid (¬ bF1 = bM1) := Lib.hid (by omega); have HNM1HXF5 : RowKit.Hid (¬ bF5 = bM1) := Lib.hid (by omega); have HNM1HXF7 : RowKit.Hid (¬ bF7 = bM1) := Lib.hid (by omega)
  clear hlt_HXP hlt_HXF1 hlt_HXF5 hlt_HXF7
  obtain ⟨cHXF5_0, cHXF5_1, cHXF5_2, cHXF5_3⟩ := box4 HXF5.out
  go_wp2_with fail
  refine (told_any _ _ _ _ _ _ _).mono ?_
  rintro e s37 ⟨rfl, hb⟩
  replace HR := Lib.hid (HR.out.below hb); replace HL1 := Lib.hid (HL1.out.below hb); replace HL5 := Lib.hid (HL5.out.below hb); replace HL7 := Lib.hid (HL7.out.below hb)
  replace HXP := Lib.hid (HXP.out.below hb); replace HXF1 := Lib.hid (HXF1.out.below hb); replace HXF5 := Lib.hid (HXF5.out.below hb); replace HXF7 := Lib.hid (HXF7.out.below hb)
  replace HXM1 := Lib.hid (HXM1.out.below hb); replace HB := Lib.hid (HB.out.trans (hb.mono HB.out.size))
  clear hb
  clear cHXF5_0 cHXF5_1 cHXF5_2 cHXF5_3
  go_wp2_with fail
  refine (own_v HV3.out HN3.out _ _ _ HL5.out).mono ?_
  rintro e s38 ⟨g, c', rfl, hcc, hrd, hb⟩
  replace HR := Lib.hid (HR.out.below hb); replace HL1 := Lib.hid (HL1.out.below hb); replace HL5 := Lib.hid (HL5.out.below hb); replace HL7 := Lib.hid (HL7.out.below hb)
  replace HXP := Lib.hid (HXP.out.below hb); replace HXF1 := Lib.hid (HXF1.out.below hb); replace HXF5 := Lib.hid (HXF5.out.below hb); replace HXF7 := Lib.hid (HXF7.out.below hb)
  replace HXM1 := Lib.hid (HXM1.out.below hb); replace HB := Lib.hid (HB.out.trans (hb.mono HB.out.size))
  clear hb
  have HO := Lib.hid hrd; clear hrd
  go_wp2_with fail
  refine (HM3.out _ _ _ HO.out).mono ?_
  rintro e s39 ⟨rfl, hb⟩
  replace HR := Lib.hid (HR.out.below hb); replace HL1 := Lib.hid (HL1.out.below hb); replace HL5 := Lib.hid (HL5.out.below hb); replace HL7 := Lib.hid (HL7.out.below hb)
  replace HO := Lib.hid (HO.out.below hb); replace HXP := Lib.hid (HXP.out.below hb); replace HXF1 := Lib.hid (HXF1.out.below hb); replace HXF5 := Lib.hid (HXF5.out.below hb)
  replace HXF7 := Lib.hid (HXF7.out.below hb); replace HXM1 := Lib.hid (HXM1.out.below hb); replace HB := Lib.hid (HB.out.trans (hb.mono HB.out.size))
  clear hb
  clear hcc
  clear HO
  go_upto_region 18 with fail
  have hn := Blk.new s39 33 #[.int .i64 x1, .int .i64 x2]
  have hb : Below s39.heap.size s39 (s39.alloc (.cells #[.int .i64 x1, .int .i64 x2] 33)) := (Below.refl _ _).alloc (Nat.le_refl _) _
  have hge := HB.out.size
  have hlt_HXP := HXP.out.lt
  have hlt_HXF1 := HXF1.out.lt
  have hlt_HXF5 := HXF5.out.lt
  have hlt_HXF7 := HXF7.out.lt
  have hlt_HXM1 := HXM1.out.lt
  obtain ⟨bM2, hl⟩ : ∃ b, s39.heap.size = b := ⟨_, rfl⟩
  generalize s39.alloc (.cells #[.int .i64 x1, .int .i64 x2] 33) = s40 at hn hb ⊢
  replace HR := Lib.hid (HR.out.below hb); replace HL1 := Lib.hid (HL1.out.below hb); replace HL5 := Lib.hid (HL5.out.below hb); replace HL7 := Lib.hid (HL7.out.below hb)
  replace HXP := Lib.hid (HXP.out.below hb); replace HXF1 := Lib.hid (HXF1.out.below hb); replace HXF5 := Lib.hid (HXF5.out.below hb); replace HXF7 := Lib.hid (HXF7.out.below hb)
  replace HXM1 := Lib.hid (HXM1.out.below hb); replace HB := Lib.hid (HB.out.trans (hb.mono HB.out.size))
  clear hb
  rw [hl] at hn hge hlt_HXP hlt_HXF1 hlt_HXF5 hlt_HXF7 hlt_HXM1
  try rw [hl]
  have HXM2 := Lib.hid hn; have HGM2 := Lib.hid hge; clear hn hl hge
  have HNM2HXP : RowKit.Hid (¬ bP = bM2) := Lib.hid (by omega); have HNM2HXF1 : RowKit.Hid (¬ bF1 = bM2) := Lib.hid (by omega); have HNM2HXF5 : RowKit.Hid (¬ bF5 = bM2) := Lib.hid (by omega); have HNM2HXF7 : RowKit.Hid (¬ bF7 = bM2) := Lib.hid (by omega); have HNM2HXM1 : RowKit.Hid (¬ bM1 = bM2) := Lib.hid (by omega)
  clear hlt_HXP hlt_HXF1 hlt_HXF5 hlt_HXF7 hlt_HXM1
  obtain ⟨cHXF7_0, cHXF7_1, cHXF7_2, cHXF7_3⟩ := box4 HXF7.out
  obtain ⟨cHXP_0, cHXP_1, cHXP_2, cHXP_3⟩ := box4 HXP.out
  obtain ⟨cHXM1_0, cHXM1_1⟩ := box2 HXM1.out
  obtain ⟨cHXM2_0, cHXM2_1⟩ := box2 HXM2.out
  go_upto_region 20 with fail
  go_wp2
  clear cHXF7_0 cHXF7_1 cHXF7_2 cHXF7_3 cHXP_0 cHXP_1 cHXP_2 cHXP_3 cHXM1_0 cHXM1_1 cHXM2_0 cHXM2_1
  clear HXM1 HXM2
  go_loopw [187] (fun v wr => ∃ i : Nat, i ≤ n ∧ v = .int .i64 i ∧ Below s40.heap.size s40 wr) (fun v _ => n - (intOf v).toNat)
  case atStart => exact ⟨0, by omega, rfl, Below.refl _ _⟩
  case round =>
    obtain ⟨i, hi, rfl, hbel⟩ := hrel
    by_cases hlt : i < n
    · have hr0 := HR.out.below hbel
      have hr7 := HL7.out.below hbel
      obtain ⟨k0, k1, k2, k3⟩ := box4 (HXP.out.below hbel)
      obtain ⟨j0, j1, j2, j3⟩ := box4 (HXF7.out.below hbel)
      obtain ⟨a, ha⟩ : ∃ a, l.getD i 0 = a := ⟨_, rfl⟩
      obtain ⟨d, hd⟩ : ∃ d, n - 1 - i = d := ⟨_, rfl⟩
      obtain ⟨ad', eA, _, hc1⟩ := hr0.get (k := i) (u := .float .f32 a) (by rw [fl_get (by rw [HN.out]; exact hlt), ha])
      cases eA
      obtain ⟨ad7, e7, _, hc2⟩ := hr7.get (k := d) (u := .float .f32 a) (by rw [fl_get (by rw [HN5.out]; omega), ← hd, HQ5.out i hlt, ha])
      cases e7
      rw [add_start] at hc2
      have hab := HCH.out i
      rw [ha] at hab
      have hdd : (n : Int) - 1 - (i : Int) = (d : Int) := by omega
      have hd1 : d < n := by omega
      have HBE := Lib.hid hbel
      clear hr0 hr7 ha hd hbel
      go_wp2
      go_roundw
      case rel => exact ⟨i + 1, by omega, by go_num, HBE.out⟩
      case measure => simp [intOf]; omega
    · have hie : i = n := by omega
      have hnl : ¬ ((i : Int) < (n : Int)) := by omega
      replace HR := Lib.hid (HR.out.below hbel); replace HL1 := Lib.hid (HL1.out.below hbel); replace HL5 := Lib.hid (HL5.out.below hbel); replace HL7 := Lib.hid (HL7.out.below hbel)
      replace HXP := Lib.hid (HXP.out.below hbel); replace HXF1 := Lib.hid (HXF1.out.below hbel); replace HXF5 := Lib.hid (HXF5.out.below hbel); replace HXF7 := Lib.hid (HXF7.out.below hbel)
      replace HB := Lib.hid (HB.out.trans (hbel.mono HB.out.size))
      clear hbel
      clear HXF7 HL7 HXF5 HL5
      obtain ⟨cHXP_0, cHXP_1, cHXP_2, cHXP_3⟩ := box4 HXP.out
      go_wp2_with fail
      refine (own_v HV.out HN.out _ _ _ HR.out).mono ?_
      rintro e s41 ⟨g, c', rfl, hcc, hrd, hb⟩
      replace HR := Lib.hid (HR.out.below hb); replace HL1 := Lib.hid (HL1.out.below hb); replace HXP := Lib.hid (HXP.out.below hb); replace HXF1 := Lib.hid (HXF1.out.below hb)
      replace HB := Lib.hid (HB.out.trans (hb.mono HB.out.size))
      clear hb
      have HO := Lib.hid hrd; clear hrd
      clear cHXP_0 cHXP_1 cHXP_2 cHXP_3
      have hH2 : (H : Int) < 2 := by have := HHH.out; omega
      go_wp2_with fail
      refine (HF3.out g c' _ HO.out).mono ?_
      rintro e s42 ⟨rfl, hb⟩
      replace HR := Lib.hid (HR.out.below hb); replace HL1 := Lib.hid (HL1.out.below hb); replace HO := Lib.hid (HO.out.below hb); replace HXP := Lib.hid (HXP.out.below hb)
      replace HXF1 := Lib.hid (HXF1.out.below hb); replace HB := Lib.hid (HB.out.trans (hb.mono HB.out.size))
      clear hb
      clear hcc
      clear HO
      go_upto_region 27 with fail
      have hn := Blk.new s42 67 #[.string ⟨#[]⟩, .int .i64 0, .int .i64 0, .slice none 0 0, .string ⟨#[]⟩, .int .i64 0, .int .i64 0, .slice none 0 0]
      have hb : Below s42.heap.size s42 (s42.alloc (.cells #[.string ⟨#[]⟩, .int .i64 0, .int .i64 0, .slice none 0 0, .string ⟨#[]⟩, .int .i64 0, .int .i64 0, .slice none 0 0] 67)) := (Below.refl _ _).alloc (Nat.le_refl _) _
      have hge := HB.out.size
      have hlt_HXP := HXP.out.lt
      have hlt_HXF1 := HXF1.out.lt
      obtain ⟨bLF, hl⟩ : ∃ b, s42.heap.size = b := ⟨_, rfl⟩
      generalize s42.alloc (.cells #[.string ⟨#[]⟩, .int .i64 0, .int .i64 0, .slice none 0 0, .string ⟨#[]⟩, .int .i64 0, .int .i64 0, .slice none 0 0] 67) = s43 at hn hb ⊢
      replace HR := Lib.hid (HR.out.below hb); replace HL1 := Lib.hid (HL1.out.below hb); replace HXP := Lib.hid (HXP.out.below hb); replace HXF1 := Lib.hid (HXF1.out.below hb)
      replace HB := Lib.hid (HB.out.trans (hb.mono HB.out.size))
      clear hb
      rw [hl] at hn hge hlt_HXP hlt_HXF1
      try rw [hl]
      have HXLF := Lib.hid hn; have HGLF := Lib.hid hge; clear hn hl hge
      have HNLFHXP : RowKit.Hid (¬ bP = bLF) := Lib.hid (by omega); have HNLFHXF1 : RowKit.Hid (¬ bF1 = bLF) := Lib.hid (by omega)
      clear hlt_HXP hlt_HXF1
      obtain ⟨cHXP_0, cHXP_1, cHXP_2, cHXP_3⟩ := box4 HXP.out
      go_wp2_with fail
      refine (awake_laid _ (HL.out.below HB.out)).mono ?_
      rintro e uz ⟨rfl, hb⟩
      replace HR := Lib.hid (HR.out.below hb); replace HL1 := Lib.hid (HL1.out.below hb); replace HXP := Lib.hid (HXP.out.below hb); replace HXF1 := Lib.hid (HXF1.out.below hb)
      replace HXLF := Lib.hid (HXLF.out.below hb); replace HB := Lib.hid (HB.out.trans (hb.mono HB.out.size))
      clear hb
      go_wp2
      go_ret
      exact trueEnd_mk rfl HB.out
end Go.Proofs.YthbdiifinkbcnaaGreatDoor
