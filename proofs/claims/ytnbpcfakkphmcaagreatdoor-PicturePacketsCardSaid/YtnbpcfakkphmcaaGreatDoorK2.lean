/- Parts of a proof: PicturePackets: the walk of the law (ngg). PicturePackets: the walk of the law (ngb). PicturePackets: the walk of the law (nbg). PicturePackets: the walk of the law (nbb). PicturePackets: the walk of the law (egg). PicturePackets: the walk of the law (egb). PicturePackets: the walk of the law (long). PicturePackets, for any packets, frame and kind. -/
import Derived.Test.YtnbpcfakkphmcaaGreatDoorK1
namespace Go.Proofs.YtnbpcfakkphmcaaGreatDoor
open Go.RowKit
set_option linter.unusedVariables false
set_option maxRecDepth 100000

set_option maxHeartbeats 2000000 in
theorem packets_ngg (l : List Pk) (n : Nat) (A : Option Addr) (c : Nat) (kind : Int) (sv ov yv : Array Value) (hsv : sv.size = 16) (hov : ov.size = 12) (hyv : yv.size = 12)
    (w : World) (hlaid : Laid w) (hn : l.length = n) (hn2 : n ≤ 1025) (hsh : shortPk n = true) (hr : Rd w A (pksC l))
    (hov1 : ov.all (·.oneCell') = true) (hyv1 : yv.all (·.oneCell') = true)
    (h0 : 0 < n) (hp : ∀ (j : Nat) (v : Value), ov[j]? = some v → (pksC l)[j]? = some v)
    (Fv : Array Value) (hFv : Fv.size = 16) (hFv1 : Fv.all (·.oneCell') = true)
    (R : List Int) (m : Nat) (z : Int) (hm : R.length = m) (hR : m ≤ maxLen)
    (hcp : ∀ w, Calls Tryz.prog 68 #[.agg ov] w fun e w' => e = .returned (.int .i64 0) ∧ Below w.heap.size w w')
    (henc : ∀ w, Calls Tryz.prog 64 #[.agg ov] w fun e w' => e = .returned (.tuple #[.agg Fv, .int .i64 0]) ∧ Below w.heap.size w w')
    (hencR : ∀ w, Calls Tryz.prog 70 #[.agg ov] w fun e w' => e = .returned (.agg Fv) ∧ Below w.heap.size w w')
    (D : Int) (hdec : ∀ w, Calls Tryz.prog 65 #[.agg sv] w fun e w' => e = .returned (.tuple #[.agg yv, .int .i64 D]) ∧ Below w.heap.size w w') (hdecR : ∀ w, Calls Tryz.prog 72 #[.agg sv] w fun e w' => e = .returned (.tuple #[.agg yv, .int .i64 D]) ∧ Below w.heap.size w w')
    (hpks : ∀ A c w, Rd w A (pksC l) → Calls Tryz.prog 67 #[.slice A n c] w fun e w' => ∃ A' c', e = .returned (.slice A' n c') ∧ Rd w' A' (pksC l) ∧ Below w.heap.size w w')
    (P1 : Int) (hcps : ∀ A c w, Rd w A (pksC l) → Calls Tryz.prog 69 #[.slice A n c] w fun e w' => e = .returned (.int .i64 P1) ∧ Below w.heap.size w w')
    (hT : firstE [P1, outs kind 0 255] = 0) (hlost : ∀ A c w, Rd w A (pksC l) → Calls Tryz.prog 66 #[.slice A n c, .int .i64 kind] w fun e w' => ∃ A c, e = .returned (.tuple #[.slice A m c, .int .i64 z]) ∧ Rd w' A (R.map (.int .i64)) ∧ Below w.heap.size w w')
    (hlostR : ∀ A c w, Rd w A (pksC l) → Calls Tryz.prog 71 #[.slice A n c, .int .i64 kind] w fun e w' => ∃ A c, e = .returned (.tuple #[.slice A m c, .int .i64 z]) ∧ Rd w' A (R.map (.int .i64)) ∧ Below w.heap.size w w')
    (heqf : ∀ w, (Op.equalIn 10000 85 (.agg Fv) (.agg Fv)).run Tryz.prog w = .ok true w) (heqp : ∀ w, (Op.equalIn 10000 89 (.agg yv) (.agg yv)).run Tryz.prog w = .ok true w) :
    Calls Tryz.prog 8 #[.slice A n c, .agg sv, .int .i64 kind] w (YesEnd w) := by
  have hiS : (Tryz.prog.info? 85).map (·.size) = some sv.size := by rw [hsv]; kernel_rfl
  have hiO : (Tryz.prog.info? 89).map (·.size) = some ov.size := by rw [hov]; kernel_rfl
  have hiX : (Tryz.prog.info? 92).map (·.size) = some yv.size := by rw [hyv]; kernel_rfl
  have hiY : (Tryz.prog.info? 89).map (·.size) = some yv.size := by rw [hyv]; kernel_rfl
  have hiF : (Tryz.prog.info? 85).map (·.size) = some Fv.size := by rw [hFv]; kernel_rfl
  have hzF : (#[.int .u8 0, .int .u8 0, .int .u8 0, .int .u8 0, .int .u8 0, .int .u8 0, .int .u8 0, .int .u8 0, .int .u8 0, .int .u8 0, .int .u8 0, .int .u8 0, .int .u8 0, .int .u8 0, .int .u8 0, .int .u8 0] : Array Value).size = Fv.size := hFv.symm
  have hzY : (#[.int .i64 0, .int .i64 0, .int .u8 0, .int .u8 0, .int .u8 0, .int .u8 0, .int .u8 0, .int .u8 0, .int .u8 0, .int .u8 0, .int .u8 0, .int .u8 0] : Array Value).size = yv.size := hyv.symm
  have hzO : (#[.int .i64 0, .int .i64 0, .int .u8 0, .int .u8 0, .int .u8 0, .int .u8 0, .int .u8 0, .int .u8 0, .int .u8 0, .int .u8 0, .int .u8 0, .int .u8 0] : Array Value).size = ov.size := hov.symm
  have HIS := Lib.hid hiS; have HIO := Lib.hid hiO; have HIX := Lib.hid hiX; have HIY := Lib.hid hiY; have HIF := Lib.hid hiF; have HZY := Lib.hid hzY; have HZO := Lib.hid hzO
  have HZF := Lib.hid hzF; clear hzF hFv
  
  have Hhlaid := Lib.hid hlaid; have Hhsh := Lib.hid hsh; have Hhr := Lib.hid hr; have Hhcp := Lib.hid hcp; have Hhenc := Lib.hid henc; have Hhdec := Lib.hid hdec; have HhdecR := Lib.hid hdecR; have Hhpks := Lib.hid hpks; have Hhcps := Lib.hid hcps; have HhT := Lib.hid hT; have Hhlost := Lib.hid hlost; have Hheqf := Lib.hid heqf; have Hheqp := Lib.hid heqp; have Hhov1 := Lib.hid hov1; have Hhyv1 := Lib.hid hyv1; have HhencR := Lib.hid hencR; have HhFv1 := Lib.hid hFv1; have HhlostR := Lib.hid hlostR; have Hhm := Lib.hid hm; have HhR := Lib.hid hR
  clear hiS hiO hiX hiY hiF hzY hzO hsv hov hyv hlaid hsh hr hcp henc hdec hdecR hpks hcps hT hlost heqf heqp hov1 hyv1 hencR hFv1 hlostR hm hR  
  have HB := Lib.hid (Below.refl w.heap.size w)
  have hlen : 0 < l.length := by omega
  obtain ⟨ad, rfl, hbl0, hcc0⟩ := Hhr.out (by rw [pksC_len]; omega)
  have HQ : RowKit.Hid (∀ W, Below w.heap.size w W → ∀ (j : Nat) (v : Value), ov[j]? = some v → W.cell? (ad.add j) = some v) := Lib.hid (fun W hb j v hv => (hb.cell (p := ad.add j) (by rw [block_of_add]; exact hbl0)).trans (hcc0 j v (hp j v hv)))
  have h0i : (0 : Int) < n := by omega
  have h0d : decide ((0 : Int) < (n : Int)) = true := by simpa using h0
  clear hbl0 hcc0 hlen hp h0 hn hn2
  go_enter Tryz.func8, Tryz.ntmps8
  go_upto_region 1 with fail
  have hn := Blk.new w 85 sv
  have hb : Below w.heap.size w (w.alloc (.cells sv 85)) := (Below.refl _ _).alloc (Nat.le_refl _) _
  have hge := HB.out.size
  obtain ⟨bS, hl⟩ : ∃ b, w.heap.size = b := ⟨_, rfl⟩
  generalize w.alloc (.cells sv 85) = u1w at hn hb ⊢
  replace HB := Lib.hid (HB.out.trans (hb.mono HB.out.size))
  clear hb
  rw [hl] at hn hge
  try rw [hl]
  have HXS := Lib.hid hn; have HGS := Lib.hid hge; clear hn hl hge
  go_wp2_with fail
  refine (shortPackets_any _ _ _ _).mono ?_
  rintro e _ ⟨rfl, rfl⟩
  rw [Hhsh.out]
  go_upto_region 4 with fail
  have hn := Blk.new u1w 89 #[.int .i64 0, .int .i64 0, .int .u8 0, .int .u8 0, .int .u8 0, .int .u8 0, .int .u8 0, .int .u8 0, .int .u8 0, .int .u8 0, .int .u8 0, .int .u8 0]
  have hb : Below u1w.heap.size u1w (u1w.alloc (.cells #[.int .i64 0, .int .i64 0, .int .u8 0, .int .u8 0, .int .u8 0, .int .u8 0, .int .u8 0, .int .u8 0, .int .u8 0, .int .u8 0, .int .u8 0, .int .u8 0] 89)) := (Below.refl _ _).alloc (Nat.le_refl _) _
  have hge := HB.out.size
  have hlt_S := HXS.out.lt
  obtain ⟨bO, hl⟩ : ∃ b, u1w.heap.size = b := ⟨_, rfl⟩
  generalize u1w.alloc (.cells #[.int .i64 0, .int .i64 0, .int .u8 0, .int .u8 0, .int .u8 0, .int .u8 0, .int .u8 0, .int .u8 0, .int .u8 0, .int .u8 0, .int .u8 0, .int .u8 0] 89) = u2w at hn hb ⊢
  replace HXS := Lib.hid (HXS.out.below hb)
  replace HB := Lib.hid (HB.out.trans (hb.mono HB.out.size))
  clear hb
  rw [hl] at hn hge hlt_S
  try rw [hl]
  have HXO := Lib.hid hn; have HGO := Lib.hid hge; clear hn hl hge
  have HNOS : RowKit.Hid (bS ≠ bO) := Lib.hid (by omega)
  clear hlt_S
  go_upto_region 6 with (first | (refine wpList_load_at rfl 89 _ rfl ad rfl ov _ (HQ.out _ HB.out) Tryz.underlying89 rfl HIO.out ?_) | (refine wpList_store_box rfl 89 _ _ rfl bO _ #[.int .i64 0, .int .i64 0, .int .u8 0, .int .u8 0, .int .u8 0, .int .u8 0, .int .u8 0, .int .u8 0, .int .u8 0, .int .u8 0, .int .u8 0, .int .u8 0] ov HXO.out rfl rfl HIO.out HZO.out Hhov1.out ?_; intro u3w hst hon))
  have hblO := Only.below hon (Below.refl bO _) (Nat.le_refl _)
  replace HXS := Lib.hid (Only.far hon HXS.out HNOS.out)
  replace HXO := hst
  replace HB := Lib.hid (Only.below hon HB.out HGO.out)
  clear hst hon hblO
  go_wp2_with (first | (refine wpList_load_box rfl 89 _ rfl bO _ _ HXO.out rfl _ Tryz.underlying89 rfl HIO.out ?_))
  refine (Hhenc.out _).mono ?_
  rintro e u4w ⟨rfl, hb⟩
  replace HXS := Lib.hid (HXS.out.below hb)
  replace HXO := Lib.hid (HXO.out.below hb)
  replace HB := Lib.hid (HB.out.trans (hb.mono HB.out.size))
  clear hb
  go_upto_region 7 with (first | (refine wpList_alloc_store rfl rfl 85 8 _ rfl rfl rfl rfl #[.int .u8 0, .int .u8 0, .int .u8 0, .int .u8 0, .int .u8 0, .int .u8 0, .int .u8 0, .int .u8 0, .int .u8 0, .int .u8 0, .int .u8 0, .int .u8 0, .int .u8 0, .int .u8 0, .int .u8 0, .int .u8 0] Fv Tryz.zeroValue85 rfl rfl HIF.out HZF.out HhFv1.out ?_))
  have hn := Blk.new u4w 85 Fv
  have hb : Below u4w.heap.size u4w (u4w.alloc (.cells Fv 85)) := (Below.refl _ _).alloc (Nat.le_refl _) _
  have hge := HB.out.size
  have hlt_S := HXS.out.lt
  have hlt_O := HXO.out.lt
  obtain ⟨bF, hl⟩ : ∃ b, u4w.heap.size = b := ⟨_, rfl⟩
  generalize u4w.alloc (.cells Fv 85) = u5w at hn hb ⊢
  replace HXS := Lib.hid (HXS.out.below hb)
  replace HXO := Lib.hid (HXO.out.below hb)
  replace HB := Lib.hid (HB.out.trans (hb.mono HB.out.size))
  clear hb
  rw [hl] at hn hge hlt_S hlt_O
  try rw [hl]
  have HXF := Lib.hid hn; have HGF := Lib.hid hge; clear hn hl hge
  have HNFS : RowKit.Hid (bS ≠ bF) := Lib.hid (by omega); have HNFO : RowKit.Hid (bO ≠ bF) := Lib.hid (by omega)
  clear hlt_S hlt_O
  go_wp2_with (first | (refine wpList_load_box rfl 85 _ rfl bS _ _ HXS.out rfl _ Tryz.underlying85 rfl HIS.out ?_))
  refine (Hhdec.out _).mono ?_
  rintro e u6w ⟨rfl, hb⟩
  replace HXS := Lib.hid (HXS.out.below hb)
  replace HXO := Lib.hid (HXO.out.below hb)
  replace HXF := Lib.hid (HXF.out.below hb)
  replace HB := Lib.hid (HB.out.trans (hb.mono HB.out.size))
  clear hb
  go_upto_region 8 with (first | (refine wpList_alloc_store rfl rfl 92 10 _ rfl rfl rfl rfl #[.int .i64 0, .int .i64 0, .int .u8 0, .int .u8 0, .int .u8 0, .int .u8 0, .int .u8 0, .int .u8 0, .int .u8 0, .int .u8 0, .int .u8 0, .int .u8 0] yv Tryz.zeroValue92 rfl rfl HIX.out HZY.out Hhyv1.out ?_))
  have hn := Blk.new u6w 92 yv
  have hb : Below u6w.heap.size u6w (u6w.alloc (.cells yv 92)) := (Below.refl _ _).alloc (Nat.le_refl _) _
  have hge := HB.out.size
  have hlt_S := HXS.out.lt
  have hlt_O := HXO.out.lt
  have hlt_F := HXF.out.lt
  obtain ⟨bX, hl⟩ : ∃ b, u6w.heap.size = b := ⟨_, rfl⟩
  generalize u6w.alloc (.cells yv 92) = u7w at hn hb ⊢
  replace HXS := Lib.hid (HXS.out.below hb)
  replace HXO := Lib.hid (HXO.out.below hb)
  replace HXF := Lib.hid (HXF.out.below hb)
  replace HB := Lib.hid (HB.out.trans (hb.mono HB.out.size))
  clear hb
  rw [hl] at hn hge hlt_S hlt_O hlt_F
  try rw [hl]
  have HXX := Lib.hid hn; have HGX := Lib.hid hge; clear hn hl hge
  have HNXS : RowKit.Hid (bS ≠ bX) := Lib.hid (by omega); have HNXO : RowKit.Hid (bO ≠ bX) := Lib.hid (by omega); have HNXF : RowKit.Hid (bF ≠ bX) := Lib.hid (by omega)
  clear hlt_S hlt_O hlt_F
  go_wp2_with fail
  refine (Hhpks.out _ _ _ (Hhr.out.below HB.out)).mono ?_
  rintro e u8w ⟨AP, cP, rfl, hrP, hb⟩
  have HRP := Lib.hid hrP; clear hrP
  replace HXS := Lib.hid (HXS.out.below hb)
  replace HXO := Lib.hid (HXO.out.below hb)
  replace HXF := Lib.hid (HXF.out.below hb)
  replace HXX := Lib.hid (HXX.out.below hb)
  replace HB := Lib.hid (HB.out.trans (hb.mono HB.out.size))
  clear hb
  go_wp2_with fail
  refine (Hhlost.out _ _ _ HRP.out).mono ?_
  rintro e u9w ⟨A1, c1, rfl, hr1, hb⟩
  have HDn := Lib.hid (rdB_of hr1); have HMn := Lib.hid (Nat.le_refl u9w.heap.size); clear hr1 HRP
  replace HXS := Lib.hid (HXS.out.below hb)
  replace HXO := Lib.hid (HXO.out.below hb)
  replace HXF := Lib.hid (HXF.out.below hb)
  replace HXX := Lib.hid (HXX.out.below hb)
  replace HB := Lib.hid (HB.out.trans (hb.mono HB.out.size))
  clear hb
  go_wp2_with (first | (refine wpList_load_box rfl 89 _ rfl bO _ _ HXO.out rfl _ Tryz.underlying89 rfl HIO.out ?_))
  refine (Hhcp.out _).mono ?_
  rintro e u10w ⟨rfl, hb⟩
  replace HXS := Lib.hid (HXS.out.below hb)
  replace HXO := Lib.hid (HXO.out.below hb)
  replace HXF := Lib.hid (HXF.out.below hb)
  replace HXX := Lib.hid (HXX.out.below hb)
  replace HDn := Lib.hid (HDn.out.below (hb.mono HMn.out)); replace HMn := Lib.hid (Nat.le_trans HMn.out hb.size)
  replace HB := Lib.hid (HB.out.trans (hb.mono HB.out.size))
  clear hb
  go_wp2_with fail
  refine (Hhcps.out _ _ _ (Hhr.out.below HB.out)).mono ?_
  rintro e u11w ⟨rfl, hb⟩
  replace HXS := Lib.hid (HXS.out.below hb)
  replace HXO := Lib.hid (HXO.out.below hb)
  replace HXF := Lib.hid (HXF.out.below hb)
  replace HXX := Lib.hid (HXX.out.below hb)
  replace HDn := Lib.hid (HDn.out.below (hb.mono HMn.out)); replace HMn := Lib.hid (Nat.le_trans HMn.out hb.size)
  replace HB := Lib.hid (HB.out.trans (hb.mono HB.out.size))
  clear hb
  go_wp2_with fail
  refine (checkRange_any _ _ _ _).mono ?_
  rintro e _ ⟨rfl, rfl⟩
  go_wp2_with fail
  refine (firstL_n _ _ _ [_, _] _ rfl (by simp [maxLen]) (by exact rd_of_blk (Blk.new _ _ _) rfl)).mono ?_
  rintro e _ ⟨rfl, rfl⟩
  rw [HhT.out]
  have hb : Below u11w.heap.size u11w (u11w.alloc (.cells #[.int .i64 P1, .int .i64 (outs kind 0 255)] 3)) := (Below.refl _ _).alloc (Nat.le_refl _) _
  generalize u11w.alloc (.cells #[.int .i64 P1, .int .i64 (outs kind 0 255)] 3) = u12w at hb ⊢
  replace HXS := Lib.hid (HXS.out.below hb)
  replace HXO := Lib.hid (HXO.out.below hb)
  replace HXF := Lib.hid (HXF.out.below hb)
  replace HXX := Lib.hid (HXX.out.below hb)
  replace HDn := Lib.hid (HDn.out.below (hb.mono HMn.out)); replace HMn := Lib.hid (Nat.le_trans HMn.out hb.size)
  replace HB := Lib.hid (HB.out.trans (hb.mono HB.out.size))
  clear hb
  go_upto_region 11 with fail
  have hn := Blk.new u12w 85 #[.int .u8 0, .int .u8 0, .int .u8 0, .int .u8 0, .int .u8 0, .int .u8 0, .int .u8 0, .int .u8 0, .int .u8 0, .int .u8 0, .int .u8 0, .int .u8 0, .int .u8 0, .int .u8 0, .int .u8 0, .int .u8 0]
  have hb : Below u12w.heap.size u12w (u12w.alloc (.cells #[.int .u8 0, .int .u8 0, .int .u8 0, .int .u8 0, .int .u8 0, .int .u8 0, .int .u8 0, .int .u8 0, .int .u8 0, .int .u8 0, .int .u8 0, .int .u8 0, .int .u8 0, .int .u8 0, .int .u8 0, .int .u8 0] 85)) := (Below.refl _ _).alloc (Nat.le_refl _) _
  have hge := HB.out.size
  have hlt_S := HXS.out.lt
  have hlt_O := HXO.out.lt
  have hlt_F := HXF.out.lt
  have hlt_X := HXX.out.lt
  have hm_n := HMn.out
  obtain ⟨bW, hl⟩ : ∃ b, u12w.heap.size = b := ⟨_, rfl⟩
  generalize u12w.alloc (.cells #[.int .u8 0, .int .u8 0, .int .u8 0, .int .u8 0, .int .u8 0, .int .u8 0, .int .u8 0, .int .u8 0, .int .u8 0, .int .u8 0, .int .u8 0, .int .u8 0, .int .u8 0, .int .u8 0, .int .u8 0, .int .u8 0] 85) = u13w at hn hb ⊢
  replace HXS := Lib.hid (HXS.out.below hb)
  replace HXO := Lib.hid (HXO.out.below hb)
  replace HXF := Lib.hid (HXF.out.below hb)
  replace HXX := Lib.hid (HXX.out.below hb)
  replace HDn := Lib.hid (HDn.out.below (hb.mono HMn.out)); replace HMn := Lib.hid (Nat.le_trans HMn.out hb.size)
  replace HB := Lib.hid (HB.out.trans (hb.mono HB.out.size))
  clear hb
  rw [hl] at hn hge hlt_S hlt_O hlt_F hlt_X hm_n
  try rw [hl]
  have HXW := Lib.hid hn; have HGW := Lib.hid hge; clear hn hl hge
  have HNWS : RowKit.Hid (bS ≠ bW) := Lib.hid (by omega); have HNWO : RowKit.Hid (bO ≠ bW) := Lib.hid (by omega); have HNWF : RowKit.Hid (bF ≠ bW) := Lib.hid (by omega); have HNWX : RowKit.Hid (bX ≠ bW) := Lib.hid (by omega)
  clear hlt_S hlt_O hlt_F hlt_X
  have HVWn := Lib.hid hm_n
  clear hm_n
  have HIW : RowKit.Hid ((Tryz.prog.info? 85).map (·.size) = some (#[.int .u8 0, .int .u8 0, .int .u8 0, .int .u8 0, .int .u8 0, .int .u8 0, .int .u8 0, .int .u8 0, .int .u8 0, .int .u8 0, .int .u8 0, .int .u8 0, .int .u8 0, .int .u8 0, .int .u8 0, .int .u8 0] : Array Value).size) := Lib.hid (by kernel_rfl)
  go_wp2_with (first | (refine wpList_load_box rfl 89 _ rfl bO _ _ HXO.out rfl _ Tryz.underlying89 rfl HIO.out ?_))
  refine (HhencR.out _).mono ?_
  rintro e u14w ⟨rfl, hb⟩
  replace HXS := Lib.hid (HXS.out.below hb)
  replace HXO := Lib.hid (HXO.out.below hb)
  replace HXF := Lib.hid (HXF.out.below hb)
  replace HXX := Lib.hid (HXX.out.below hb)
  replace HXW := Lib.hid (HXW.out.below hb)
  replace HDn := Lib.hid (HDn.out.below (hb.mono HMn.out)); replace HMn := Lib.hid (Nat.le_trans HMn.out hb.size)
  replace HB := Lib.hid (HB.out.trans (hb.mono HB.out.size))
  clear hb
  go_upto_region 14 with (first | (refine wpList_store_box rfl 85 _ _ rfl bW _ #[.int .u8 0, .int .u8 0, .int .u8 0, .int .u8 0, .int .u8 0, .int .u8 0, .int .u8 0, .int .u8 0, .int .u8 0, .int .u8 0, .int .u8 0, .int .u8 0, .int .u8 0, .int .u8 0, .int .u8 0, .int .u8 0] Fv HXW.out rfl rfl HIF.out HZF.out HhFv1.out ?_; intro u15w hst hon))
  have hblW := Only.below hon (Below.refl bW _) (Nat.le_refl _)
  replace HXS := Lib.hid (Only.far hon HXS.out HNWS.out)
  replace HXO := Lib.hid (Only.far hon HXO.out HNWO.out)
  replace HXF := Lib.hid (Only.far hon HXF.out HNWF.out)
  replace HXX := Lib.hid (Only.far hon HXX.out HNWX.out)
  replace HXW := hst
  replace HB := Lib.hid (Only.below hon HB.out HGW.out)
  replace HDn := Lib.hid (HDn.out.below (hblW.mono HVWn.out)); replace HMn := Lib.hid (Nat.le_trans HMn.out hblW.size)
  clear hst hon hblW
  replace HIW := HIF
  go_wp2_with fail
  refine (HhlostR.out _ _ _ (Hhr.out.below HB.out)).mono ?_
  rintro e u16w ⟨A2, c2, rfl, hr2, hb⟩
  have HDo := Lib.hid (rdB_of hr2); have HMo := Lib.hid (Nat.le_refl u16w.heap.size); clear hr2
  replace HXS := Lib.hid (HXS.out.below hb)
  replace HXO := Lib.hid (HXO.out.below hb)
  replace HXF := Lib.hid (HXF.out.below hb)
  replace HXX := Lib.hid (HXX.out.below hb)
  replace HXW := Lib.hid (HXW.out.below hb)
  replace HDn := Lib.hid (HDn.out.below (hb.mono HMn.out)); replace HMn := Lib.hid (Nat.le_trans HMn.out hb.size)
  replace HB := Lib.hid (HB.out.trans (hb.mono HB.out.size))
  clear hb
  go_upto_region 16 with fail
  go_wp2_with (first | (refine wpList_load_box rfl 85 _ rfl bS _ _ HXS.out rfl _ Tryz.underlying85 rfl HIS.out ?_))
  refine (HhdecR.out _).mono ?_
  rintro e u17w ⟨rfl, hb⟩
  replace HXS := Lib.hid (HXS.out.below hb)
  replace HXO := Lib.hid (HXO.out.below hb)
  replace HXF := Lib.hid (HXF.out.below hb)
  replace HXX := Lib.hid (HXX.out.below hb)
  replace HXW := Lib.hid (HXW.out.below hb)
  replace HDn := Lib.hid (HDn.out.below (hb.mono HMn.out)); replace HMn := Lib.hid (Nat.le_trans HMn.out hb.size)
  replace HDo := Lib.hid (HDo.out.below (hb.mono HMo.out)); replace HMo := Lib.hid (Nat.le_trans HMo.out hb.size)
  replace HB := Lib.hid (HB.out.trans (hb.mono HB.out.size))
  clear hb
  go_upto_region 17 with (first | (refine wpList_alloc_store rfl rfl 89 18 _ rfl rfl rfl rfl #[.int .i64 0, .int .i64 0, .int .u8 0, .int .u8 0, .int .u8 0, .int .u8 0, .int .u8 0, .int .u8 0, .int .u8 0, .int .u8 0, .int .u8 0, .int .u8 0] yv Tryz.zeroValue89 rfl rfl HIY.out HZY.out Hhyv1.out ?_))
  have hn := Blk.new u17w 89 yv
  have hb : Below u17w.heap.size u17w (u17w.alloc (.cells yv 89)) := (Below.refl _ _).alloc (Nat.le_refl _) _
  have hge := HB.out.size
  have hlt_S := HXS.out.lt
  have hlt_O := HXO.out.lt
  have hlt_F := HXF.out.lt
  have hlt_X := HXX.out.lt
  have hlt_W := HXW.out.lt
  have hm_n := HMn.out
  have hm_o := HMo.out
  obtain ⟨bY, hl⟩ : ∃ b, u17w.heap.size = b := ⟨_, rfl⟩
  generalize u17w.alloc (.cells yv 89) = u18w at hn hb ⊢
  replace HXS := Lib.hid (HXS.out.below hb)
  replace HXO := Lib.hid (HXO.out.below hb)
  replace HXF := Lib.hid (HXF.out.below hb)
  replace HXX := Lib.hid (HXX.out.below hb)
  replace HXW := Lib.hid (HXW.out.below hb)
  replace HDn := Lib.hid (HDn.out.below (hb.mono HMn.out)); replace HMn := Lib.hid (Nat.le_trans HMn.out hb.size)
  replace HDo := Lib.hid (HDo.out.below (hb.mono HMo.out)); replace HMo := Lib.hid (Nat.le_trans HMo.out hb.size)
  replace HB := Lib.hid (HB.out.trans (hb.mono HB.out.size))
  clear hb
  rw [hl] at hn hge hlt_S hlt_O hlt_F hlt_X hlt_W hm_n hm_o
  try rw [hl]
  have HXY := Lib.hid hn; have HGY := Lib.hid hge; clear hn hl hge
  have HNYS : RowKit.Hid (bS ≠ bY) := Lib.hid (by omega); have HNYO : RowKit.Hid (bO ≠ bY) := Lib.hid (by omega); have HNYF : RowKit.Hid (bF ≠ bY) := Lib.hid (by omega); have HNYX : RowKit.Hid (bX ≠ bY) := Lib.hid (by omega); have HNYW : RowKit.Hid (bW ≠ bY) := Lib.hid (by omega)
  clear hlt_S hlt_O hlt_F hlt_X hlt_W
  have HVYn := Lib.hid hm_n; have HVYo := Lib.hid hm_o
  clear hm_n hm_o
  have heqf := Hheqf.out; have heqp := Hheqp.out
  go_wp2_with (first | (refine wpList_load_box rfl 85 _ rfl bF _ _ HXF.out rfl _ Tryz.underlying85 rfl HIF.out ?_) | (refine wpList_load_box rfl 85 _ rfl bW _ _ HXW.out rfl _ Tryz.underlying85 rfl HIW.out ?_) | (refine wpList_load_box rfl 92 _ rfl bX _ _ HXX.out rfl _ Tryz.underlying92 rfl HIX.out ?_) | (refine wpList_load_box rfl 89 _ rfl bY _ _ HXY.out rfl _ Tryz.underlying89 rfl HIY.out ?_))
  clear heqf heqp
  refine (ints_same _ _ _ _ m R _ Hhm.out HhR.out (HDn.out.rd HMn.out) (HDo.out.rd HMo.out)).mono ?_
  rintro e u19w ⟨rfl, hb⟩
  replace HXS := Lib.hid (HXS.out.below hb)
  replace HXO := Lib.hid (HXO.out.below hb)
  replace HXF := Lib.hid (HXF.out.below hb)
  replace HXX := Lib.hid (HXX.out.below hb)
  replace HXW := Lib.hid (HXW.out.below hb)
  replace HXY := Lib.hid (HXY.out.below hb)
  replace HDn := Lib.hid (HDn.out.below (hb.mono HMn.out)); replace HMn := Lib.hid (Nat.le_trans HMn.out hb.size)
  replace HDo := Lib.hid (HDo.out.below (hb.mono HMo.out)); replace HMo := Lib.hid (Nat.le_trans HMo.out hb.size)
  replace HB := Lib.hid (HB.out.trans (hb.mono HB.out.size))
  clear hb
  go_wp2_with fail
  refine (awake_laid _ (Hhlaid.out.below HB.out)).mono ?_
  rintro e u20w ⟨rfl, hb⟩
  replace HXS := Lib.hid (HXS.out.below hb)
  replace HXO := Lib.hid (HXO.out.below hb)
  replace HXF := Lib.hid (HXF.out.below hb)
  replace HXX := Lib.hid (HXX.out.below hb)
  replace HXW := Lib.hid (HXW.out.below hb)
  replace HXY := Lib.hid (HXY.out.below hb)
  replace HDn := Lib.hid (HDn.out.below (hb.mono HMn.out)); replace HMn := Lib.hid (Nat.le_trans HMn.out hb.size)
  replace HDo := Lib.hid (HDo.out.below (hb.mono HMo.out)); replace HMo := Lib.hid (Nat.le_trans HMo.out hb.size)
  replace HB := Lib.hid (HB.out.trans (hb.mono HB.out.size))
  clear hb
  go_wp2
  go_ret
  exact yesEnd_mk rfl HB.out
end Go.Proofs.YtnbpcfakkphmcaaGreatDoor
namespace Go.Proofs.YtnbpcfakkphmcaaGreatDoor
open Go.RowKit
set_option linter.unusedVariables false
set_option maxRecDepth 100000

set_option maxHeartbeats 2000000 in
theorem packets_ngb (l : List Pk) (n : Nat) (A : Option Addr) (c : Nat) (kind : Int) (sv ov yv : Array Value) (hsv : sv.size = 16) (hov : ov.size = 12) (hyv : yv.size = 12)
    (w : World) (hlaid : Laid w) (hn : l.length = n) (hn2 : n ≤ 1025) (hsh : shortPk n = true) (hr : Rd w A (pksC l))
    (hov1 : ov.all (·.oneCell') = true) (hyv1 : yv.all (·.oneCell') = true)
    (h0 : 0 < n) (hp : ∀ (j : Nat) (v : Value), ov[j]? = some v → (pksC l)[j]? = some v)
    (Fv : Array Value) (hFv : Fv.size = 16) (hFv1 : Fv.all (·.oneCell') = true)
    (T : Int) (hTb : T ≠ 0)
    (hcp : ∀ w, Calls Tryz.prog 68 #[.agg ov] w fun e w' => e = .returned (.int .i64 0) ∧ Below w.heap.size w w')
    (henc : ∀ w, Calls Tryz.prog 64 #[.agg ov] w fun e w' => e = .returned (.tuple #[.agg Fv, .int .i64 0]) ∧ Below w.heap.size w w')
    (hencR : ∀ w, Calls Tryz.prog 70 #[.agg ov] w fun e w' => e = .returned (.agg Fv) ∧ Below w.heap.size w w')
    (D : Int) (hdec : ∀ w, Calls Tryz.prog 65 #[.agg sv] w fun e w' => e = .returned (.tuple #[.agg yv, .int .i64 D]) ∧ Below w.heap.size w w') (hdecR : ∀ w, Calls Tryz.prog 72 #[.agg sv] w fun e w' => e = .returned (.tuple #[.agg yv, .int .i64 D]) ∧ Below w.heap.size w w')
    (hpks : ∀ A c w, Rd w A (pksC l) → Calls Tryz.prog 67 #[.slice A n c] w fun e w' => ∃ A' c', e = .returned (.slice A' n c') ∧ Rd w' A' (pksC l) ∧ Below w.heap.size w w')
    (P1 : Int) (hcps : ∀ A c w, Rd w A (pksC l) → Calls Tryz.prog 69 #[.slice A n c] w fun e w' => e = .returned (.int .i64 P1) ∧ Below w.heap.size w w')
    (hT : firstE [P1, outs kind 0 255] = T) (hlost : ∀ A c w, Rd w A (pksC l) → Calls Tryz.prog 66 #[.slice A n c, .int .i64 kind] w fun e w' => ∃ A c, e = .returned (.tuple #[.slice A 0 c, .int .i64 T]) ∧ Rd w' A ([].map (.int .i64)) ∧ Below w.heap.size w w')
    (heqf : ∀ w, (Op.equalIn 10000 85 (.agg Fv) (.agg Fv)).run Tryz.prog w = .ok true w) (heqp : ∀ w, (Op.equalIn 10000 89 (.agg yv) (.agg yv)).run Tryz.prog w = .ok true w) :
    Calls Tryz.prog 8 #[.slice A n c, .agg sv, .int .i64 kind] w (YesEnd w) := by
  have hiS : (Tryz.prog.info? 85).map (·.size) = some sv.size := by rw [hsv]; kernel_rfl
  have hiO : (Tryz.prog.info? 89).map (·.size) = some ov.size := by rw [hov]; kernel_rfl
  have hiX : (Tryz.prog.info? 92).map (·.size) = some yv.size := by rw [hyv]; kernel_rfl
  have hiY : (Tryz.prog.info? 89).map (·.size) = some yv.size := by rw [hyv]; kernel_rfl
  have hiF : (Tryz.prog.info? 85).map (·.size) = some Fv.size := by rw [hFv]; kernel_rfl
  have hzF : (#[.int .u8 0, .int .u8 0, .int .u8 0, .int .u8 0, .int .u8 0, .int .u8 0, .int .u8 0, .int .u8 0, .int .u8 0, .int .u8 0, .int .u8 0, .int .u8 0, .int .u8 0, .int .u8 0, .int .u8 0, .int .u8 0] : Array Value).size = Fv.size := hFv.symm
  have hzY : (#[.int .i64 0, .int .i64 0, .int .u8 0, .int .u8 0, .int .u8 0, .int .u8 0, .int .u8 0, .int .u8 0, .int .u8 0, .int .u8 0, .int .u8 0, .int .u8 0] : Array Value).size = yv.size := hyv.symm
  have hzO : (#[.int .i64 0, .int .i64 0, .int .u8 0, .int .u8 0, .int .u8 0, .int .u8 0, .int .u8 0, .int .u8 0, .int .u8 0, .int .u8 0, .int .u8 0, .int .u8 0] : Array Value).size = ov.size := hov.symm
  have HIS := Lib.hid hiS; have HIO := Lib.hid hiO; have HIX := Lib.hid hiX; have HIY := Lib.hid hiY; have HIF := Lib.hid hiF; have HZY := Lib.hid hzY; have HZO := Lib.hid hzO
  have HZF := Lib.hid hzF; clear hzF hFv
  have HTB : (T == 0) = false := by simp [hTb]
  have Hhlaid := Lib.hid hlaid; have Hhsh := Lib.hid hsh; have Hhr := Lib.hid hr; have Hhcp := Lib.hid hcp; have Hhenc := Lib.hid henc; have Hhdec := Lib.hid hdec; have HhdecR := Lib.hid hdecR; have Hhpks := Lib.hid hpks; have Hhcps := Lib.hid hcps; have HhT := Lib.hid hT; have Hhlost := Lib.hid hlost; have Hheqf := Lib.hid heqf; have Hheqp := Lib.hid heqp; have Hhov1 := Lib.hid hov1; have Hhyv1 := Lib.hid hyv1; have HhencR := Lib.hid hencR; have HhFv1 := Lib.hid hFv1
  clear hiS hiO hiX hiY hiF hzY hzO hsv hov hyv hlaid hsh hr hcp henc hdec hdecR hpks hcps hT hlost heqf heqp hov1 hyv1 hencR hFv1  hTb
  have HB := Lib.hid (Below.refl w.heap.size w)
  have hlen : 0 < l.length := by omega
  obtain ⟨ad, rfl, hbl0, hcc0⟩ := Hhr.out (by rw [pksC_len]; omega)
  have HQ : RowKit.Hid (∀ W, Below w.heap.size w W → ∀ (j : Nat) (v : Value), ov[j]? = some v → W.cell? (ad.add j) = some v) := Lib.hid (fun W hb j v hv => (hb.cell (p := ad.add j) (by rw [block_of_add]; exact hbl0)).trans (hcc0 j v (hp j v hv)))
  have h0i : (0 : Int) < n := by omega
  have h0d : decide ((0 : Int) < (n : Int)) = true := by simpa using h0
  clear hbl0 hcc0 hlen hp h0 hn hn2
  go_enter Tryz.func8, Tryz.ntmps8
  go_upto_region 1 with fail
  have hn := Blk.new w 85 sv
  have hb : Below w.heap.size w (w.alloc (.cells sv 85)) := (Below.refl _ _).alloc (Nat.le_refl _) _
  have hge := HB.out.size
  obtain ⟨bS, hl⟩ : ∃ b, w.heap.size = b := ⟨_, rfl⟩
  generalize w.alloc (.cells sv 85) = u1w at hn hb ⊢
  replace HB := Lib.hid (HB.out.trans (hb.mono HB.out.size))
  clear hb
  rw [hl] at hn hge
  try rw [hl]
  have HXS := Lib.hid hn; have HGS := Lib.hid hge; clear hn hl hge
  go_wp2_with fail
  refine (shortPackets_any _ _ _ _).mono ?_
  rintro e _ ⟨rfl, rfl⟩
  rw [Hhsh.out]
  go_upto_region 4 with fail
  have hn := Blk.new u1w 89 #[.int .i64 0, .int .i64 0, .int .u8 0, .int .u8 0, .int .u8 0, .int .u8 0, .int .u8 0, .int .u8 0, .int .u8 0, .int .u8 0, .int .u8 0, .int .u8 0]
  have hb : Below u1w.heap.size u1w (u1w.alloc (.cells #[.int .i64 0, .int .i64 0, .int .u8 0, .int .u8 0, .int .u8 0, .int .u8 0, .int .u8 0, .int .u8 0, .int .u8 0, .int .u8 0, .int .u8 0, .int .u8 0] 89)) := (Below.refl _ _).alloc (Nat.le_refl _) _
  have hge := HB.out.size
  have hlt_S := HXS.out.lt
  obtain ⟨bO, hl⟩ : ∃ b, u1w.heap.size = b := ⟨_, rfl⟩
  generalize u1w.alloc (.cells #[.int .i64 0, .int .i64 0, .int .u8 0, .int .u8 0, .int .u8 0, .int .u8 0, .int .u8 0, .int .u8 0, .int .u8 0, .int .u8 0, .int .u8 0, .int .u8 0] 89) = u2w at hn hb ⊢
  replace HXS := Lib.hid (HXS.out.below hb)
  replace HB := Lib.hid (HB.out.trans (hb.mono HB.out.size))
  clear hb
  rw [hl] at hn hge hlt_S
  try rw [hl]
  have HXO := Lib.hid hn; have HGO := Lib.hid hge; clear hn hl hge
  have HNOS : RowKit.Hid (bS ≠ bO) := Lib.hid (by omega)
  clear hlt_S
  go_upto_region 6 with (first | (refine wpList_load_at rfl 89 _ rfl ad rfl ov _ (HQ.out _ HB.out) Tryz.underlying89 rfl HIO.out ?_) | (refine wpList_store_box rfl 89 _ _ rfl bO _ #[.int .i64 0, .int .i64 0, .int .u8 0, .int .u8 0, .int .u8 0, .int .u8 0, .int .u8 0, .int .u8 0, .int .u8 0, .int .u8 0, .int .u8 0, .int .u8 0] ov HXO.out rfl rfl HIO.out HZO.out Hhov1.out ?_; intro u3w hst hon))
  have hblO := Only.below hon (Below.refl bO _) (Nat.le_refl _)
  replace HXS := Lib.hid (Only.far hon HXS.out HNOS.out)
  replace HXO := hst
  replace HB := Lib.hid (Only.below hon HB.out HGO.out)
  clear hst hon hblO
  go_wp2_with (first | (refine wpList_load_box rfl 89 _ rfl bO _ _ HXO.out rfl _ Tryz.underlying89 rfl HIO.out ?_))
  refine (Hhenc.out _).mono ?_
  rintro e u4w ⟨rfl, hb⟩
  replace HXS := Lib.hid (HXS.out.below hb)
  replace HXO := Lib.hid (HXO.out.below hb)
  replace HB := Lib.hid (HB.out.trans (hb.mono HB.out.size))
  clear hb
  go_upto_region 7 with (first | (refine wpList_alloc_store rfl rfl 85 8 _ rfl rfl rfl rfl #[.int .u8 0, .int .u8 0, .int .u8 0, .int .u8 0, .int .u8 0, .int .u8 0, .int .u8 0, .int .u8 0, .int .u8 0, .int .u8 0, .int .u8 0, .int .u8 0, .int .u8 0, .int .u8 0, .int .u8 0, .int .u8 0] Fv Tryz.zeroValue85 rfl rfl HIF.out HZF.out HhFv1.out ?_))
  have hn := Blk.new u4w 85 Fv
  have hb : Below u4w.heap.size u4w (u4w.alloc (.cells Fv 85)) := (Below.refl _ _).alloc (Nat.le_refl _) _
  have hge := HB.out.size
  have hlt_S := HXS.out.lt
  have hlt_O := HXO.out.lt
  obtain ⟨bF, hl⟩ : ∃ b, u4w.heap.size = b := ⟨_, rfl⟩
  generalize u4w.alloc (.cells Fv 85) = u5w at hn hb ⊢
  replace HXS := Lib.hid (HXS.out.below hb)
  replace HXO := Lib.hid (HXO.out.below hb)
  replace HB := Lib.hid (HB.out.trans (hb.mono HB.out.size))
  clear hb
  rw [hl] at hn hge hlt_S hlt_O
  try rw [hl]
  have HXF := Lib.hid hn; have HGF := Lib.hid hge; clear hn hl hge
  have HNFS : RowKit.Hid (bS ≠ bF) := Lib.hid (by omega); have HNFO : RowKit.Hid (bO ≠ bF) := Lib.hid (by omega)
  clear hlt_S hlt_O
  go_wp2_with (first | (refine wpList_load_box rfl 85 _ rfl bS _ _ HXS.out rfl _ Tryz.underlying85 rfl HIS.out ?_))
  refine (Hhdec.out _).mono ?_
  rintro e u6w ⟨rfl, hb⟩
  replace HXS := Lib.hid (HXS.out.below hb)
  replace HXO := Lib.hid (HXO.out.below hb)
  replace HXF := Lib.hid (HXF.out.below hb)
  replace HB := Lib.hid (HB.out.trans (hb.mono HB.out.size))
  clear hb
  go_upto_region 8 with (first | (refine wpList_alloc_store rfl rfl 92 10 _ rfl rfl rfl rfl #[.int .i64 0, .int .i64 0, .int .u8 0, .int .u8 0, .int .u8 0, .int .u8 0, .int .u8 0, .int .u8 0, .int .u8 0, .int .u8 0, .int .u8 0, .int .u8 0] yv Tryz.zeroValue92 rfl rfl HIX.out HZY.out Hhyv1.out ?_))
  have hn := Blk.new u6w 92 yv
  have hb : Below u6w.heap.size u6w (u6w.alloc (.cells yv 92)) := (Below.refl _ _).alloc (Nat.le_refl _) _
  have hge := HB.out.size
  have hlt_S := HXS.out.lt
  have hlt_O := HXO.out.lt
  have hlt_F := HXF.out.lt
  obtain ⟨bX, hl⟩ : ∃ b, u6w.heap.size = b := ⟨_, rfl⟩
  generalize u6w.alloc (.cells yv 92) = u7w at hn hb ⊢
  replace HXS := Lib.hid (HXS.out.below hb)
  replace HXO := Lib.hid (HXO.out.below hb)
  replace HXF := Lib.hid (HXF.out.below hb)
  replace HB := Lib.hid (HB.out.trans (hb.mono HB.out.size))
  clear hb
  rw [hl] at hn hge hlt_S hlt_O hlt_F
  try rw [hl]
  have HXX := Lib.hid hn; have HGX := Lib.hid hge; clear hn hl hge
  have HNXS : RowKit.Hid (bS ≠ bX) := Lib.hid (by omega); have HNXO : RowKit.Hid (bO ≠ bX) := Lib.hid (by omega); have HNXF : RowKit.Hid (bF ≠ bX) := Lib.hid (by omega)
  clear hlt_S hlt_O hlt_F
  go_wp2_with fail
  refine (Hhpks.out _ _ _ (Hhr.out.below HB.out)).mono ?_
  rintro e u8w ⟨AP, cP, rfl, hrP, hb⟩
  have HRP := Lib.hid hrP; clear hrP
  replace HXS := Lib.hid (HXS.out.below hb)
  replace HXO := Lib.hid (HXO.out.below hb)
  replace HXF := Lib.hid (HXF.out.below hb)
  replace HXX := Lib.hid (HXX.out.below hb)
  replace HB := Lib.hid (HB.out.trans (hb.mono HB.out.size))
  clear hb
  go_wp2_with fail
  refine (Hhlost.out _ _ _ HRP.out).mono ?_
  rintro e u9w ⟨A1, c1, rfl, hr1, hb⟩
  have HDn := Lib.hid (rdB_of hr1); have HMn := Lib.hid (Nat.le_refl u9w.heap.size); clear hr1 HRP
  replace HXS := Lib.hid (HXS.out.below hb)
  replace HXO := Lib.hid (HXO.out.below hb)
  replace HXF := Lib.hid (HXF.out.below hb)
  replace HXX := Lib.hid (HXX.out.below hb)
  replace HB := Lib.hid (HB.out.trans (hb.mono HB.out.size))
  clear hb
  go_wp2_with (first | (refine wpList_load_box rfl 89 _ rfl bO _ _ HXO.out rfl _ Tryz.underlying89 rfl HIO.out ?_))
  refine (Hhcp.out _).mono ?_
  rintro e u10w ⟨rfl, hb⟩
  replace HXS := Lib.hid (HXS.out.below hb)
  replace HXO := Lib.hid (HXO.out.below hb)
  replace HXF := Lib.hid (HXF.out.below hb)
  replace HXX := Lib.hid (HXX.out.below hb)
  replace HDn := Lib.hid (HDn.out.below (hb.mono HMn.out)); replace HMn := Lib.hid (Nat.le_trans HMn.out hb.size)
  replace HB := Lib.hid (HB.out.trans (hb.mono HB.out.size))
  clear hb
  go_wp2_with fail
  refine (Hhcps.out _ _ _ (Hhr.out.below HB.out)).mono ?_
  rintro e u11w ⟨rfl, hb⟩
  replace HXS := Lib.hid (HXS.out.below hb)
  replace HXO := Lib.hid (HXO.out.below hb)
  replace HXF := Lib.hid (HXF.out.below hb)
  replace HXX := Lib.hid (HXX.out.below hb)
  replace HDn := Lib.hid (HDn.out.below (hb.mono HMn.out)); replace HMn := Lib.hid (Nat.le_trans HMn.out hb.size)
  replace HB := Lib.hid (HB.out.trans (hb.mono HB.out.size))
  clear hb
  go_wp2_with fail
  refine (checkRange_any _ _ _ _).mono ?_
  rintro e _ ⟨rfl, rfl⟩
  go_wp2_with fail
  refine (firstL_n _ _ _ [_, _] _ rfl (by simp [maxLen]) (by exact rd_of_blk (Blk.new _ _ _) rfl)).mono ?_
  rintro e _ ⟨rfl, rfl⟩
  rw [HhT.out]
  have hb : Below u11w.heap.size u11w (u11w.alloc (.cells #[.int .i64 P1, .int .i64 (outs kind 0 255)] 3)) := (Below.refl _ _).alloc (Nat.le_refl _) _
  generalize u11w.alloc (.cells #[.int .i64 P1, .int .i64 (outs kind 0 255)] 3) = u12w at hb ⊢
  replace HXS := Lib.hid (HXS.out.below hb)
  replace HXO := Lib.hid (HXO.out.below hb)
  replace HXF := Lib.hid (HXF.out.below hb)
  replace HXX := Lib.hid (HXX.out.below hb)
  replace HDn := Lib.hid (HDn.out.below (hb.mono HMn.out)); replace HMn := Lib.hid (Nat.le_trans HMn.out hb.size)
  replace HB := Lib.hid (HB.out.trans (hb.mono HB.out.size))
  clear hb
  go_upto_region 11 with fail
  have hn := Blk.new u12w 85 #[.int .u8 0, .int .u8 0, .int .u8 0, .int .u8 0, .int .u8 0, .int .u8 0, .int .u8 0, .int .u8 0, .int .u8 0, .int .u8 0, .int .u8 0, .int .u8 0, .int .u8 0, .int .u8 0, .int .u8 0, .int .u8 0]
  have hb : Below u12w.heap.size u12w (u12w.alloc (.cells #[.int .u8 0, .int .u8 0, .int .u8 0, .int .u8 0, .int .u8 0, .int .u8 0, .int .u8 0, .int .u8 0, .int .u8 0, .int .u8 0, .int .u8 0, .int .u8 0, .int .u8 0, .int .u8 0, .int .u8 0, .int .u8 0] 85)) := (Below.refl _ _).alloc (Nat.le_refl _) _
  have hge := HB.out.size
  have hlt_S := HXS.out.lt
  have hlt_O := HXO.out.lt
  have hlt_F := HXF.out.lt
  have hlt_X := HXX.out.lt
  have hm_n := HMn.out
  obtain ⟨bW, hl⟩ : ∃ b, u12w.heap.size = b := ⟨_, rfl⟩
  generalize u12w.alloc (.cells #[.int .u8 0, .int .u8 0, .int .u8 0, .int .u8 0, .int .u8 0, .int .u8 0, .int .u8 0, .int .u8 0, .int .u8 0, .int .u8 0, .int .u8 0, .int .u8 0, .int .u8 0, .int .u8 0, .int .u8 0, .int .u8 0] 85) = u13w at hn hb ⊢
  replace HXS := Lib.hid (HXS.out.below hb)
  replace HXO := Lib.hid (HXO.out.below hb)
  replace HXF := Lib.hid (HXF.out.below hb)
  replace HXX := Lib.hid (HXX.out.below hb)
  replace HDn := Lib.hid (HDn.out.below (hb.mono HMn.out)); replace HMn := Lib.hid (Nat.le_trans HMn.out hb.size)
  replace HB := Lib.hid (HB.out.trans (hb.mono HB.out.size))
  clear hb
  rw [hl] at hn hge hlt_S hlt_O hlt_F hlt_X hm_n
  try rw [hl]
  have HXW := Lib.hid hn; have HGW := Lib.hid hge; clear hn hl hge
  have HNWS : RowKit.Hid (bS ≠ bW) := Lib.hid (by omega); have HNWO : RowKit.Hid (bO ≠ bW) := Lib.hid (by omega); have HNWF : RowKit.Hid (bF ≠ bW) := Lib.hid (by omega); have HNWX : RowKit.Hid (bX ≠ bW) := Lib.hid (by omega)
  clear hlt_S hlt_O hlt_F hlt_X
  have HVWn := Lib.hid hm_n
  clear hm_n
  have HIW : RowKit.Hid ((Tryz.prog.info? 85).map (·.size) = some (#[.int .u8 0, .int .u8 0, .int .u8 0, .int .u8 0, .int .u8 0, .int .u8 0, .int .u8 0, .int .u8 0, .int .u8 0, .int .u8 0, .int .u8 0, .int .u8 0, .int .u8 0, .int .u8 0, .int .u8 0, .int .u8 0] : Array Value).size) := Lib.hid (by kernel_rfl)
  go_wp2_with (first | (refine wpList_load_box rfl 89 _ rfl bO _ _ HXO.out rfl _ Tryz.underlying89 rfl HIO.out ?_))
  refine (HhencR.out _).mono ?_
  rintro e u14w ⟨rfl, hb⟩
  replace HXS := Lib.hid (HXS.out.below hb)
  replace HXO := Lib.hid (HXO.out.below hb)
  replace HXF := Lib.hid (HXF.out.below hb)
  replace HXX := Lib.hid (HXX.out.below hb)
  replace HXW := Lib.hid (HXW.out.below hb)
  replace HDn := Lib.hid (HDn.out.below (hb.mono HMn.out)); replace HMn := Lib.hid (Nat.le_trans HMn.out hb.size)
  replace HB := Lib.hid (HB.out.trans (hb.mono HB.out.size))
  clear hb
  go_upto_region 14 with (first | (refine wpList_store_box rfl 85 _ _ rfl bW _ #[.int .u8 0, .int .u8 0, .int .u8 0, .int .u8 0, .int .u8 0, .int .u8 0, .int .u8 0, .int .u8 0, .int .u8 0, .int .u8 0, .int .u8 0, .int .u8 0, .int .u8 0, .int .u8 0, .int .u8 0, .int .u8 0] Fv HXW.out rfl rfl HIF.out HZF.out HhFv1.out ?_; intro u15w hst hon))
  have hblW := Only.below hon (Below.refl bW _) (Nat.le_refl _)
  replace HXS := Lib.hid (Only.far hon HXS.out HNWS.out)
  replace HXO := Lib.hid (Only.far hon HXO.out HNWO.out)
  replace HXF := Lib.hid (Only.far hon HXF.out HNWF.out)
  replace HXX := Lib.hid (Only.far hon HXX.out HNWX.out)
  replace HXW := hst
  replace HB := Lib.hid (Only.below hon HB.out HGW.out)
  replace HDn := Lib.hid (HDn.out.below (hblW.mono HVWn.out)); replace HMn := Lib.hid (Nat.le_trans HMn.out hblW.size)
  clear hst hon hblW
  replace HIW := HIF
  go_upto_region 16 with fail
  go_wp2_with (first | (refine wpList_load_box rfl 85 _ rfl bS _ _ HXS.out rfl _ Tryz.underlying85 rfl HIS.out ?_))
  refine (HhdecR.out _).mono ?_
  rintro e u16w ⟨rfl, hb⟩
  replace HXS := Lib.hid (HXS.out.below hb)
  replace HXO := Lib.hid (HXO.out.below hb)
  replace HXF := Lib.hid (HXF.out.below hb)
  replace HXX := Lib.hid (HXX.out.below hb)
  replace HXW := Lib.hid (HXW.out.below hb)
  replace HDn := Lib.hid (HDn.out.below (hb.mono HMn.out)); replace HMn := Lib.hid (Nat.le_trans HMn.out hb.size)
  replace HB := Lib.hid (HB.out.trans (hb.mono HB.out.size))
  clear hb
  go_upto_region 17 with (first | (refine wpList_alloc_store rfl rfl 89 18 _ rfl rfl rfl rfl #[.int .i64 0, .int .i64 0, .int .u8 0, .int .u8 0, .int .u8 0, .int .u8 0, .int .u8 0, .int .u8 0, .int .u8 0, .int .u8 0, .int .u8 0, .int .u8 0] yv Tryz.zeroValue89 rfl rfl HIY.out HZY.out Hhyv1.out ?_))
  have hn := Blk.new u16w 89 yv
  have hb : Below u16w.heap.size u16w (u16w.alloc (.cells yv 89)) := (Below.refl _ _).alloc (Nat.le_refl _) _
  have hge := HB.out.size
  have hlt_S := HXS.out.lt
  have hlt_O := HXO.out.lt
  have hlt_F := HXF.out.lt
  have hlt_X := HXX.out.lt
  have hlt_W := HXW.out.lt
  have hm_n := HMn.out
  obtain ⟨bY, hl⟩ : ∃ b, u16w.heap.size = b := ⟨_, rfl⟩
  generalize u16w.alloc (.cells yv 89) = u17w at hn hb ⊢
  replace HXS := Lib.hid (HXS.out.below hb)
  replace HXO := Lib.hid (HXO.out.below hb)
  replace HXF := Lib.hid (HXF.out.below hb)
  replace HXX := Lib.hid (HXX.out.below hb)
  replace HXW := Lib.hid (HXW.out.below hb)
  replace HDn := Lib.hid (HDn.out.below (hb.mono HMn.out)); replace HMn := Lib.hid (Nat.le_trans HMn.out hb.size)
  replace HB := Lib.hid (HB.out.trans (hb.mono HB.out.size))
  clear hb
  rw [hl] at hn hge hlt_S hlt_O hlt_F hlt_X hlt_W hm_n
  try rw [hl]
  have HXY := Lib.hid hn; have HGY := Lib.hid hge; clear hn hl hge
  have HNYS : RowKit.Hid (bS ≠ bY) := Lib.hid (by omega); have HNYO : RowKit.Hid (bO ≠ bY) := Lib.hid (by omega); have HNYF : RowKit.Hid (bF ≠ bY) := Lib.hid (by omega); have HNYX : RowKit.Hid (bX ≠ bY) := Lib.hid (by omega); have HNYW : RowKit.Hid (bW ≠ bY) := Lib.hid (by omega)
  clear hlt_S hlt_O hlt_F hlt_X hlt_W
  have HVYn := Lib.hid hm_n
  clear hm_n
  have heqf := Hheqf.out; have heqp := Hheqp.out
  go_wp2_with (first | (refine wpList_load_box rfl 85 _ rfl bF _ _ HXF.out rfl _ Tryz.underlying85 rfl HIF.out ?_) | (refine wpList_load_box rfl 85 _ rfl bW _ _ HXW.out rfl _ Tryz.underlying85 rfl HIW.out ?_) | (refine wpList_load_box rfl 92 _ rfl bX _ _ HXX.out rfl _ Tryz.underlying92 rfl HIX.out ?_) | (refine wpList_load_box rfl 89 _ rfl bY _ _ HXY.out rfl _ Tryz.underlying89 rfl HIY.out ?_))
  clear heqf heqp
  refine (ints_same _ _ _ _ 0 [] _ rfl (by unfold maxLen; omega) (HDn.out.rd HMn.out) (fun h => absurd h (by simp))).mono ?_
  rintro e u18w ⟨rfl, hb⟩
  replace HXS := Lib.hid (HXS.out.below hb)
  replace HXO := Lib.hid (HXO.out.below hb)
  replace HXF := Lib.hid (HXF.out.below hb)
  replace HXX := Lib.hid (HXX.out.below hb)
  replace HXW := Lib.hid (HXW.out.below hb)
  replace HXY := Lib.hid (HXY.out.below hb)
  replace HDn := Lib.hid (HDn.out.below (hb.mono HMn.out)); replace HMn := Lib.hid (Nat.le_trans HMn.out hb.size)
  replace HB := Lib.hid (HB.out.trans (hb.mono HB.out.size))
  clear hb
  go_wp2_with fail
  refine (awake_laid _ (Hhlaid.out.below HB.out)).mono ?_
  rintro e u19w ⟨rfl, hb⟩
  replace HXS := Lib.hid (HXS.out.below hb)
  replace HXO := Lib.hid (HXO.out.below hb)
  replace HXF := Lib.hid (HXF.out.below hb)
  replace HXX := Lib.hid (HXX.out.below hb)
  replace HXW := Lib.hid (HXW.out.below hb)
  replace HXY := Lib.hid (HXY.out.below hb)
  replace HDn := Lib.hid (HDn.out.below (hb.mono HMn.out)); replace HMn := Lib.hid (Nat.le_trans HMn.out hb.size)
  replace HB := Lib.hid (HB.out.trans (hb.mono HB.out.size))
  clear hb
  go_wp2
  go_ret
  exact yesEnd_mk rfl HB.out
end Go.Proofs.YtnbpcfakkphmcaaGreatDoor
namespace Go.Proofs.YtnbpcfakkphmcaaGreatDoor
open Go.RowKit
set_option linter.unusedVariables false
set_option maxRecDepth 100000

set_option maxHeartbeats 2000000 in
theorem packets_nbg (l : List Pk) (n : Nat) (A : Option Addr) (c : Nat) (kind : Int) (sv ov yv : Array Value) (hsv : sv.size = 16) (hov : ov.size = 12) (hyv : yv.size = 12)
    (w : World) (hlaid : Laid w) (hn : l.length = n) (hn2 : n ≤ 1025) (hsh : shortPk n = true) (hr : Rd w A (pksC l))
    (hov1 : ov.all (·.oneCell') = true) (hyv1 : yv.all (·.oneCell') = true)
    (h0 : 0 < n) (hp : ∀ (j : Nat) (v : Value), ov[j]? = some v → (pksC l)[j]? = some v)
    (E : Int) (hEb : E ≠ 0)
    (R : List Int) (m : Nat) (z : Int) (hm : R.length = m) (hR : m ≤ maxLen)
    (hcp : ∀ w, Calls Tryz.prog 68 #[.agg ov] w fun e w' => e = .returned (.int .i64 E) ∧ Below w.heap.size w w')
    (henc : ∀ w, Calls Tryz.prog 64 #[.agg ov] w fun e w' => e = .returned (.tuple #[.agg #[.int .u8 0, .int .u8 0, .int .u8 0, .int .u8 0, .int .u8 0, .int .u8 0, .int .u8 0, .int .u8 0, .int .u8 0, .int .u8 0, .int .u8 0, .int .u8 0, .int .u8 0, .int .u8 0, .int .u8 0, .int .u8 0], .int .i64 E]) ∧ Below w.heap.size w w')
    (D : Int) (hdec : ∀ w, Calls Tryz.prog 65 #[.agg sv] w fun e w' => e = .returned (.tuple #[.agg yv, .int .i64 D]) ∧ Below w.heap.size w w') (hdecR : ∀ w, Calls Tryz.prog 72 #[.agg sv] w fun e w' => e = .returned (.tuple #[.agg yv, .int .i64 D]) ∧ Below w.heap.size w w')
    (hpks : ∀ A c w, Rd w A (pksC l) → Calls Tryz.prog 67 #[.slice A n c] w fun e w' => ∃ A' c', e = .returned (.slice A' n c') ∧ Rd w' A' (pksC l) ∧ Below w.heap.size w w')
    (P1 : Int) (hcps : ∀ A c w, Rd w A (pksC l) → Calls Tryz.prog 69 #[.slice A n c] w fun e w' => e = .returned (.int .i64 P1) ∧ Below w.heap.size w w')
    (hT : firstE [P1, outs kind 0 255] = 0) (hlost : ∀ A c w, Rd w A (pksC l) → Calls Tryz.prog 66 #[.slice A n c, .int .i64 kind] w fun e w' => ∃ A c, e = .returned (.tuple #[.slice A m c, .int .i64 z]) ∧ Rd w' A (R.map (.int .i64)) ∧ Below w.heap.size w w')
    (hlostR : ∀ A c w, Rd w A (pksC l) → Calls Tryz.prog 71 #[.slice A n c, .int .i64 kind] w fun e w' => ∃ A c, e = .returned (.tuple #[.slice A m c, .int .i64 z]) ∧ Rd w' A (R.map (.int .i64)) ∧ Below w.heap.size w w')
    (heqf : ∀ w, (Op.equalIn 10000 85 (.agg #[.int .u8 0, .int .u8 0, .int .u8 0, .int .u8 0, .int .u8 0, .int .u8 0, .int .u8 0, .int .u8 0, .int .u8 0, .int .u8 0, .int .u8 0, .int .u8 0, .int .u8 0, .int .u8 0, .int .u8 0, .int .u8 0]) (.agg #[.int .u8 0, .int .u8 0, .int .u8 0, .int .u8 0, .int .u8 0, .int .u8 0, .int .u8 0, .int .u8 0, .int .u8 0, .int .u8 0, .int .u8 0, .int .u8 0, .int .u8 0, .int .u8 0, .int .u8 0, .int .u8 0])).run Tryz.prog w = .ok true w) (heqp : ∀ w, (Op.equalIn 10000 89 (.agg yv) (.agg yv)).run Tryz.prog w = .ok true w) :
    Calls Tryz.prog 8 #[.slice A n c, .agg sv, .int .i64 kind] w (YesEnd w) := by
  have hiS : (Tryz.prog.info? 85).map (·.size) = some sv.size := by rw [hsv]; kernel_rfl
  have hiO : (Tryz.prog.info? 89).map (·.size) = some ov.size := by rw [hov]; kernel_rfl
  have hiX : (Tryz.prog.info? 92).map (·.size) = some yv.size := by rw [hyv]; kernel_rfl
  have hiY : (Tryz.prog.info? 89).map (·.size) = some yv.size := by rw [hyv]; kernel_rfl
  have hiF : (Tryz.prog.info? 85).map (·.size) = some (#[.int .u8 0, .int .u8 0, .int .u8 0, .int .u8 0, .int .u8 0, .int .u8 0, .int .u8 0, .int .u8 0, .int .u8 0, .int .u8 0, .int .u8 0, .int .u8 0, .int .u8 0, .int .u8 0, .int .u8 0, .int .u8 0] : Array Value).size := by kernel_rfl
  
  have hzY : (#[.int .i64 0, .int .i64 0, .int .u8 0, .int .u8 0, .int .u8 0, .int .u8 0, .int .u8 0, .int .u8 0, .int .u8 0, .int .u8 0, .int .u8 0, .int .u8 0] : Array Value).size = yv.size := hyv.symm
  have hzO : (#[.int .i64 0, .int .i64 0, .int .u8 0, .int .u8 0, .int .u8 0, .int .u8 0, .int .u8 0, .int .u8 0, .int .u8 0, .int .u8 0, .int .u8 0, .int .u8 0] : Array Value).size = ov.size := hov.symm
  have HIS := Lib.hid hiS; have HIO := Lib.hid hiO; have HIX := Lib.hid hiX; have HIY := Lib.hid hiY; have HIF := Lib.hid hiF; have HZY := Lib.hid hzY; have HZO := Lib.hid hzO
  have HEB : (E == 0) = false := by simp [hEb]
  
  have Hhlaid := Lib.hid hlaid; have Hhsh := Lib.hid hsh; have Hhr := Lib.hid hr; have Hhcp := Lib.hid hcp; have Hhenc := Lib.hid henc; have Hhdec := Lib.hid hdec; have HhdecR := Lib.hid hdecR; have Hhpks := Lib.hid hpks; have Hhcps := Lib.hid hcps; have HhT := Lib.hid hT; have Hhlost := Lib.hid hlost; have Hheqf := Lib.hid heqf; have Hheqp := Lib.hid heqp; have Hhov1 := Lib.hid hov1; have Hhyv1 := Lib.hid hyv1; have HhlostR := Lib.hid hlostR; have Hhm := Lib.hid hm; have HhR := Lib.hid hR
  clear hiS hiO hiX hiY hiF hzY hzO hsv hov hyv hlaid hsh hr hcp henc hdec hdecR hpks hcps hT hlost heqf heqp hov1 hyv1 hlostR hm hR hEb 
  have HB := Lib.hid (Below.refl w.heap.size w)
  have hlen : 0 < l.length := by omega
  obtain ⟨ad, rfl, hbl0, hcc0⟩ := Hhr.out (by rw [pksC_len]; omega)
  have HQ : RowKit.Hid (∀ W, Below w.heap.size w W → ∀ (j : Nat) (v : Value), ov[j]? = some v → W.cell? (ad.add j) = some v) := Lib.hid (fun W hb j v hv => (hb.cell (p := ad.add j) (by rw [block_of_add]; exact hbl0)).trans (hcc0 j v (hp j v hv)))
  have h0i : (0 : Int) < n := by omega
  have h0d : decide ((0 : Int) < (n : Int)) = true := by simpa using h0
  clear hbl0 hcc0 hlen hp h0 hn hn2
  go_enter Tryz.func8, Tryz.ntmps8
  go_upto_region 1 with fail
  have hn := Blk.new w 85 sv
  have hb : Below w.heap.size w (w.alloc (.cells sv 85)) := (Below.refl _ _).alloc (Nat.le_refl _) _
  have hge := HB.out.size
  obtain ⟨bS, hl⟩ : ∃ b, w.heap.size = b := ⟨_, rfl⟩
  generalize w.alloc (.cells sv 85) = u1w at hn hb ⊢
  replace HB := Lib.hid (HB.out.trans (hb.mono HB.out.size))
  clear hb
  rw [hl] at hn hge
  try rw [hl]
  have HXS := Lib.hid hn; have HGS := Lib.hid hge; clear hn hl hge
  go_wp2_with fail
  refine (shortPackets_any _ _ _ _).mono ?_
  rintro e _ ⟨rfl, rfl⟩
  rw [Hhsh.out]
  go_upto_region 4 with fail
  have hn := Blk.new u1w 89 #[.int .i64 0, .int .i64 0, .int .u8 0, .int .u8 0, .int .u8 0, .int .u8 0, .int .u8 0, .int .u8 0, .int .u8 0, .int .u8 0, .int .u8 0, .int .u8 0]
  have hb : Below u1w.heap.size u1w (u1w.alloc (.cells #[.int .i64 0, .int .i64 0, .int .u8 0, .int .u8 0, .int .u8 0, .int .u8 0, .int .u8 0, .int .u8 0, .int .u8 0, .int .u8 0, .int .u8 0, .int .u8 0] 89)) := (Below.refl _ _).alloc (Nat.le_refl _) _
  have hge := HB.out.size
  have hlt_S := HXS.out.lt
  obtain ⟨bO, hl⟩ : ∃ b, u1w.heap.size = b := ⟨_, rfl⟩
  generalize u1w.alloc (.cells #[.int .i64 0, .int .i64 0, .int .u8 0, .int .u8 0, .int .u8 0, .int .u8 0, .int .u8 0, .int .u8 0, .int .u8 0, .int .u8 0, .int .u8 0, .int .u8 0] 89) = u2w at hn hb ⊢
  replace HXS := Lib.hid (HXS.out.below hb)
  replace HB := Lib.hid (HB.out.trans (hb.mono HB.out.size))
  clear hb
  rw [hl] at hn hge hlt_S
  try rw [hl]
  have HXO := Lib.hid hn; have HGO := Lib.hid hge; clear hn hl hge
  have HNOS : RowKit.Hid (bS ≠ bO) := Lib.hid (by omega)
  clear hlt_S
  go_upto_region 6 with (first | (refine wpList_load_at rfl 89 _ rfl ad rfl ov _ (HQ.out _ HB.out) Tryz.underlying89 rfl HIO.out ?_) | (refine wpList_store_box rfl 89 _ _ rfl bO _ #[.int .i64 0, .int .i64 0, .int .u8 0, .int .u8 0, .int .u8 0, .int .u8 0, .int .u8 0, .int .u8 0, .int .u8 0, .int .u8 0, .int .u8 0, .int .u8 0] ov HXO.out rfl rfl HIO.out HZO.out Hhov1.out ?_; intro u3w hst hon))
  have hblO := Only.below hon (Below.refl bO _) (Nat.le_refl _)
  replace HXS := Lib.hid (Only.far hon HXS.out HNOS.out)
  replace HXO := hst
  replace HB := Lib.hid (Only.below hon HB.out HGO.out)
  clear hst hon hblO
  go_wp2_with (first | (refine wpList_load_box rfl 89 _ rfl bO _ _ HXO.out rfl _ Tryz.underlying89 rfl HIO.out ?_))
  refine (Hhenc.out _).mono ?_
  rintro e u4w ⟨rfl, hb⟩
  replace HXS := Lib.hid (HXS.out.below hb)
  replace HXO := Lib.hid (HXO.out.below hb)
  replace HB := Lib.hid (HB.out.trans (hb.mono HB.out.size))
  clear hb
  go_upto_region 7 with (first | (refine wpList_alloc_store rfl rfl 85 8 _ rfl rfl rfl rfl #[.int .u8 0, .int .u8 0, .int .u8 0, .int .u8 0, .int .u8 0, .int .u8 0, .int .u8 0, .int .u8 0, .int .u8 0, .int .u8 0, .int .u8 0, .int .u8 0, .int .u8 0, .int .u8 0, .int .u8 0, .int .u8 0] #[.int .u8 0, .int .u8 0, .int .u8 0, .int .u8 0, .int .u8 0, .int .u8 0, .int .u8 0, .int .u8 0, .int .u8 0, .int .u8 0, .int .u8 0, .int .u8 0, .int .u8 0, .int .u8 0, .int .u8 0, .int .u8 0] Tryz.zeroValue85 rfl rfl HIF.out rfl rfl ?_))
  have hn := Blk.new u4w 85 #[.int .u8 0, .int .u8 0, .int .u8 0, .int .u8 0, .int .u8 0, .int .u8 0, .int .u8 0, .int .u8 0, .int .u8 0, .int .u8 0, .int .u8 0, .int .u8 0, .int .u8 0, .int .u8 0, .int .u8 0, .int .u8 0]
  have hb : Below u4w.heap.size u4w (u4w.alloc (.cells #[.int .u8 0, .int .u8 0, .int .u8 0, .int .u8 0, .int .u8 0, .int .u8 0, .int .u8 0, .int .u8 0, .int .u8 0, .int .u8 0, .int .u8 0, .int .u8 0, .int .u8 0, .int .u8 0, .int .u8 0, .int .u8 0] 85)) := (Below.refl _ _).alloc (Nat.le_refl _) _
  have hge := HB.out.size
  have hlt_S := HXS.out.lt
  have hlt_O := HXO.out.lt
  obtain ⟨bF, hl⟩ : ∃ b, u4w.heap.size = b := ⟨_, rfl⟩
  generalize u4w.alloc (.cells #[.int .u8 0, .int .u8 0, .int .u8 0, .int .u8 0, .int .u8 0, .int .u8 0, .int .u8 0, .int .u8 0, .int .u8 0, .int .u8 0, .int .u8 0, .int .u8 0, .int .u8 0, .int .u8 0, .int .u8 0, .int .u8 0] 85) = u5w at hn hb ⊢
  replace HXS := Lib.hid (HXS.out.below hb)
  replace HXO := Lib.hid (HXO.out.below hb)
  replace HB := Lib.hid (HB.out.trans (hb.mono HB.out.size))
  clear hb
  rw [hl] at hn hge hlt_S hlt_O
  try rw [hl]
  have HXF := Lib.hid hn; have HGF := Lib.hid hge; clear hn hl hge
  have HNFS : RowKit.Hid (bS ≠ bF) := Lib.hid (by omega); have HNFO : RowKit.Hid (bO ≠ bF) := Lib.hid (by omega)
  clear hlt_S hlt_O
  go_wp2_with (first | (refine wpList_load_box rfl 85 _ rfl bS _ _ HXS.out rfl _ Tryz.underlying85 rfl HIS.out ?_))
  refine (Hhdec.out _).mono ?_
  rintro e u6w ⟨rfl, hb⟩
  replace HXS := Lib.hid (HXS.out.below hb)
  replace HXO := Lib.hid (HXO.out.below hb)
  replace HXF := Lib.hid (HXF.out.below hb)
  replace HB := Lib.hid (HB.out.trans (hb.mono HB.out.size))
  clear hb
  go_upto_region 8 with (first | (refine wpList_alloc_store rfl rfl 92 10 _ rfl rfl rfl rfl #[.int .i64 0, .int .i64 0, .int .u8 0, .int .u8 0, .int .u8 0, .int .u8 0, .int .u8 0, .int .u8 0, .int .u8 0, .int .u8 0, .int .u8 0, .int .u8 0] yv Tryz.zeroValue92 rfl rfl HIX.out HZY.out Hhyv1.out ?_))
  have hn := Blk.new u6w 92 yv
  have hb : Below u6w.heap.size u6w (u6w.alloc (.cells yv 92)) := (Below.refl _ _).alloc (Nat.le_refl _) _
  have hge := HB.out.size
  have hlt_S := HXS.out.lt
  have hlt_O := HXO.out.lt
  have hlt_F := HXF.out.lt
  obtain ⟨bX, hl⟩ : ∃ b, u6w.heap.size = b := ⟨_, rfl⟩
  generalize u6w.alloc (.cells yv 92) = u7w at hn hb ⊢
  replace HXS := Lib.hid (HXS.out.below hb)
  replace HXO := Lib.hid (HXO.out.below hb)
  replace HXF := Lib.hid (HXF.out.below hb)
  replace HB := Lib.hid (HB.out.trans (hb.mono HB.out.size))
  clear hb
  rw [hl] at hn hge hlt_S hlt_O hlt_F
  try rw [hl]
  have HXX := Lib.hid hn; have HGX := Lib.hid hge; clear hn hl hge
  have HNXS : RowKit.Hid (bS ≠ bX) := Lib.hid (by omega); have HNXO : RowKit.Hid (bO ≠ bX) := Lib.hid (by omega); have HNXF : RowKit.Hid (bF ≠ bX) := Lib.hid (by omega)
  clear hlt_S hlt_O hlt_F
  go_wp2_with fail
  refine (Hhpks.out _ _ _ (Hhr.out.below HB.out)).mono ?_
  rintro e u8w ⟨AP, cP, rfl, hrP, hb⟩
  have HRP := Lib.hid hrP; clear hrP
  replace HXS := Lib.hid (HXS.out.below hb)
  replace HXO := Lib.hid (HXO.out.below hb)
  replace HXF := Lib.hid (HXF.out.below hb)
  replace HXX := Lib.hid (HXX.out.below hb)
  replace HB := Lib.hid (HB.out.trans (hb.mono HB.out.size))
  clear hb
  go_wp2_with fail
  refine (Hhlost.out _ _ _ HRP.out).mono ?_
  rintro e u9w ⟨A1, c1, rfl, hr1, hb⟩
  have HDn := Lib.hid (rdB_of hr1); have HMn := Lib.hid (Nat.le_refl u9w.heap.size); clear hr1 HRP
  replace HXS := Lib.hid (HXS.out.below hb)
  replace HXO := Lib.hid (HXO.out.below hb)
  replace HXF := Lib.hid (HXF.out.below hb)
  replace HXX := Lib.hid (HXX.out.below hb)
  replace HB := Lib.hid (HB.out.trans (hb.mono HB.out.size))
  clear hb
  go_wp2_with (first | (refine wpList_load_box rfl 89 _ rfl bO _ _ HXO.out rfl _ Tryz.underlying89 rfl HIO.out ?_))
  refine (Hhcp.out _).mono ?_
  rintro e u10w ⟨rfl, hb⟩
  replace HXS := Lib.hid (HXS.out.below hb)
  replace HXO := Lib.hid (HXO.out.below hb)
  replace HXF := Lib.hid (HXF.out.below hb)
  replace HXX := Lib.hid (HXX.out.below hb)
  replace HDn := Lib.hid (HDn.out.below (hb.mono HMn.out)); replace HMn := Lib.hid (Nat.le_trans HMn.out hb.size)
  replace HB := Lib.hid (HB.out.trans (hb.mono HB.out.size))
  clear hb
  go_wp2_with fail
  refine (Hhcps.out _ _ _ (Hhr.out.below HB.out)).mono ?_
  rintro e u11w ⟨rfl, hb⟩
  replace HXS := Lib.hid (HXS.out.below hb)
  replace HXO := Lib.hid (HXO.out.below hb)
  replace HXF := Lib.hid (HXF.out.below hb)
  replace HXX := Lib.hid (HXX.out.below hb)
  replace HDn := Lib.hid (HDn.out.below (hb.mono HMn.out)); replace HMn := Lib.hid (Nat.le_trans HMn.out hb.size)
  replace HB := Lib.hid (HB.out.trans (hb.mono HB.out.size))
  clear hb
  go_wp2_with fail
  refine (checkRange_any _ _ _ _).mono ?_
  rintro e _ ⟨rfl, rfl⟩
  go_wp2_with fail
  refine (firstL_n _ _ _ [_, _] _ rfl (by simp [maxLen]) (by exact rd_of_blk (Blk.new _ _ _) rfl)).mono ?_
  rintro e _ ⟨rfl, rfl⟩
  rw [HhT.out]
  have hb : Below u11w.heap.size u11w (u11w.alloc (.cells #[.int .i64 P1, .int .i64 (outs kind 0 255)] 3)) := (Below.refl _ _).alloc (Nat.le_refl _) _
  generalize u11w.alloc (.cells #[.int .i64 P1, .int .i64 (outs kind 0 255)] 3) = u12w at hb ⊢
  replace HXS := Lib.hid (HXS.out.below hb)
  replace HXO := Lib.hid (HXO.out.below hb)
  replace HXF := Lib.hid (HXF.out.below hb)
  replace HXX := Lib.hid (HXX.out.below hb)
  replace HDn := Lib.hid (HDn.out.below (hb.mono HMn.out)); replace HMn := Lib.hid (Nat.le_trans HMn.out hb.size)
  replace HB := Lib.hid (HB.out.trans (hb.mono HB.out.size))
  clear hb
  go_upto_region 11 with fail
  have hn := Blk.new u12w 85 #[.int .u8 0, .int .u8 0, .int .u8 0, .int .u8 0, .int .u8 0, .int .u8 0, .int .u8 0, .int .u8 0, .int .u8 0, .int .u8 0, .int .u8 0, .int .u8 0, .int .u8 0, .int .u8 0, .int .u8 0, .int .u8 0]
  have hb : Below u12w.heap.size u12w (u12w.alloc (.cells #[.int .u8 0, .int .u8 0, .int .u8 0, .int .u8 0, .int .u8 0, .int .u8 0, .int .u8 0, .int .u8 0, .int .u8 0, .int .u8 0, .int .u8 0, .int .u8 0, .int .u8 0, .int .u8 0, .int .u8 0, .int .u8 0] 85)) := (Below.refl _ _).alloc (Nat.le_refl _) _
  have hge := HB.out.size
  have hlt_S := HXS.out.lt
  have hlt_O := HXO.out.lt
  have hlt_F := HXF.out.lt
  have hlt_X := HXX.out.lt
  have hm_n := HMn.out
  obtain ⟨bW, hl⟩ : ∃ b, u12w.heap.size = b := ⟨_, rfl⟩
  generalize u12w.alloc (.cells #[.int .u8 0, .int .u8 0, .int .u8 0, .int .u8 0, .int .u8 0, .int .u8 0, .int .u8 0, .int .u8 0, .int .u8 0, .int .u8 0, .int .u8 0, .int .u8 0, .int .u8 0, .int .u8 0, .int .u8 0, .int .u8 0] 85) = u13w at hn hb ⊢
  replace HXS := Lib.hid (HXS.out.below hb)
  replace HXO := Lib.hid (HXO.out.below hb)
  replace HXF := Lib.hid (HXF.out.below hb)
  replace HXX := Lib.hid (HXX.out.below hb)
  replace HDn := Lib.hid (HDn.out.below (hb.mono HMn.out)); replace HMn := Lib.hid (Nat.le_trans HMn.out hb.size)
  replace HB := Lib.hid (HB.out.trans (hb.mono HB.out.size))
  clear hb
  rw [hl] at hn hge hlt_S hlt_O hlt_F hlt_X hm_n
  try rw [hl]
  have HXW := Lib.hid hn; have HGW := Lib.hid hge; clear hn hl hge
  have HNWS : RowKit.Hid (bS ≠ bW) := Lib.hid (by omega); have HNWO : RowKit.Hid (bO ≠ bW) := Lib.hid (by omega); have HNWF : RowKit.Hid (bF ≠ bW) := Lib.hid (by omega); have HNWX : RowKit.Hid (bX ≠ bW) := Lib.hid (by omega)
  clear hlt_S hlt_O hlt_F hlt_X
  have HVWn := Lib.hid hm_n
  clear hm_n
  have HIW : RowKit.Hid ((Tryz.prog.info? 85).map (·.size) = some (#[.int .u8 0, .int .u8 0, .int .u8 0, .int .u8 0, .int .u8 0, .int .u8 0, .int .u8 0, .int .u8 0, .int .u8 0, .int .u8 0, .int .u8 0, .int .u8 0, .int .u8 0, .int .u8 0, .int .u8 0, .int .u8 0] : Array Value).size) := Lib.hid (by kernel_rfl)
  go_upto_region 14 with fail
  go_wp2_with fail
  refine (HhlostR.out _ _ _ (Hhr.out.below HB.out)).mono ?_
  rintro e u14w ⟨A2, c2, rfl, hr2, hb⟩
  have HDo := Lib.hid (rdB_of hr2); have HMo := Lib.hid (Nat.le_refl u14w.heap.size); clear hr2
  replace HXS := Lib.hid (HXS.out.below hb)
  replace HXO := Lib.hid (HXO.out.below hb)
  replace HXF := Lib.hid (HXF.out.below hb)
  replace HXX := Lib.hid (HXX.out.below hb)
  replace HXW := Lib.hid (HXW.out.below hb)
  replace HDn := Lib.hid (HDn.out.below (hb.mono HMn.out)); replace HMn := Lib.hid (Nat.le_trans HMn.out hb.size)
  replace HB := Lib.hid (HB.out.trans (hb.mono HB.out.size))
  clear hb
  go_upto_region 16 with fail
  go_wp2_with (first | (refine wpList_load_box rfl 85 _ rfl bS _ _ HXS.out rfl _ Tryz.underlying85 rfl HIS.out ?_))
  refine (HhdecR.out _).mono ?_
  rintro e u15w ⟨rfl, hb⟩
  replace HXS := Lib.hid (HXS.out.below hb)
  replace HXO := Lib.hid (HXO.out.below hb)
  replace HXF := Lib.hid (HXF.out.below hb)
  replace HXX := Lib.hid (HXX.out.below hb)
  replace HXW := Lib.hid (HXW.out.below hb)
  replace HDn := Lib.hid (HDn.out.below (hb.mono HMn.out)); replace HMn := Lib.hid (Nat.le_trans HMn.out hb.size)
  replace HDo := Lib.hid (HDo.out.below (hb.mono HMo.out)); replace HMo := Lib.hid (Nat.le_trans HMo.out hb.size)
  replace HB := Lib.hid (HB.out.trans (hb.mono HB.out.size))
  clear hb
  go_upto_region 17 with (first | (refine wpList_alloc_store rfl rfl 89 18 _ rfl rfl rfl rfl #[.int .i64 0, .int .i64 0, .int .u8 0, .int .u8 0, .int .u8 0, .int .u8 0, .int .u8 0, .int .u8 0, .int .u8 0, .int .u8 0, .int .u8 0, .int .u8 0] yv Tryz.zeroValue89 rfl rfl HIY.out HZY.out Hhyv1.out ?_))
  have hn := Blk.new u15w 89 yv
  have hb : Below u15w.heap.size u15w (u15w.alloc (.cells yv 89)) := (Below.refl _ _).alloc (Nat.le_refl _) _
  have hge := HB.out.size
  have hlt_S := HXS.out.lt
  have hlt_O := HXO.out.lt
  have hlt_F := HXF.out.lt
  have hlt_X := HXX.out.lt
  have hlt_W := HXW.out.lt
  have hm_n := HMn.out
  have hm_o := HMo.out
  obtain ⟨bY, hl⟩ : ∃ b, u15w.heap.size = b := ⟨_, rfl⟩
  generalize u15w.alloc (.cells yv 89) = u16w at hn hb ⊢
  replace HXS := Lib.hid (HXS.out.below hb)
  replace HXO := Lib.hid (HXO.out.below hb)
  replace HXF := Lib.hid (HXF.out.below hb)
  replace HXX := Lib.hid (HXX.out.below hb)
  replace HXW := Lib.hid (HXW.out.below hb)
  replace HDn := Lib.hid (HDn.out.below (hb.mono HMn.out)); replace HMn := Lib.hid (Nat.le_trans HMn.out hb.size)
  replace HDo := Lib.hid (HDo.out.below (hb.mono HMo.out)); replace HMo := Lib.hid (Nat.le_trans HMo.out hb.size)
  replace HB := Lib.hid (HB.out.trans (hb.mono HB.out.size))
  clear hb
  rw [hl] at hn hge hlt_S hlt_O hlt_F hlt_X hlt_W hm_n hm_o
  try rw [hl]
  have HXY := Lib.hid hn; have HGY := Lib.hid hge; clear hn hl hge
  have HNYS : RowKit.Hid (bS ≠ bY) := Lib.hid (by omega); have HNYO : RowKit.Hid (bO ≠ bY) := Lib.hid (by omega); have HNYF : RowKit.Hid (bF ≠ bY) := Lib.hid (by omega); have HNYX : RowKit.Hid (bX ≠ bY) := Lib.hid (by omega); have HNYW : RowKit.Hid (bW ≠ bY) := Lib.hid (by omega)
  clear hlt_S hlt_O hlt_F hlt_X hlt_W
  have HVYn := Lib.hid hm_n; have HVYo := Lib.hid hm_o
  clear hm_n hm_o
  have heqf := Hheqf.out; have heqp := Hheqp.out
  go_wp2_with (first | (refine wpList_load_box rfl 85 _ rfl bF _ _ HXF.out rfl _ Tryz.underlying85 rfl HIF.out ?_) | (refine wpList_load_box rfl 85 _ rfl bW _ _ HXW.out rfl _ Tryz.underlying85 rfl HIW.out ?_) | (refine wpList_load_box rfl 92 _ rfl bX _ _ HXX.out rfl _ Tryz.underlying92 rfl HIX.out ?_) | (refine wpList_load_box rfl 89 _ rfl bY _ _ HXY.out rfl _ Tryz.underlying89 rfl HIY.out ?_))
  clear heqf heqp
  refine (ints_same _ _ _ _ m R _ Hhm.out HhR.out (HDn.out.rd HMn.out) (HDo.out.rd HMo.out)).mono ?_
  rintro e u17w ⟨rfl, hb⟩
  replace HXS := Lib.hid (HXS.out.below hb)
  replace HXO := Lib.hid (HXO.out.below hb)
  replace HXF := Lib.hid (HXF.out.below hb)
  replace HXX := Lib.hid (HXX.out.below hb)
  replace HXW := Lib.hid (HXW.out.below hb)
  replace HXY := Lib.hid (HXY.out.below hb)
  replace HDn := Lib.hid (HDn.out.below (hb.mono HMn.out)); replace HMn := Lib.hid (Nat.le_trans HMn.out hb.size)
  replace HDo := Lib.hid (HDo.out.below (hb.mono HMo.out)); replace HMo := Lib.hid (Nat.le_trans HMo.out hb.size)
  replace HB := Lib.hid (HB.out.trans (hb.mono HB.out.size))
  clear hb
  go_wp2_with fail
  refine (awake_laid _ (Hhlaid.out.below HB.out)).mono ?_
  rintro e u18w ⟨rfl, hb⟩
  replace HXS := Lib.hid (HXS.out.below hb)
  replace HXO := Lib.hid (HXO.out.below hb)
  replace HXF := Lib.hid (HXF.out.below hb)
  replace HXX := Lib.hid (HXX.out.below hb)
  replace HXW := Lib.hid (HXW.out.below hb)
  replace HXY := Lib.hid (HXY.out.below hb)
  replace HDn := Lib.hid (HDn.out.below (hb.mono HMn.out)); replace HMn := Lib.hid (Nat.le_trans HMn.out hb.size)
  replace HDo := Lib.hid (HDo.out.below (hb.mono HMo.out)); replace HMo := Lib.hid (Nat.le_trans HMo.out hb.size)
  replace HB := Lib.hid (HB.out.trans (hb.mono HB.out.size))
  clear hb
  go_wp2
  go_ret
  exact yesEnd_mk rfl HB.out
end Go.Proofs.YtnbpcfakkphmcaaGreatDoor
namespace Go.Proofs.YtnbpcfakkphmcaaGreatDoor
open Go.RowKit
set_option linter.unusedVariables false
set_option maxRecDepth 100000

set_option maxHeartbeats 2000000 in
theorem packets_nbb (l : List Pk) (n : Nat) (A : Option Addr) (c : Nat) (kind : Int) (sv ov yv : Array Value) (hsv : sv.size = 16) (hov : ov.size = 12) (hyv : yv.size = 12)
    (w : World) (hlaid : Laid w) (hn : l.length = n) (hn2 : n ≤ 1025) (hsh : shortPk n = true) (hr : Rd w A (pksC l))
    (hov1 : ov.all (·.oneCell') = true) (hyv1 : yv.all (·.oneCell') = true)
    (h0 : 0 < n) (hp : ∀ (j : Nat) (v : Value), ov[j]? = some v → (pksC l)[j]? = some v)
    (E : Int) (hEb : E ≠ 0)
    (T : Int) (hTb : T ≠ 0)
    (hcp : ∀ w, Calls Tryz.prog 68 #[.agg ov] w fun e w' => e = .returned (.int .i64 E) ∧ Below w.heap.size w w')
    (henc : ∀ w, Calls Tryz.prog 64 #[.agg ov] w fun e w' => e = .returned (.tuple #[.agg #[.int .u8 0, .int .u8 0, .int .u8 0, .int .u8 0, .int .u8 0, .int .u8 0, .int .u8 0, .int .u8 0, .int .u8 0, .int .u8 0, .int .u8 0, .int .u8 0, .int .u8 0, .int .u8 0, .int .u8 0, .int .u8 0], .int .i64 E]) ∧ Below w.heap.size w w')
    (D : Int) (hdec : ∀ w, Calls Tryz.prog 65 #[.agg sv] w fun e w' => e = .returned (.tuple #[.agg yv, .int .i64 D]) ∧ Below w.heap.size w w') (hdecR : ∀ w, Calls Tryz.prog 72 #[.agg sv] w fun e w' => e = .returned (.tuple #[.agg yv, .int .i64 D]) ∧ Below w.heap.size w w')
    (hpks : ∀ A c w, Rd w A (pksC l) → Calls Tryz.prog 67 #[.slice A n c] w fun e w' => ∃ A' c', e = .returned (.slice A' n c') ∧ Rd w' A' (pksC l) ∧ Below w.heap.size w w')
    (P1 : Int) (hcps : ∀ A c w, Rd w A (pksC l) → Calls Tryz.prog 69 #[.slice A n c] w fun e w' => e = .returned (.int .i64 P1) ∧ Below w.heap.size w w')
    (hT : firstE [P1, outs kind 0 255] = T) (hlost : ∀ A c w, Rd w A (pksC l) → Calls Tryz.prog 66 #[.slice A n c, .int .i64 kind] w fun e w' => ∃ A c, e = .returned (.tuple #[.slice A 0 c, .int .i64 T]) ∧ Rd w' A ([].map (.int .i64)) ∧ Below w.heap.size w w')
    (heqf : ∀ w, (Op.equalIn 10000 85 (.agg #[.int .u8 0, .int .u8 0, .int .u8 0, .int .u8 0, .int .u8 0, .int .u8 0, .int .u8 0, .int .u8 0, .int .u8 0, .int .u8 0, .int .u8 0, .int .u8 0, .int .u8 0, .int .u8 0, .int .u8 0, .int .u8 0]) (.agg #[.int .u8 0, .int .u8 0, .int .u8 0, .int .u8 0, .int .u8 0, .int .u8 0, .int .u8 0, .int .u8 0, .int .u8 0, .int .u8 0, .int .u8 0, .int .u8 0, .int .u8 0, .int .u8 0, .int .u8 0, .int .u8 0])).run Tryz.prog w = .ok true w) (heqp : ∀ w, (Op.equalIn 10000 89 (.agg yv) (.agg yv)).run Tryz.prog w = .ok true w) :
    Calls Tryz.prog 8 #[.slice A n c, .agg sv, .int .i64 kind] w (YesEnd w) := by
  have hiS : (Tryz.prog.info? 85).map (·.size) = some sv.size := by rw [hsv]; kernel_rfl
  have hiO : (Tryz.prog.info? 89).map (·.size) = some ov.size := by rw [hov]; kernel_rfl
  have hiX : (Tryz.prog.info? 92).map (·.size) = some yv.size := by rw [hyv]; kernel_rfl
  have hiY : (Tryz.prog.info? 89).map (·.size) = some yv.size := by rw [hyv]; kernel_rfl
  have hiF : (Tryz.prog.info? 85).map (·.size) = some (#[.int .u8 0, .int .u8 0, .int .u8 0, .int .u8 0, .int .u8 0, .int .u8 0, .int .u8 0, .int .u8 0, .int .u8 0, .int .u8 0, .int .u8 0, .int .u8 0, .int .u8 0, .int .u8 0, .int .u8 0, .int .u8 0] : Array Value).size := by kernel_rfl
  
  have hzY : (#[.int .i64 0, .int .i64 0, .int .u8 0, .int .u8 0, .int .u8 0, .int .u8 0, .int .u8 0, .int .u8 0, .int .u8 0, .int .u8 0, .int .u8 0, .int .u8 0] : Array Value).size = yv.size := hyv.symm
  have hzO : (#[.int .i64 0, .int .i64 0, .int .u8 0, .int .u8 0, .int .u8 0, .int .u8 0, .int .u8 0, .int .u8 0, .int .u8 0, .int .u8 0, .int .u8 0, .int .u8 0] : Array Value).size = ov.size := hov.symm
  have HIS := Lib.hid hiS; have HIO := Lib.hid hiO; have HIX := Lib.hid hiX; have HIY := Lib.hid hiY; have HIF := Lib.hid hiF; have HZY := Lib.hid hzY; have HZO := Lib.hid hzO
  have HEB : (E == 0) = false := by simp [hEb]
  have HTB : (T == 0) = false := by simp [hTb]
  have Hhlaid := Lib.hid hlaid; have Hhsh := Lib.hid hsh; have Hhr := Lib.hid hr; have Hhcp := Lib.hid hcp; have Hhenc := Lib.hid henc; have Hhdec := Lib.hid hdec; have HhdecR := Lib.hid hdecR; have Hhpks := Lib.hid hpks; have Hhcps := Lib.hid hcps; have HhT := Lib.hid hT; have Hhlost := Lib.hid hlost; have Hheqf := Lib.hid heqf; have Hheqp := Lib.hid heqp; have Hhov1 := Lib.hid hov1; have Hhyv1 := Lib.hid hyv1
  clear hiS hiO hiX hiY hiF hzY hzO hsv hov hyv hlaid hsh hr hcp henc hdec hdecR hpks hcps hT hlost heqf heqp hov1 hyv1 hEb hTb
  have HB := Lib.hid (Below.refl w.heap.size w)
  have hlen : 0 < l.length := by omega
  obtain ⟨ad, rfl, hbl0, hcc0⟩ := Hhr.out (by rw [pksC_len]; omega)
  have HQ : RowKit.Hid (∀ W, Below w.heap.size w W → ∀ (j : Nat) (v : Value), ov[j]? = some v → W.cell? (ad.add j) = some v) := Lib.hid (fun W hb j v hv => (hb.cell (p := ad.add j) (by rw [block_of_add]; exact hbl0)).trans (hcc0 j v (hp j v hv)))
  have h0i : (0 : Int) < n := by omega
  have h0d : decide ((0 : Int) < (n : Int)) = true := by simpa using h0
  clear hbl0 hcc0 hlen hp h0 hn hn2
  go_enter Tryz.func8, Tryz.ntmps8
  go_upto_region 1 with fail
  have hn := Blk.new w 85 sv
  have hb : Below w.heap.size w (w.alloc (.cells sv 85)) := (Below.refl _ _).alloc (Nat.le_refl _) _
  have hge := HB.out.size
  obtain ⟨bS, hl⟩ : ∃ b, w.heap.size = b := ⟨_, rfl⟩
  generalize w.alloc (.cells sv 85) = u1w at hn hb ⊢
  replace HB := Lib.hid (HB.out.trans (hb.mono HB.out.size))
  clear hb
  rw [hl] at hn hge
  try rw [hl]
  have HXS := Lib.hid hn; have HGS := Lib.hid hge; clear hn hl hge
  go_wp2_with fail
  refine (shortPackets_any _ _ _ _).mono ?_
  rintro e _ ⟨rfl, rfl⟩
  rw [Hhsh.out]
  go_upto_region 4 with fail
  have hn := Blk.new u1w 89 #[.int .i64 0, .int .i64 0, .int .u8 0, .int .u8 0, .int .u8 0, .int .u8 0, .int .u8 0, .int .u8 0, .int .u8 0, .int .u8 0, .int .u8 0, .int .u8 0]
  have hb : Below u1w.heap.size u1w (u1w.alloc (.cells #[.int .i64 0, .int .i64 0, .int .u8 0, .int .u8 0, .int .u8 0, .int .u8 0, .int .u8 0, .int .u8 0, .int .u8 0, .int .u8 0, .int .u8 0, .int .u8 0] 89)) := (Below.refl _ _).alloc (Nat.le_refl _) _
  have hge := HB.out.size
  have hlt_S := HXS.out.lt
  obtain ⟨bO, hl⟩ : ∃ b, u1w.heap.size = b := ⟨_, rfl⟩
  generalize u1w.alloc (.cells #[.int .i64 0, .int .i64 0, .int .u8 0, .int .u8 0, .int .u8 0, .int .u8 0, .int .u8 0, .int .u8 0, .int .u8 0, .int .u8 0, .int .u8 0, .int .u8 0] 89) = u2w at hn hb ⊢
  replace HXS := Lib.hid (HXS.out.below hb)
  replace HB := Lib.hid (HB.out.trans (hb.mono HB.out.size))
  clear hb
  rw [hl] at hn hge hlt_S
  try rw [hl]
  have HXO := Lib.hid hn; have HGO := Lib.hid hge; clear hn hl hge
  have HNOS : RowKit.Hid (bS ≠ bO) := Lib.hid (by omega)
  clear hlt_S
  go_upto_region 6 with (first | (refine wpList_load_at rfl 89 _ rfl ad rfl ov _ (HQ.out _ HB.out) Tryz.underlying89 rfl HIO.out ?_) | (refine wpList_store_box rfl 89 _ _ rfl bO _ #[.int .i64 0, .int .i64 0, .int .u8 0, .int .u8 0, .int .u8 0, .int .u8 0, .int .u8 0, .int .u8 0, .int .u8 0, .int .u8 0, .int .u8 0, .int .u8 0] ov HXO.out rfl rfl HIO.out HZO.out Hhov1.out ?_; intro u3w hst hon))
  have hblO := Only.below hon (Below.refl bO _) (Nat.le_refl _)
  replace HXS := Lib.hid (Only.far hon HXS.out HNOS.out)
  replace HXO := hst
  replace HB := Lib.hid (Only.below hon HB.out HGO.out)
  clear hst hon hblO
  go_wp2_with (first | (refine wpList_load_box rfl 89 _ rfl bO _ _ HXO.out rfl _ Tryz.underlying89 rfl HIO.out ?_))
  refine (Hhenc.out _).mono ?_
  rintro e u4w ⟨rfl, hb⟩
  replace HXS := Lib.hid (HXS.out.below hb)
  replace HXO := Lib.hid (HXO.out.below hb)
  replace HB := Lib.hid (HB.out.trans (hb.mono HB.out.size))
  clear hb
  go_upto_region 7 with (first | (refine wpList_alloc_store rfl rfl 85 8 _ rfl rfl rfl rfl #[.int .u8 0, .int .u8 0, .int .u8 0, .int .u8 0, .int .u8 0, .int .u8 0, .int .u8 0, .int .u8 0, .int .u8 0, .int .u8 0, .int .u8 0, .int .u8 0, .int .u8 0, .int .u8 0, .int .u8 0, .int .u8 0] #[.int .u8 0, .int .u8 0, .int .u8 0, .int .u8 0, .int .u8 0, .int .u8 0, .int .u8 0, .int .u8 0, .int .u8 0, .int .u8 0, .int .u8 0, .int .u8 0, .int .u8 0, .int .u8 0, .int .u8 0, .int .u8 0] Tryz.zeroValue85 rfl rfl HIF.out rfl rfl ?_))
  have hn := Blk.new u4w 85 #[.int .u8 0, .int .u8 0, .int .u8 0, .int .u8 0, .int .u8 0, .int .u8 0, .int .u8 0, .int .u8 0, .int .u8 0, .int .u8 0, .int .u8 0, .int .u8 0, .int .u8 0, .int .u8 0, .int .u8 0, .int .u8 0]
  have hb : Below u4w.heap.size u4w (u4w.alloc (.cells #[.int .u8 0, .int .u8 0, .int .u8 0, .int .u8 0, .int .u8 0, .int .u8 0, .int .u8 0, .int .u8 0, .int .u8 0, .int .u8 0, .int .u8 0, .int .u8 0, .int .u8 0, .int .u8 0, .int .u8 0, .int .u8 0] 85)) := (Below.refl _ _).alloc (Nat.le_refl _) _
  have hge := HB.out.size
  have hlt_S := HXS.out.lt
  have hlt_O := HXO.out.lt
  obtain ⟨bF, hl⟩ : ∃ b, u4w.heap.size = b := ⟨_, rfl⟩
  generalize u4w.alloc (.cells #[.int .u8 0, .int .u8 0, .int .u8 0, .int .u8 0, .int .u8 0, .int .u8 0, .int .u8 0, .int .u8 0, .int .u8 0, .int .u8 0, .int .u8 0, .int .u8 0, .int .u8 0, .int .u8 0, .int .u8 0, .int .u8 0] 85) = u5w at hn hb ⊢
  replace HXS := Lib.hid (HXS.out.below hb)
  replace HXO := Lib.hid (HXO.out.below hb)
  replace HB := Lib.hid (HB.out.trans (hb.mono HB.out.size))
  clear hb
  rw [hl] at hn hge hlt_S hlt_O
  try rw [hl]
  have HXF := Lib.hid hn; have HGF := Lib.hid hge; clear hn hl hge
  have HNFS : RowKit.Hid (bS ≠ bF) := Lib.hid (by omega); have HNFO : RowKit.Hid (bO ≠ bF) := Lib.hid (by omega)
  clear hlt_S hlt_O
  go_wp2_with (first | (refine wpList_load_box rfl 85 _ rfl bS _ _ HXS.out rfl _ Tryz.underlying85 rfl HIS.out ?_))
  refine (Hhdec.out _).mono ?_
  rintro e u6w ⟨rfl, hb⟩
  replace HXS := Lib.hid (HXS.out.below hb)
  replace HXO := Lib.hid (HXO.out.below hb)
  replace HXF := Lib.hid (HXF.out.below hb)
  replace HB := Lib.hid (HB.out.trans (hb.mono HB.out.size))
  clear hb
  go_upto_region 8 with (first | (refine wpList_alloc_store rfl rfl 92 10 _ rfl rfl rfl rfl #[.int .i64 0, .int .i64 0, .int .u8 0, .int .u8 0, .int .u8 0, .int .u8 0, .int .u8 0, .int .u8 0, .int .u8 0, .int .u8 0, .int .u8 0, .int .u8 0] yv Tryz.zeroValue92 rfl rfl HIX.out HZY.out Hhyv1.out ?_))
  have hn := Blk.new u6w 92 yv
  have hb : Below u6w.heap.size u6w (u6w.alloc (.cells yv 92)) := (Below.refl _ _).alloc (Nat.le_refl _) _
  have hge := HB.out.size
  have hlt_S := HXS.out.lt
  have hlt_O := HXO.out.lt
  have hlt_F := HXF.out.lt
  obtain ⟨bX, hl⟩ : ∃ b, u6w.heap.size = b := ⟨_, rfl⟩
  generalize u6w.alloc (.cells yv 92) = u7w at hn hb ⊢
  replace HXS := Lib.hid (HXS.out.below hb)
  replace HXO := Lib.hid (HXO.out.below hb)
  replace HXF := Lib.hid (HXF.out.below hb)
  replace HB := Lib.hid (HB.out.trans (hb.mono HB.out.size))
  clear hb
  rw [hl] at hn hge hlt_S hlt_O hlt_F
  try rw [hl]
  have HXX := Lib.hid hn; have HGX := Lib.hid hge; clear hn hl hge
  have HNXS : RowKit.Hid (bS ≠ bX) := Lib.hid (by omega); have HNXO : RowKit.Hid (bO ≠ bX) := Lib.hid (by omega); have HNXF : RowKit.Hid (bF ≠ bX) := Lib.hid (by omega)
  clear hlt_S hlt_O hlt_F
  go_wp2_with fail
  refine (Hhpks.out _ _ _ (Hhr.out.below HB.out)).mono ?_
  rintro e u8w ⟨AP, cP, rfl, hrP, hb⟩
  have HRP := Lib.hid hrP; clear hrP
  replace HXS := Lib.hid (HXS.out.below hb)
  replace HXO := Lib.hid (HXO.out.below hb)
  replace HXF := Lib.hid (HXF.out.below hb)
  replace HXX := Lib.hid (HXX.out.below hb)
  replace HB := Lib.hid (HB.out.trans (hb.mono HB.out.size))
  clear hb
  go_wp2_with fail
  refine (Hhlost.out _ _ _ HRP.out).mono ?_
  rintro e u9w ⟨A1, c1, rfl, hr1, hb⟩
  have HDn := Lib.hid (rdB_of hr1); have HMn := Lib.hid (Nat.le_refl u9w.heap.size); clear hr1 HRP
  replace HXS := Lib.hid (HXS.out.below hb)
  replace HXO := Lib.hid (HXO.out.below hb)
  replace HXF := Lib.hid (HXF.out.below hb)
  replace HXX := Lib.hid (HXX.out.below hb)
  replace HB := Lib.hid (HB.out.trans (hb.mono HB.out.size))
  clear hb
  go_wp2_with (first | (refine wpList_load_box rfl 89 _ rfl bO _ _ HXO.out rfl _ Tryz.underlying89 rfl HIO.out ?_))
  refine (Hhcp.out _).mono ?_
  rintro e u10w ⟨rfl, hb⟩
  replace HXS := Lib.hid (HXS.out.below hb)
  replace HXO := Lib.hid (HXO.out.below hb)
  replace HXF := Lib.hid (HXF.out.below hb)
  replace HXX := Lib.hid (HXX.out.below hb)
  replace HDn := Lib.hid (HDn.out.below (hb.mono HMn.out)); replace HMn := Lib.hid (Nat.le_trans HMn.out hb.size)
  replace HB := Lib.hid (HB.out.trans (hb.mono HB.out.size))
  clear hb
  go_wp2_with fail
  refine (Hhcps.out _ _ _ (Hhr.out.below HB.out)).mono ?_
  rintro e u11w ⟨rfl, hb⟩
  replace HXS := Lib.hid (HXS.out.below hb)
  replace HXO := Lib.hid (HXO.out.below hb)
  replace HXF := Lib.hid (HXF.out.below hb)
  replace HXX := Lib.hid (HXX.out.below hb)
  replace HDn := Lib.hid (HDn.out.below (hb.mono HMn.out)); replace HMn := Lib.hid (Nat.le_trans HMn.out hb.size)
  replace HB := Lib.hid (HB.out.trans (hb.mono HB.out.size))
  clear hb
  go_wp2_with fail
  refine (checkRange_any _ _ _ _).mono ?_
  rintro e _ ⟨rfl, rfl⟩
  go_wp2_with fail
  refine (firstL_n _ _ _ [_, _] _ rfl (by simp [maxLen]) (by exact rd_of_blk (Blk.new _ _ _) rfl)).mono ?_
  rintro e _ ⟨rfl, rfl⟩
  rw [HhT.out]
  have hb : Below u11w.heap.size u11w (u11w.alloc (.cells #[.int .i64 P1, .int .i64 (outs kind 0 255)] 3)) := (Below.refl _ _).alloc (Nat.le_refl _) _
  generalize u11w.alloc (.cells #[.int .i64 P1, .int .i64 (outs kind 0 255)] 3) = u12w at hb ⊢
  replace HXS := Lib.hid (HXS.out.below hb)
  replace HXO := Lib.hid (HXO.out.below hb)
  replace HXF := Lib.hid (HXF.out.below hb)
  replace HXX := Lib.hid (HXX.out.below hb)
  replace HDn := Lib.hid (HDn.out.below (hb.mono HMn.out)); replace HMn := Lib.hid (Nat.le_trans HMn.out hb.size)
  replace HB := Lib.hid (HB.out.trans (hb.mono HB.out.size))
  clear hb
  go_upto_region 11 with fail
  have hn := Blk.new u12w 85 #[.int .u8 0, .int .u8 0, .int .u8 0, .int .u8 0, .int .u8 0, .int .u8 0, .int .u8 0, .int .u8 0, .int .u8 0, .int .u8 0, .int .u8 0, .int .u8 0, .int .u8 0, .int .u8 0, .int .u8 0, .int .u8 0]
  have hb : Below u12w.heap.size u12w (u12w.alloc (.cells #[.int .u8 0, .int .u8 0, .int .u8 0, .int .u8 0, .int .u8 0, .int .u8 0, .int .u8 0, .int .u8 0, .int .u8 0, .int .u8 0, .int .u8 0, .int .u8 0, .int .u8 0, .int .u8 0, .int .u8 0, .int .u8 0] 85)) := (Below.refl _ _).alloc (Nat.le_refl _) _
  have hge := HB.out.size
  have hlt_S := HXS.out.lt
  have hlt_O := HXO.out.lt
  have hlt_F := HXF.out.lt
  have hlt_X := HXX.out.lt
  have hm_n := HMn.out
  obtain ⟨bW, hl⟩ : ∃ b, u12w.heap.size = b := ⟨_, rfl⟩
  generalize u12w.alloc (.cells #[.int .u8 0, .int .u8 0, .int .u8 0, .int .u8 0, .int .u8 0, .int .u8 0, .int .u8 0, .int .u8 0, .int .u8 0, .int .u8 0, .int .u8 0, .int .u8 0, .int .u8 0, .int .u8 0, .int .u8 0, .int .u8 0] 85) = u13w at hn hb ⊢
  replace HXS := Lib.hid (HXS.out.below hb)
  replace HXO := Lib.hid (HXO.out.below hb)
  replace HXF := Lib.hid (HXF.out.below hb)
  replace HXX := Lib.hid (HXX.out.below hb)
  replace HDn := Lib.hid (HDn.out.below (hb.mono HMn.out)); replace HMn := Lib.hid (Nat.le_trans HMn.out hb.size)
  replace HB := Lib.hid (HB.out.trans (hb.mono HB.out.size))
  clear hb
  rw [hl] at hn hge hlt_S hlt_O hlt_F hlt_X hm_n
  try rw [hl]
  have HXW := Lib.hid hn; have HGW := Lib.hid hge; clear hn hl hge
  have HNWS : RowKit.Hid (bS ≠ bW) := Lib.hid (by omega); have HNWO : RowKit.Hid (bO ≠ bW) := Lib.hid (by omega); have HNWF : RowKit.Hid (bF ≠ bW) := Lib.hid (by omega); have HNWX : RowKit.Hid (bX ≠ bW) := Lib.hid (by omega)
  clear hlt_S hlt_O hlt_F hlt_X
  have HVWn := Lib.hid hm_n
  clear hm_n
  have HIW : RowKit.Hid ((Tryz.prog.info? 85).map (·.size) = some (#[.int .u8 0, .int .u8 0, .int .u8 0, .int .u8 0, .int .u8 0, .int .u8 0, .int .u8 0, .int .u8 0, .int .u8 0, .int .u8 0, .int .u8 0, .int .u8 0, .int .u8 0, .int .u8 0, .int .u8 0, .int .u8 0] : Array Value).size) := Lib.hid (by kernel_rfl)
  go_upto_region 14 with fail
  go_upto_region 16 with fail
  go_wp2_with (first | (refine wpList_load_box rfl 85 _ rfl bS _ _ HXS.out rfl _ Tryz.underlying85 rfl HIS.out ?_))
  refine (HhdecR.out _).mono ?_
  rintro e u14w ⟨rfl, hb⟩
  replace HXS := Lib.hid (HXS.out.below hb)
  replace HXO := Lib.hid (HXO.out.below hb)
  replace HXF := Lib.hid (HXF.out.below hb)
  replace HXX := Lib.hid (HXX.out.below hb)
  replace HXW := Lib.hid (HXW.out.below hb)
  replace HDn := Lib.hid (HDn.out.below (hb.mono HMn.out)); replace HMn := Lib.hid (Nat.le_trans HMn.out hb.size)
  replace HB := Lib.hid (HB.out.trans (hb.mono HB.out.size))
  clear hb
  go_upto_region 17 with (first | (refine wpList_alloc_store rfl rfl 89 18 _ rfl rfl rfl rfl #[.int .i64 0, .int .i64 0, .int .u8 0, .int .u8 0, .int .u8 0, .int .u8 0, .int .u8 0, .int .u8 0, .int .u8 0, .int .u8 0, .int .u8 0, .int .u8 0] yv Tryz.zeroValue89 rfl rfl HIY.out HZY.out Hhyv1.out ?_))
  have hn := Blk.new u14w 89 yv
  have hb : Below u14w.heap.size u14w (u14w.alloc (.cells yv 89)) := (Below.refl _ _).alloc (Nat.le_refl _) _
  have hge := HB.out.size
  have hlt_S := HXS.out.lt
  have hlt_O := HXO.out.lt
  have hlt_F := HXF.out.lt
  have hlt_X := HXX.out.lt
  have hlt_W := HXW.out.lt
  have hm_n := HMn.out
  obtain ⟨bY, hl⟩ : ∃ b, u14w.heap.size = b := ⟨_, rfl⟩
  generalize u14w.alloc (.cells yv 89) = u15w at hn hb ⊢
  replace HXS := Lib.hid (HXS.out.below hb)
  replace HXO := Lib.hid (HXO.out.below hb)
  replace HXF := Lib.hid (HXF.out.below hb)
  replace HXX := Lib.hid (HXX.out.below hb)
  replace HXW := Lib.hid (HXW.out.below hb)
  replace HDn := Lib.hid (HDn.out.below (hb.mono HMn.out)); replace HMn := Lib.hid (Nat.le_trans HMn.out hb.size)
  replace HB := Lib.hid (HB.out.trans (hb.mono HB.out.size))
  clear hb
  rw [hl] at hn hge hlt_S hlt_O hlt_F hlt_X hlt_W hm_n
  try rw [hl]
  have HXY := Lib.hid hn; have HGY := Lib.hid hge; clear hn hl hge
  have HNYS : RowKit.Hid (bS ≠ bY) := Lib.hid (by omega); have HNYO : RowKit.Hid (bO ≠ bY) := Lib.hid (by omega); have HNYF : RowKit.Hid (bF ≠ bY) := Lib.hid (by omega); have HNYX : RowKit.Hid (bX ≠ bY) := Lib.hid (by omega); have HNYW : RowKit.Hid (bW ≠ bY) := Lib.hid (by omega)
  clear hlt_S hlt_O hlt_F hlt_X hlt_W
  have HVYn := Lib.hid hm_n
  clear hm_n
  have heqf := Hheqf.out; have heqp := Hheqp.out
  go_wp2_with (first | (refine wpList_load_box rfl 85 _ rfl bF _ _ HXF.out rfl _ Tryz.underlying85 rfl HIF.out ?_) | (refine wpList_load_box rfl 85 _ rfl bW _ _ HXW.out rfl _ Tryz.underlying85 rfl HIW.out ?_) | (refine wpList_load_box rfl 92 _ rfl bX _ _ HXX.out rfl _ Tryz.underlying92 rfl HIX.out ?_) | (refine wpList_load_box rfl 89 _ rfl bY _ _ HXY.out rfl _ Tryz.underlying89 rfl HIY.out ?_))
  clear heqf heqp
  refine (ints_same _ _ _ _ 0 [] _ rfl (by unfold maxLen; omega) (HDn.out.rd HMn.out) (fun h => absurd h (by simp))).mono ?_
  rintro e u16w ⟨rfl, hb⟩
  replace HXS := Lib.hid (HXS.out.below hb)
  replace HXO := Lib.hid (HXO.out.below hb)
  replace HXF := Lib.hid (HXF.out.below hb)
  replace HXX := Lib.hid (HXX.out.below hb)
  replace HXW := Lib.hid (HXW.out.below hb)
  replace HXY := Lib.hid (HXY.out.below hb)
  replace HDn := Lib.hid (HDn.out.below (hb.mono HMn.out)); replace HMn := Lib.hid (Nat.le_trans HMn.out hb.size)
  replace HB := Lib.hid (HB.out.trans (hb.mono HB.out.size))
  clear hb
  go_wp2_with fail
  refine (awake_laid _ (Hhlaid.out.below HB.out)).mono ?_
  rintro e u17w ⟨rfl, hb⟩
  replace HXS := Lib.hid (HXS.out.below hb)
  replace HXO := Lib.hid (HXO.out.below hb)
  replace HXF := Lib.hid (HXF.out.below hb)
  replace HXX := Lib.hid (HXX.out.below hb)
  replace HXW := Lib.hid (HXW.out.below hb)
  replace HXY := Lib.hid (HXY.out.below hb)
  replace HDn := Lib.hid (HDn.out.below (hb.mono HMn.out)); replace HMn := Lib.hid (Nat.le_trans HMn.out hb.size)
  replace HB := Lib.hid (HB.out.trans (hb.mono HB.out.size))
  clear hb
  go_wp2
  go_ret
  exact yesEnd_mk rfl HB.out
end Go.Proofs.YtnbpcfakkphmcaaGreatDoor
namespace Go.Proofs.YtnbpcfakkphmcaaGreatDoor
open Go.RowKit
set_option linter.unusedVariables false
set_option maxRecDepth 100000

set_option maxHeartbeats 2000000 in
theorem packets_egg (l : List Pk) (n : Nat) (A : Option Addr) (c : Nat) (kind : Int) (sv ov yv : Array Value) (hsv : sv.size = 16) (hov : ov.size = 12) (hyv : yv.size = 12)
    (w : World) (hlaid : Laid w) (hn : l.length = n) (hn2 : n ≤ 1025) (hsh : shortPk n = true) (hr : Rd w A (pksC l))
    (hov1 : ov.all (·.oneCell') = true) (hyv1 : yv.all (·.oneCell') = true)
    (hn0 : n = 0) (hoz : ov = #[.int .i64 0, .int .i64 0, .int .u8 0, .int .u8 0, .int .u8 0, .int .u8 0, .int .u8 0, .int .u8 0, .int .u8 0, .int .u8 0, .int .u8 0, .int .u8 0])
    (Fv : Array Value) (hFv : Fv.size = 16) (hFv1 : Fv.all (·.oneCell') = true)
    (R : List Int) (m : Nat) (z : Int) (hm : R.length = m) (hR : m ≤ maxLen)
    (hcp : ∀ w, Calls Tryz.prog 68 #[.agg ov] w fun e w' => e = .returned (.int .i64 0) ∧ Below w.heap.size w w')
    (henc : ∀ w, Calls Tryz.prog 64 #[.agg ov] w fun e w' => e = .returned (.tuple #[.agg Fv, .int .i64 0]) ∧ Below w.heap.size w w')
    (hencR : ∀ w, Calls Tryz.prog 70 #[.agg ov] w fun e w' => e = .returned (.agg Fv) ∧ Below w.heap.size w w')
    (D : Int) (hdec : ∀ w, Calls Tryz.prog 65 #[.agg sv] w fun e w' => e = .returned (.tuple #[.agg yv, .int .i64 D]) ∧ Below w.heap.size w w') (hdecR : ∀ w, Calls Tryz.prog 72 #[.agg sv] w fun e w' => e = .returned (.tuple #[.agg yv, .int .i64 D]) ∧ Below w.heap.size w w')
    (hpks : ∀ A c w, Rd w A (pksC l) → Calls Tryz.prog 67 #[.slice A n c] w fun e w' => ∃ A' c', e = .returned (.slice A' n c') ∧ Rd w' A' (pksC l) ∧ Below w.heap.size w w')
    (P1 : Int) (hcps : ∀ A c w, Rd w A (pksC l) → Calls Tryz.prog 69 #[.slice A n c] w fun e w' => e = .returned (.int .i64 P1) ∧ Below w.heap.size w w')
    (hT : firstE [P1, outs kind 0 255] = 0) (hlost : ∀ A c w, Rd w A (pksC l) → Calls Tryz.prog 66 #[.slice A n c, .int .i64 kind] w fun e w' => ∃ A c, e = .returned (.tuple #[.slice A m c, .int .i64 z]) ∧ Rd w' A (R.map (.int .i64)) ∧ Below w.heap.size w w')
    (hlostR : ∀ A c w, Rd w A (pksC l) → Calls Tryz.prog 71 #[.slice A n c, .int .i64 kind] w fun e w' => ∃ A c, e = .returned (.tuple #[.slice A m c, .int .i64 z]) ∧ Rd w' A (R.map (.int .i64)) ∧ Below w.heap.size w w')
    (heqf : ∀ w, (Op.equalIn 10000 85 (.agg Fv) (.agg Fv)).run Tryz.prog w = .ok true w) (heqp : ∀ w, (Op.equalIn 10000 89 (.agg yv) (.agg yv)).run Tryz.prog w = .ok true w) :
    Calls Tryz.prog 8 #[.slice A n c, .agg sv, .int .i64 kind] w (YesEnd w) := by
  have hiS : (Tryz.prog.info? 85).map (·.size) = some sv.size := by rw [hsv]; kernel_rfl
  have hiO : (Tryz.prog.info? 89).map (·.size) = some ov.size := by rw [hov]; kernel_rfl
  have hiX : (Tryz.prog.info? 92).map (·.size) = some yv.size := by rw [hyv]; kernel_rfl
  have hiY : (Tryz.prog.info? 89).map (·.size) = some yv.size := by rw [hyv]; kernel_rfl
  have hiF : (Tryz.prog.info? 85).map (·.size) = some Fv.size := by rw [hFv]; kernel_rfl
  have hzF : (#[.int .u8 0, .int .u8 0, .int .u8 0, .int .u8 0, .int .u8 0, .int .u8 0, .int .u8 0, .int .u8 0, .int .u8 0, .int .u8 0, .int .u8 0, .int .u8 0, .int .u8 0, .int .u8 0, .int .u8 0, .int .u8 0] : Array Value).size = Fv.size := hFv.symm
  have hzY : (#[.int .i64 0, .int .i64 0, .int .u8 0, .int .u8 0, .int .u8 0, .int .u8 0, .int .u8 0, .int .u8 0, .int .u8 0, .int .u8 0, .int .u8 0, .int .u8 0] : Array Value).size = yv.size := hyv.symm
  have hzO : (#[.int .i64 0, .int .i64 0, .int .u8 0, .int .u8 0, .int .u8 0, .int .u8 0, .int .u8 0, .int .u8 0, .int .u8 0, .int .u8 0, .int .u8 0, .int .u8 0] : Array Value).size = ov.size := hov.symm
  have HIS := Lib.hid hiS; have HIO := Lib.hid hiO; have HIX := Lib.hid hiX; have HIY := Lib.hid hiY; have HIF := Lib.hid hiF; have HZY := Lib.hid hzY; have HZO := Lib.hid hzO
  have HZF := Lib.hid hzF; clear hzF hFv
  
  have Hhlaid := Lib.hid hlaid; have Hhsh := Lib.hid hsh; have Hhr := Lib.hid hr; have Hhcp := Lib.hid hcp; have Hhenc := Lib.hid henc; have Hhdec := Lib.hid hdec; have HhdecR := Lib.hid hdecR; have Hhpks := Lib.hid hpks; have Hhcps := Lib.hid hcps; have HhT := Lib.hid hT; have Hhlost := Lib.hid hlost; have Hheqf := Lib.hid heqf; have Hheqp := Lib.hid heqp; have Hhov1 := Lib.hid hov1; have Hhyv1 := Lib.hid hyv1; have HhencR := Lib.hid hencR; have HhFv1 := Lib.hid hFv1; have HhlostR := Lib.hid hlostR; have Hhm := Lib.hid hm; have HhR := Lib.hid hR
  clear hiS hiO hiX hiY hiF hzY hzO hsv hov hyv hlaid hsh hr hcp henc hdec hdecR hpks hcps hT hlost heqf heqp hov1 hyv1 hencR hFv1 hlostR hm hR  
  have HB := Lib.hid (Below.refl w.heap.size w)
  subst hn0; subst hoz
  clear hn hn2
  go_enter Tryz.func8, Tryz.ntmps8
  go_upto_region 1 with fail
  have hn := Blk.new w 85 sv
  have hb : Below w.heap.size w (w.alloc (.cells sv 85)) := (Below.refl _ _).alloc (Nat.le_refl _) _
  have hge := HB.out.size
  obtain ⟨bS, hl⟩ : ∃ b, w.heap.size = b := ⟨_, rfl⟩
  generalize w.alloc (.cells sv 85) = u1w at hn hb ⊢
  replace HB := Lib.hid (HB.out.trans (hb.mono HB.out.size))
  clear hb
  rw [hl] at hn hge
  try rw [hl]
  have HXS := Lib.hid hn; have HGS := Lib.hid hge; clear hn hl hge
  go_wp2_with fail
  refine (shortPackets_any _ _ _ _).mono ?_
  rintro e _ ⟨rfl, rfl⟩
  rw [Hhsh.out]
  go_upto_region 4 with fail
  have hn := Blk.new u1w 89 #[.int .i64 0, .int .i64 0, .int .u8 0, .int .u8 0, .int .u8 0, .int .u8 0, .int .u8 0, .int .u8 0, .int .u8 0, .int .u8 0, .int .u8 0, .int .u8 0]
  have hb : Below u1w.heap.size u1w (u1w.alloc (.cells #[.int .i64 0, .int .i64 0, .int .u8 0, .int .u8 0, .int .u8 0, .int .u8 0, .int .u8 0, .int .u8 0, .int .u8 0, .int .u8 0, .int .u8 0, .int .u8 0] 89)) := (Below.refl _ _).alloc (Nat.le_refl _) _
  have hge := HB.out.size
  have hlt_S := HXS.out.lt
  obtain ⟨bO, hl⟩ : ∃ b, u1w.heap.size = b := ⟨_, rfl⟩
  generalize u1w.alloc (.cells #[.int .i64 0, .int .i64 0, .int .u8 0, .int .u8 0, .int .u8 0, .int .u8 0, .int .u8 0, .int .u8 0, .int .u8 0, .int .u8 0, .int .u8 0, .int .u8 0] 89) = u2w at hn hb ⊢
  replace HXS := Lib.hid (HXS.out.below hb)
  replace HB := Lib.hid (HB.out.trans (hb.mono HB.out.size))
  clear hb
  rw [hl] at hn hge hlt_S
  try rw [hl]
  have HXO := Lib.hid hn; have HGO := Lib.hid hge; clear hn hl hge
  have HNOS : RowKit.Hid (bS ≠ bO) := Lib.hid (by omega)
  clear hlt_S
  go_upto_region 6 with fail
  go_wp2_with (first | (refine wpList_load_box rfl 89 _ rfl bO _ _ HXO.out rfl _ Tryz.underlying89 rfl HIO.out ?_))
  refine (Hhenc.out _).mono ?_
  rintro e u3w ⟨rfl, hb⟩
  replace HXS := Lib.hid (HXS.out.below hb)
  replace HXO := Lib.hid (HXO.out.below hb)
  replace HB := Lib.hid (HB.out.trans (hb.mono HB.out.size))
  clear hb
  go_upto_region 7 with (first | (refine wpList_alloc_store rfl rfl 85 8 _ rfl rfl rfl rfl #[.int .u8 0, .int .u8 0, .int .u8 0, .int .u8 0, .int .u8 0, .int .u8 0, .int .u8 0, .int .u8 0, .int .u8 0, .int .u8 0, .int .u8 0, .int .u8 0, .int .u8 0, .int .u8 0, .int .u8 0, .int .u8 0] Fv Tryz.zeroValue85 rfl rfl HIF.out HZF.out HhFv1.out ?_))
  have hn := Blk.new u3w 85 Fv
  have hb : Below u3w.heap.size u3w (u3w.alloc (.cells Fv 85)) := (Below.refl _ _).alloc (Nat.le_refl _) _
  have hge := HB.out.size
  have hlt_S := HXS.out.lt
  have hlt_O := HXO.out.lt
  obtain ⟨bF, hl⟩ : ∃ b, u3w.heap.size = b := ⟨_, rfl⟩
  generalize u3w.alloc (.cells Fv 85) = u4w at hn hb ⊢
  replace HXS := Lib.hid (HXS.out.below hb)
  replace HXO := Lib.hid (HXO.out.below hb)
  replace HB := Lib.hid (HB.out.trans (hb.mono HB.out.size))
  clear hb
  rw [hl] at hn hge hlt_S hlt_O
  try rw [hl]
  have HXF := Lib.hid hn; have HGF := Lib.hid hge; clear hn hl hge
  have HNFS : RowKit.Hid (bS ≠ bF) := Lib.hid (by omega); have HNFO : RowKit.Hid (bO ≠ bF) := Lib.hid (by omega)
  clear hlt_S hlt_O
  go_wp2_with (first | (refine wpList_load_box rfl 85 _ rfl bS _ _ HXS.out rfl _ Tryz.underlying85 rfl HIS.out ?_))
  refine (Hhdec.out _).mono ?_
  rintro e u5w ⟨rfl, hb⟩
  replace HXS := Lib.hid (HXS.out.below hb)
  replace HXO := Lib.hid (HXO.out.below hb)
  replace HXF := Lib.hid (HXF.out.below hb)
  replace HB := Lib.hid (HB.out.trans (hb.mono HB.out.size))
  clear hb
  go_upto_region 8 with (first | (refine wpList_alloc_store rfl rfl 92 10 _ rfl rfl rfl rfl #[.int .i64 0, .int .i64 0, .int .u8 0, .int .u8 0, .int .u8 0, .int .u8 0, .int .u8 0, .int .u8 0, .int .u8 0, .int .u8 0, .int .u8 0, .int .u8 0] yv Tryz.zeroValue92 rfl rfl HIX.out HZY.out Hhyv1.out ?_))
  have hn := Blk.new u5w 92 yv
  have hb : Below u5w.heap.size u5w (u5w.alloc (.cells yv 92)) := (Below.refl _ _).alloc (Nat.le_refl _) _
  have hge := HB.out.size
  have hlt_S := HXS.out.lt
  have hlt_O := HXO.out.lt
  have hlt_F := HXF.out.lt
  obtain ⟨bX, hl⟩ : ∃ b, u5w.heap.size = b := ⟨_, rfl⟩
  generalize u5w.alloc (.cells yv 92) = u6w at hn hb ⊢
  replace HXS := Lib.hid (HXS.out.below hb)
  replace HXO := Lib.hid (HXO.out.below hb)
  replace HXF := Lib.hid (HXF.out.below hb)
  replace HB := Lib.hid (HB.out.trans (hb.mono HB.out.size))
  clear hb
  rw [hl] at hn hge hlt_S hlt_O hlt_F
  try rw [hl]
  have HXX := Lib.hid hn; have HGX := Lib.hid hge; clear hn hl hge
  have HNXS : RowKit.Hid (bS ≠ bX) := Lib.hid (by omega); have HNXO : RowKit.Hid (bO ≠ bX) := Lib.hid (by omega); have HNXF : RowKit.Hid (bF ≠ bX) := Lib.hid (by omega)
  clear hlt_S hlt_O hlt_F
  go_wp2_with fail
  refine (Hhpks.out _ _ _ (Hhr.out.below HB.out)).mono ?_
  rintro e u7w ⟨AP, cP, rfl, hrP, hb⟩
  have HRP := Lib.hid hrP; clear hrP
  replace HXS := Lib.hid (HXS.out.below hb)
  replace HXO := Lib.hid (HXO.out.below hb)
  replace HXF := Lib.hid (HXF.out.below hb)
  replace HXX := Lib.hid (HXX.out.below hb)
  replace HB := Lib.hid (HB.out.trans (hb.mono HB.out.size))
  clear hb
  go_wp2_with fail
  refine (Hhlost.out _ _ _ HRP.out).mono ?_
  rintro e u8w ⟨A1, c1, rfl, hr1, hb⟩
  have HDn := Lib.hid (rdB_of hr1); have HMn := Lib.hid (Nat.le_refl u8w.heap.size); clear hr1 HRP
  replace HXS := Lib.hid (HXS.out.below hb)
  replace HXO := Lib.hid (HXO.out.below hb)
  replace HXF := Lib.hid (HXF.out.below hb)
  replace HXX := Lib.hid (HXX.out.below hb)
  replace HB := Lib.hid (HB.out.trans (hb.mono HB.out.size))
  clear hb
  go_wp2_with (first | (refine wpList_load_box rfl 89 _ rfl bO _ _ HXO.out rfl _ Tryz.underlying89 rfl HIO.out ?_))
  refine (Hhcp.out _).mono ?_
  rintro e u9w ⟨rfl, hb⟩
  replace HXS := Lib.hid (HXS.out.below hb)
  replace HXO := Lib.hid (HXO.out.below hb)
  replace HXF := Lib.hid (HXF.out.below hb)
  replace HXX := Lib.hid (HXX.out.below hb)
  replace HDn := Lib.hid (HDn.out.below (hb.mono HMn.out)); replace HMn := Lib.hid (Nat.le_trans HMn.out hb.size)
  replace HB := Lib.hid (HB.out.trans (hb.mono HB.out.size))
  clear hb
  go_wp2_with fail
  refine (Hhcps.out _ _ _ (Hhr.out.below HB.out)).mono ?_
  rintro e u10w ⟨rfl, hb⟩
  replace HXS := Lib.hid (HXS.out.below hb)
  replace HXO := Lib.hid (HXO.out.below hb)
  replace HXF := Lib.hid (HXF.out.below hb)
  replace HXX := Lib.hid (HXX.out.below hb)
  replace HDn := Lib.hid (HDn.out.below (hb.mono HMn.out)); replace HMn := Lib.hid (Nat.le_trans HMn.out hb.size)
  replace HB := Lib.hid (HB.out.trans (hb.mono HB.out.size))
  clear hb
  go_wp2_with fail
  refine (checkRange_any _ _ _ _).mono ?_
  rintro e _ ⟨rfl, rfl⟩
  go_wp2_with fail
  refine (firstL_n _ _ _ [_, _] _ rfl (by simp [maxLen]) (by exact rd_of_blk (Blk.new _ _ _) rfl)).mono ?_
  rintro e _ ⟨rfl, rfl⟩
  rw [HhT.out]
  have hb : Below u10w.heap.size u10w (u10w.alloc (.cells #[.int .i64 P1, .int .i64 (outs kind 0 255)] 3)) := (Below.refl _ _).alloc (Nat.le_refl _) _
  generalize u10w.alloc (.cells #[.int .i64 P1, .int .i64 (outs kind 0 255)] 3) = u11w at hb ⊢
  replace HXS := Lib.hid (HXS.out.below hb)
  replace HXO := Lib.hid (HXO.out.below hb)
  replace HXF := Lib.hid (HXF.out.below hb)
  replace HXX := Lib.hid (HXX.out.below hb)
  replace HDn := Lib.hid (HDn.out.below (hb.mono HMn.out)); replace HMn := Lib.hid (Nat.le_trans HMn.out hb.size)
  replace HB := Lib.hid (HB.out.trans (hb.mono HB.out.size))
  clear hb
  go_upto_region 11 with fail
  have hn := Blk.new u11w 85 #[.int .u8 0, .int .u8 0, .int .u8 0, .int .u8 0, .int .u8 0, .int .u8 0, .int .u8 0, .int .u8 0, .int .u8 0, .int .u8 0, .int .u8 0, .int .u8 0, .int .u8 0, .int .u8 0, .int .u8 0, .int .u8 0]
  have hb : Below u11w.heap.size u11w (u11w.alloc (.cells #[.int .u8 0, .int .u8 0, .int .u8 0, .int .u8 0, .int .u8 0, .int .u8 0, .int .u8 0, .int .u8 0, .int .u8 0, .int .u8 0, .int .u8 0, .int .u8 0, .int .u8 0, .int .u8 0, .int .u8 0, .int .u8 0] 85)) := (Below.refl _ _).alloc (Nat.le_refl _) _
  have hge := HB.out.size
  have hlt_S := HXS.out.lt
  have hlt_O := HXO.out.lt
  have hlt_F := HXF.out.lt
  have hlt_X := HXX.out.lt
  have hm_n := HMn.out
  obtain ⟨bW, hl⟩ : ∃ b, u11w.heap.size = b := ⟨_, rfl⟩
  generalize u11w.alloc (.cells #[.int .u8 0, .int .u8 0, .int .u8 0, .int .u8 0, .int .u8 0, .int .u8 0, .int .u8 0, .int .u8 0, .int .u8 0, .int .u8 0, .int .u8 0, .int .u8 0, .int .u8 0, .int .u8 0, .int .u8 0, .int .u8 0] 85) = u12w at hn hb ⊢
  replace HXS := Lib.hid (HXS.out.below hb)
  replace HXO := Lib.hid (HXO.out.below hb)
  replace HXF := Lib.hid (HXF.out.below hb)
  replace HXX := Lib.hid (HXX.out.below hb)
  replace HDn := Lib.hid (HDn.out.below (hb.mono HMn.out)); replace HMn := Lib.hid (Nat.le_trans HMn.out hb.size)
  replace HB := Lib.hid (HB.out.trans (hb.mono HB.out.size))
  clear hb
  rw [hl] at hn hge hlt_S hlt_O hlt_F hlt_X hm_n
  try rw [hl]
  have HXW := Lib.hid hn; have HGW := Lib.hid hge; clear hn hl hge
  have HNWS : RowKit.Hid (bS ≠ bW) := Lib.hid (by omega); have HNWO : RowKit.Hid (bO ≠ bW) := Lib.hid (by omega); have HNWF : RowKit.Hid (bF ≠ bW) := Lib.hid (by omega); have HNWX : RowKit.Hid (bX ≠ bW) := Lib.hid (by omega)
  clear hlt_S hlt_O hlt_F hlt_X
  have HVWn := Lib.hid hm_n
  clear hm_n
  have HIW : RowKit.Hid ((Tryz.prog.info? 85).map (·.size) = some (#[.int .u8 0, .int .u8 0, .int .u8 0, .int .u8 0, .int .u8 0, .int .u8 0, .int .u8 0, .int .u8 0, .int .u8 0, .int .u8 0, .int .u8 0, .int .u8 0, .int .u8 0, .int .u8 0, .int .u8 0, .int .u8 0] : Array Value).size) := Lib.hid (by kernel_rfl)
  go_wp2_with (first | (refine wpList_load_box rfl 89 _ rfl bO _ _ HXO.out rfl _ Tryz.underlying89 rfl HIO.out ?_))
  refine (HhencR.out _).mono ?_
  rintro e u13w ⟨rfl, hb⟩
  replace HXS := Lib.hid (HXS.out.below hb)
  replace HXO := Lib.hid (HXO.out.below hb)
  replace HXF := Lib.hid (HXF.out.below hb)
  replace HXX := Lib.hid (HXX.out.below hb)
  replace HXW := Lib.hid (HXW.out.below hb)
  replace HDn := Lib.hid (HDn.out.below (hb.mono HMn.out)); replace HMn := Lib.hid (Nat.le_trans HMn.out hb.size)
  replace HB := Lib.hid (HB.out.trans (hb.mono HB.out.size))
  clear hb
  go_upto_region 14 with (first | (refine wpList_store_box rfl 85 _ _ rfl bW _ #[.int .u8 0, .int .u8 0, .int .u8 0, .int .u8 0, .int .u8 0, .int .u8 0, .int .u8 0, .int .u8 0, .int .u8 0, .int .u8 0, .int .u8 0, .int .u8 0, .int .u8 0, .int .u8 0, .int .u8 0, .int .u8 0] Fv HXW.out rfl rfl HIF.out HZF.out HhFv1.out ?_; intro u14w hst hon))
  have hblW := Only.below hon (Below.refl bW _) (Nat.le_refl _)
  replace HXS := Lib.hid (Only.far hon HXS.out HNWS.out)
  replace HXO := Lib.hid (Only.far hon HXO.out HNWO.out)
  replace HXF := Lib.hid (Only.far hon HXF.out HNWF.out)
  replace HXX := Lib.hid (Only.far hon HXX.out HNWX.out)
  replace HXW := hst
  replace HB := Lib.hid (Only.below hon HB.out HGW.out)
  replace HDn := Lib.hid (HDn.out.below (hblW.mono HVWn.out)); replace HMn := Lib.hid (Nat.le_trans HMn.out hblW.size)
  clear hst hon hblW
  replace HIW := HIF
  go_wp2_with fail
  refine (HhlostR.out _ _ _ (Hhr.out.below HB.out)).mono ?_
  rintro e u15w ⟨A2, c2, rfl, hr2, hb⟩
  have HDo := Lib.hid (rdB_of hr2); have HMo := Lib.hid (Nat.le_refl u15w.heap.size); clear hr2
  replace HXS := Lib.hid (HXS.out.below hb)
  replace HXO := Lib.hid (HXO.out.below hb)
  replace HXF := Lib.hid (HXF.out.below hb)
  replace HXX := Lib.hid (HXX.out.below hb)
  replace HXW := Lib.hid (HXW.out.below hb)
  replace HDn := Lib.hid (HDn.out.below (hb.mono HMn.out)); replace HMn := Lib.hid (Nat.le_trans HMn.out hb.size)
  replace HB := Lib.hid (HB.out.trans (hb.mono HB.out.size))
  clear hb
  go_upto_region 16 with fail
  go_wp2_with (first | (refine wpList_load_box rfl 85 _ rfl bS _ _ HXS.out rfl _ Tryz.underlying85 rfl HIS.out ?_))
  refine (HhdecR.out _).mono ?_
  rintro e u16w ⟨rfl, hb⟩
  replace HXS := Lib.hid (HXS.out.below hb)
  replace HXO := Lib.hid (HXO.out.below hb)
  replace HXF := Lib.hid (HXF.out.below hb)
  replace HXX := Lib.hid (HXX.out.below hb)
  replace HXW := Lib.hid (HXW.out.below hb)
  replace HDn := Lib.hid (HDn.out.below (hb.mono HMn.out)); replace HMn := Lib.hid (Nat.le_trans HMn.out hb.size)
  replace HDo := Lib.hid (HDo.out.below (hb.mono HMo.out)); replace HMo := Lib.hid (Nat.le_trans HMo.out hb.size)
  replace HB := Lib.hid (HB.out.trans (hb.mono HB.out.size))
  clear hb
  go_upto_region 17 with (first | (refine wpList_alloc_store rfl rfl 89 18 _ rfl rfl rfl rfl #[.int .i64 0, .int .i64 0, .int .u8 0, .int .u8 0, .int .u8 0, .int .u8 0, .int .u8 0, .int .u8 0, .int .u8 0, .int .u8 0, .int .u8 0, .int .u8 0] yv Tryz.zeroValue89 rfl rfl HIY.out HZY.out Hhyv1.out ?_))
  have hn := Blk.new u16w 89 yv
  have hb : Below u16w.heap.size u16w (u16w.alloc (.cells yv 89)) := (Below.refl _ _).alloc (Nat.le_refl _) _
  have hge := HB.out.size
  have hlt_S := HXS.out.lt
  have hlt_O := HXO.out.lt
  have hlt_F := HXF.out.lt
  have hlt_X := HXX.out.lt
  have hlt_W := HXW.out.lt
  have hm_n := HMn.out
  have hm_o := HMo.out
  obtain ⟨bY, hl⟩ : ∃ b, u16w.heap.size = b := ⟨_, rfl⟩
  generalize u16w.alloc (.cells yv 89) = u17w at hn hb ⊢
  replace HXS := Lib.hid (HXS.out.below hb)
  replace HXO := Lib.hid (HXO.out.below hb)
  replace HXF := Lib.hid (HXF.out.below hb)
  replace HXX := Lib.hid (HXX.out.below hb)
  replace HXW := Lib.hid (HXW.out.below hb)
  replace HDn := Lib.hid (HDn.out.below (hb.mono HMn.out)); replace HMn := Lib.hid (Nat.le_trans HMn.out hb.size)
  replace HDo := Lib.hid (HDo.out.below (hb.mono HMo.out)); replace HMo := Lib.hid (Nat.le_trans HMo.out hb.size)
  replace HB := Lib.hid (HB.out.trans (hb.mono HB.out.size))
  clear hb
  rw [hl] at hn hge hlt_S hlt_O hlt_F hlt_X hlt_W hm_n hm_o
  try rw [hl]
  have HXY := Lib.hid hn; have HGY := Lib.hid hge; clear hn hl hge
  have HNYS : RowKit.Hid (bS ≠ bY) := Lib.hid (by omega); have HNYO : RowKit.Hid (bO ≠ bY) := Lib.hid (by omega); have HNYF : RowKit.Hid (bF ≠ bY) := Lib.hid (by omega); have HNYX : RowKit.Hid (bX ≠ bY) := Lib.hid (by omega); have HNYW : RowKit.Hid (bW ≠ bY) := Lib.hid (by omega)
  clear hlt_S hlt_O hlt_F hlt_X hlt_W
  have HVYn := Lib.hid hm_n; have HVYo := Lib.hid hm_o
  clear hm_n hm_o
  have heqf := Hheqf.out; have heqp := Hheqp.out
  go_wp2_with (first | (refine wpList_load_box rfl 85 _ rfl bF _ _ HXF.out rfl _ Tryz.underlying85 rfl HIF.out ?_) | (refine wpList_load_box rfl 85 _ rfl bW _ _ HXW.out rfl _ Tryz.underlying85 rfl HIW.out ?_) | (refine wpList_load_box rfl 92 _ rfl bX _ _ HXX.out rfl _ Tryz.underlying92 rfl HIX.out ?_) | (refine wpList_load_box rfl 89 _ rfl bY _ _ HXY.out rfl _ Tryz.underlying89 rfl HIY.out ?_))
  clear heqf heqp
  refine (ints_same _ _ _ _ m R _ Hhm.out HhR.out (HDn.out.rd HMn.out) (HDo.out.rd HMo.out)).mono ?_
  rintro e u18w ⟨rfl, hb⟩
  replace HXS := Lib.hid (HXS.out.below hb)
  replace HXO := Lib.hid (HXO.out.below hb)
  replace HXF := Lib.hid (HXF.out.below hb)
  replace HXX := Lib.hid (HXX.out.below hb)
  replace HXW := Lib.hid (HXW.out.below hb)
  replace HXY := Lib.hid (HXY.out.below hb)
  replace HDn := Lib.hid (HDn.out.below (hb.mono HMn.out)); replace HMn := Lib.hid (Nat.le_trans HMn.out hb.size)
  replace HDo := Lib.hid (HDo.out.below (hb.mono HMo.out)); replace HMo := Lib.hid (Nat.le_trans HMo.out hb.size)
  replace HB := Lib.hid (HB.out.trans (hb.mono HB.out.size))
  clear hb
  go_wp2_with fail
  refine (awake_laid _ (Hhlaid.out.below HB.out)).mono ?_
  rintro e u19w ⟨rfl, hb⟩
  replace HXS := Lib.hid (HXS.out.below hb)
  replace HXO := Lib.hid (HXO.out.below hb)
  replace HXF := Lib.hid (HXF.out.below hb)
  replace HXX := Lib.hid (HXX.out.below hb)
  replace HXW := Lib.hid (HXW.out.below hb)
  replace HXY := Lib.hid (HXY.out.below hb)
  replace HDn := Lib.hid (HDn.out.below (hb.mono HMn.out)); replace HMn := Lib.hid (Nat.le_trans HMn.out hb.size)
  replace HDo := Lib.hid (HDo.out.below (hb.mono HMo.out)); replace HMo := Lib.hid (Nat.le_trans HMo.out hb.size)
  replace HB := Lib.hid (HB.out.trans (hb.mono HB.out.size))
  clear hb
  go_wp2
  go_ret
  exact yesEnd_mk rfl HB.out
end Go.Proofs.YtnbpcfakkphmcaaGreatDoor
namespace Go.Proofs.YtnbpcfakkphmcaaGreatDoor
open Go.RowKit
set_option linter.unusedVariables false
set_option maxRecDepth 100000

set_option maxHeartbeats 2000000 in
theorem packets_egb (l : List Pk) (n : Nat) (A : Option Addr) (c : Nat) (kind : Int) (sv ov yv : Array Value) (hsv : sv.size = 16) (hov : ov.size = 12) (hyv : yv.size = 12)
    (w : World) (hlaid : Laid w) (hn : l.length = n) (hn2 : n ≤ 1025) (hsh : shortPk n = true) (hr : Rd w A (pksC l))
    (hov1 : ov.all (·.oneCell') = true) (hyv1 : yv.all (·.oneCell') = true)
    (hn0 : n = 0) (hoz : ov = #[.int .i64 0, .int .i64 0, .int .u8 0, .int .u8 0, .int .u8 0, .int .u8 0, .int .u8 0, .int .u8 0, .int .u8 0, .int .u8 0, .int .u8 0, .int .u8 0])
    (Fv : Array Value) (hFv : Fv.size = 16) (hFv1 : Fv.all (·.oneCell') = true)
    (T : Int) (hTb : T ≠ 0)
    (hcp : ∀ w, Calls Tryz.prog 68 #[.agg ov] w fun e w' => e = .returned (.int .i64 0) ∧ Below w.heap.size w w')
    (henc : ∀ w, Calls Tryz.prog 64 #[.agg ov] w fun e w' => e = .returned (.tuple #[.agg Fv, .int .i64 0]) ∧ Below w.heap.size w w')
    (hencR : ∀ w, Calls Tryz.prog 70 #[.agg ov] w fun e w' => e = .returned (.agg Fv) ∧ Below w.heap.size w w')
    (D : Int) (hdec : ∀ w, Calls Tryz.prog 65 #[.agg sv] w fun e w' => e = .returned (.tuple #[.agg yv, .int .i64 D]) ∧ Below w.heap.size w w') (hdecR : ∀ w, Calls Tryz.prog 72 #[.agg sv] w fun e w' => e = .returned (.tuple #[.agg yv, .int .i64 D]) ∧ Below w.heap.size w w')
    (hpks : ∀ A c w, Rd w A (pksC l) → Calls Tryz.prog 67 #[.slice A n c] w fun e w' => ∃ A' c', e = .returned (.slice A' n c') ∧ Rd w' A' (pksC l) ∧ Below w.heap.size w w')
    (P1 : Int) (hcps : ∀ A c w, Rd w A (pksC l) → Calls Tryz.prog 69 #[.slice A n c] w fun e w' => e = .returned (.int .i64 P1) ∧ Below w.heap.size w w')
    (hT : firstE [P1, outs kind 0 255] = T) (hlost : ∀ A c w, Rd w A (pksC l) → Calls Tryz.prog 66 #[.slice A n c, .int .i64 kind] w fun e w' => ∃ A c, e = .returned (.tuple #[.slice A 0 c, .int .i64 T]) ∧ Rd w' A ([].map (.int .i64)) ∧ Below w.heap.size w w')
    (heqf : ∀ w, (Op.equalIn 10000 85 (.agg Fv) (.agg Fv)).run Tryz.prog w = .ok true w) (heqp : ∀ w, (Op.equalIn 10000 89 (.agg yv) (.agg yv)).run Tryz.prog w = .ok true w) :
    Calls Tryz.prog 8 #[.slice A n c, .agg sv, .int .i64 kind] w (YesEnd w) := by
  have hiS : (Tryz.prog.info? 85).map (·.size) = some sv.size := by rw [hsv]; kernel_rfl
  have hiO : (Tryz.prog.info? 89).map (·.size) = some ov.size := by rw [hov]; kernel_rfl
  have hiX : (Tryz.prog.info? 92).map (·.size) = some yv.size := by rw [hyv]; kernel_rfl
  have hiY : (Tryz.prog.info? 89).map (·.size) = some yv.size := by rw [hyv]; kernel_rfl
  have hiF : (Tryz.prog.info? 85).map (·.size) = some Fv.size := by rw [hFv]; kernel_rfl
  have hzF : (#[.int .u8 0, .int .u8 0, .int .u8 0, .int .u8 0, .int .u8 0, .int .u8 0, .int .u8 0, .int .u8 0, .int .u8 0, .int .u8 0, .int .u8 0, .int .u8 0, .int .u8 0, .int .u8 0, .int .u8 0, .int .u8 0] : Array Value).size = Fv.size := hFv.symm
  have hzY : (#[.int .i64 0, .int .i64 0, .int .u8 0, .int .u8 0, .int .u8 0, .int .u8 0, .int .u8 0, .int .u8 0, .int .u8 0, .int .u8 0, .int .u8 0, .int .u8 0] : Array Value).size = yv.size := hyv.symm
  have hzO : (#[.int .i64 0, .int .i64 0, .int .u8 0, .int .u8 0, .int .u8 0, .int .u8 0, .int .u8 0, .int .u8 0, .int .u8 0, .int .u8 0, .int .u8 0, .int .u8 0] : Array Value).size = ov.size := hov.symm
  have HIS := Lib.hid hiS; have HIO := Lib.hid hiO; have HIX := Lib.hid hiX; have HIY := Lib.hid hiY; have HIF := Lib.hid hiF; have HZY := Lib.hid hzY; have HZO := Lib.hid hzO
  have HZF := Lib.hid hzF; clear hzF hFv
  have HTB : (T == 0) = false := by simp [hTb]
  have Hhlaid := Lib.hid hlaid; have Hhsh := Lib.hid hsh; have Hhr := Lib.hid hr; have Hhcp := Lib.hid hcp; have Hhenc := Lib.hid henc; have Hhdec := Lib.hid hdec; have HhdecR := Lib.hid hdecR; have Hhpks := Lib.hid hpks; have Hhcps := Lib.hid hcps; have HhT := Lib.hid hT; have Hhlost := Lib.hid hlost; have Hheqf := Lib.hid heqf; have Hheqp := Lib.hid heqp; have Hhov1 := Lib.hid hov1; have Hhyv1 := Lib.hid hyv1; have HhencR := Lib.hid hencR; have HhFv1 := Lib.hid hFv1
  clear hiS hiO hiX hiY hiF hzY hzO hsv hov hyv hlaid hsh hr hcp henc hdec hdecR hpks hcps hT hlost heqf heqp hov1 hyv1 hencR hFv1  hTb
  have HB := Lib.hid (Below.refl w.heap.size w)
  subst hn0; subst hoz
  clear hn hn2
  go_enter Tryz.func8, Tryz.ntmps8
  go_upto_region 1 with fail
  have hn := Blk.new w 85 sv
  have hb : Below w.heap.size w (w.alloc (.cells sv 85)) := (Below.refl _ _).alloc (Nat.le_refl _) _
  have hge := HB.out.size
  obtain ⟨bS, hl⟩ : ∃ b, w.heap.size = b := ⟨_, rfl⟩
  generalize w.alloc (.cells sv 85) = u1w at hn hb ⊢
  replace HB := Lib.hid (HB.out.trans (hb.mono HB.out.size))
  clear hb
  rw [hl] at hn hge
  try rw [hl]
  have HXS := Lib.hid hn; have HGS := Lib.hid hge; clear hn hl hge
  go_wp2_with fail
  refine (shortPackets_any _ _ _ _).mono ?_
  rintro e _ ⟨rfl, rfl⟩
  rw [Hhsh.out]
  go_upto_region 4 with fail
  have hn := Blk.new u1w 89 #[.int .i64 0, .int .i64 0, .int .u8 0, .int .u8 0, .int .u8 0, .int .u8 0, .int .u8 0, .int .u8 0, .int .u8 0, .int .u8 0, .int .u8 0, .int .u8 0]
  have hb : Below u1w.heap.size u1w (u1w.alloc (.cells #[.int .i64 0, .int .i64 0, .int .u8 0, .int .u8 0, .int .u8 0, .int .u8 0, .int .u8 0, .int .u8 0, .int .u8 0, .int .u8 0, .int .u8 0, .int .u8 0] 89)) := (Below.refl _ _).alloc (Nat.le_refl _) _
  have hge := HB.out.size
  have hlt_S := HXS.out.lt
  obtain ⟨bO, hl⟩ : ∃ b, u1w.heap.size = b := ⟨_, rfl⟩
  generalize u1w.alloc (.cells #[.int .i64 0, .int .i64 0, .int .u8 0, .int .u8 0, .int .u8 0, .int .u8 0, .int .u8 0, .int .u8 0, .int .u8 0, .int .u8 0, .int .u8 0, .int .u8 0] 89) = u2w at hn hb ⊢
  replace HXS := Lib.hid (HXS.out.below hb)
  replace HB := Lib.hid (HB.out.trans (hb.mono HB.out.size))
  clear hb
  rw [hl] at hn hge hlt_S
  try rw [hl]
  have HXO := Lib.hid hn; have HGO := Lib.hid hge; clear hn hl hge
  have HNOS : RowKit.Hid (bS ≠ bO) := Lib.hid (by omega)
  clear hlt_S
  go_upto_region 6 with fail
  go_wp2_with (first | (refine wpList_load_box rfl 89 _ rfl bO _ _ HXO.out rfl _ Tryz.underlying89 rfl HIO.out ?_))
  refine (Hhenc.out _).mono ?_
  rintro e u3w ⟨rfl, hb⟩
  replace HXS := Lib.hid (HXS.out.below hb)
  replace HXO := Lib.hid (HXO.out.below hb)
  replace HB := Lib.hid (HB.out.trans (hb.mono HB.out.size))
  clear hb
  go_upto_region 7 with (first | (refine wpList_alloc_store rfl rfl 85 8 _ rfl rfl rfl rfl #[.int .u8 0, .int .u8 0, .int .u8 0, .int .u8 0, .int .u8 0, .int .u8 0, .int .u8 0, .int .u8 0, .int .u8 0, .int .u8 0, .int .u8 0, .int .u8 0, .int .u8 0, .int .u8 0, .int .u8 0, .int .u8 0] Fv Tryz.zeroValue85 rfl rfl HIF.out HZF.out HhFv1.out ?_))
  have hn := Blk.new u3w 85 Fv
  have hb : Below u3w.heap.size u3w (u3w.alloc (.cells Fv 85)) := (Below.refl _ _).alloc (Nat.le_refl _) _
  have hge := HB.out.size
  have hlt_S := HXS.out.lt
  have hlt_O := HXO.out.lt
  obtain ⟨bF, hl⟩ : ∃ b, u3w.heap.size = b := ⟨_, rfl⟩
  generalize u3w.alloc (.cells Fv 85) = u4w at hn hb ⊢
  replace HXS := Lib.hid (HXS.out.below hb)
  replace HXO := Lib.hid (HXO.out.below hb)
  replace HB := Lib.hid (HB.out.trans (hb.mono HB.out.size))
  clear hb
  rw [hl] at hn hge hlt_S hlt_O
  try rw [hl]
  have HXF := Lib.hid hn; have HGF := Lib.hid hge; clear hn hl hge
  have HNFS : RowKit.Hid (bS ≠ bF) := Lib.hid (by omega); have HNFO : RowKit.Hid (bO ≠ bF) := Lib.hid (by omega)
  clear hlt_S hlt_O
  go_wp2_with (first | (refine wpList_load_box rfl 85 _ rfl bS _ _ HXS.out rfl _ Tryz.underlying85 rfl HIS.out ?_))
  refine (Hhdec.out _).mono ?_
  rintro e u5w ⟨rfl, hb⟩
  replace HXS := Lib.hid (HXS.out.below hb)
  replace HXO := Lib.hid (HXO.out.below hb)
  replace HXF := Lib.hid (HXF.out.below hb)
  replace HB := Lib.hid (HB.out.trans (hb.mono HB.out.size))
  clear hb
  go_upto_region 8 with (first | (refine wpList_alloc_store rfl rfl 92 10 _ rfl rfl rfl rfl #[.int .i64 0, .int .i64 0, .int .u8 0, .int .u8 0, .int .u8 0, .int .u8 0, .int .u8 0, .int .u8 0, .int .u8 0, .int .u8 0, .int .u8 0, .int .u8 0] yv Tryz.zeroValue92 rfl rfl HIX.out HZY.out Hhyv1.out ?_))
  have hn := Blk.new u5w 92 yv
  have hb : Below u5w.heap.size u5w (u5w.alloc (.cells yv 92)) := (Below.refl _ _).alloc (Nat.le_refl _) _
  have hge := HB.out.size
  have hlt_S := HXS.out.lt
  have hlt_O := HXO.out.lt
  have hlt_F := HXF.out.lt
  obtain ⟨bX, hl⟩ : ∃ b, u5w.heap.size = b := ⟨_, rfl⟩
  generalize u5w.alloc (.cells yv 92) = u6w at hn hb ⊢
  replace HXS := Lib.hid (HXS.out.below hb)
  replace HXO := Lib.hid (HXO.out.below hb)
  replace HXF := Lib.hid (HXF.out.below hb)
  replace HB := Lib.hid (HB.out.trans (hb.mono HB.out.size))
  clear hb
  rw [hl] at hn hge hlt_S hlt_O hlt_F
  try rw [hl]
  have HXX := Lib.hid hn; have HGX := Lib.hid hge; clear hn hl hge
  have HNXS : RowKit.Hid (bS ≠ bX) := Lib.hid (by omega); have HNXO : RowKit.Hid (bO ≠ bX) := Lib.hid (by omega); have HNXF : RowKit.Hid (bF ≠ bX) := Lib.hid (by omega)
  clear hlt_S hlt_O hlt_F
  go_wp2_with fail
  refine (Hhpks.out _ _ _ (Hhr.out.below HB.out)).mono ?_
  rintro e u7w ⟨AP, cP, rfl, hrP, hb⟩
  have HRP := Lib.hid hrP; clear hrP
  replace HXS := Lib.hid (HXS.out.below hb)
  replace HXO := Lib.hid (HXO.out.below hb)
  replace HXF := Lib.hid (HXF.out.below hb)
  replace HXX := Lib.hid (HXX.out.below hb)
  replace HB := Lib.hid (HB.out.trans (hb.mono HB.out.size))
  clear hb
  go_wp2_with fail
  refine (Hhlost.out _ _ _ HRP.out).mono ?_
  rintro e u8w ⟨A1, c1, rfl, hr1, hb⟩
  have HDn := Lib.hid (rdB_of hr1); have HMn := Lib.hid (Nat.le_refl u8w.heap.size); clear hr1 HRP
  replace HXS := Lib.hid (HXS.out.below hb)
  replace HXO := Lib.hid (HXO.out.below hb)
  replace HXF := Lib.hid (HXF.out.below hb)
  replace HXX := Lib.hid (HXX.out.below hb)
  replace HB := Lib.hid (HB.out.trans (hb.mono HB.out.size))
  clear hb
  go_wp2_with (first | (refine wpList_load_box rfl 89 _ rfl bO _ _ HXO.out rfl _ Tryz.underlying89 rfl HIO.out ?_))
  refine (Hhcp.out _).mono ?_
  rintro e u9w ⟨rfl, hb⟩
  replace HXS := Lib.hid (HXS.out.below hb)
  replace HXO := Lib.hid (HXO.out.below hb)
  replace HXF := Lib.hid (HXF.out.below hb)
  replace HXX := Lib.hid (HXX.out.below hb)
  replace HDn := Lib.hid (HDn.out.below (hb.mono HMn.out)); replace HMn := Lib.hid (Nat.le_trans HMn.out hb.size)
  replace HB := Lib.hid (HB.out.trans (hb.mono HB.out.size))
  clear hb
  go_wp2_with fail
  refine (Hhcps.out _ _ _ (Hhr.out.below HB.out)).mono ?_
  rintro e u10w ⟨rfl, hb⟩
  replace HXS := Lib.hid (HXS.out.below hb)
  replace HXO := Lib.hid (HXO.out.below hb)
  replace HXF := Lib.hid (HXF.out.below hb)
  replace HXX := Lib.hid (HXX.out.below hb)
  replace HDn := Lib.hid (HDn.out.below (hb.mono HMn.out)); replace HMn := Lib.hid (Nat.le_trans HMn.out hb.size)
  replace HB := Lib.hid (HB.out.trans (hb.mono HB.out.size))
  clear hb
  go_wp2_with fail
  refine (checkRange_any _ _ _ _).mono ?_
  rintro e _ ⟨rfl, rfl⟩
  go_wp2_with fail
  refine (firstL_n _ _ _ [_, _] _ rfl (by simp [maxLen]) (by exact rd_of_blk (Blk.new _ _ _) rfl)).mono ?_
  rintro e _ ⟨rfl, rfl⟩
  rw [HhT.out]
  have hb : Below u10w.heap.size u10w (u10w.alloc (.cells #[.int .i64 P1, .int .i64 (outs kind 0 255)] 3)) := (Below.refl _ _).alloc (Nat.le_refl _) _
  generalize u10w.alloc (.cells #[.int .i64 P1, .int .i64 (outs kind 0 255)] 3) = u11w at hb ⊢
  replace HXS := Lib.hid (HXS.out.below hb)
  replace HXO := Lib.hid (HXO.out.below hb)
  replace HXF := Lib.hid (HXF.out.below hb)
  replace HXX := Lib.hid (HXX.out.below hb)
  replace HDn := Lib.hid (HDn.out.below (hb.mono HMn.out)); replace HMn := Lib.hid (Nat.le_trans HMn.out hb.size)
  replace HB := Lib.hid (HB.out.trans (hb.mono HB.out.size))
  clear hb
  go_upto_region 11 with fail
  have hn := Blk.new u11w 85 #[.int .u8 0, .int .u8 0, .int .u8 0, .int .u8 0, .int .u8 0, .int .u8 0, .int .u8 0, .int .u8 0, .int .u8 0, .int .u8 0, .int .u8 0, .int .u8 0, .int .u8 0, .int .u8 0, .int .u8 0, .int .u8 0]
  have hb : Below u11w.heap.size u11w (u11w.alloc (.cells #[.int .u8 0, .int .u8 0, .int .u8 0, .int .u8 0, .int .u8 0, .int .u8 0, .int .u8 0, .int .u8 0, .int .u8 0, .int .u8 0, .int .u8 0, .int .u8 0, .int .u8 0, .int .u8 0, .int .u8 0, .int .u8 0] 85)) := (Below.refl _ _).alloc (Nat.le_refl _) _
  have hge := HB.out.size
  have hlt_S := HXS.out.lt
  have hlt_O := HXO.out.lt
  have hlt_F := HXF.out.lt
  have hlt_X := HXX.out.lt
  have hm_n := HMn.out
  obtain ⟨bW, hl⟩ : ∃ b, u11w.heap.size = b := ⟨_, rfl⟩
  generalize u11w.alloc (.cells #[.int .u8 0, .int .u8 0, .int .u8 0, .int .u8 0, .int .u8 0, .int .u8 0, .int .u8 0, .int .u8 0, .int .u8 0, .int .u8 0, .int .u8 0, .int .u8 0, .int .u8 0, .int .u8 0, .int .u8 0, .int .u8 0] 85) = u12w at hn hb ⊢
  replace HXS := Lib.hid (HXS.out.below hb)
  replace HXO := Lib.hid (HXO.out.below hb)
  replace HXF := Lib.hid (HXF.out.below hb)
  replace HXX := Lib.hid (HXX.out.below hb)
  replace HDn := Lib.hid (HDn.out.below (hb.mono HMn.out)); replace HMn := Lib.hid (Nat.le_trans HMn.out hb.size)
  replace HB := Lib.hid (HB.out.trans (hb.mono HB.out.size))
  clear hb
  rw [hl] at hn hge hlt_S hlt_O hlt_F hlt_X hm_n
  try rw [hl]
  have HXW := Lib.hid hn; have HGW := Lib.hid hge; clear hn hl hge
  have HNWS : RowKit.Hid (bS ≠ bW) := Lib.hid (by omega); have HNWO : RowKit.Hid (bO ≠ bW) := Lib.hid (by omega); have HNWF : RowKit.Hid (bF ≠ bW) := Lib.hid (by omega); have HNWX : RowKit.Hid (bX ≠ bW) := Lib.hid (by omega)
  clear hlt_S hlt_O hlt_F hlt_X
  have HVWn := Lib.hid hm_n
  clear hm_n
  have HIW : RowKit.Hid ((Tryz.prog.info? 85).map (·.size) = some (#[.int .u8 0, .int .u8 0, .int .u8 0, .int .u8 0, .int .u8 0, .int .u8 0, .int .u8 0, .int .u8 0, .int .u8 0, .int .u8 0, .int .u8 0, .int .u8 0, .int .u8 0, .int .u8 0, .int .u8 0, .int .u8 0] : Array Value).size) := Lib.hid (by kernel_rfl)
  go_wp2_with (first | (refine wpList_load_box rfl 89 _ rfl bO _ _ HXO.out rfl _ Tryz.underlying89 rfl HIO.out ?_))
  refine (HhencR.out _).mono ?_
  rintro e u13w ⟨rfl, hb⟩
  replace HXS := Lib.hid (HXS.out.below hb)
  replace HXO := Lib.hid (HXO.out.below hb)
  replace HXF := Lib.hid (HXF.out.below hb)
  replace HXX := Lib.hid (HXX.out.below hb)
  replace HXW := Lib.hid (HXW.out.below hb)
  replace HDn := Lib.hid (HDn.out.below (hb.mono HMn.out)); replace HMn := Lib.hid (Nat.le_trans HMn.out hb.size)
  replace HB := Lib.hid (HB.out.trans (hb.mono HB.out.size))
  clear hb
  go_upto_region 14 with (first | (refine wpList_store_box rfl 85 _ _ rfl bW _ #[.int .u8 0, .int .u8 0, .int .u8 0, .int .u8 0, .int .u8 0, .int .u8 0, .int .u8 0, .int .u8 0, .int .u8 0, .int .u8 0, .int .u8 0, .int .u8 0, .int .u8 0, .int .u8 0, .int .u8 0, .int .u8 0] Fv HXW.out rfl rfl HIF.out HZF.out HhFv1.out ?_; intro u14w hst hon))
  have hblW := Only.below hon (Below.refl bW _) (Nat.le_refl _)
  replace HXS := Lib.hid (Only.far hon HXS.out HNWS.out)
  replace HXO := Lib.hid (Only.far hon HXO.out HNWO.out)
  replace HXF := Lib.hid (Only.far hon HXF.out HNWF.out)
  replace HXX := Lib.hid (Only.far hon HXX.out HNWX.out)
  replace HXW := hst
  replace HB := Lib.hid (Only.below hon HB.out HGW.out)
  replace HDn := Lib.hid (HDn.out.below (hblW.mono HVWn.out)); replace HMn := Lib.hid (Nat.le_trans HMn.out hblW.size)
  clear hst hon hblW
  replace HIW := HIF
  go_upto_region 16 with fail
  go_wp2_with (first | (refine wpList_load_box rfl 85 _ rfl bS _ _ HXS.out rfl _ Tryz.underlying85 rfl HIS.out ?_))
  refine (HhdecR.out _).mono ?_
  rintro e u15w ⟨rfl, hb⟩
  replace HXS := Lib.hid (HXS.out.below hb)
  replace HXO := Lib.hid (HXO.out.below hb)
  replace HXF := Lib.hid (HXF.out.below hb)
  replace HXX := Lib.hid (HXX.out.below hb)
  replace HXW := Lib.hid (HXW.out.below hb)
  replace HDn := Lib.hid (HDn.out.below (hb.mono HMn.out)); replace HMn := Lib.hid (Nat.le_trans HMn.out hb.size)
  replace HB := Lib.hid (HB.out.trans (hb.mono HB.out.size))
  clear hb
  go_upto_region 17 with (first | (refine wpList_alloc_store rfl rfl 89 18 _ rfl rfl rfl rfl #[.int .i64 0, .int .i64 0, .int .u8 0, .int .u8 0, .int .u8 0, .int .u8 0, .int .u8 0, .int .u8 0, .int .u8 0, .int .u8 0, .int .u8 0, .int .u8 0] yv Tryz.zeroValue89 rfl rfl HIY.out HZY.out Hhyv1.out ?_))
  have hn := Blk.new u15w 89 yv
  have hb : Below u15w.heap.size u15w (u15w.alloc (.cells yv 89)) := (Below.refl _ _).alloc (Nat.le_refl _) _
  have hge := HB.out.size
  have hlt_S := HXS.out.lt
  have hlt_O := HXO.out.lt
  have hlt_F := HXF.out.lt
  have hlt_X := HXX.out.lt
  have hlt_W := HXW.out.lt
  have hm_n := HMn.out
  obtain ⟨bY, hl⟩ : ∃ b, u15w.heap.size = b := ⟨_, rfl⟩
  generalize u15w.alloc (.cells yv 89) = u16w at hn hb ⊢
  replace HXS := Lib.hid (HXS.out.below hb)
  replace HXO := Lib.hid (HXO.out.below hb)
  replace HXF := Lib.hid (HXF.out.below hb)
  replace HXX := Lib.hid (HXX.out.below hb)
  replace HXW := Lib.hid (HXW.out.below hb)
  replace HDn := Lib.hid (HDn.out.below (hb.mono HMn.out)); replace HMn := Lib.hid (Nat.le_trans HMn.out hb.size)
  replace HB := Lib.hid (HB.out.trans (hb.mono HB.out.size))
  clear hb
  rw [hl] at hn hge hlt_S hlt_O hlt_F hlt_X hlt_W hm_n
  try rw [hl]
  have HXY := Lib.hid hn; have HGY := Lib.hid hge; clear hn hl hge
  have HNYS : RowKit.Hid (bS ≠ bY) := Lib.hid (by omega); have HNYO : RowKit.Hid (bO ≠ bY) := Lib.hid (by omega); have HNYF : RowKit.Hid (bF ≠ bY) := Lib.hid (by omega); have HNYX : RowKit.Hid (bX ≠ bY) := Lib.hid (by omega); have HNYW : RowKit.Hid (bW ≠ bY) := Lib.hid (by omega)
  clear hlt_S hlt_O hlt_F hlt_X hlt_W
  have HVYn := Lib.hid hm_n
  clear hm_n
  have heqf := Hheqf.out; have heqp := Hheqp.out
  go_wp2_with (first | (refine wpList_load_box rfl 85 _ rfl bF _ _ HXF.out rfl _ Tryz.underlying85 rfl HIF.out ?_) | (refine wpList_load_box rfl 85 _ rfl bW _ _ HXW.out rfl _ Tryz.underlying85 rfl HIW.out ?_) | (refine wpList_load_box rfl 92 _ rfl bX _ _ HXX.out rfl _ Tryz.underlying92 rfl HIX.out ?_) | (refine wpList_load_box rfl 89 _ rfl bY _ _ HXY.out rfl _ Tryz.underlying89 rfl HIY.out ?_))
  clear heqf heqp
  refine (ints_same _ _ _ _ 0 [] _ rfl (by unfold maxLen; omega) (HDn.out.rd HMn.out) (fun h => absurd h (by simp))).mono ?_
  rintro e u17w ⟨rfl, hb⟩
  replace HXS := Lib.hid (HXS.out.below hb)
  replace HXO := Lib.hid (HXO.out.below hb)
  replace HXF := Lib.hid (HXF.out.below hb)
  replace HXX := Lib.hid (HXX.out.below hb)
  replace HXW := Lib.hid (HXW.out.below hb)
  replace HXY := Lib.hid (HXY.out.below hb)
  replace HDn := Lib.hid (HDn.out.below (hb.mono HMn.out)); replace HMn := Lib.hid (Nat.le_trans HMn.out hb.size)
  replace HB := Lib.hid (HB.out.trans (hb.mono HB.out.size))
  clear hb
  go_wp2_with fail
  refine (awake_laid _ (Hhlaid.out.below HB.out)).mono ?_
  rintro e u18w ⟨rfl, hb⟩
  replace HXS := Lib.hid (HXS.out.below hb)
  replace HXO := Lib.hid (HXO.out.below hb)
  replace HXF := Lib.hid (HXF.out.below hb)
  replace HXX := Lib.hid (HXX.out.below hb)
  replace HXW := Lib.hid (HXW.out.below hb)
  replace HXY := Lib.hid (HXY.out.below hb)
  replace HDn := Lib.hid (HDn.out.below (hb.mono HMn.out)); replace HMn := Lib.hid (Nat.le_trans HMn.out hb.size)
  replace HB := Lib.hid (HB.out.trans (hb.mono HB.out.size))
  clear hb
  go_wp2
  go_ret
  exact yesEnd_mk rfl HB.out
end Go.Proofs.YtnbpcfakkphmcaaGreatDoor
namespace Go.Proofs.YtnbpcfakkphmcaaGreatDoor
open Go.RowKit
set_option linter.unusedVariables false
set_option maxRecDepth 100000

set_option maxHeartbeats 1000000 in
theorem packets_long (n : Nat) (A : Option Addr) (c : Nat) (kind : Int) (sv : Array Value) (w : World) (hlaid : Laid w) (hsh : shortPk n = false) :
    Calls Tryz.prog 8 #[.slice A n c, .agg sv, .int .i64 kind] w (YesEnd w) := by
  have HL := Lib.hid hlaid; have HSH := Lib.hid hsh; clear hlaid hsh
  have HB := Lib.hid (Below.refl w.heap.size w)
  go_enter Tryz.func8, Tryz.ntmps8
  go_upto_region 1 with fail
  have hn := Blk.new w 85 sv
  have hb : Below w.heap.size w (w.alloc (.cells sv 85)) := (Below.refl _ _).alloc (Nat.le_refl _) _
  have hge := HB.out.size
  obtain ⟨bS, hl⟩ : ∃ b, w.heap.size = b := ⟨_, rfl⟩
  generalize w.alloc (.cells sv 85) = u1w at hn hb ⊢
  replace HB := Lib.hid (HB.out.trans (hb.mono HB.out.size))
  clear hb
  rw [hl] at hn hge
  try rw [hl]
  have HXS := Lib.hid hn; have HGS := Lib.hid hge; clear hn hl hge
  go_wp2_with fail
  refine (shortPackets_any _ _ _ _).mono ?_
  rintro e _ ⟨rfl, rfl⟩
  rw [HSH.out]
  go_wp2_with fail
  refine (awake_laid _ (HL.out.below HB.out)).mono ?_
  rintro e u2w ⟨rfl, hb⟩
  replace HXS := Lib.hid (HXS.out.below hb)
  replace HB := Lib.hid (HB.out.trans (hb.mono HB.out.size))
  clear hb
  go_wp2
  go_ret
  exact yesEnd_mk rfl HB.out
end Go.Proofs.YtnbpcfakkphmcaaGreatDoor
namespace Go.Proofs.YtnbpcfakkphmcaaGreatDoor
open Go.RowKit
set_option linter.unusedVariables false
set_option maxRecDepth 100000
theorem cells_size (p : Pk) : p.cells.toArray.size = 12 := rfl
theorem cells_one (p : Pk) : p.cells.toArray.all (·.oneCell') = true := by simp [Pk.cells, Value.oneCell']
theorem packets_law (l : List Pk) (hb : ∀ p ∈ l, p.Bytes) (f0 f1 f2 f3 f4 f5 f6 f7 f8 f9 f10 f11 f12 f13 f14 f15 : U8) (A : Option Addr) (c : Nat) (kind : Int) (w : World) (hlaid : Laid w) (hr : Rd w A (pksC l)) :
    Calls Tryz.prog 8 #[.slice A l.length c, .agg #[.int .u8 f0.1, .int .u8 f1.1, .int .u8 f2.1, .int .u8 f3.1, .int .u8 f4.1, .int .u8 f5.1, .int .u8 f6.1, .int .u8 f7.1, .int .u8 f8.1, .int .u8 f9.1, .int .u8 f10.1, .int .u8 f11.1, .int .u8 f12.1, .int .u8 f13.1, .int .u8 f14.1, .int .u8 f15.1], .int .i64 kind] w (YesEnd w) := by
  obtain ⟨n, hn⟩ : ∃ n, l.length = n := ⟨_, rfl⟩
  rw [hn]
  by_cases hsh : shortPk n = true
  · have hn2 : n ≤ 1025 := by unfold shortPk at hsh; simp at hsh; omega
    obtain ⟨y, D, hdec, hdecR⟩ := decode_fit f0 f1 f2 f3 f4 f5 f6 f7 f8 f9 f10 f11 f12 f13 f14 f15
    have heqp := eq_packetR y
    obtain ⟨R, z, hR, hlost, hlostR, hbad⟩ := lost_fit l kind (by omega)
    have hpks : ∀ A c w, Rd w A (pksC l) → Calls Tryz.prog 67 #[.slice A n c] w fun e w' => ∃ A' c', e = .returned (.slice A' n c') ∧ Rd w' A' (pksC l) ∧ Below w.heap.size w w' := fun A c w hr => by rw [← hn]; exact packets_any A c l w (by omega) hr
    have hcps : ∀ A c w, Rd w A (pksC l) → Calls Tryz.prog 69 #[.slice A n c] w fun e w' => e = .returned (.int .i64 (pksErr l)) ∧ Below w.heap.size w w' := fun A c w hr => by rw [← hn]; exact checkPackets_any A c l w (by unfold maxLen; omega) hr
    rw [hn] at hlost hlostR
    obtain ⟨m, hm⟩ : ∃ m, R.length = m := ⟨_, rfl⟩
    unfold LoEnd at hlost hlostR
    by_cases hT : firstE [pksErr l, outs kind 0 255] = 0
    · have hlostR := hlostR hT
      rw [hm] at hR
      simp only [hm] at hlost hlostR
      cases l with
      | nil =>
        have hn0 : n = 0 := by simpa using hn.symm
        obtain ⟨F0, F1, F2, F3, F4, F5, F6, F7, F8, F9, F10, F11, F12, F13, F14, F15, h1, h2, h3⟩ := encode_fit pk0 (fun x hx => by revert x; decide)
        have he : pkErr pk0.k pk0.c = 0 := by decide
        exact packets_egg [] n A c kind #[.int .u8 f0.1, .int .u8 f1.1, .int .u8 f2.1, .int .u8 f3.1, .int .u8 f4.1, .int .u8 f5.1, .int .u8 f6.1, .int .u8 f7.1, .int .u8 f8.1, .int .u8 f9.1, .int .u8 f10.1, .int .u8 f11.1, .int .u8 f12.1, .int .u8 f13.1, .int .u8 f14.1, .int .u8 f15.1] pk0.cells.toArray y.cells.toArray rfl rfl rfl w hlaid hn hn2 hsh hr (cells_one _) (cells_one _) hn0 rfl #[.int .u8 F0, .int .u8 F1, .int .u8 F2, .int .u8 F3, .int .u8 F4, .int .u8 F5, .int .u8 F6, .int .u8 F7, .int .u8 F8, .int .u8 F9, .int .u8 F10, .int .u8 F11, .int .u8 F12, .int .u8 F13, .int .u8 F14, .int .u8 F15] rfl (by simp [Value.oneCell']) R m z hm hR
          (fun w => (checkPacketR_any 0 0 0 0 0 0 0 0 0 0 0 0 w).mono fun e w' h => h) (fun w => (h1 w).mono fun e w' h => h) (fun w => (h2 he w).mono fun e w' h => h) D hdec hdecR hpks _ hcps hT hlost hlostR (eq_frame F0 F1 F2 F3 F4 F5 F6 F7 F8 F9 F10 F11 F12 F13 F14 F15) heqp
      | cons p l =>
        obtain ⟨F0, F1, F2, F3, F4, F5, F6, F7, F8, F9, F10, F11, F12, F13, F14, F15, h1, h2, h3⟩ := encode_fit p (hb p (List.mem_cons_self ..))
        have h0 : 0 < n := by rw [← hn]; simp
        have hp : ∀ (j : Nat) (v : Value), p.cells.toArray[j]? = some v → (pksC (p :: l))[j]? = some v := fun j v hv => by
          have h := pksC_at (l := p :: l) (i := 0) (by simp) j v (by simpa using hv)
          simpa using h
        have hcp : ∀ w, Calls Tryz.prog 68 #[.agg p.cells.toArray] w fun e w' => e = .returned (.int .i64 (pkErr p.k p.c)) ∧ Below w.heap.size w w' := fun w => checkPacketR_any p.k p.c p.d0 p.d1 p.d2 p.d3 p.d4 p.d5 p.d6 p.d7 p.d8 p.d9 w
        by_cases he : pkErr p.k p.c = 0
        · rw [he] at hcp h1
          exact packets_ngg (p :: l) n A c kind #[.int .u8 f0.1, .int .u8 f1.1, .int .u8 f2.1, .int .u8 f3.1, .int .u8 f4.1, .int .u8 f5.1, .int .u8 f6.1, .int .u8 f7.1, .int .u8 f8.1, .int .u8 f9.1, .int .u8 f10.1, .int .u8 f11.1, .int .u8 f12.1, .int .u8 f13.1, .int .u8 f14.1, .int .u8 f15.1] p.cells.toArray y.cells.toArray rfl rfl rfl w hlaid hn hn2 hsh hr (cells_one _) (cells_one _) h0 hp #[.int .u8 F0, .int .u8 F1, .int .u8 F2, .int .u8 F3, .int .u8 F4, .int .u8 F5, .int .u8 F6, .int .u8 F7, .int .u8 F8, .int .u8 F9, .int .u8 F10, .int .u8 F11, .int .u8 F12, .int .u8 F13, .int .u8 F14, .int .u8 F15] rfl (by simp [Value.oneCell']) R m z hm hR hcp (fun w => (h1 w).mono fun e w' h => h) (fun w => (h2 he w).mono fun e w' h => h) D hdec hdecR hpks _ hcps hT hlost hlostR (eq_frame F0 F1 F2 F3 F4 F5 F6 F7 F8 F9 F10 F11 F12 F13 F14 F15) heqp
        · have h4 := h3 he
          rw [h4] at h1
          exact packets_nbg (p :: l) n A c kind #[.int .u8 f0.1, .int .u8 f1.1, .int .u8 f2.1, .int .u8 f3.1, .int .u8 f4.1, .int .u8 f5.1, .int .u8 f6.1, .int .u8 f7.1, .int .u8 f8.1, .int .u8 f9.1, .int .u8 f10.1, .int .u8 f11.1, .int .u8 f12.1, .int .u8 f13.1, .int .u8 f14.1, .int .u8 f15.1] p.cells.toArray y.cells.toArray rfl rfl rfl w hlaid hn hn2 hsh hr (cells_one _) (cells_one _) h0 hp _ he R m z hm hR hcp (fun w => (h1 w).mono fun e w' h => h) D hdec hdecR hpks _ hcps hT hlost hlostR (eq_frame 0 0 0 0 0 0 0 0 0 0 0 0 0 0 0 0) heqp
    · obtain ⟨rfl, rfl⟩ := hbad hT
      cases l with
      | nil =>
        have hn0 : n = 0 := by simpa using hn.symm
        obtain ⟨F0, F1, F2, F3, F4, F5, F6, F7, F8, F9, F10, F11, F12, F13, F14, F15, h1, h2, h3⟩ := encode_fit pk0 (fun x hx => by revert x; decide)
        have he : pkErr pk0.k pk0.c = 0 := by decide
        exact packets_egb [] n A c kind #[.int .u8 f0.1, .int .u8 f1.1, .int .u8 f2.1, .int .u8 f3.1, .int .u8 f4.1, .int .u8 f5.1, .int .u8 f6.1, .int .u8 f7.1, .int .u8 f8.1, .int .u8 f9.1, .int .u8 f10.1, .int .u8 f11.1, .int .u8 f12.1, .int .u8 f13.1, .int .u8 f14.1, .int .u8 f15.1] pk0.cells.toArray y.cells.toArray rfl rfl rfl w hlaid hn hn2 hsh hr (cells_one _) (cells_one _) hn0 rfl #[.int .u8 F0, .int .u8 F1, .int .u8 F2, .int .u8 F3, .int .u8 F4, .int .u8 F5, .int .u8 F6, .int .u8 F7, .int .u8 F8, .int .u8 F9, .int .u8 F10, .int .u8 F11, .int .u8 F12, .int .u8 F13, .int .u8 F14, .int .u8 F15] rfl (by simp [Value.oneCell']) _ hT
          (fun w => (checkPacketR_any 0 0 0 0 0 0 0 0 0 0 0 0 w).mono fun e w' h => h) (fun w => (h1 w).mono fun e w' h => h) (fun w => (h2 he w).mono fun e w' h => h) D hdec hdecR hpks _ hcps rfl hlost (eq_frame F0 F1 F2 F3 F4 F5 F6 F7 F8 F9 F10 F11 F12 F13 F14 F15) heqp
      | cons p l =>
        obtain ⟨F0, F1, F2, F3, F4, F5, F6, F7, F8, F9, F10, F11, F12, F13, F14, F15, h1, h2, h3⟩ := encode_fit p (hb p (List.mem_cons_self ..))
        have h0 : 0 < n := by rw [← hn]; simp
        have hp : ∀ (j : Nat) (v : Value), p.cells.toArray[j]? = some v → (pksC (p :: l))[j]? = some v := fun j v hv => by
          have h := pksC_at (l := p :: l) (i := 0) (by simp) j v (by simpa using hv)
          simpa using h
        have hcp : ∀ w, Calls Tryz.prog 68 #[.agg p.cells.toArray] w fun e w' => e = .returned (.int .i64 (pkErr p.k p.c)) ∧ Below w.heap.size w w' := fun w => checkPacketR_any p.k p.c p.d0 p.d1 p.d2 p.d3 p.d4 p.d5 p.d6 p.d7 p.d8 p.d9 w
        by_cases he : pkErr p.k p.c = 0
        · rw [he] at hcp h1
          exact packets_ngb (p :: l) n A c kind #[.int .u8 f0.1, .int .u8 f1.1, .int .u8 f2.1, .int .u8 f3.1, .int .u8 f4.1, .int .u8 f5.1, .int .u8 f6.1, .int .u8 f7.1, .int .u8 f8.1, .int .u8 f9.1, .int .u8 f10.1, .int .u8 f11.1, .int .u8 f12.1, .int .u8 f13.1, .int .u8 f14.1, .int .u8 f15.1] p.cells.toArray y.cells.toArray rfl rfl rfl w hlaid hn hn2 hsh hr (cells_one _) (cells_one _) h0 hp #[.int .u8 F0, .int .u8 F1, .int .u8 F2, .int .u8 F3, .int .u8 F4, .int .u8 F5, .int .u8 F6, .int .u8 F7, .int .u8 F8, .int .u8 F9, .int .u8 F10, .int .u8 F11, .int .u8 F12, .int .u8 F13, .int .u8 F14, .int .u8 F15] rfl (by simp [Value.oneCell']) _ hT hcp (fun w => (h1 w).mono fun e w' h => h) (fun w => (h2 he w).mono fun e w' h => h) D hdec hdecR hpks _ hcps rfl hlost (eq_frame F0 F1 F2 F3 F4 F5 F6 F7 F8 F9 F10 F11 F12 F13 F14 F15) heqp
        · have h4 := h3 he
          rw [h4] at h1
          exact packets_nbb (p :: l) n A c kind #[.int .u8 f0.1, .int .u8 f1.1, .int .u8 f2.1, .int .u8 f3.1, .int .u8 f4.1, .int .u8 f5.1, .int .u8 f6.1, .int .u8 f7.1, .int .u8 f8.1, .int .u8 f9.1, .int .u8 f10.1, .int .u8 f11.1, .int .u8 f12.1, .int .u8 f13.1, .int .u8 f14.1, .int .u8 f15.1] p.cells.toArray y.cells.toArray rfl rfl rfl w hlaid hn hn2 hsh hr (cells_one _) (cells_one _) h0 hp _ he _ hT hcp (fun w => (h1 w).mono fun e w' h => h) D hdec hdecR hpks _ hcps rfl hlost (eq_frame 0 0 0 0 0 0 0 0 0 0 0 0 0 0 0 0) heqp
  · exact packets_long n A c kind _ w hlaid (by simpa using hsh)
end Go.Proofs.YtnbpcfakkphmcaaGreatDoor
