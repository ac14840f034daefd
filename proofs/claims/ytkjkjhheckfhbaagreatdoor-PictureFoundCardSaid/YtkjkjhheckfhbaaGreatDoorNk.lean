/- PictureFound: the walk of the law, by what its calls give. -/
import Derived.Test.YtkjkjhheckfhbaaGreatDoorP9
namespace Go.Proofs.YtkjkjhheckfhbaaGreatDoor
open Go.RowKit
set_option linter.unusedVariables false
set_option maxRecDepth 100000

set_option maxHeartbeats 40000000 in
theorem found_walk (L : List PkU) (n n0 n1 n2 n3 c0 c1 : Nat) (A : Option Addr) (c : Nat) (D : Nat → Bool) (w : World) (hn10 : n ≤ 10) (hcap0 : n ≤ c)
    (hlen : L.length = n)
    (hr : Rd w A (pksC (L.map PkU.pk)))
    (hck : ∀ w, Rd w A (pksC (L.map PkU.pk)) → Calls Tryz.prog 69 #[.slice A n c] w fun e w' => e = .returned (.int .i64 0) ∧ Below w.heap.size w w')
    (haw : ∀ w1, Below w.heap.size w w1 → Calls Tryz.prog 16 #[] w1 fun e w' => e = .returned (.bool true) ∧ Below w1.heap.size w1 w')
    (hrcv0 : ∀ (A : Option Addr) (c : Nat) (w : World), (16 * n) ≤ c → Rd w A (ub (codeU L)) → Calls Tryz.prog 73 #[.slice A (16 * n) c] w fun e w' => ∃ A1 c1 A2 c2, e = .returned (.tuple #[.slice A1 n c1, .slice A2 0 c2, .int .i64 0]) ∧ Rd w' A1 (pksC (L.map PkU.pk)) ∧ Rd w' A2 (spansC ([])) ∧ Below w.heap.size w w')
    (hheard : ∀ (l : List Pk) (m : Nat) (A : Option Addr) (c : Nat) (w : World), l.length = m → m ≤ 100 → Rd w A (pksC l) → Calls Tryz.prog 76 #[.slice A m c] w fun e w' => ∃ A' c', e = .returned (.slice A' m c') ∧ Rd w' A' (pksC l) ∧ Below w.heap.size w w')
    (hlost : ∀ (A : Option Addr) (c : Nat) (w : World), Rd w A (pksC (keptF c0 D 16 0)) → Calls Tryz.prog 66 #[.slice A (keptF c0 D 16 0).length c, .int .i64 3] w fun e w' => ∃ A1 c1, e = .returned (.tuple #[.slice A1 (goneF c0 D 16 0).length c1, .int .i64 0]) ∧ Rd w' A1 (intC (goneF c0 D 16 0)) ∧ Below w.heap.size w w')
    (hrcv2 : 0 < n → Clear (dmgD L n n0 n1 n2 n3) (16 * (n0 % n)) (dmgE n n0 n1 n3) (decide (n3 % 2 = 0)) (dmgD L n n0 n1 n2 n3).length → ∀ (A : Option Addr) (c : Nat) (w : World), (dmgD L n n0 n1 n2 n3).length ≤ c → Rd w A (ub (dmgD L n n0 n1 n2 n3)) → Calls Tryz.prog 73 #[.slice A (dmgD L n n0 n1 n2 n3).length c] w fun e w' => ∃ A1 c1 A2 c2, e = .returned (.tuple #[.slice A1 (n - 1) c1, .slice A2 1 c2, .int .i64 0]) ∧ Rd w' A1 (pksC ((L.map PkU.pk).take (n0 % n) ++ (L.map PkU.pk).drop (n0 % n + 1))) ∧ Rd w' A2 (spansC ([(((16 * (n0 % n) : Nat) : Int), ((dmgE n n0 n1 n3 : Nat) : Int))])) ∧ Below w.heap.size w w')
    (hspan : ∀ (x y : Int) (A A2 : Option Addr) (c c2 : Nat) (w : World), Rd w A (spansC [(x, y)]) → Rd w A2 (spansC [(x, y)]) → Calls Tryz.prog 77 #[.slice A 1 c, .slice A2 1 c2] w fun e w' => e = .returned (.bool true) ∧ Below w.heap.size w w')
    (hD : ∀ i, i < 16 → D i = (decide (0 < i) && (decide (i < 15) && (bits .and .u16 ((c1 : Int) / 2 ^ i) 1 == 1))))
    (hnB : n0 < 256 ∧ n1 < 256 ∧ n2 < 256 ∧ n3 < 256 ∧ c0 < 65536 ∧ c1 < 65536) :
    Calls Tryz.prog 14 #[.slice A n c, .agg #[.int .u8 (n0 : Int), .int .u8 (n1 : Int), .int .u8 (n2 : Int), .int .u8 (n3 : Int)], .agg #[.int .u16 (c0 : Int), .int .u16 (c1 : Int)]] w fun e w' => e = .returned (.bool true) ∧ Below w.heap.size w w' := by
  have Hhlen := Lib.hid hlen; have Hhr := Lib.hid hr; have Hhck := Lib.hid hck; have Hhaw := Lib.hid haw; have Hhrcv0 := Lib.hid hrcv0; have Hhheard := Lib.hid hheard; have Hhlost := Lib.hid hlost; have Hhrcv2 := Lib.hid hrcv2; have Hhspan := Lib.hid hspan; have HhD := Lib.hid hD; have HhnB := Lib.hid hnB
  clear hlen hr hck haw hrcv0 hheard hlost hrcv2 hspan hD hnB
  have HB := Lib.hid (Below.refl w.heap.size w)
  have HCAP0 := Lib.hid hcap0; clear hcap0
  have HPA : RowKit.Hid (0 < n → ∃ ad, A = some ad ∧ ∀ W, Below w.heap.size w W → ∀ (i : Nat) (hi : i < L.length) (j : Nat) (v : Value), (pkA L[i])[j]? = some v → W.cell? ((ad.add (i * 12)).add j) = some v) := Lib.hid (fun h0 => by
    obtain ⟨ad, rfl, h1, h2⟩ := Hhr.out (by rw [pksC_len, List.length_map, Hhlen.out]; omega)
    exact ⟨ad, rfl, fun W hb i hi j v hv => by rw [Addr.add_add]; exact (hb.cell (p := ad.add (i * 12 + j)) (by rw [block_of_add]; exact h1)).trans (h2 _ _ (pkA_at L i hi j v hv))⟩)
  obtain ⟨iB, hiB, hzB0, hzB1, hzB2⟩ := info_parts info_u8n
  obtain ⟨iI, hiI, hzI0, hzI1, hzI2⟩ := info_parts info_int1
  obtain ⟨iP, hiP, hzP0, hzP1, hzP2⟩ := info_parts info_pk
  have HPI := Lib.hid (And.intro hiB (And.intro hzB0 (And.intro hzB1 hzB2))); have HPII := Lib.hid (And.intro hiI (And.intro hzI0 (And.intro hzI1 hzI2))); have HPIP := Lib.hid (And.intro hiP (And.intro hzP0 (And.intro hzP1 hzP2)))
  clear hiB hzB0 hzB1 hzB2 hiI hzI0 hzI1 hzI2 hiP hzP0 hzP1 hzP2
  go_enter Tryz.func14, Tryz.ntmps14
  go_upto_region 1 with fail
  have hn := (Blk.new w 144 #[.int .u8 (n0 : Int), .int .u8 (n1 : Int), .int .u8 (n2 : Int), .int .u8 (n3 : Int)]).alloc (.cells #[.int .u16 (c0 : Int), .int .u16 (c1 : Int)] 146)
  have hm := Blk.new (w.alloc (.cells #[.int .u8 (n0 : Int), .int .u8 (n1 : Int), .int .u8 (n2 : Int), .int .u8 (n3 : Int)] 144)) 146 #[.int .u16 (c0 : Int), .int .u16 (c1 : Int)]
  simp only [World.size_alloc] at hm
  have hb2 := ((Below.refl w.heap.size w).alloc (Nat.le_refl _) (.cells #[.int .u8 (n0 : Int), .int .u8 (n1 : Int), .int .u8 (n2 : Int), .int .u8 (n3 : Int)] 144)).alloc (by simp only [World.size_alloc]; omega) (.cells #[.int .u16 (c0 : Int), .int .u16 (c1 : Int)] 146)
  obtain ⟨bN, hbN⟩ : ∃ g, w.heap.size = g := ⟨_, rfl⟩
  obtain ⟨bC, hbC⟩ : ∃ g, w.heap.size + 1 = g := ⟨_, rfl⟩
  generalize (w.alloc (.cells #[.int .u8 (n0 : Int), .int .u8 (n1 : Int), .int .u8 (n2 : Int), .int .u8 (n3 : Int)] 144)).alloc (.cells #[.int .u16 (c0 : Int), .int .u16 (c1 : Int)] 146) = w0 at hn hm hb2 ⊢
  rw [hbC] at hm
  try rw [hbC]
  rw [hbN] at hn
  try rw [hbN]
  have HXN := Lib.hid hn; have HXC := Lib.hid hm
  replace HB := Lib.hid hb2
  clear hn hm hb2 hbN hbC
  have hgt : decide ((n : Int) > 10) = false := by simp; omega
  go_wp2_with fail
  refine (Hhck.out _ (Hhr.out.below HB.out)).mono ?_
  rintro e u1w ⟨rfl, hb⟩
  replace HXN := Lib.hid (HXN.out.below hb)
  replace HXC := Lib.hid (HXC.out.below hb)
  replace HB := Lib.hid (HB.out.trans (hb.mono HB.out.size))
  clear hb
  clear hgt
  go_upto_region 5 with fail
  obtain ⟨w1, hw1⟩ : ∃ s, u1w = s := ⟨_, rfl⟩
  rw [hw1] at HB HXN HXC ⊢
  clear hw1
  go_loopw [7, 47] (fun sv v wr => ∃ nn : Nat, nn ≤ n ∧ v = .int .i64 nn ∧ wr.ownsRow w1.heap.size 5 1 sv (16 * nn) (ub (codeU (L.take nn))) ∧ Below w1.heap.size w1 wr) (fun _ v _ => n - (intOf v).toNat)
  case atStart => exact ⟨0, by omega, rfl, by exact World.ownsRow_nil _ _ _ _, Below.refl _ _⟩
  case round =>
    obtain ⟨nn, hi, rfl, hown, hbel⟩ := hrel
    have HO := Lib.hid hown; have HBL := Lib.hid hbel; clear hown
    have hB0 := HB.out.size
    replace HXN := Lib.hid (HXN.out.below hbel)
    replace HXC := Lib.hid (HXC.out.below hbel)
    replace HB := Lib.hid (HB.out.trans (hbel.mono HB.out.size))
    clear hbel
    by_cases hlt : nn < n
    · skip
      obtain ⟨ad, rfl, hq⟩ := HPA.out (by omega)
      have hil : nn < L.length := by rw [Hhlen.out]; exact hlt
      have HQ : RowKit.Hid (∀ W, Below w.heap.size w W → ∀ (j : Nat) (v : Value), (pkA L[nn])[j]? = some v → W.cell? ((ad.add (nn * 12)).add j) = some v) := Lib.hid (fun W hb j v hv => hq W hb nn hil j v hv)
      clear hq
      have HNX := Lib.hid (code_next L nn hil)
      have HE := Lib.hid (enc_box L[nn]); have HDc := Lib.hid (dec_box L[nn]); have HEQ := Lib.hid (eq_box L[nn])
      have HOV : RowKit.Hid ((pkA L[nn]).size = 12 ∧ (pkA L[nn]).all (·.oneCell') = true ∧ (frA L[nn]).size = 16 ∧ (frA L[nn]).all (·.oneCell') = true ∧ (frA L[nn]).toList = ub L[nn].fr ∧ (ub L[nn].fr).length = 16) := Lib.hid ⟨rfl, pkA_one _, rfl, frA_one _, rfl, rfl⟩
      have HFO := Lib.hid (ub_one L[nn].fr)
      generalize pkA L[nn] = ov at HQ HE HDc HEQ HOV
      generalize frA L[nn] = fv at HE HDc HOV
      generalize ub L[nn].fr = fl at HNX HOV HFO
      clear hil
      obtain ⟨hs1, hs2, hs3, hs4, hs5, hs6⟩ := HOV.out
      have hiO : (Tryz.prog.info? 89).map (·.size) = some ov.size := by rw [hs1]; kernel_rfl
      have hiX : (Tryz.prog.info? 92).map (·.size) = some ov.size := by rw [hs1]; kernel_rfl
      have hiF : (Tryz.prog.info? 85).map (·.size) = some fv.size := by rw [hs3]; kernel_rfl
      have hzO : (#[.int .i64 0, .int .i64 0, .int .u8 0, .int .u8 0, .int .u8 0, .int .u8 0, .int .u8 0, .int .u8 0, .int .u8 0, .int .u8 0, .int .u8 0, .int .u8 0] : Array Value).size = ov.size := by rw [hs1]; rfl
      have hzF : (#[.int .u8 0, .int .u8 0, .int .u8 0, .int .u8 0, .int .u8 0, .int .u8 0, .int .u8 0, .int .u8 0, .int .u8 0, .int .u8 0, .int .u8 0, .int .u8 0, .int .u8 0, .int .u8 0, .int .u8 0, .int .u8 0] : Array Value).size = fv.size := by rw [hs3]; rfl
      have HIO := Lib.hid hiO; have HIX := Lib.hid hiX; have HIF := Lib.hid hiF; have HZO := Lib.hid hzO; have HZF := Lib.hid hzF; have HS2 := Lib.hid hs2; have HS4 := Lib.hid hs4; have HS5 := Lib.hid hs5; have HS6 := Lib.hid hs6; clear hs1 hs2 hs3 hs4 hs5 hs6 hiO hiX hiF hzO hzF HOV
      go_upto_region 7 with (first | (refine wpList_load_at rfl 89 _ rfl (ad.add (nn * 12)) rfl ov _ (HQ.out _ HB.out) Tryz.underlying89 rfl HIO.out ?_) | (refine wpList_alloc_store rfl rfl 89 9 _ rfl rfl rfl rfl #[.int .i64 0, .int .i64 0, .int .u8 0, .int .u8 0, .int .u8 0, .int .u8 0, .int .u8 0, .int .u8 0, .int .u8 0, .int .u8 0, .int .u8 0, .int .u8 0] ov Tryz.zeroValue89 rfl rfl HIO.out HZO.out HS2.out ?_))
      have hn := Blk.new wr 89 ov
      have hb : Below wr.heap.size wr (wr.alloc (.cells ov 89)) := (Below.refl _ _).alloc (Nat.le_refl _) _
      have hge := HB.out.size
      have hlt_N := HXN.out.lt
      have hlt_C := HXC.out.lt
      obtain ⟨bP, hl⟩ : ∃ b, wr.heap.size = b := ⟨_, rfl⟩
      generalize wr.alloc (.cells ov 89) = u2w at hn hb ⊢
      replace HO := Lib.hid (owns_below HO.out hb)
      replace HBL := Lib.hid (HBL.out.trans (hb.mono HBL.out.size))
      replace HXN := Lib.hid (HXN.out.below hb)
      replace HXC := Lib.hid (HXC.out.below hb)
      replace HB := Lib.hid (HB.out.trans (hb.mono HB.out.size))
      clear hb
      rw [hl] at hn hge hlt_N hlt_C
      try rw [hl]
      have HXP := Lib.hid hn; have HGP := Lib.hid hge; clear hn hl hge
      have HNPN : RowKit.Hid (bN < bP) := Lib.hid (by omega); have HNPC : RowKit.Hid (bC < bP) := Lib.hid (by omega)
      clear hlt_N hlt_C
      go_wp2_with (first | (refine wpList_load_box rfl 89 _ rfl bP _ _ HXP.out rfl _ Tryz.underlying89 rfl (by kernel_rfl) ?_))
      refine (HE.out _).mono ?_
      rintro e u3w ⟨rfl, hb⟩
      replace HO := Lib.hid (owns_below HO.out hb)
      replace HBL := Lib.hid (HBL.out.trans (hb.mono HBL.out.size))
      replace HXN := Lib.hid (HXN.out.below hb)
      replace HXC := Lib.hid (HXC.out.below hb)
      replace HXP := Lib.hid (HXP.out.below hb)
      replace HB := Lib.hid (HB.out.trans (hb.mono HB.out.size))
      clear hb
      go_upto_region 8 with (first | (refine wpList_alloc_store rfl rfl 85 10 _ rfl rfl rfl rfl #[.int .u8 0, .int .u8 0, .int .u8 0, .int .u8 0, .int .u8 0, .int .u8 0, .int .u8 0, .int .u8 0, .int .u8 0, .int .u8 0, .int .u8 0, .int .u8 0, .int .u8 0, .int .u8 0, .int .u8 0, .int .u8 0] fv Tryz.zeroValue85 rfl rfl HIF.out HZF.out HS4.out ?_))
      have hn := Blk.new u3w 85 fv
      have hb : Below u3w.heap.size u3w (u3w.alloc (.cells fv 85)) := (Below.refl _ _).alloc (Nat.le_refl _) _
      have hge := HB.out.size
      have hlt_N := HXN.out.lt
      have hlt_C := HXC.out.lt
      have hlt_P := HXP.out.lt
      obtain ⟨bF, hl⟩ : ∃ b, u3w.heap.size = b := ⟨_, rfl⟩
      generalize u3w.alloc (.cells fv 85) = u4w at hn hb ⊢
      replace HO := Lib.hid (owns_below HO.out hb)
      replace HBL := Lib.hid (HBL.out.trans (hb.mono HBL.out.size))
      replace HXN := Lib.hid (HXN.out.below hb)
      replace HXC := Lib.hid (HXC.out.below hb)
      replace HXP := Lib.hid (HXP.out.below hb)
      replace HB := Lib.hid (HB.out.trans (hb.mono HB.out.size))
      clear hb
      rw [hl] at hn hge hlt_N hlt_C hlt_P
      try rw [hl]
      have HXF := Lib.hid hn; have HGF := Lib.hid hge; clear hn hl hge
      have HNFN : RowKit.Hid (bN < bF) := Lib.hid (by omega); have HNFC : RowKit.Hid (bC < bF) := Lib.hid (by omega); have HNFP : RowKit.Hid (bP < bF) := Lib.hid (by omega)
      clear hlt_N hlt_C hlt_P
      go_wp2_with (first | (refine wpList_load_box rfl 85 _ rfl bF _ _ HXF.out rfl _ Tryz.underlying85 rfl (by kernel_rfl) ?_))
      refine (HDc.out _).mono ?_
      rintro e u5w ⟨rfl, hb⟩
      replace HO := Lib.hid (owns_below HO.out hb)
      replace HBL := Lib.hid (HBL.out.trans (hb.mono HBL.out.size))
      replace HXN := Lib.hid (HXN.out.below hb)
      replace HXC := Lib.hid (HXC.out.below hb)
      replace HXP := Lib.hid (HXP.out.below hb)
      replace HXF := Lib.hid (HXF.out.below hb)
      replace HB := Lib.hid (HB.out.trans (hb.mono HB.out.size))
      clear hb
      go_upto_region 9 with (first | (refine wpList_alloc_store rfl rfl 92 12 _ rfl rfl rfl rfl #[.int .i64 0, .int .i64 0, .int .u8 0, .int .u8 0, .int .u8 0, .int .u8 0, .int .u8 0, .int .u8 0, .int .u8 0, .int .u8 0, .int .u8 0, .int .u8 0] ov Tryz.zeroValue92 rfl rfl HIX.out HZO.out HS2.out ?_))
      have hn := Blk.new u5w 92 ov
      have hb : Below u5w.heap.size u5w (u5w.alloc (.cells ov 92)) := (Below.refl _ _).alloc (Nat.le_refl _) _
      have hge := HB.out.size
      have hlt_N := HXN.out.lt
      have hlt_C := HXC.out.lt
      have hlt_P := HXP.out.lt
      have hlt_F := HXF.out.lt
      obtain ⟨bX, hl⟩ : ∃ b, u5w.heap.size = b := ⟨_, rfl⟩
      generalize u5w.alloc (.cells ov 92) = u6w at hn hb ⊢
      replace HO := Lib.hid (owns_below HO.out hb)
      replace HBL := Lib.hid (HBL.out.trans (hb.mono HBL.out.size))
      replace HXN := Lib.hid (HXN.out.below hb)
      replace HXC := Lib.hid (HXC.out.below hb)
      replace HXP := Lib.hid (HXP.out.below hb)
      replace HXF := Lib.hid (HXF.out.below hb)
      replace HB := Lib.hid (HB.out.trans (hb.mono HB.out.size))
      clear hb
      rw [hl] at hn hge hlt_N hlt_C hlt_P hlt_F
      try rw [hl]
      have HXX := Lib.hid hn; have HGX := Lib.hid hge; clear hn hl hge
      have HNXN : RowKit.Hid (bN < bX) := Lib.hid (by omega); have HNXC : RowKit.Hid (bC < bX) := Lib.hid (by omega); have HNXP : RowKit.Hid (bP < bX) := Lib.hid (by omega); have HNXF : RowKit.Hid (bF < bX) := Lib.hid (by omega)
      clear hlt_N hlt_C hlt_P hlt_F
      have heq := HEQ.out
      go_upto_region 11 with (first | (refine wpList_load_box rfl 92 _ rfl bX _ _ HXX.out rfl _ Tryz.underlying92 rfl (by kernel_rfl) ?_) | (refine wpList_load_box rfl 89 _ rfl bP _ _ HXP.out rfl _ Tryz.underlying89 rfl (by kernel_rfl) ?_))
      clear heq
      obtain ⟨hi_, hy0, hy1, hy2⟩ := HPI.out
      go_wp2_with (at_builtin; go_must (refine wpList_append_own_at _ (by rfl) (.tmp 70) (.tmp 71) 106 (by rfl) w1.heap.size 5 iB (.int .u8 0) 1 1 Tryz.underlying106 hi_ hy0 hy1 hy2 (by rfl) (by decide) _ (16 * nn) (ub (codeU (L.take nn))) (by rfl) HO.out ⟨bF, 0, none⟩ 16 16 (fl) (by rfl) HS6.out (by rw [← HS5.out]; exact World.news_of_block HXF.out) HFO.out (by unfold maxLen; omega) (by omega) HBL.out.size ?_); intro v' w4 hown1 hgrow hnil hat1)
      rw [← HNX.out, show 16 * nn + 16 = 16 * (nn + 1) by omega] at hown1
      have HB4 := Lib.hid (HBL.out.grown hgrow HBL.out.size (fun k hk => (owns_block HO.out k hk).1))
      go_roundw
      case rel => exact ⟨nn + 1, by omega, by go_num, hown1, HB4.out⟩
      case measure => simp [intOf]; omega
    · skip
      obtain rfl : nn = n := by omega
      have hca := code_all L nn Hhlen.out
      have hown := HO.out
      rw [hca] at hown
      clear HO HBL
      clear hlt hi hca hB0
      obtain ⟨A7, c7, rfl, hA7, hc7, hrc⟩ := own_slice hown
      have HRC := Lib.hid hrc; have HA7 := Lib.hid hA7; have HC7 := Lib.hid hc7
      clear hrc hA7 hc7 hown
      go_upto_region 13 with fail
      obtain ⟨w2, hw1⟩ : ∃ s, wr = s := ⟨_, rfl⟩
      rw [hw1] at HXN HXC HRC HB ⊢
      clear hw1
      go_cut [14, 15, 16] from 74 to 81 (fun p q e wx => ∃ A1 k1 A2 k2, p = .slice A1 nn k1 ∧ q = .slice A2 0 k2 ∧ e = .int .i64 0 ∧ Rd wx A1 (pksC (L.map PkU.pk)) ∧ Below w2.heap.size w2 wx)
      case first =>
        have HOW := Lib.hid (own_none1 w2)
        obtain ⟨hi_, hy0, hy1, hy2⟩ := HPI.out
        have hsb : Below w2.heap.size w2 (w2.alloc (.cells #[] 5)) := (Below.refl _ _).alloc (Nat.le_refl _) _
        have HSB := Lib.hid hsb; clear hsb
        by_cases h0 : nn = 0
        · skip
          subst h0
          have hsrc : ∀ W, Src Tryz.prog iB.size 106 (.slice A7 0 c7) 0 [] W := fun W => by
            cases A7 with
            | none => rw [(HA7.out rfl).2]; exact Src.ofNil W Tryz.underlying106 0
            | some a => exact Src.ofSlice W Tryz.underlying106 a 0 c7 [] (by simp) (fun j u h => by simp at h) (fun u h => by cases h)
          have HS := Lib.hid hsrc; clear hsrc
          go_wp2_with (at_builtin; go_must (refine wpList_append_nothing _ (by rfl) (.tmp 75) (.tmp 76) 106 106 (by rfl) 5 iB Tryz.underlying106 hi_ (some ⟨w2.heap.size, 0, none⟩) 0 0 (Nat.le_refl _) (by rfl) (.slice A7 0 c7) (by rfl) (HS.out _) ?_))
          refine (Hhrcv0.out _ _ _ (Nat.le_refl _) (fun h => absurd h (by rw [List.eq_nil_of_length_eq_zero Hhlen.out]; exact Nat.lt_irrefl _))).mono ?_
          rintro e v ⟨A1, k1, A2, k2, rfl, hr1, hr2, hb⟩
          have HR1 := Lib.hid hr1; have HB1 := Lib.hid (HSB.out.trans (hb.mono HSB.out.size)); clear hr1 hr2 hb
          go_wp2_with fail
          go_meet
          exact ⟨A1, k1, A2, k2, rfl, rfl, rfl, HR1.out, HB1.out⟩
        · skip
          obtain ⟨ad, rfl, had, hcells⟩ := HRC.out (by rw [ub_len, codeU_len, Hhlen.out]; omega)
          have HQ : RowKit.Hid (∀ W, Below w2.heap.size w2 W → ∀ (j : Nat) (u : Value), (ub (codeU L))[j]? = some u → W.cell? (ad.add j) = some u) := Lib.hid (fun W hb j u hj => (hb.cell (p := ad.add j) (by rw [block_of_add]; exact had)).trans (hcells j u hj))
          have HFL : RowKit.Hid ((ub (codeU L)).length = 16 * nn * 1) := Lib.hid (by rw [ub_len, codeU_len, Hhlen.out]; omega)
          have HFO := Lib.hid (ub_one (codeU L))
          clear had hcells
          go_wp2_with (at_builtin; go_must (refine wpList_append_own_at _ (by rfl) (.tmp 75) (.tmp 76) 106 (by rfl) w2.heap.size 5 iB (.int .u8 0) 1 1 Tryz.underlying106 hi_ hy0 hy1 hy2 (by rfl) (by decide) (.slice (some ⟨w2.heap.size, 0, none⟩) 0 0) 0 ([]) (by rfl) HOW.out ad (16 * nn) c7 (ub (codeU L)) (by rfl) HFL.out (HQ.out _ HSB.out) HFO.out (by unfold maxLen; omega) (by omega) HSB.out.size ?_); intro v' v1w hown hgrow hnil hat)
          rw [Nat.zero_add, List.nil_append] at hown
          obtain ⟨g0, k0, rfl, hcap⟩ := own_form hown (by omega)
          have hrd := rd_own hown
          have hb2 := HSB.out.grown hgrow HSB.out.size (fun k hk => by have h1 : w2.heap.size = k := (by simpa [Value.ownBlock] using hk); omega)
          have HRD := Lib.hid hrd; have HB2 := Lib.hid hb2; have HCAP := Lib.hid hcap; clear hrd hb2 hcap hown hgrow hnil hat
          refine (Hhrcv0.out _ _ _ HCAP.out HRD.out).mono ?_
          rintro e v ⟨A1, k1, A2, k2, rfl, hr1, hr2, hb⟩
          have HR1 := Lib.hid hr1; have HB1 := Lib.hid (HB2.out.trans (hb.mono HB2.out.size)); clear hr1 hr2 hb
          go_wp2_with fail
          go_meet
          exact ⟨A1, k1, A2, k2, rfl, rfl, rfl, HR1.out, HB1.out⟩
      case rest =>
        obtain ⟨A1, k1, A2, k2, rfl, rfl, rfl, hr1, hb1⟩ := hcut
        replace HXN := Lib.hid (HXN.out.below hb1)
        replace HXC := Lib.hid (HXC.out.below hb1)
        replace HRC := Lib.hid (HRC.out.below hb1)
        replace HB := Lib.hid (HB.out.trans (hb1.mono HB.out.size))
        clear hb1
        have HR1 := Lib.hid hr1; clear hr1
        go_wp2_with fail
        refine (Hhheard.out _ _ _ _ _ (by rw [List.length_map, Hhlen.out]) (by omega) HR1.out).mono ?_
        rintro e u7w ⟨A3, k3, rfl, hr3, hb⟩
        replace HXN := Lib.hid (HXN.out.below hb)
        replace HXC := Lib.hid (HXC.out.below hb)
        replace HRC := Lib.hid (HRC.out.below hb)
        replace HR1 := Lib.hid (HR1.out.below hb)
        replace HB := Lib.hid (HB.out.trans (hb.mono HB.out.size))
        clear hb
        have HR3 := Lib.hid hr3; clear hr3
        go_wp2_with fail
        refine (samePk_same _ _ _ _ nn _ _ (by rw [List.length_map, Hhlen.out]) (by unfold maxLen; omega) HR3.out (Hhr.out.below HB.out)).mono ?_
        rintro e u8w ⟨rfl, hb⟩
        replace HXN := Lib.hid (HXN.out.below hb)
        replace HXC := Lib.hid (HXC.out.below hb)
        replace HRC := Lib.hid (HRC.out.below hb)
        replace HR1 := Lib.hid (HR1.out.below hb)
        replace HR3 := Lib.hid (HR3.out.below hb)
        replace HB := Lib.hid (HB.out.trans (hb.mono HB.out.size))
        clear hb
        clear HR3 HR1
        go_upto_region 20 with fail
        obtain ⟨w3, hw1⟩ : ∃ s, u8w = s := ⟨_, rfl⟩
        rw [hw1] at HXN HXC HRC HB ⊢
        clear hw1
        have hB0 := HB.out.size
        go_loopw [17, 18, 19, 96] (fun cn kv gv v wr => ∃ ii : Nat, ii ≤ 16 ∧ v = .int .i64 ii ∧ cn = .int .i64 (cntF c0 D ii) ∧ KW w3.heap.size kv gv (keptF c0 D ii 0) (goneF c0 D ii 0) wr ∧ Below w3.heap.size w3 wr) (fun _ _ _ v _ => 16 - (intOf v).toNat)
        case atStart => exact ⟨0, by omega, rfl, rfl, KW.start _ _, Below.refl _ _⟩
        case round =>
          obtain ⟨ii, hii, rfl, rfl, hkw, hbel⟩ := hrel
          have HKW := Lib.hid hkw; have HBL := Lib.hid hbel; clear hkw
          replace HXN := Lib.hid (HXN.out.below hbel)
          replace HXC := Lib.hid (HXC.out.below hbel)
          replace HRC := Lib.hid (HRC.out.below hbel)
          replace HB := Lib.hid (HB.out.trans (hbel.mono HB.out.size))
          clear hbel
          by_cases hlt : ii < 16
          · skip
            obtain ⟨cC0, cC1⟩ := box2n HXC.out
            have hcb := HhnB.out
            have hid : decide ((ii : Int) < 16) = true := by simp; omega
            go_upto_region 23 with fail
            clear hid
            clear cC0 cC1
            clear hcb
            have hcat : ((c0 : Int) % 256 + (ii : Int)) % 256 = cAt c0 ii := by unfold cAt; omega
            rw [hcat]
            clear hcat
            go_cut [119] from 106 to 119 (fun b wx => b = .bool (D ii) ∧ wx = wr)
            case first =>
              obtain ⟨cC0, cC1⟩ := box2n HXC.out
              have hd := HhD.out ii hlt
              by_cases h1 : 0 < ii
              · have k1 : (0 : Int) < (ii : Int) := by omega
                by_cases h2 : ii < 15
                · have k2 : (ii : Int) < 15 := by omega
                  rw [decide_eq_true h1, decide_eq_true h2, Bool.true_and, Bool.true_and] at hd
                  cases hb : (bits .and .u16 ((c1 : Int) / 2 ^ ii) 1 == 1) with
                  | true =>
                    rw [hb] at hd
                    go_wp2_with fail
                    go_meet
                    exact ⟨by rw [hd], rfl⟩
                  | false =>
                    rw [hb] at hd
                    go_wp2_with fail
                    go_meet
                    exact ⟨by rw [hd], rfl⟩
                · have k2 : ¬ (ii : Int) < 15 := by omega
                  rw [decide_eq_false h2, Bool.false_and, Bool.and_false] at hd
                  go_wp2_with fail
                  go_meet
                  exact ⟨by rw [hd], rfl⟩
              · have k1 : ¬ (0 : Int) < (ii : Int) := by omega
                rw [decide_eq_false h1, Bool.false_and] at hd
                go_wp2_with fail
                go_meet
                exact ⟨by rw [hd], rfl⟩
            case rest =>
              obtain ⟨rfl, rfl⟩ := hcut
              cases hd : D ii with
              | true =>
                have hN := kept_yes c0 D ii hd; have hM := cnt_yes c0 D ii hd; have hle := gone_le c0 D ii 0
                have HN := Lib.hid hN; have HM := Lib.hid hM; clear hN hM
                obtain ⟨hi_, hy0, hy1, hy2⟩ := HPII.out
                go_wp2_with (at_builtin; go_must (refine wpList_append_own_at _ (by rfl) (.tmp 120) (.tmp 122) 25 (by rfl) w3.heap.size 3 iI (.int .i64 0) 1 8 Tryz.underlying25 hi_ hy0 hy1 hy2 (by rfl) (by decide) _ (goneF c0 D ii 0).length (intC (goneF c0 D ii 0)) (by rfl) ((HKW.out.below ((Below.refl _ _).alloc (Nat.le_refl _) (.cells #[.int .i64 (cAt c0 ii)] 3))).o2) ⟨wc.heap.size, 0, none⟩ 1 1 ([.int .i64 (cAt c0 ii)]) (by rfl) (by rfl) (cell_one_new _ _ _) (by simp [Value.oneCell']) (by unfold maxLen; omega) (by omega) (by have := HBL.out.size; simp; omega) ?_); intro v' w4 hown1 hgrow hnil hat1)
                have hk2 := (HKW.out.below ((Below.refl _ _).alloc (Nat.le_refl _) (.cells #[.int .i64 (cAt c0 ii)] 3))).app2 (go' := goneF c0 D (ii + 1) 0) (by rw [HN.out.2, intC_app, List.length_append]; exact hown1) hgrow hat1
                rw [← HN.out.1] at hk2
                have hb4 := ((HBL.out.alloc HBL.out.size (.cells #[.int .i64 (cAt c0 ii)] 3)).grown hgrow (by have := HBL.out.size; simp; omega) (fun k hk => (owns_block HKW.out.o2 k hk).1))
                have HK2 := Lib.hid hk2; have HB4 := Lib.hid hb4; clear hk2 hb4 hown1 hgrow hnil hat1
                go_roundw
                case rel => exact ⟨ii + 1, by omega, by go_num, by rw [HM.out], HK2.out, HB4.out⟩
                case measure => simp [intOf]; omega
              | false =>
                have hN := kept_no c0 D ii hd; have hM := cnt_no c0 D ii hd; have hle := gone_le c0 D ii 0; have hcnt : IntKind.i64.wrap (cntF c0 D ii + 1) = cntF c0 D (ii + 1) := by rw [hM]; rw [IntKind.wrap_i64]; unfold cntF; omega
                have HN := Lib.hid hN; clear hN hM
                obtain ⟨hi_, hy0, hy1, hy2⟩ := HPIP.out
                have HNB := Lib.hid (heap_alloc_new wc (.cells #[.int .i64 3, .int .i64 (cAt c0 ii), .int .u8 0, .int .u8 0, .int .u8 0, .int .u8 0, .int .u8 0, .int .u8 0, .int .u8 0, .int .u8 0, .int .u8 0, .int .u8 0, .int .i64 4, .int .i64 9, .int .u8 0, .int .u8 0, .int .u8 0, .int .u8 0, .int .u8 0, .int .u8 0, .int .u8 0, .int .u8 0, .int .u8 0, .int .u8 0] 92))
                go_wp2_with (at_builtin; go_must (refine wpList_append_own_at _ (by rfl) (.tmp 126) (.tmp 130) 96 (by rfl) w3.heap.size 92 iP pk0.val 12 32 Tryz.underlying96 hi_ hy0 hy1 hy2 (by rfl) (by decide) _ (keptF c0 D ii 0).length (pksC (keptF c0 D ii 0)) (by rfl) ((HKW.out.below ((Below.refl _ _).alloc (Nat.le_refl _) (.cells #[.int .i64 3, .int .i64 (cAt c0 ii), .int .u8 0, .int .u8 0, .int .u8 0, .int .u8 0, .int .u8 0, .int .u8 0, .int .u8 0, .int .u8 0, .int .u8 0, .int .u8 0, .int .i64 4, .int .i64 9, .int .u8 0, .int .u8 0, .int .u8 0, .int .u8 0, .int .u8 0, .int .u8 0, .int .u8 0, .int .u8 0, .int .u8 0, .int .u8 0] 92))).o1) ⟨wc.heap.size, 0, none⟩ 2 2 (pksC [pkc3 (cAt c0 ii), pkc4]) (by rfl) (by rfl) (World.news_of_block HNB.out) (by simp [pksC, pkc3, pkc4, Pk.cells, Value.oneCell']) (by unfold maxLen; omega) (by omega) (by have := HBL.out.size; simp; omega) ?_); intro v' w4 hown1 hgrow hnil hat1)
                have hk2 := (HKW.out.below ((Below.refl _ _).alloc (Nat.le_refl _) (.cells #[.int .i64 3, .int .i64 (cAt c0 ii), .int .u8 0, .int .u8 0, .int .u8 0, .int .u8 0, .int .u8 0, .int .u8 0, .int .u8 0, .int .u8 0, .int .u8 0, .int .u8 0, .int .i64 4, .int .i64 9, .int .u8 0, .int .u8 0, .int .u8 0, .int .u8 0, .int .u8 0, .int .u8 0, .int .u8 0, .int .u8 0, .int .u8 0, .int .u8 0] 92))).app1 (pk' := keptF c0 D (ii + 1) 0) (by rw [HN.out.1, pksC_app, List.length_append]; exact hown1) hgrow hat1
                rw [← HN.out.2] at hk2
                have hb4 := ((HBL.out.alloc HBL.out.size (.cells #[.int .i64 3, .int .i64 (cAt c0 ii), .int .u8 0, .int .u8 0, .int .u8 0, .int .u8 0, .int .u8 0, .int .u8 0, .int .u8 0, .int .u8 0, .int .u8 0, .int .u8 0, .int .i64 4, .int .i64 9, .int .u8 0, .int .u8 0, .int .u8 0, .int .u8 0, .int .u8 0, .int .u8 0, .int .u8 0, .int .u8 0, .int .u8 0, .int .u8 0] 92)).grown hgrow (by have := HBL.out.size; simp; omega) (fun k hk => (owns_block HKW.out.o1 k hk).1))
                have HK2 := Lib.hid hk2; have HB4 := Lib.hid hb4; clear hk2 hb4 hown1 hgrow hnil hat1
                go_roundw
                case rel => exact ⟨ii + 1, by omega, by go_num, by first | rfl | rw [hcnt] | rw [hM], HK2.out, HB4.out⟩
                case measure => simp [intOf]; omega
          · skip
            obtain rfl : ii = 16 := by omega
            clear hlt hii
            clear HBL
            obtain ⟨hk1, hk2, _⟩ := HKW.out
            obtain ⟨A8, k8, rfl, hA8, hc8, hr8⟩ := own_slice hk1
            obtain ⟨A9, k9, rfl, hA9, hc9, hr9⟩ := own_slice hk2
            have HR8 := Lib.hid hr8; have HR9 := Lib.hid hr9; clear hk1 hk2 hA8 hc8 hr8 hA9 hc9 hr9
            clear HKW
            go_wp2_with fail
            refine (Hhlost.out _ _ _ HR8.out).mono ?_
            rintro e u9w ⟨A10, k10, rfl, hr10, hb⟩
            replace HXN := Lib.hid (HXN.out.below hb)
            replace HXC := Lib.hid (HXC.out.below hb)
            replace HRC := Lib.hid (HRC.out.below hb)
            replace HR8 := Lib.hid (HR8.out.below hb)
            replace HR9 := Lib.hid (HR9.out.below hb)
            replace HB := Lib.hid (HB.out.trans (hb.mono HB.out.size))
            clear hb
            have HR10 := Lib.hid hr10; clear hr10
            clear HR8
            go_wp2_with fail
            refine (ints_same _ _ _ _ _ (goneF c0 D 16 0) _ rfl (by have := (gone_le c0 D 16 0).1; unfold maxLen; omega) HR10.out HR9.out).mono ?_
            rintro e u10w ⟨rfl, hb⟩
            replace HXN := Lib.hid (HXN.out.below hb)
            replace HXC := Lib.hid (HXC.out.below hb)
            replace HRC := Lib.hid (HRC.out.below hb)
            replace HR9 := Lib.hid (HR9.out.below hb)
            replace HR10 := Lib.hid (HR10.out.below hb)
            replace HB := Lib.hid (HB.out.trans (hb.mono HB.out.size))
            clear hb
            clear HR9 HR10
            have hcs : IntKind.i64.wrap (cntF c0 D 16 + ((goneF c0 D 16 0).length : Int)) = 16 := by rw [cnt_all]; rfl
            go_upto_region 31 with fail
            clear hcs
            by_cases h0 : nn = 0
            · subst h0
              go_wp2_with fail
              refine (Hhaw.out _ HB.out).mono ?_
              rintro e ww ⟨rfl, hb⟩
              have HB2 := Lib.hid (HB.out.trans (hb.mono HB.out.size))
              go_wp2
              go_ret
              exact ⟨rfl, HB2.out⟩
            · skip
              have h0i : ((nn : Int) == 0) = false := by simp; exact h0
              have h0p : 0 < nn := Nat.pos_of_ne_zero h0
              have h0z : ¬ (nn : Int) = 0 := by omega
              go_upto_region 33 with fail
              obtain ⟨cN0, cN1, cN2, cN3⟩ := box4 HXN.out
              have zN := HXN.out.lt
              have ha0 : IntKind.i64.wrap (n0 : Int) = n0 := by rw [IntKind.wrap_i64]; have := HhnB.out; omega
              have ha1 : IntKind.i64.wrap (n1 : Int) = n1 := by rw [IntKind.wrap_i64]; have := HhnB.out; omega
              obtain ⟨kk, hkk⟩ : ∃ k, n0 % nn = k := ⟨_, rfl⟩
              obtain ⟨aa, haa⟩ : ∃ k, n1 % 16 = k := ⟨_, rfl⟩
              have hkb : kk < nn := by rw [← hkk]; exact Nat.mod_lt _ h0p
              have hab : aa < 16 := by rw [← haa]; exact Nat.mod_lt _ (by omega)
              have htk : Int.tmod (n0 : Int) (nn : Int) = (kk : Int) := by rw [← hkk]; exact (Int.ofNat_tmod n0 nn)
              have hta : Int.tmod (n1 : Int) 16 = (aa : Int) := by rw [← haa]; exact (Int.ofNat_tmod n1 16)
              have hta2 : (n1 : Int) % 16 = (aa : Int) := by rw [← haa]; rfl
              have htk2 : (n0 : Int) % (nn : Int) = (kk : Int) := by rw [← hkk]; rfl
              have HKK := Lib.hid hkk; have HAA := Lib.hid haa; have HKB := Lib.hid hkb; have HAB := Lib.hid hab; clear hkk haa hkb hab
              refine wp_region_facts [Fact.is (.pointer (some ⟨bN, 0, none⟩)), Fact.is (.int .u8 (n0 : Int)), Fact.is (.int .i64 (n0 : Int)), Fact.is (.slice A nn c), Fact.is (.int .i64 (nn : Int)), Fact.is (.int .i64 (kk : Int)), Fact.is (.pointer (some ⟨bN, 1, none⟩)), Fact.is (.int .u8 (n1 : Int)), Fact.is (.int .i64 (n1 : Int)), Fact.is (.int .i64 (aa : Int)), Fact.is (.int .i64 (kk : Int)), Fact.is (.int .i64 (aa : Int))] [[], [0], [1], [], [3], [2, 4], [], [6], [7], [8], [5], [9]] [(some 157, 0), (some 158, 1), (some 159, 2), (some 160, 3), (some 161, 4), (some 162, 5), (some 163, 6), (some 164, 7), (some 165, 8), (some 166, 9), (some 24, 10), (some 25, 11)] (by kernel_rfl) (by kernel_rfl) (by kernel_rfl) (by kernel_rfl) (fun _ _ _ _ e h => by have h1 : _ ∧ _ := h; exact ⟨e ▸ h1.1, h1.2⟩) ?hstep ?hend
              case hstep =>
                generalize Exit.then _ _ = QQ
                as_aux_lemma =>
                  intro i hi
                  match i, hi with
                  | 0, _ =>
                    intro v w' hR hd
                    change SpecOp _ _ _ _ 0 (canon _ v _ []) w' _
                    simp only [canon_nil]
                    refine spec_of rfl (fun KK hK => ?_)
                    go_simp
                    exact hK.out _ _ (Below.refl _ _) rfl
                  | 1, _ =>
                    intro v w' hR hd
                    have e0 : v 0 = .pointer (some ⟨bN, 0, none⟩) := hd 0 (by decide)
                    change SpecOp _ _ _ _ 1 (Act.put (canon _ v _ []) (some 157) (v 0)) w' _
                    rw [e0]
                    simp only [canon_nil, Act.put, List.setIfInBounds_toArray, List.set_cons_zero, List.set_cons_succ]
                    have q0 := (hR.cell (p := ⟨bN, 0, none⟩) zN).trans cN0
                    refine spec_of rfl (fun KK hK => ?_)
                    go_simp
                    exact hK.out _ _ (Below.refl _ _) rfl
                  | 2, _ =>
                    intro v w' hR hd
                    have e1 : v 1 = .int .u8 (n0 : Int) := hd 1 (by decide)
                    change SpecOp _ _ _ _ 2 (Act.put (canon _ v _ []) (some 158) (v 1)) w' _
                    rw [e1]
                    simp only [canon_nil, Act.put, List.setIfInBounds_toArray, List.set_cons_zero, List.set_cons_succ]
                    refine spec_of rfl (fun KK hK => ?_)
                    go_simp
                    exact hK.out _ _ (Below.refl _ _) rfl
                  | 3, _ =>
                    intro v w' hR hd
                    change SpecOp _ _ _ _ 3 (canon _ v _ []) w' _
                    simp only [canon_nil]
                    refine spec_of rfl (fun KK hK => ?_)
                    go_simp
                    exact hK.out _ _ (Below.refl _ _) rfl
                  | 4, _ =>
                    intro v w' hR hd
                    have e3 : v 3 = .slice A nn c := hd 3 (by decide)
                    change SpecOp _ _ _ _ 4 (Act.put (canon _ v _ []) (some 160) (v 3)) w' _
                    rw [e3]
                    simp only [canon_nil, Act.put, List.setIfInBounds_toArray, List.set_cons_zero, List.set_cons_succ]
                    refine spec_of rfl (fun KK hK => ?_)
                    go_simp
                    exact hK.out _ _ (Below.refl _ _) rfl
                  | 5, _ =>
                    intro v w' hR hd
                    have e2 : v 2 = .int .i64 (n0 : Int) := hd 2 (by decide)
                    have e4 : v 4 = .int .i64 (nn : Int) := hd 4 (by decide)
                    change SpecOp _ _ _ _ 5 (Act.put (Act.put (canon _ v _ []) (some 161) (v 4)) (some 159) (v 2)) w' _
                    rw [e2, e4]
                    simp only [canon_nil, Act.put, List.setIfInBounds_toArray, List.set_cons_zero, List.set_cons_succ]
                    refine spec_of rfl (fun KK hK => ?_)
                    go_simp
                    exact hK.out _ _ (Below.refl _ _) rfl
                  | 6, _ =>
                    intro v w' hR hd
                    change SpecOp _ _ _ _ 6 (canon _ v _ []) w' _
                    simp only [canon_nil]
                    refine spec_of rfl (fun KK hK => ?_)
                    go_simp
                    exact hK.out _ _ (Below.refl _ _) rfl
                  | 7, _ =>
                    intro v w' hR hd
                    have e6 : v 6 = .pointer (some ⟨bN, 1, none⟩) := hd 6 (by decide)
                    change SpecOp _ _ _ _ 7 (Act.put (canon _ v _ []) (some 163) (v 6)) w' _
                    rw [e6]
                    simp only [canon_nil, Act.put, List.setIfInBounds_toArray, List.set_cons_zero, List.set_cons_succ]
                    have q0 := (hR.cell (p := ⟨bN, 1, none⟩) zN).trans cN1
                    refine spec_of rfl (fun KK hK => ?_)
                    go_simp
                    exact hK.out _ _ (Below.refl _ _) rfl
                  | 8, _ =>
                    intro v w' hR hd
                    have e7 : v 7 = .int .u8 (n1 : Int) := hd 7 (by decide)
                    change SpecOp _ _ _ _ 8 (Act.put (canon _ v _ []) (some 164) (v 7)) w' _
                    rw [e7]
                    simp only [canon_nil, Act.put, List.setIfInBounds_toArray, List.set_cons_zero, List.set_cons_succ]
                    refine spec_of rfl (fun KK hK => ?_)
                    go_simp
                    exact hK.out _ _ (Below.refl _ _) rfl
                  | 9, _ =>
                    intro v w' hR hd
                    have e8 : v 8 = .int .i64 (n1 : Int) := hd 8 (by decide)
                    change SpecOp _ _ _ _ 9 (Act.put (canon _ v _ []) (some 165) (v 8)) w' _
                    rw [e8]
                    simp only [canon_nil, Act.put, List.setIfInBounds_toArray, List.set_cons_zero, List.set_cons_succ]
                    refine spec_of rfl (fun KK hK => ?_)
                    go_simp
                    exact hK.out _ _ (Below.refl _ _) rfl
                  | 10, _ =>
                    intro v w' hR hd
                    have e5 : v 5 = .int .i64 (kk : Int) := hd 5 (by decide)
                    change SpecOp _ _ _ _ 10 (Act.put (canon _ v _ []) (some 162) (v 5)) w' _
                    rw [e5]
                    simp only [canon_nil, Act.put, List.setIfInBounds_toArray, List.set_cons_zero, List.set_cons_succ]
                    refine spec_of rfl (fun KK hK => ?_)
                    go_simp
                    exact hK.out _ _ (Below.refl _ _) rfl
                  | 11, _ =>
                    intro v w' hR hd
                    have e9 : v 9 = .int .i64 (aa : Int) := hd 9 (by decide)
                    change SpecOp _ _ _ _ 11 (Act.put (canon _ v _ []) (some 166) (v 9)) w' _
                    rw [e9]
                    simp only [canon_nil, Act.put, List.setIfInBounds_toArray, List.set_cons_zero, List.set_cons_succ]
                    refine spec_of rfl (fun KK hK => ?_)
                    go_simp
                    exact hK.out _ _ (Below.refl _ _) rfl
                  | i + 12, h => exact absurd h (Nat.not_lt.2 (Nat.le_add_left 12 i))
              case hend =>
                intro v w' hR hall
                simp only [putL, Act.put, List.setIfInBounds_toArray, List.set_cons_zero, List.set_cons_succ]
                have e0 : v 0 = .pointer (some ⟨bN, 0, none⟩) := hall 0 (by decide)
                have e1 : v 1 = .int .u8 (n0 : Int) := hall 1 (by decide)
                have e2 : v 2 = .int .i64 (n0 : Int) := hall 2 (by decide)
                have e3 : v 3 = .slice A nn c := hall 3 (by decide)
                have e4 : v 4 = .int .i64 (nn : Int) := hall 4 (by decide)
                have e5 : v 5 = .int .i64 (kk : Int) := hall 5 (by decide)
                have e6 : v 6 = .pointer (some ⟨bN, 1, none⟩) := hall 6 (by decide)
                have e7 : v 7 = .int .u8 (n1 : Int) := hall 7 (by decide)
                have e8 : v 8 = .int .i64 (n1 : Int) := hall 8 (by decide)
                have e9 : v 9 = .int .i64 (aa : Int) := hall 9 (by decide)
                have e10 : v 10 = .int .i64 (kk : Int) := hall 10 (by decide)
                have e11 : v 11 = .int .i64 (aa : Int) := hall 11 (by decide)
                rw [e0, e1, e2, e3, e4, e5, e6, e7, e8, e9, e10, e11]
                clear hall e0 e1 e2 e3 e4 e5 e6 e7 e8 e9 e10 e11
                clear cN0 cN1 cN2 cN3 zN ha0 ha1 htk hta hta2 htk2
                obtain ⟨u11w, hwn⟩ : ∃ s, w' = s := ⟨_, rfl⟩
                rw [hwn] at hR ⊢
                clear hwn
                replace HXN := Lib.hid (HXN.out.below hR)
                replace HXC := Lib.hid (HXC.out.below hR)
                replace HRC := Lib.hid (HRC.out.below hR)
                replace HB := Lib.hid (HB.out.trans (hR.mono HB.out.size))
                clear hR
                obtain ⟨ff, hff⟩ : ∃ z, 16 * kk = z := ⟨_, rfl⟩
                have hm1 : (kk : Int) * 16 = (ff : Int) := by omega
                have hm2 : IntKind.i64.wrap ((kk : Int) * 16) = (ff : Int) := by rw [IntKind.wrap_i64]; have := HKB.out; omega
                have hm3 : wrap64 (ff : Int) = (ff : Int) := by unfold wrap64; have := HKB.out; omega
                go_upto_region 35 with fail
                rw [hm3]
                clear hm1 hm2 hm3
                obtain ⟨N, hNN⟩ : ∃ z, 16 * nn = z := ⟨_, rfl⟩
                rw [hNN]
                have HFF := Lib.hid hff; have HNN := Lib.hid hNN; clear hff hNN
                obtain ⟨w5, hw1⟩ : ∃ s, u11w = s := ⟨_, rfl⟩
                rw [hw1] at HXN HXC HRC HB ⊢
                clear hw1
                obtain ⟨ad7, rfl, had, hcells⟩ := HRC.out (by rw [ub_len, codeU_len, Hhlen.out]; omega)
                have HQ : RowKit.Hid (∀ W, Below w5.heap.size w5 W → ∀ (j : Nat) (u : Value), (ub (codeU L))[j]? = some u → W.cell? (ad7.add j) = some u) := Lib.hid (fun W hb j u hj => (hb.cell (p := ad7.add j) (by rw [block_of_add]; exact had)).trans (hcells j u hj))
                have HFL : RowKit.Hid ((ub (codeU L)).length = N * 1) := Lib.hid (by rw [ub_len, codeU_len, Hhlen.out, HNN.out]; omega)
                have HFO := Lib.hid (ub_one (codeU L))
                clear had hcells
                have HOW := Lib.hid (own_none1 w5)
                obtain ⟨hi_, hy0, hy1, hy2⟩ := HPI.out
                have hsb : Below w5.heap.size w5 (w5.alloc (.cells #[] 5)) := (Below.refl _ _).alloc (Nat.le_refl _) _
                have HSB := Lib.hid hsb; clear hsb
                have hNb : N ≤ 160 := by have := HNN.out; omega
                go_upto_region 36 with (at_builtin; go_must (refine wpList_append_own_at _ (by rfl) (.tmp 169) (.tmp 170) 106 (by rfl) w5.heap.size 5 iB (.int .u8 0) 1 1 Tryz.underlying106 hi_ hy0 hy1 hy2 (by rfl) (by decide) (.slice (some ⟨w5.heap.size, 0, none⟩) 0 0) 0 ([]) (by rfl) HOW.out ad7 N c7 (ub (codeU L)) (by rfl) HFL.out (HQ.out _ HSB.out) HFO.out (by unfold maxLen; omega) (by omega) HSB.out.size ?_); intro v' v5w hown hgrow hnil hat)
                rw [Nat.zero_add, List.nil_append] at hown
                obtain ⟨gD, kD, rfl, hcap⟩ := own_form hown (by have := HNN.out; omega)
                have hb2 := HSB.out.grown hgrow HSB.out.size (fun k hk => by have h1 : w5.heap.size = k := (by simpa [Value.ownBlock] using hk); omega)
                have HOD := Lib.hid hown; have HB5 := Lib.hid hb2; have HCD := Lib.hid hcap; clear hown hgrow hnil hat hb2 hcap HOW HSB hi_ hy0 hy1 hy2 HQ
                have zN : bN < w5.heap.size := HXN.out.lt
                obtain ⟨cN0, cN1, cN2, cN3⟩ := box4 HXN.out
                obtain ⟨pp, hpp⟩ : ∃ z, ff + aa = z := ⟨_, rfl⟩
                have hpN : pp < N := by have := HNN.out; have := HFF.out; have := HKB.out; have := HAB.out; omega
                have hpl : (pp : Int) < (N : Int) := by omega
                have hs1 : (ff : Int) + (aa : Int) = (pp : Int) := by omega
                have hs2 : IntKind.i64.wrap (pp : Int) = (pp : Int) := by rw [IntKind.wrap_i64]; omega
                obtain ⟨dd, hdd⟩ : ∃ d, 1 + n2 % 255 = d := ⟨_, rfl⟩
                have hd1 : 1 + (n2 : Int) % 255 = (dd : Int) := by omega
                have hd2 : IntKind.u8.wrap (dd : Int) = (dd : Int) := by rw [IntKind.wrap_u8]; omega
                obtain ⟨ob, hob⟩ : ∃ b, (codeU L).getD pp u0 = b := ⟨_, rfl⟩
                have hcx : (ub (codeU L))[pp]? = some (.int .u8 ob.1) := by rw [← hob]; exact ub_at (by rw [codeU_len, Hhlen.out, HNN.out]; exact hpN)
                have hle5 := HB5.out.size
                have HBB : RowKit.Hid (w5.heap.size ≤ v5w.heap.size) := Lib.hid hle5; clear hle5
                have HPN := Lib.hid hpN; have HPP := Lib.hid hpp; have HDD := Lib.hid hdd; have HOB := Lib.hid hob; clear hpN hpp hdd hob
                refine wp_region_chain [(.slice (some ⟨gD, 0, none⟩) N kD), (.int .i64 (ff)), (.int .i64 (aa)), (.int .i64 (pp)), (.pointer (some ⟨gD, pp, none⟩)), undef, (.pointer (some ⟨bN, 2, none⟩)), (.int .u8 ((n2 : Int))), (.int .u8 ((n2 : Int) % 255)), (.int .u8 (dd)), undef, (.pointer (some ⟨gD, pp, none⟩)), undef] [5, 10, 12] (ST36 w5.heap.size gD N kD (codeU L) ((codeU L).set pp (xorU ob (dd : Int))) (.int .u8 ob.1) (.int .u8 (bits .xor .u8 ob.1 (dd : Int)))) w5.heap.size [[], [], [], [1, 2], [0, 3], [4], [], [6], [7], [8], [5, 9], [0, 3], [10, 11]] [(some 172, 0), (some 173, 1), (some 174, 2), (some 175, 3), (some 176, 4), (some 177, 5), (some 178, 6), (some 179, 7), (some 180, 8), (some 181, 9), (some 182, 10), (some 183, 11), (none, 12)] ?hB (by kernel_rfl) (by kernel_rfl) (by kernel_rfl) (by kernel_rfl) (by kernel_rfl) (fun k u a b => st36_below k u a b) (HOD.out) (fun _ _ _ _ e h => by have h1 : _ ∧ _ := h; exact ⟨e ▸ h1.1, h1.2⟩) ?hstep ?hch ?hend
                case hB => exact HBB.out
                case hstep =>
                  generalize Exit.then _ _ = QQ
                  as_aux_lemma =>
                    intro i hi hc
                    match i, hi, hc with
                    | 0, _, _ =>
                      intro v w' hR hd
                      change SpecOp _ _ _ _ 0 (canon _ v _ []) w' _
                      simp only [canon_nil]
                      refine spec_of rfl (fun KK hK => ?_)
                      go_simp
                      exact hK.out _ _ (Below.refl _ _) rfl
                    | 1, _, _ =>
                      intro v w' hR hd
                      change SpecOp _ _ _ _ 1 (canon _ v _ []) w' _
                      simp only [canon_nil]
                      refine spec_of rfl (fun KK hK => ?_)
                      go_simp
                      exact hK.out _ _ (Below.refl _ _) rfl
                    | 2, _, _ =>
                      intro v w' hR hd
                      change SpecOp _ _ _ _ 2 (canon _ v _ []) w' _
                      simp only [canon_nil]
                      refine spec_of rfl (fun KK hK => ?_)
                      go_simp
                      exact hK.out _ _ (Below.refl _ _) rfl
                    | 3, _, _ =>
                      intro v w' hR hd
                      have e1 : v 1 = .int .i64 (ff) := hd 1 (by decide)
                      have e2 : v 2 = .int .i64 (aa) := hd 2 (by decide)
                      change SpecOp _ _ _ _ 3 (Act.put (Act.put (canon _ v _ []) (some 174) (v 2)) (some 173) (v 1)) w' _
                      rw [e1, e2]
                      simp only [canon_nil, Act.put, List.setIfInBounds_toArray, List.set_cons_zero, List.set_cons_succ]
                      refine spec_of rfl (fun KK hK => ?_)
                      go_simp
                      exact hK.out _ _ (Below.refl _ _) rfl
                    | 4, _, _ =>
                      intro v w' hR hd
                      have e0 : v 0 = .slice (some ⟨gD, 0, none⟩) N kD := hd 0 (by decide)
                      have e3 : v 3 = .int .i64 (pp) := hd 3 (by decide)
                      change SpecOp _ _ _ _ 4 (Act.put (Act.put (canon _ v _ []) (some 175) (v 3)) (some 172) (v 0)) w' _
                      rw [e0, e3]
                      simp only [canon_nil, Act.put, List.setIfInBounds_toArray, List.set_cons_zero, List.set_cons_succ]
                      refine spec_of rfl (fun KK hK => ?_)
                      go_simp
                      exact hK.out _ _ (Below.refl _ _) rfl
                    | 5, _, h => exact absurd h (by decide)
                    | 6, _, _ =>
                      intro v w' hR hd
                      change SpecOp _ _ _ _ 6 (canon _ v _ []) w' _
                      simp only [canon_nil]
                      refine spec_of rfl (fun KK hK => ?_)
                      go_simp
                      exact hK.out _ _ (Below.refl _ _) rfl
                    | 7, _, _ =>
                      intro v w' hR hd
                      have e6 : v 6 = .pointer (some ⟨bN, 2, none⟩) := hd 6 (by decide)
                      change SpecOp _ _ _ _ 7 (Act.put (canon _ v _ []) (some 178) (v 6)) w' _
                      rw [e6]
                      simp only [canon_nil, Act.put, List.setIfInBounds_toArray, List.set_cons_zero, List.set_cons_succ]
                      have q0 := (HB5.out.trans hR).cell (p := ⟨bN, 2, none⟩) zN
                      rw [cN2] at q0
                      refine spec_of rfl (fun KK hK => ?_)
                      go_simp
                      exact hK.out _ _ (Below.refl _ _) rfl
                    | 8, _, _ =>
                      intro v w' hR hd
                      have e7 : v 7 = .int .u8 ((n2 : Int)) := hd 7 (by decide)
                      change SpecOp _ _ _ _ 8 (Act.put (canon _ v _ []) (some 179) (v 7)) w' _
                      rw [e7]
                      simp only [canon_nil, Act.put, List.setIfInBounds_toArray, List.set_cons_zero, List.set_cons_succ]
                      refine spec_of rfl (fun KK hK => ?_)
                      go_simp
                      exact hK.out _ _ (Below.refl _ _) rfl
                    | 9, _, _ =>
                      intro v w' hR hd
                      have e8 : v 8 = .int .u8 ((n2 : Int) % 255) := hd 8 (by decide)
                      change SpecOp _ _ _ _ 9 (Act.put (canon _ v _ []) (some 180) (v 8)) w' _
                      rw [e8]
                      simp only [canon_nil, Act.put, List.setIfInBounds_toArray, List.set_cons_zero, List.set_cons_succ]
                      refine spec_of rfl (fun KK hK => ?_)
                      go_simp
                      exact hK.out _ _ (Below.refl _ _) rfl
                    | 10, _, h => exact absurd h (by decide)
                    | 11, _, _ =>
                      intro v w' hR hd
                      have e0 : v 0 = .slice (some ⟨gD, 0, none⟩) N kD := hd 0 (by decide)
                      have e3 : v 3 = .int .i64 (pp) := hd 3 (by decide)
                      change SpecOp _ _ _ _ 11 (Act.put (Act.put (canon _ v _ []) (some 175) (v 3)) (some 172) (v 0)) w' _
                      rw [e0, e3]
                      simp only [canon_nil, Act.put, List.setIfInBounds_toArray, List.set_cons_zero, List.set_cons_succ]
                      refine spec_of rfl (fun KK hK => ?_)
                      go_simp
                      exact hK.out _ _ (Below.refl _ _) rfl
                    | 12, _, h => exact absurd h (by decide)
                    | i + 13, h, _ => exact absurd h (Nat.not_lt.2 (Nat.le_add_left 13 i))
                case hch =>
                  generalize Exit.then _ _ = QQ
                  as_aux_lemma =>
                    intro k hk
                    match k, hk with
                    | 0, _ =>
                      intro v w' hR hd hs
                      have e4 : v 4 = .pointer (some ⟨gD, pp, none⟩) := hd 4 (by decide) (by decide)
                      have hs0 : World.ownsRow w' w5.heap.size 5 1 (.slice (some ⟨gD, 0, none⟩) N kD) N (ub (codeU L)) := hs
                      have hq := own_cell hs0 hcx
                      change SpecOp _ _ _ _ 5 (Act.put (canon _ v _ []) (some 176) (v 4)) w' _
                      rw [e4]
                      simp only [canon_nil, Act.put, List.setIfInBounds_toArray, List.set_cons_zero, List.set_cons_succ]
                      refine spec_ofB rfl (fun KK hK => ?_)
                      go_simp
                      exact hK.out _ _ (Below.refl _ _) ⟨rfl, hs0⟩
                    | 1, _ =>
                      intro v w' hR hd hs
                      have e9 : v 9 = .int .u8 (dd) := hd 9 (by decide) (by decide)
                      have e5 : v 5 = .int .u8 ob.1 := hs.1
                      have hs0 : World.ownsRow w' w5.heap.size 5 1 (.slice (some ⟨gD, 0, none⟩) N kD) N (ub (codeU L)) := hs.2
                      change SpecOp _ _ _ _ 10 (Act.put (Act.put (canon _ v _ []) (some 181) (v 9)) (some 177) (v 5)) w' _
                      rw [e5, e9]
                      simp only [canon_nil, Act.put, List.setIfInBounds_toArray, List.set_cons_zero, List.set_cons_succ]
                      refine spec_ofB rfl (fun KK hK => ?_)
                      go_simp
                      exact hK.out _ _ (Below.refl _ _) ⟨rfl, hs0⟩
                    | 2, _ =>
                      intro v w' hR hd hs
                      have e11 : v 11 = .pointer (some ⟨gD, pp, none⟩) := hd 11 (by decide) (by decide)
                      have e10 : v 10 = .int .u8 (bits .xor .u8 ob.1 (dd : Int)) := hs.1
                      have hs0 : World.ownsRow w' w5.heap.size 5 1 (.slice (some ⟨gD, 0, none⟩) N kD) N (ub (codeU L)) := hs.2
                      have hq := own_cell hs0 hcx
                      have hf := own_frozen hs0 pp
                      have hg := own_lt hs0
                      change SpecOp _ _ _ _ 12 (Act.put (Act.put (canon _ v _ []) (some 183) (v 11)) (some 182) (v 10)) w' _
                      rw [e10, e11]
                      simp only [canon_nil, Act.put, List.setIfInBounds_toArray, List.set_cons_zero, List.set_cons_succ]
                      refine spec_ofB rfl (fun KK hK => ?_)
                      go_simp
                      exact hK.out undef _ ((Below.refl _ _).setCell (p := ⟨gD, pp, none⟩) hg.1 _) (show World.ownsRow _ w5.heap.size 5 1 (.slice (some ⟨gD, 0, none⟩) N kD) N (ub ((codeU L).set pp (xorU ob (dd : Int)))) from by rw [← ub_set]; exact owns_put hs0 pp _)
                    | k + 3, h => exact absurd h (Nat.not_lt.2 (Nat.le_add_left 3 k))
                case hend =>
                  intro v w' hR hall hs
                  simp only [putL, Act.put, List.setIfInBounds_toArray, List.set_cons_zero, List.set_cons_succ]
                  have e0 : v 0 = .slice (some ⟨gD, 0, none⟩) N kD := hall 0 (by decide) (by decide)
                  have e1 : v 1 = .int .i64 (ff) := hall 1 (by decide) (by decide)
                  have e2 : v 2 = .int .i64 (aa) := hall 2 (by decide) (by decide)
                  have e3 : v 3 = .int .i64 (pp) := hall 3 (by decide) (by decide)
                  have e4 : v 4 = .pointer (some ⟨gD, pp, none⟩) := hall 4 (by decide) (by decide)
                  have e6 : v 6 = .pointer (some ⟨bN, 2, none⟩) := hall 6 (by decide) (by decide)
                  have e7 : v 7 = .int .u8 ((n2 : Int)) := hall 7 (by decide) (by decide)
                  have e8 : v 8 = .int .u8 ((n2 : Int) % 255) := hall 8 (by decide) (by decide)
                  have e9 : v 9 = .int .u8 (dd) := hall 9 (by decide) (by decide)
                  have e11 : v 11 = .pointer (some ⟨gD, pp, none⟩) := hall 11 (by decide) (by decide)
                  rw [e0, e1, e2, e3, e4, e6, e7, e8, e9, e11]
                  clear hall e0 e1 e2 e3 e4 e6 e7 e8 e9 e11
                  obtain ⟨v6w, hwn⟩ : ∃ s, w' = s := ⟨_, rfl⟩
                  rw [hwn] at hR hs ⊢
                  have hb6 : Below w5.heap.size w5 v6w := HB5.out.trans hR
                  have hod : World.ownsRow v6w w5.heap.size 5 1 (.slice (some ⟨gD, 0, none⟩) N kD) N (ub ((codeU L).set pp (xorU ob (dd : Int)))) := hs
                  have HRD := Lib.hid (rd_own hod)
                  clear hwn hR hs hod HOD HB5 hs1 hs2 hd1 hd2 hcx zN cN0 cN1 cN2 cN3
                  replace HXN := Lib.hid (HXN.out.below hb6)
                  replace HXC := Lib.hid (HXC.out.below hb6)
                  replace HRC := Lib.hid (HRC.out.below hb6)
                  replace HB := Lib.hid (HB.out.trans (hb6.mono HB.out.size))
                  clear hb6
                  have hE1 : IntKind.i64.wrap ((ff : Int) + 16) = ((ff + 16 : Nat) : Int) := by rw [IntKind.wrap_i64]; have := HNN.out; have := HFF.out; have := HKB.out; omega
                  obtain ⟨cN0, cN1, cN2, cN3⟩ := box4 HXN.out
                  go_upto_if 189 with fail
                  clear hE1 cN0 cN1 cN2 cN3
                  obtain ⟨D2, hD2⟩ : ∃ z, dmgD L nn n0 n1 n2 n3 = z := ⟨_, rfl⟩
                  obtain ⟨E2, hE2⟩ : ∃ z, dmgE nn n0 n1 n3 = z := ⟨_, rfl⟩
                  obtain ⟨M2, hM2⟩ : ∃ z, D2.length = z := ⟨_, rfl⟩
                  have HD2 := Lib.hid hD2; have HE2 := Lib.hid hE2; have HM2 := Lib.hid hM2; clear hD2 hE2 hM2
                  have hc7 : N ≤ c7 := by have := HC7.out; have := HNN.out; omega
                  have HCN := Lib.hid hc7; clear hc7
                  go_cut [27, 28] from 186 to 208 (fun sv ev wx => ∃ (A2 : Addr) (k2 : Nat), sv = .slice (some A2) M2 k2 ∧ M2 ≤ k2 ∧ (0 < M2 ∧ M2 ≤ 160) ∧ ev = .int .i64 (E2 : Int) ∧ Rd wx (some A2) (ub D2) ∧ Below v6w.heap.size v6w wx)
                  case first =>
                    by_cases ho : n3 % 2 = 1
                    · skip
                      have ho2 : ((n3 : Int) % 2 == 1) = true := by simp; omega
                      rw [ho2]
                      go_upto_region 39 with fail
                      have HO3 := Lib.hid ho; clear ho2 ho
                      obtain ⟨f1, hf1⟩ : ∃ z, ff + 1 = z := ⟨_, rfl⟩
                      obtain ⟨rr, hrr⟩ : ∃ z, aa % 15 = z := ⟨_, rfl⟩
                      obtain ⟨qq, hqq⟩ : ∃ z, f1 + rr = z := ⟨_, rfl⟩
                      have hqN : qq < N := by have := HNN.out; have := HFF.out; have := HKB.out; omega
                      have hfq : ff < qq := by omega
                      have b1 : (ff : Int) + 1 = (f1 : Int) := by omega
                      have b2 : IntKind.i64.wrap (f1 : Int) = (f1 : Int) := by rw [IntKind.wrap_i64]; omega
                      have b3 : (aa : Int) % 15 = (rr : Int) := by omega
                      have b3t : Int.tmod (aa : Int) 15 = (rr : Int) := by rw [← hrr]; exact Int.ofNat_tmod aa 15
                      have b4 : (f1 : Int) + (rr : Int) = (qq : Int) := by omega
                      have b5 : IntKind.i64.wrap (qq : Int) = (qq : Int) := by rw [IntKind.wrap_i64]; omega
                      have b6 : (ff : Int) ≤ (c7 : Int) := by have := HCN.out; omega
                      have b7 : (qq : Int) ≤ (N : Int) := by omega
                      have b8 : ¬ c7 = qq := by have := HCN.out; omega
                      have b9 : ff ≤ c7 := by have := HCN.out; omega
                      have b10 : qq ≤ N := by omega
                      have b11 : (qq : Int) ≤ (c7 : Int) := by have := HCN.out; omega
                      have HBB : RowKit.Hid (v6w.heap.size ≤ v6w.heap.size) := Lib.hid (Nat.le_refl _)
                      have HF1 := Lib.hid hf1; have HRR := Lib.hid hrr; have HQQ := Lib.hid hqq; have HQN := Lib.hid hqN; have HFQ := Lib.hid hfq; clear hf1 hrr hqq hqN hfq
                      have hlc : (ub (codeU L)).length = N := by rw [ub_len, codeU_len, Hhlen.out, HNN.out]
                      have ht1 : (ub ((codeU L).take ff)).length = ff * 1 := by rw [← ub_take, List.length_take, hlc]; have := HQN.out; have := HFQ.out; omega
                      have ht2 : (ub ((codeU L).drop qq)).length = (N - qq) * 1 := by rw [← ub_drop, List.length_drop, hlc]; omega
                      have htc : ∀ W, Below v6w.heap.size v6w W → ∀ j u, (ub ((codeU L).take ff))[j]? = some u → W.cell? (ad7.add j) = some u := fun W hb j u hj => by
                        have h := rd_cells HRC.out 0 ff (by rw [hlc]; have := HQN.out; have := HFQ.out; omega) W hb j u (by rw [List.drop_zero, ub_take]; exact hj)
                        rw [Addr.add_add, Nat.zero_add] at h
                        exact h
                      have htd : ∀ W, Below v6w.heap.size v6w W → ∀ j u, (ub ((codeU L).drop qq))[j]? = some u → W.cell? ((ad7.add qq).add j) = some u := fun W hb j u hj => rd_cells HRC.out qq (N - qq) (by rw [hlc]; have := HQN.out; omega) W hb j u (by rw [List.take_of_length_le (by rw [List.length_drop, hlc]; exact Nat.le_refl _), ub_drop]; exact hj)
                      have HT1 := Lib.hid ht1; have HT2 := Lib.hid ht2; have HTC := Lib.hid htc; have HTD := Lib.hid htd; clear hlc ht1 ht2 htc htd
                      refine wp_region_chain [undef, (.slice (some ad7) N c7), (.int .i64 (ff)), (.slice (some ad7) ff c7), undef, (.slice (some ad7) N c7), (.int .i64 (ff)), (.int .i64 (f1)), (.int .i64 (aa)), (.int .i64 (rr)), (.int .i64 (qq)), (.slice (some (ad7.add qq)) (N - qq) (c7 - qq)), undef, undef] [0, 4, 12, 13] (STap v6w.heap.size 5 1 ff (ff + (N - qq)) (ub ((codeU L).take ff)) (ub ((codeU L).take ff) ++ ub ((codeU L).drop qq))) v6w.heap.size [[], [], [], [1, 2], [0, 3], [], [], [6], [], [8], [7, 9], [5, 10], [4, 11], [12]] [(some 190, 0), (some 191, 1), (some 192, 2), (some 193, 3), (some 194, 4), (some 195, 5), (some 196, 6), (some 197, 7), (some 198, 8), (some 199, 9), (some 200, 10), (some 201, 11), (some 202, 12), (some 27, 13)] ?hB (by kernel_rfl) (by kernel_rfl) (by kernel_rfl) (by kernel_rfl) (by kernel_rfl) (fun k u a b => stap_below k u a b) (trivial) (fun _ _ _ _ e h => by have h1 : _ ∧ _ := h; exact ⟨e ▸ h1.1, h1.2⟩) ?hstep ?hch ?hend
                      case hB => exact HBB.out
                      case hstep =>
                        generalize Exit.then _ _ = QQ
                        as_aux_lemma =>
                          intro i hi hc
                          match i, hi, hc with
                          | 0, _, h => exact absurd h (by decide)
                          | 1, _, _ =>
                            intro v w' hR hd
                            change SpecOp _ _ _ _ 1 (canon _ v _ []) w' _
                            simp only [canon_nil]
                            refine spec_of rfl (fun KK hK => ?_)
                            go_simp
                            exact hK.out _ _ (Below.refl _ _) rfl
                          | 2, _, _ =>
                            intro v w' hR hd
                            change SpecOp _ _ _ _ 2 (canon _ v _ []) w' _
                            simp only [canon_nil]
                            refine spec_of rfl (fun KK hK => ?_)
                            go_simp
                            exact hK.out _ _ (Below.refl _ _) rfl
                          | 3, _, _ =>
                            intro v w' hR hd
                            have e1 : v 1 = .slice (some ad7) N c7 := hd 1 (by decide)
                            have e2 : v 2 = .int .i64 (ff) := hd 2 (by decide)
                            change SpecOp _ _ _ _ 3 (Act.put (Act.put (canon _ v _ []) (some 192) (v 2)) (some 191) (v 1)) w' _
                            rw [e1, e2]
                            simp only [canon_nil, Act.put, List.setIfInBounds_toArray, List.set_cons_zero, List.set_cons_succ]
                            refine spec_of rfl (fun KK hK => ?_)
                            go_simp
                            exact hK.out _ _ (Below.refl _ _) rfl
                          | 4, _, h => exact absurd h (by decide)
                          | 5, _, _ =>
                            intro v w' hR hd
                            change SpecOp _ _ _ _ 5 (canon _ v _ []) w' _
                            simp only [canon_nil]
                            refine spec_of rfl (fun KK hK => ?_)
                            go_simp
                            exact hK.out _ _ (Below.refl _ _) rfl
                          | 6, _, _ =>
                            intro v w' hR hd
                            change SpecOp _ _ _ _ 6 (canon _ v _ []) w' _
                            simp only [canon_nil]
                            refine spec_of rfl (fun KK hK => ?_)
                            go_simp
                            exact hK.out _ _ (Below.refl _ _) rfl
                          | 7, _, _ =>
                            intro v w' hR hd
                            have e6 : v 6 = .int .i64 (ff) := hd 6 (by decide)
                            change SpecOp _ _ _ _ 7 (Act.put (canon _ v _ []) (some 196) (v 6)) w' _
                            rw [e6]
                            simp only [canon_nil, Act.put, List.setIfInBounds_toArray, List.set_cons_zero, List.set_cons_succ]
                            refine spec_of rfl (fun KK hK => ?_)
                            go_simp
                            exact hK.out _ _ (Below.refl _ _) rfl
                          | 8, _, _ =>
                            intro v w' hR hd
                            change SpecOp _ _ _ _ 8 (canon _ v _ []) w' _
                            simp only [canon_nil]
                            refine spec_of rfl (fun KK hK => ?_)
                            go_simp
                            exact hK.out _ _ (Below.refl _ _) rfl
                          | 9, _, _ =>
                            intro v w' hR hd
                            have e8 : v 8 = .int .i64 (aa) := hd 8 (by decide)
                            change SpecOp _ _ _ _ 9 (Act.put (canon _ v _ []) (some 198) (v 8)) w' _
                            rw [e8]
                            simp only [canon_nil, Act.put, List.setIfInBounds_toArray, List.set_cons_zero, List.set_cons_succ]
                            refine spec_of rfl (fun KK hK => ?_)
                            go_simp
                            exact hK.out _ _ (Below.refl _ _) rfl
                          | 10, _, _ =>
                            intro v w' hR hd
                            have e7 : v 7 = .int .i64 (f1) := hd 7 (by decide)
                            have e9 : v 9 = .int .i64 (rr) := hd 9 (by decide)
                            change SpecOp _ _ _ _ 10 (Act.put (Act.put (canon _ v _ []) (some 199) (v 9)) (some 197) (v 7)) w' _
                            rw [e7, e9]
                            simp only [canon_nil, Act.put, List.setIfInBounds_toArray, List.set_cons_zero, List.set_cons_succ]
                            refine spec_of rfl (fun KK hK => ?_)
                            go_simp
                            exact hK.out _ _ (Below.refl _ _) rfl
                          | 11, _, _ =>
                            intro v w' hR hd
                            have e5 : v 5 = .slice (some ad7) N c7 := hd 5 (by decide)
                            have e10 : v 10 = .int .i64 (qq) := hd 10 (by decide)
                            change SpecOp _ _ _ _ 11 (Act.put (Act.put (canon _ v _ []) (some 200) (v 10)) (some 195) (v 5)) w' _
                            rw [e5, e10]
                            simp only [canon_nil, Act.put, List.setIfInBounds_toArray, List.set_cons_zero, List.set_cons_succ]
                            refine spec_of rfl (fun KK hK => ?_)
                            go_simp
                            exact hK.out _ _ (Below.refl _ _) rfl
                          | 12, _, h => exact absurd h (by decide)
                          | 13, _, h => exact absurd h (by decide)
                          | i + 14, h, _ => exact absurd h (Nat.not_lt.2 (Nat.le_add_left 14 i))
                      case hch =>
                        generalize Exit.then _ _ = QQ
                        as_aux_lemma =>
                          intro k hk
                          match k, hk with
                          | 0, _ =>
                            intro v w' hR hd hs
                            change SpecOp _ _ _ _ 0 (canon _ v _ []) w' _
                            simp only [canon_nil]
                            refine spec_ofB rfl (fun KK hK => ?_)
                            go_simp
                            exact hK.out _ _ ((Below.refl v6w.heap.size w').alloc hR.size _) (show World.ownsRow _ v6w.heap.size 5 1 _ 0 [] from own_new w' _ hR.size 5 1)
                          | 1, _ =>
                            intro v w' hR hd hs
                            have e3 : v 3 = .slice (some ad7) ff c7 := hd 3 (by decide) (by decide)
                            have e0 : v 0 = v 0 := rfl
                            have hs0 : World.ownsRow w' v6w.heap.size 5 1 (v 0) 0 [] := hs
                            change SpecOp _ _ _ _ 4 (Act.put (Act.put (canon _ v _ []) (some 193) (v 3)) (some 190) (v 0)) w' _
                            rw [e0, e3]
                            simp only [canon_nil, Act.put, List.setIfInBounds_toArray, List.set_cons_zero, List.set_cons_succ]
                            refine spec_ofB rfl (fun KK hK => ?_)
                            rw [if_pos (by rfl)]
                            obtain ⟨hi_, hy0, hy1, hy2⟩ := HPI.out
                            refine wp_append_own w' (.tmp 190) (.tmp 193) 106 (by rfl) v6w.heap.size 5 iB (.int .u8 0) 1 1 Tryz.underlying106 hi_ hy0 hy1 hy2 (by rfl) (by decide) (v 0) 0 ([]) (by rfl) hs0 ad7 ff (c7) (ub ((codeU L).take ff)) (by rfl) HT1.out (HTC.out w' hR) (ub_one _) (by unfold maxLen; omega) (by omega) hR.size ?_
                            intro v' w'' hown' hgrow' _
                            exact hK.out _ _ ((Below.refl v6w.heap.size w').grown hgrow' hR.size (fun k hk => (owns_block hs0 k hk).1)) (show World.ownsRow _ v6w.heap.size 5 1 _ ff (ub ((codeU L).take ff)) from by rw [Nat.zero_add, List.nil_append] at hown'; exact hown')
                          | 2, _ =>
                            intro v w' hR hd hs
                            have e11 : v 11 = .slice (some (ad7.add qq)) (N - qq) (c7 - qq) := hd 11 (by decide) (by decide)
                            have e4 : v 4 = v 4 := rfl
                            have hs0 : World.ownsRow w' v6w.heap.size 5 1 (v 4) ff (ub ((codeU L).take ff)) := hs
                            change SpecOp _ _ _ _ 12 (Act.put (Act.put (canon _ v _ []) (some 201) (v 11)) (some 194) (v 4)) w' _
                            rw [e4, e11]
                            simp only [canon_nil, Act.put, List.setIfInBounds_toArray, List.set_cons_zero, List.set_cons_succ]
                            refine spec_ofB rfl (fun KK hK => ?_)
                            rw [if_pos (by rfl)]
                            obtain ⟨hi_, hy0, hy1, hy2⟩ := HPI.out
                            refine wp_append_own w' (.tmp 194) (.tmp 201) 106 (by rfl) v6w.heap.size 5 iB (.int .u8 0) 1 1 Tryz.underlying106 hi_ hy0 hy1 hy2 (by rfl) (by decide) (v 4) ff (ub ((codeU L).take ff)) (by rfl) hs0 (ad7.add qq) (N - qq) (c7 - qq) (ub ((codeU L).drop qq)) (by rfl) HT2.out (HTD.out w' hR) (ub_one _) (by unfold maxLen; omega) (by omega) hR.size ?_
                            intro v' w'' hown' hgrow' _
                            exact hK.out _ _ ((Below.refl v6w.heap.size w').grown hgrow' hR.size (fun k hk => (owns_block hs0 k hk).1)) hown'
                          | 3, _ =>
                            intro v w' hR hd hs
                            have e12 : v 12 = v 12 := rfl
                            change SpecOp _ _ _ _ 13 (Act.put (canon _ v _ []) (some 202) (v 12)) w' _
                            rw [e12]
                            simp only [canon_nil, Act.put, List.setIfInBounds_toArray, List.set_cons_zero, List.set_cons_succ]
                            refine spec_ofB rfl (fun KK hK => ?_)
                            go_simp
                            exact hK.out _ _ (Below.refl _ _) hs
                          | k + 4, h => exact absurd h (Nat.not_lt.2 (Nat.le_add_left 4 k))
                      case hend =>
                        intro v w' hR hall hs
                        simp only [putL, Act.put, List.setIfInBounds_toArray, List.set_cons_zero, List.set_cons_succ]
                        have e1 : v 1 = .slice (some ad7) N c7 := hall 1 (by decide) (by decide)
                        have e2 : v 2 = .int .i64 (ff) := hall 2 (by decide) (by decide)
                        have e3 : v 3 = .slice (some ad7) ff c7 := hall 3 (by decide) (by decide)
                        have e5 : v 5 = .slice (some ad7) N c7 := hall 5 (by decide) (by decide)
                        have e6 : v 6 = .int .i64 (ff) := hall 6 (by decide) (by decide)
                        have e7 : v 7 = .int .i64 (f1) := hall 7 (by decide) (by decide)
                        have e8 : v 8 = .int .i64 (aa) := hall 8 (by decide) (by decide)
                        have e9 : v 9 = .int .i64 (rr) := hall 9 (by decide) (by decide)
                        have e10 : v 10 = .int .i64 (qq) := hall 10 (by decide) (by decide)
                        have e11 : v 11 = .slice (some (ad7.add qq)) (N - qq) (c7 - qq) := hall 11 (by decide) (by decide)
                        rw [e1, e2, e3, e5, e6, e7, e8, e9, e10, e11]
                        clear hall e1 e2 e3 e5 e6 e7 e8 e9 e10 e11
                        have hown : World.ownsRow w' v6w.heap.size 5 1 (v 13) (ff + (N - qq)) (ub ((codeU L).take ff) ++ ub ((codeU L).drop qq)) := hs
                        obtain ⟨g2, k2, hv2, hk2⟩ := own_form hown (by have := HQN.out; omega)
                        rw [hv2] at hown ⊢
                        have hrd := rd_own hown
                        rw [← ub_app] at hrd
                        have hdd2 : (codeU L).take ff ++ (codeU L).drop qq = D2 := by
                          rw [← HD2.out]; unfold dmgD
                          rw [if_pos HO3.out, HKK.out, HAA.out, HRR.out, HFF.out, ← HQQ.out, ← HF1.out, Nat.add_assoc]
                        have hmm : ff + (N - qq) = M2 := by rw [← HM2.out, ← hdd2, List.length_append, List.length_take, List.length_drop, codeU_len, Hhlen.out, HNN.out]; have := HQN.out; have := HFQ.out; omega
                        have hee : E2 = ff + 15 - rr := by rw [← HE2.out]; unfold dmgE; rw [if_pos HO3.out, HKK.out, HAA.out, HRR.out, HFF.out]
                        rw [hdd2] at hrd
                        rw [hmm] at hk2 ⊢
                        have hmb : 0 < M2 ∧ M2 ≤ 160 := by have := HQN.out; have := HFQ.out; omega
                        have HMB := Lib.hid hmb; clear hmb
                        have HR2 := Lib.hid hrd; have HK2 := Lib.hid hk2; have HEE := Lib.hid hee; have HBX := Lib.hid hR
                        clear hs hown hrd hk2 hee hR hdd2 hmm hv2
                        go_wp2_with fail
                        go_meet
                        exact ⟨_, _, rfl, HK2.out, HMB.out, by rw [HEE.out]; congr 1; have := HRR.out; omega, HR2.out, HBX.out⟩
                    · skip
                      have ho2 : ((n3 : Int) % 2 == 1) = false := by simp; omega
                      rw [ho2]
                      have HO3 := Lib.hid ho; clear ho ho2
                      have hdd2 : (codeU L).set pp (xorU ob (dd : Int)) = D2 := by
                        rw [← HD2.out]; unfold dmgD
                        rw [if_neg HO3.out, HKK.out, HAA.out, HDD.out, HFF.out, HPP.out, HOB.out]
                      have hmm : N = M2 := by rw [← HM2.out, ← hdd2, List.length_set, codeU_len, Hhlen.out, HNN.out]
                      have hee : E2 = ff + 16 := by rw [← HE2.out]; unfold dmgE; rw [if_neg HO3.out, HKK.out, HFF.out]
                      have hrd := HRD.out
                      rw [hdd2] at hrd
                      have HR2 := Lib.hid hrd; have HEE := Lib.hid hee; have HMM := Lib.hid hmm
                      clear hrd hee hmm hdd2
                      go_wp2_with fail
                      go_meet
                      exact ⟨_, _, by rw [HMM.out], by have := HCD.out; rw [← HMM.out]; exact this, by have := HMM.out; have := HPN.out; omega, by rw [HEE.out]; congr 1, HR2.out, Below.refl _ _⟩
                  case rest =>
                    obtain ⟨A27, k27, rfl, hk27, hmb, rfl, hr27, hb27⟩ := hcut
                    have HMB := Lib.hid hmb; clear hmb
                    clear HRD
                    replace HXN := Lib.hid (HXN.out.below hb27)
                    replace HXC := Lib.hid (HXC.out.below hb27)
                    replace HRC := Lib.hid (HRC.out.below hb27)
                    replace HB := Lib.hid (HB.out.trans (hb27.mono HB.out.size))
                    clear hb27
                    have HR27 := Lib.hid hr27; have HK27 := Lib.hid hk27; clear hr27 hk27
                    have hfe : ff < E2 := by rw [← HE2.out, ← HFF.out, ← HKK.out]; unfold dmgE; split <;> omega
                    have HFE := Lib.hid hfe; clear hfe
                    go_upto_region 42 with fail
                    obtain ⟨w7, hw1⟩ : ∃ s, wc = s := ⟨_, rfl⟩
                    rw [hw1] at HXN HXC HRC HR27 HB ⊢
                    clear hw1
                    go_loopw [211] (fun v wr => ∃ jj : Nat, jj ≤ M2 ∧ v = .int .i64 jj ∧ RowKit.Hid (Clear D2 ff E2 (decide (n3 % 2 = 0)) jj) ∧ Below w7.heap.size w7 wr) (fun v _ => M2 - (intOf v).toNat)
                    case atStart => exact ⟨0, by omega, rfl, Lib.hid (fun j hj => absurd hj (Nat.not_lt_zero _)), Below.refl _ _⟩
                    case round =>
                      obtain ⟨jj, hjj, rfl, HCL, hbel⟩ := hrel
                      have HBL := Lib.hid hbel
                      replace HXN := Lib.hid (HXN.out.below hbel)
                      replace HXC := Lib.hid (HXC.out.below hbel)
                      replace HRC := Lib.hid (HRC.out.below hbel)
                      replace HR27 := Lib.hid (HR27.out.below hbel)
                      replace HB := Lib.hid (HB.out.trans (hbel.mono HB.out.size))
                      clear hbel
                      by_cases hlt : jj < M2
                      · skip
                        have hid : decide ((jj : Int) < (M2 : Int)) = true := by simp; omega
                        obtain ⟨ob2, hob2⟩ : ∃ b, D2.getD jj u0 = b := ⟨_, rfl⟩
                        have q0 : wr.cell? (A27.add jj) = some (.int .u8 ob2.1) := by
                          obtain ⟨ad, e, _, hc⟩ := HR27.out (by rw [ub_len, HM2.out]; omega)
                          cases e
                          exact hc jj _ (by rw [← hob2]; exact ub_at (by rw [HM2.out]; exact hlt))
                        go_upto_region 44 with fail
                        clear hid q0
                        have HOB2 := Lib.hid hob2; clear hob2
                        go_cut [31] from 216 to 246 (fun bb wx => bb = .bool (ownAt ff E2 jj (decide (n3 % 2 = 0))) ∧ wx = wr)
                        case first =>
                          obtain ⟨cN0, cN1, cN2, cN3⟩ := box4 HXN.out
                          have hfe := HFE.out
                          by_cases p1 : jj < ff
                          · have k1 : (jj : Int) < (ff : Int) := by omega
                            by_cases p2 : jj % 16 = 0
                            · have k2 : ((jj : Int) % 16 == 0) = true := by simp; omega
                              go_wp2_with fail
                              go_meet
                              exact ⟨by simp [ownAt, p1, p2], rfl⟩
                            · have k2 : ((jj : Int) % 16 == 0) = false := by simp; omega
                              have p3 : ¬ E2 ≤ jj := by omega
                              have p5 : ¬ jj = ff := by omega
                              have k3 : ¬ (E2 : Int) ≤ (jj : Int) := by omega
                              have k5 : ((jj : Int) == (ff : Int)) = false := by simp; omega
                              go_wp2_with fail
                              go_meet
                              exact ⟨by simp [ownAt, p1, p2, p3, p5], rfl⟩
                          · have k1 : ¬ (jj : Int) < (ff : Int) := by omega
                            by_cases p3 : E2 ≤ jj
                            · have k3 : (E2 : Int) ≤ (jj : Int) := by omega
                              have p5 : ¬ jj = ff := by omega
                              have k5 : ((jj : Int) == (ff : Int)) = false := by simp; omega
                              obtain ⟨zz, hzz⟩ : ∃ z, jj - E2 = z := ⟨_, rfl⟩
                              have k6 : (jj : Int) - (E2 : Int) = (zz : Int) := by omega
                              have k7 : IntKind.i64.wrap (zz : Int) = (zz : Int) := by rw [IntKind.wrap_i64]; have := HMB.out; omega
                              by_cases p4 : zz % 16 = 0
                              · have k4 : ((zz : Int) % 16 == 0) = true := by simp; omega
                                go_wp2_with fail
                                go_meet
                                exact ⟨by simp [ownAt, p1, p3, hzz, p4], rfl⟩
                              · have k4 : ((zz : Int) % 16 == 0) = false := by simp; omega
                                go_wp2_with fail
                                go_meet
                                exact ⟨by simp [ownAt, p1, p3, hzz, p4, p5], rfl⟩
                            · have k3 : ¬ (E2 : Int) ≤ (jj : Int) := by omega
                              by_cases p5 : jj = ff
                              · have k5 : ((jj : Int) == (ff : Int)) = true := by simp; omega
                                have P5 := Lib.hid p5; clear p5
                                by_cases p6 : n3 % 2 = 0
                                · have k6 : ((n3 : Int) % 2 == 0) = true := by simp; omega
                                  go_wp2_with fail
                                  go_meet
                                  exact ⟨by have e := P5.out; subst e; simp [ownAt, p6], rfl⟩
                                · have k6 : ((n3 : Int) % 2 == 0) = false := by simp; omega
                                  go_wp2_with fail
                                  go_meet
                                  exact ⟨by have e := P5.out; subst e; simp [ownAt, p3, p6], rfl⟩
                              · have k5 : ((jj : Int) == (ff : Int)) = false := by simp; omega
                                go_wp2_with fail
                                go_meet
                                exact ⟨by simp [ownAt, p1, p3, p5], rfl⟩
                        case rest =>
                          obtain ⟨rfl, rfl⟩ := hcut
                          obtain ⟨ow, how⟩ : ∃ b, ownAt ff E2 jj (decide (n3 % 2 = 0)) = b := ⟨_, rfl⟩
                          rw [how]
                          have HOWN := Lib.hid how; clear how
                          have hm160 : M2 ≤ 160 := HMB.out.2
                          by_cases hb7 : ob2.1 = 171
                          · have kb : (ob2.1 == 171) = true := by simp [hb7]
                            cases ow with
                            | false =>
                              go_wp2_with fail
                              refine (Hhaw.out _ HB.out).mono ?_
                              rintro e ww ⟨rfl, hb⟩
                              have HB2 := Lib.hid (HB.out.trans (hb.mono HB.out.size))
                              go_wp2
                              go_ret
                              exact ⟨rfl, HB2.out⟩
                            | true =>
                              go_wp2_with fail
                              go_roundw
                              case rel => exact ⟨jj + 1, by omega, by go_num, Lib.hid (fun j hj hjb => by by_cases e : j = jj; (· subst e; exact HOWN.out); (· exact HCL.out j (by omega) hjb)), HBL.out⟩
                              case measure => simp [intOf]; omega
                          · have kb : (ob2.1 == 171) = false := by simp [hb7]
                            have HB7 := Lib.hid hb7; clear hb7
                            go_wp2_with fail
                            go_roundw
                            case rel => exact ⟨jj + 1, by omega, by go_num, Lib.hid (fun j hj hjb => by by_cases e : j = jj; (· subst e; exact absurd (by rw [← HOB2.out]; exact hjb) HB7.out); (· exact HCL.out j (by omega) hjb)), HBL.out⟩
                            case measure => simp [intOf]; omega
                      · skip
                        clear HBL
                        obtain rfl : jj = M2 := by omega
                        clear hlt hjj
                        have hrc2 := Hhrcv2.out h0p (by rw [HD2.out, HKK.out, HFF.out, HE2.out, HM2.out]; exact HCL.out)
                        rw [HD2.out, HKK.out, HFF.out, HE2.out, HM2.out] at hrc2
                        have HRC2 := Lib.hid hrc2; clear hrc2 HCL
                        go_upto_region 48 with fail
                        obtain ⟨w8, hw1⟩ : ∃ s, wr = s := ⟨_, rfl⟩
                        rw [hw1] at HXN HXC HRC HR27 HB ⊢
                        clear hw1
                        obtain ⟨ad, e, had, hcells⟩ := HR27.out (by rw [ub_len, HM2.out]; exact HMB.out.1)
                        cases e
                        have HQ : RowKit.Hid (∀ W, Below w8.heap.size w8 W → ∀ (j : Nat) (u : Value), (ub D2)[j]? = some u → W.cell? (A27.add j) = some u) := Lib.hid (fun W hb j u hj => (hb.cell (p := A27.add j) (by rw [block_of_add]; exact had)).trans (hcells j u hj))
                        have HFL2 : RowKit.Hid ((ub D2).length = jj * 1) := Lib.hid (by rw [ub_len, HM2.out]; omega)
                        have HFO2 := Lib.hid (ub_one D2)
                        clear had hcells
                        have HOW := Lib.hid (own_none1 w8)
                        obtain ⟨hi_, hy0, hy1, hy2⟩ := HPI.out
                        have hsb : Below w8.heap.size w8 (w8.alloc (.cells #[] 5)) := (Below.refl _ _).alloc (Nat.le_refl _) _
                        have HSB := Lib.hid hsb; clear hsb
                        have hNb2 : jj ≤ 160 := HMB.out.2
                        go_wp2_with (at_builtin; go_must (refine wpList_append_own_at _ (by rfl) (.tmp 256) (.tmp 257) 106 (by rfl) w8.heap.size 5 iB (.int .u8 0) 1 1 Tryz.underlying106 hi_ hy0 hy1 hy2 (by rfl) (by decide) (.slice (some ⟨w8.heap.size, 0, none⟩) 0 0) 0 ([]) (by rfl) HOW.out A27 jj k27 (ub D2) (by rfl) HFL2.out (HQ.out _ HSB.out) HFO2.out (by unfold maxLen; omega) (by omega) HSB.out.size ?_); intro v' v9w hown hgrow hnil hat)
                        rw [Nat.zero_add, List.nil_append] at hown
                        obtain ⟨g9, k9', rfl, hcap⟩ := own_form hown HMB.out.1
                        have hb2 := HSB.out.grown hgrow HSB.out.size (fun k hk => by have h1 : w8.heap.size = k := (by simpa [Value.ownBlock] using hk); omega)
                        have HR9 := Lib.hid (rd_own hown); have HC9 := Lib.hid hcap; clear hown hgrow hnil hat hcap HOW HSB hi_ hy0 hy1 hy2 HQ
                        replace HXN := Lib.hid (HXN.out.below hb2)
                        replace HXC := Lib.hid (HXC.out.below hb2)
                        replace HRC := Lib.hid (HRC.out.below hb2)
                        replace HR27 := Lib.hid (HR27.out.below hb2)
                        replace HB := Lib.hid (HB.out.trans (hb2.mono HB.out.size))
                        clear hb2
                        refine (HRC2.out _ _ _ HC9.out HR9.out).mono ?_
                        rintro e u12w ⟨A11, k11, A12, k12, rfl, hr11, hr12, hb⟩
                        replace HXN := Lib.hid (HXN.out.below hb)
                        replace HXC := Lib.hid (HXC.out.below hb)
                        replace HRC := Lib.hid (HRC.out.below hb)
                        replace HR27 := Lib.hid (HR27.out.below hb)
                        replace HB := Lib.hid (HB.out.trans (hb.mono HB.out.size))
                        clear hb
                        have HR11 := Lib.hid hr11; clear hr11
                        have HR12 := Lib.hid hr12; clear hr12
                        clear HR9 HC9
                        go_upto_region 49 with fail
                        obtain ⟨k1_, hk1_⟩ : ∃ z, kk + 1 = z := ⟨_, rfl⟩
                        have hkb2 := HKB.out
                        have hcn := HCAP0.out
                        obtain ⟨iR, hiR, hzR0, hzR1, hzR2⟩ := info_parts info_packetR
                        have HPIR := Lib.hid (And.intro hiR (And.intro hzR0 (And.intro hzR1 hzR2)))
                        clear hiR hzR0 hzR1 hzR2
                        have hlp : (L.map PkU.pk).length = nn := by rw [List.length_map, Hhlen.out]
                        have ht1 : (pksC ((L.map PkU.pk).take kk)).length = kk * 12 := by rw [pksC_len, List.length_take, hlp]; omega
                        have ht2 : (pksC ((L.map PkU.pk).drop k1_)).length = (nn - k1_) * 12 := by rw [pksC_len, List.length_drop, hlp]
                        obtain ⟨w9, hw1⟩ : ∃ s, u12w = s := ⟨_, rfl⟩
                        rw [hw1] at HXN HXC HRC HR27 HR11 HR12 HB ⊢
                        clear hw1
                        obtain ⟨ad0, rfl, _⟩ := HPA.out h0p
                        have hrl : Rd w9 (some ad0) (pksC (L.map PkU.pk)) := Hhr.out.below HB.out
                        have htc : ∀ W, Below w9.heap.size w9 W → ∀ j u, (pksC ((L.map PkU.pk).take kk))[j]? = some u → W.cell? (ad0.add j) = some u := fun W hb j u hj => by
                          have e0 : (pksC (L.map PkU.pk)).take (kk * 12) = pksC ((L.map PkU.pk).take kk) := by
                            have e1 : pksC (L.map PkU.pk) = pksC ((L.map PkU.pk).take kk) ++ pksC ((L.map PkU.pk).drop kk) := by rw [← pksC_app, List.take_append_drop]
                            rw [e1]; exact List.take_left' ht1
                          have h := rd_cells hrl 0 (kk * 12) (by rw [pksC_len, hlp]; omega) W hb j u (by rw [List.drop_zero, e0]; exact hj)
                          rw [Addr.add_add, Nat.zero_add] at h
                          exact h
                        have hed : (pksC (L.map PkU.pk)).drop (k1_ * 12) = pksC ((L.map PkU.pk).drop k1_) := by
                          have e1 : pksC (L.map PkU.pk) = pksC ((L.map PkU.pk).take k1_) ++ pksC ((L.map PkU.pk).drop k1_) := by rw [← pksC_app, List.take_append_drop]
                          rw [e1]; exact List.drop_left' (by rw [pksC_len, List.length_take, hlp]; omega)
                        obtain ⟨adX, hadX, htd⟩ : ∃ adX, (if c = k1_ then some ad0 else some (ad0.add (k1_ * 12))) = some adX ∧ ∀ W, Below w9.heap.size w9 W → ∀ j u, (pksC ((L.map PkU.pk).drop k1_))[j]? = some u → W.cell? (adX.add j) = some u := by
                          by_cases hck1 : c = k1_
                          · refine ⟨ad0, if_pos hck1, fun W hb j u hj => ?_⟩
                            have h1 := (List.getElem?_eq_some_iff.1 hj).1
                            rw [ht2] at h1
                            omega
                          · refine ⟨_, if_neg hck1, fun W hb j u hj => rd_cells hrl (k1_ * 12) ((nn - k1_) * 12) (by rw [pksC_len, hlp]; omega) W hb j u ?_⟩
                            rw [List.take_of_length_le (by rw [List.length_drop, pksC_len, hlp]; omega), hed]
                            exact hj
                        have HT1 := Lib.hid ht1; have HT2 := Lib.hid ht2; have HTC := Lib.hid htc; have HTD := Lib.hid htd; have HADX := Lib.hid hadX; clear hrl htc hed htd ht1 ht2 hlp
                        have HBB : RowKit.Hid (w9.heap.size ≤ w9.heap.size) := Lib.hid (Nat.le_refl _)
                        have b1 : (kk : Int) + 1 = (k1_ : Int) := by omega
                        have b2 : IntKind.i64.wrap (k1_ : Int) = (k1_ : Int) := by rw [IntKind.wrap_i64]; omega
                        have b6 : (kk : Int) ≤ (c : Int) := by omega
                        have b7 : (k1_ : Int) ≤ (nn : Int) := by omega
                        have b9 : kk ≤ c := by omega
                        have b10 : k1_ ≤ nn := by omega
                        have b11 : (k1_ : Int) ≤ (c : Int) := by omega
                        have b12 := HADX.out
                        refine wp_region_chain [undef, (.slice (some ad0) nn c), (.int .i64 (kk)), (.slice (some ad0) kk c), undef, (.slice (some ad0) nn c), (.int .i64 (kk)), (.int .i64 (k1_)), (.slice (some adX) (nn - k1_) (c - k1_)), undef, undef] [0, 4, 9, 10] (STap w9.heap.size 89 12 kk (kk + (nn - k1_)) (pksC ((L.map PkU.pk).take kk)) (pksC ((L.map PkU.pk).take kk) ++ pksC ((L.map PkU.pk).drop k1_))) w9.heap.size [[], [], [], [1, 2], [0, 3], [], [], [6], [5, 7], [4, 8], [9]] [(some 263, 0), (some 264, 1), (some 265, 2), (some 266, 3), (some 267, 4), (some 268, 5), (some 269, 6), (some 270, 7), (some 271, 8), (some 272, 9), (some 35, 10)] ?hB (by kernel_rfl) (by kernel_rfl) (by kernel_rfl) (by kernel_rfl) (by kernel_rfl) (fun k u a b => stap_below k u a b) (trivial) (fun _ _ _ _ e h => by have h1 : _ ∧ _ := h; exact ⟨e ▸ h1.1, h1.2⟩) ?hstep ?hch ?hend
                        case hB => exact HBB.out
                        case hstep =>
                          generalize Exit.then _ _ = QQ
                          as_aux_lemma =>
                            intro i hi hc
                            match i, hi, hc with
                            | 0, _, h => exact absurd h (by decide)
                            | 1, _, _ =>
                              intro v w' hR hd
                              change SpecOp _ _ _ _ 1 (canon _ v _ []) w' _
                              simp only [canon_nil]
                              refine spec_of rfl (fun KK hK => ?_)
                              go_simp
                              exact hK.out _ _ (Below.refl _ _) rfl
                            | 2, _, _ =>
                              intro v w' hR hd
                              change SpecOp _ _ _ _ 2 (canon _ v _ []) w' _
                              simp only [canon_nil]
                              refine spec_of rfl (fun KK hK => ?_)
                              go_simp
                              exact hK.out _ _ (Below.refl _ _) rfl
                            | 3, _, _ =>
                              intro v w' hR hd
                              have e1 : v 1 = .slice (some ad0) nn c := hd 1 (by decide)
                              have e2 : v 2 = .int .i64 (kk) := hd 2 (by decide)
                              change SpecOp _ _ _ _ 3 (Act.put (Act.put (canon _ v _ []) (some 265) (v 2)) (some 264) (v 1)) w' _
                              rw [e1, e2]
                              simp only [canon_nil, Act.put, List.setIfInBounds_toArray, List.set_cons_zero, List.set_cons_succ]
                              refine spec_of rfl (fun KK hK => ?_)
                              go_simp
                              exact hK.out _ _ (Below.refl _ _) rfl
                            | 4, _, h => exact absurd h (by decide)
                            | 5, _, _ =>
                              intro v w' hR hd
                              change SpecOp _ _ _ _ 5 (canon _ v _ []) w' _
                              simp only [canon_nil]
                              refine spec_of rfl (fun KK hK => ?_)
                              go_simp
                              exact hK.out _ _ (Below.refl _ _) rfl
                            | 6, _, _ =>
                              intro v w' hR hd
                              change SpecOp _ _ _ _ 6 (canon _ v _ []) w' _
                              simp only [canon_nil]
                              refine spec_of rfl (fun KK hK => ?_)
                              go_simp
                              exact hK.out _ _ (Below.refl _ _) rfl
                            | 7, _, _ =>
                              intro v w' hR hd
                              have e6 : v 6 = .int .i64 (kk) := hd 6 (by decide)
                              change SpecOp _ _ _ _ 7 (Act.put (canon _ v _ []) (some 269) (v 6)) w' _
                              rw [e6]
                              simp only [canon_nil, Act.put, List.setIfInBounds_toArray, List.set_cons_zero, List.set_cons_succ]
                              refine spec_of rfl (fun KK hK => ?_)
                              go_simp
                              exact hK.out _ _ (Below.refl _ _) rfl
                            | 8, _, _ =>
                              intro v w' hR hd
                              have e5 : v 5 = .slice (some ad0) nn c := hd 5 (by decide)
                              have e7 : v 7 = .int .i64 (k1_) := hd 7 (by decide)
                              change SpecOp _ _ _ _ 8 (Act.put (Act.put (canon _ v _ []) (some 270) (v 7)) (some 268) (v 5)) w' _
                              rw [e5, e7]
                              simp only [canon_nil, Act.put, List.setIfInBounds_toArray, List.set_cons_zero, List.set_cons_succ]
                              refine spec_of rfl (fun KK hK => ?_)
                              go_simp
                              exact hK.out _ _ (Below.refl _ _) rfl
                            | 9, _, h => exact absurd h (by decide)
                            | 10, _, h => exact absurd h (by decide)
                            | i + 11, h, _ => exact absurd h (Nat.not_lt.2 (Nat.le_add_left 11 i))
                        case hch =>
                          generalize Exit.then _ _ = QQ
                          as_aux_lemma =>
                            intro k hk
                            match k, hk with
                            | 0, _ =>
                              intro v w' hR hd hs
                              change SpecOp _ _ _ _ 0 (canon _ v _ []) w' _
                              simp only [canon_nil]
                              refine spec_ofB rfl (fun KK hK => ?_)
                              go_simp
                              exact hK.out _ _ ((Below.refl w9.heap.size w').alloc hR.size _) (show World.ownsRow _ w9.heap.size 89 12 _ 0 [] from own_new w' _ hR.size 89 12)
                            | 1, _ =>
                              intro v w' hR hd hs
                              have e3 : v 3 = .slice (some ad0) kk c := hd 3 (by decide) (by decide)
                              have e0 : v 0 = v 0 := rfl
                              have hs0 : World.ownsRow w' w9.heap.size 89 12 (v 0) 0 [] := hs
                              change SpecOp _ _ _ _ 4 (Act.put (Act.put (canon _ v _ []) (some 266) (v 3)) (some 263) (v 0)) w' _
                              rw [e0, e3]
                              simp only [canon_nil, Act.put, List.setIfInBounds_toArray, List.set_cons_zero, List.set_cons_succ]
                              refine spec_ofB rfl (fun KK hK => ?_)
                              rw [if_pos (by rfl)]
                              obtain ⟨hi_, hy0, hy1, hy2⟩ := HPIR.out
                              refine wp_append_own w' (.tmp 263) (.tmp 266) 84 (by rfl) w9.heap.size 89 iR pk0.val 12 32 Tryz.underlying84 hi_ hy0 hy1 hy2 (by rfl) (by decide) (v 0) 0 ([]) (by rfl) hs0 ad0 kk (c) (pksC ((L.map PkU.pk).take kk)) (by rfl) HT1.out (HTC.out w' hR) (fun u hu => pks_one _ u hu) (by unfold maxLen; omega) (by omega) hR.size ?_
                              intro v' w'' hown' hgrow' _
                              exact hK.out _ _ ((Below.refl w9.heap.size w').grown hgrow' hR.size (fun k hk => (owns_block hs0 k hk).1)) (show World.ownsRow _ w9.heap.size 89 12 _ kk (pksC ((L.map PkU.pk).take kk)) from by rw [Nat.zero_add, List.nil_append] at hown'; exact hown')
                            | 2, _ =>
                              intro v w' hR hd hs
                              have e8 : v 8 = .slice (some adX) (nn - k1_) (c - k1_) := hd 8 (by decide) (by decide)
                              have e4 : v 4 = v 4 := rfl
                              have hs0 : World.ownsRow w' w9.heap.size 89 12 (v 4) kk (pksC ((L.map PkU.pk).take kk)) := hs
                              change SpecOp _ _ _ _ 9 (Act.put (Act.put (canon _ v _ []) (some 271) (v 8)) (some 267) (v 4)) w' _
                              rw [e4, e8]
                              simp only [canon_nil, Act.put, List.setIfInBounds_toArray, List.set_cons_zero, List.set_cons_succ]
                              refine spec_ofB rfl (fun KK hK => ?_)
                              rw [if_pos (by rfl)]
                              obtain ⟨hi_, hy0, hy1, hy2⟩ := HPIR.out
                              refine wp_append_own w' (.tmp 267) (.tmp 271) 84 (by rfl) w9.heap.size 89 iR pk0.val 12 32 Tryz.underlying84 hi_ hy0 hy1 hy2 (by rfl) (by decide) (v 4) kk (pksC ((L.map PkU.pk).take kk)) (by rfl) hs0 adX (nn - k1_) (c - k1_) (pksC ((L.map PkU.pk).drop k1_)) (by rfl) HT2.out (HTD.out w' hR) (fun u hu => pks_one _ u hu) (by unfold maxLen; omega) (by omega) hR.size ?_
                              intro v' w'' hown' hgrow' _
                              exact hK.out _ _ ((Below.refl w9.heap.size w').grown hgrow' hR.size (fun k hk => (owns_block hs0 k hk).1)) hown'
                            | 3, _ =>
                              intro v w' hR hd hs
                              have e9 : v 9 = v 9 := rfl
                              change SpecOp _ _ _ _ 10 (Act.put (canon _ v _ []) (some 272) (v 9)) w' _
                              rw [e9]
                              simp only [canon_nil, Act.put, List.setIfInBounds_toArray, List.set_cons_zero, List.set_cons_succ]
                              refine spec_ofB rfl (fun KK hK => ?_)
                              go_simp
                              exact hK.out _ _ (Below.refl _ _) hs
                            | k + 4, h => exact absurd h (Nat.not_lt.2 (Nat.le_add_left 4 k))
                        case hend =>
                          intro v w' hR hall hs
                          simp only [putL, Act.put, List.setIfInBounds_toArray, List.set_cons_zero, List.set_cons_succ]
                          have e1 : v 1 = .slice (some ad0) nn c := hall 1 (by decide) (by decide)
                          have e2 : v 2 = .int .i64 (kk) := hall 2 (by decide) (by decide)
                          have e3 : v 3 = .slice (some ad0) kk c := hall 3 (by decide) (by decide)
                          have e5 : v 5 = .slice (some ad0) nn c := hall 5 (by decide) (by decide)
                          have e6 : v 6 = .int .i64 (kk) := hall 6 (by decide) (by decide)
                          have e7 : v 7 = .int .i64 (k1_) := hall 7 (by decide) (by decide)
                          have e8 : v 8 = .slice (some adX) (nn - k1_) (c - k1_) := hall 8 (by decide) (by decide)
                          rw [e1, e2, e3, e5, e6, e7, e8]
                          clear hall e1 e2 e3 e5 e6 e7 e8
                          have hown : World.ownsRow w' w9.heap.size 89 12 (v 10) (kk + (nn - k1_)) (pksC ((L.map PkU.pk).take kk) ++ pksC ((L.map PkU.pk).drop k1_)) := hs
                          obtain ⟨A13, k13, hv13, _, _, hr13⟩ := own_slice hown
                          rw [hv13]
                          rw [show kk + (nn - k1_) = nn - 1 by omega]
                          rw [← pksC_app, ← hk1_] at hr13
                          have HR13 := Lib.hid hr13; clear hr13 hs hown hv13
                          obtain ⟨v10w, hwn⟩ : ∃ s, w' = s := ⟨_, rfl⟩
                          rw [hwn] at hR HR13 ⊢
                          clear hwn b1 b2 b6 b7 b9 b10 b11 b12
                          replace HXN := Lib.hid (HXN.out.below hR)
                          replace HXC := Lib.hid (HXC.out.below hR)
                          replace HRC := Lib.hid (HRC.out.below hR)
                          replace HR27 := Lib.hid (HR27.out.below hR)
                          replace HR11 := Lib.hid (HR11.out.below hR)
                          replace HR12 := Lib.hid (HR12.out.below hR)
                          replace HB := Lib.hid (HB.out.trans (hR.mono HB.out.size))
                          clear hR
                          go_wp2_with fail
                          refine (Hhheard.out _ _ _ _ _ (by rw [List.length_append, List.length_take, List.length_drop, List.length_map, Hhlen.out]; have := HKB.out; omega) (by omega) HR11.out).mono ?_
                          rintro e u13w ⟨A14, k14, rfl, hr14, hb⟩
                          replace HXN := Lib.hid (HXN.out.below hb)
                          replace HXC := Lib.hid (HXC.out.below hb)
                          replace HRC := Lib.hid (HRC.out.below hb)
                          replace HR27 := Lib.hid (HR27.out.below hb)
                          replace HR11 := Lib.hid (HR11.out.below hb)
                          replace HR12 := Lib.hid (HR12.out.below hb)
                          replace HR13 := Lib.hid (HR13.out.below hb)
                          replace HB := Lib.hid (HB.out.trans (hb.mono HB.out.size))
                          clear hb
                          have HR14 := Lib.hid hr14; clear hr14
                          go_wp2_with fail
                          refine (samePk_same _ _ _ _ (nn - 1) ((L.map PkU.pk).take kk ++ (L.map PkU.pk).drop (kk + 1)) _ (by rw [List.length_append, List.length_take, List.length_drop, List.length_map, Hhlen.out]; have := HKB.out; omega) (by unfold maxLen; omega) HR14.out HR13.out).mono ?_
                          rintro e u14w ⟨rfl, hb⟩
                          replace HXN := Lib.hid (HXN.out.below hb)
                          replace HXC := Lib.hid (HXC.out.below hb)
                          replace HRC := Lib.hid (HRC.out.below hb)
                          replace HR27 := Lib.hid (HR27.out.below hb)
                          replace HR11 := Lib.hid (HR11.out.below hb)
                          replace HR12 := Lib.hid (HR12.out.below hb)
                          replace HR13 := Lib.hid (HR13.out.below hb)
                          replace HR14 := Lib.hid (HR14.out.below hb)
                          replace HB := Lib.hid (HB.out.trans (hb.mono HB.out.size))
                          clear hb
                          go_wp2_with fail
                          refine (Hhspan.out (ff : Int) (E2 : Int) _ _ _ _ _ (HR12.out.below ((Below.refl _ _).alloc (Nat.le_refl _) (.cells #[.int .i64 (ff : Int), .int .i64 (E2 : Int)] 47))) (rd_of_blk (Blk.new _ _ _) rfl)).mono ?_
                          rintro e u15w ⟨rfl, hb⟩
                          have hb2 : Below u14w.heap.size u14w u15w := ((Below.refl _ _).alloc (Nat.le_refl _) (.cells #[.int .i64 (ff : Int), .int .i64 (E2 : Int)] 47)).trans (hb.mono (by simp))
                          clear hb
                          replace HXN := Lib.hid (HXN.out.below hb2)
                          replace HXC := Lib.hid (HXC.out.below hb2)
                          replace HRC := Lib.hid (HRC.out.below hb2)
                          replace HR27 := Lib.hid (HR27.out.below hb2)
                          replace HR11 := Lib.hid (HR11.out.below hb2)
                          replace HR12 := Lib.hid (HR12.out.below hb2)
                          replace HR13 := Lib.hid (HR13.out.below hb2)
                          replace HR14 := Lib.hid (HR14.out.below hb2)
                          replace HB := Lib.hid (HB.out.trans (hb2.mono HB.out.size))
                          clear hb2
                          go_wp2_with fail
                          refine (Hhaw.out _ HB.out).mono ?_
                          rintro e ww ⟨rfl, hb⟩
                          have HB2 := Lib.hid (HB.out.trans (hb.mono HB.out.size))
                          go_wp2
                          go_ret
                          exact ⟨rfl, HB2.out⟩
end Go.Proofs.YtkjkjhheckfhbaaGreatDoor
