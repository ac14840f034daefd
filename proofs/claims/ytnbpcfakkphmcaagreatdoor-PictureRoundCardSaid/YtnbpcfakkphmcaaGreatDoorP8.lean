/- Parts of a proof: PictureRound: the walk of the law. PictureRound: the walk of the law, by cases. PictureRound: the walk of the law, by cases. PictureRound: the walk of the law, by cases. -/
import Derived.Test.YtnbpcfakkphmcaaGreatDoorP7
import Derived.Test.YtnbpcfakkphmcaaGreatDoorRe
namespace Go.Proofs.YtnbpcfakkphmcaaGreatDoor
open Go.RowKit
set_option linter.unusedVariables false
set_option maxRecDepth 100000
theorem add_start (g d : Nat) : (⟨g, 0, none⟩ : Addr).add d = ⟨g, d, none⟩ := by
  unfold Addr.add
  by_cases h : d = 0 <;> simp [h]
theorem rd_from {w : World} {g q : Nat} {l k : List Nat} (h : Rd w (some ⟨g, 0, none⟩) (fl l)) (hk : ∀ j, j < k.length → q + j < l.length ∧ l.getD (q + j) 0 = k.getD j 0) : Rd w (some ⟨g, q, none⟩) (fl k) := fun h0 => by
  have h0' : 0 < k.length := by simpa [fl] using h0
  obtain ⟨ad, e, hb, hc⟩ := h (by have := (hk 0 h0').1; simp [fl]; omega)
  cases e
  refine ⟨_, rfl, hb, fun j u hj => ?_⟩
  have hjl : j < k.length := by have := (List.getElem?_eq_some_iff.1 hj).1; simpa [fl] using this
  rw [fl_get hjl] at hj
  obtain ⟨h1, h2⟩ := hk j hjl
  have h3 := hc (q + j) _ (fl_get h1)
  rw [h2] at h3
  rw [← hj, ← h3]
  unfold Addr.add
  by_cases a1 : j = 0 <;> by_cases a2 : q = 0 <;> simp [a1, a2]

theorem samesam (W : Nat) (L : List Nat) (hn : L.length = W) (hs : sameF L L = true) (A B : Option Addr) (c d : Nat) (w : World) (hr : Rd w A (fl L)) (hr2 : Rd w B (fl L)) (hW : W ≤ maxLen := by unfold maxLen; omega) : Calls Tryz.prog 89 #[.slice A W c, .slice B W d] w fun e w' => e = .returned (.bool true) ∧ Below w.heap.size w w' := by
  subst hn
  have h := sameSamples_any A B c d L L w hW hW hr hr2
  rw [hs] at h
  exact h

set_option maxHeartbeats 1000000 in
theorem round_long (p : Pic) (A : Option Addr) (c : Nat) (w : World) (hlaid : Laid w) (hr : Rd w A (fl p.l)) (hsh : (shortB p && (p.err == 0)) = false) : Calls Tryz.prog 12 #[p.val A c] w (TrueEnd w) := by
  have HS : RowKit.Hid (∀ w, Rd w A (fl p.l) → Calls Tryz.prog 86 #[p.val A c] w (BoolEnd false w)) := Lib.hid (fun w hr => by have h := valid_any p A c w hr; rw [hsh] at h; exact h)
  unfold Pic.val at HS ⊢
  have HR := Lib.hid hr; clear hr
  have HL := Lib.hid hlaid; clear hlaid
  have HB := Lib.hid (Below.refl w.heap.size w)
  go_enter Tryz.func12, Tryz.ntmps12
  go_upto_region 1 with fail
  have hn := Blk.new w 43 #[.string p.name, .int .i64 p.w, .int .i64 p.h, .slice A p.l.length c]
  have hb : Below w.heap.size w (w.alloc (.cells #[.string p.name, .int .i64 p.w, .int .i64 p.h, .slice A p.l.length c] 43)) := (Below.refl _ _).alloc (Nat.le_refl _) _
  have hge := HB.out.size
  obtain ⟨bP, hl⟩ : ∃ b, w.heap.size = b := ⟨_, rfl⟩
  generalize w.alloc (.cells #[.string p.name, .int .i64 p.w, .int .i64 p.h, .slice A p.l.length c] 43) = s0 at hn hb ⊢
  replace HR := Lib.hid (HR.out.below hb); replace HB := Lib.hid (HB.out.trans (hb.mono HB.out.size))
  clear hb
  rw [hl] at hn hge
  try rw [hl]
  have HXP := Lib.hid hn; have HGP := Lib.hid hge; clear hn hl hge
  obtain ⟨cHXP_0, cHXP_1, cHXP_2, cHXP_3⟩ := box4 HXP.out
  go_wp2_with fail
  refine (HS.out _ HR.out).mono ?_
  rintro e s1 ⟨rfl, hb⟩
  replace HR := Lib.hid (HR.out.below hb); replace HXP := Lib.hid (HXP.out.below hb); replace HB := Lib.hid (HB.out.trans (hb.mono HB.out.size))
  clear hb
  clear cHXP_0 cHXP_1 cHXP_2 cHXP_3
  go_wp2_with fail
  refine (awake_laid _ (HL.out.below HB.out)).mono ?_
  rintro e uz ⟨rfl, hb⟩
  replace HR := Lib.hid (HR.out.below hb); replace HXP := Lib.hid (HXP.out.below hb); replace HB := Lib.hid (HB.out.trans (hb.mono HB.out.size))
  clear hb
  go_wp2
  go_ret
  exact trueEnd_mk rfl HB.out
end Go.Proofs.YtnbpcfakkphmcaaGreatDoor
namespace Go.Proofs.YtnbpcfakkphmcaaGreatDoor
open Go.RowKit
set_option linter.unusedVariables false
set_option maxRecDepth 100000

set_option maxHeartbeats 8000000 in
theorem round_one (nm : ByteArray) (W H : Nat) (l : List Nat) (hp : (Pic.mk nm W H l).Ok) (hh : H = 1) (A : Option Addr) (c : Nat) (w : World) (hlaid : Laid w) (hsh : shortB (Pic.mk nm W H l) = true) (hcap : l.length ≤ c) (hr : Rd w A (fl l)) : Calls Tryz.prog 12 #[(Pic.mk nm W H l).val A c] w (TrueEnd w) := by
  obtain ⟨hW, hH, hlen, _, hmax⟩ := ok_sizes hp
  have hl4 : l.length ≤ 4096 := hp.big
  have hpos : 0 < (fl l).length := by have := prod_pos hW.1 hH.1; simp [fl]; omega
  obtain ⟨ad, rfl, _, _⟩ := hr.some_ hpos
  have hva := valid_any (Pic.mk nm W H l) (some ad) c w
  obtain ⟨n, hn⟩ : ∃ n, l.length = n := ⟨_, rfl⟩
  have HS : RowKit.Hid (∀ w, Rd w (some ad) (fl l) → Calls Tryz.prog 86 #[.agg #[.string nm, .int .i64 (W : Int), .int .i64 (H : Int), .slice (some ad) n c]] w (BoolEnd true w)) := Lib.hid (fun w hr => by have h := valid_any (Pic.mk nm W H l) (some ad) c w hr; rw [hsh, ok_err hp] at h; rw [← hn]; exact h)
  have hnW : n = W * H := by rw [← hn]; exact hlen
  have hnH : n = H * W := by rw [hnW, Nat.mul_comm]
  have HV := Lib.hid hp; have HN := Lib.hid hn; have HN0 : RowKit.Hid (n ≤ maxLen) := Lib.hid (by rw [← hn]; exact hmax)
  have HSAME : RowKit.Hid (sameF l l = true) := Lib.hid (sameF_self hp.ok)
  obtain ⟨L1, e1⟩ : ∃ L, pickL l (flipN W) n = L := ⟨_, rfl⟩
  obtain ⟨L2, e2⟩ : ∃ L, pickL l (transN W H) n = L := ⟨_, rfl⟩
  obtain ⟨L3, e3⟩ : ∃ L, pickL L1 (transN W H) n = L := ⟨_, rfl⟩
  obtain ⟨L4, e4⟩ : ∃ L, pickL L3 (flipN H) n = L := ⟨_, rfl⟩
  obtain ⟨L5, e5⟩ : ∃ L, pickL L4 (transN H W) n = L := ⟨_, rfl⟩
  have hp1 : (Pic.mk nm W H L1).Ok := by rw [← e1]; exact ok_pick hp hW hH hnW _
  have hp2 : (Pic.mk nm H W L2).Ok := by rw [← e2]; exact ok_pick hp hH hW hnH _
  have hp3 : (Pic.mk nm H W L3).Ok := by rw [← e3]; exact ok_pick hp1 hH hW hnH _
  have hp4 : (Pic.mk nm H W L4).Ok := by rw [← e4]; exact ok_pick hp3 hH hW hnH _
  have hp5 : (Pic.mk nm W H L5).Ok := by rw [← e5]; exact ok_pick hp4 hW hH hnW _
  have n1 : L1.length = n := by rw [← e1, pickL_len]
  have n2 : L2.length = n := by rw [← e2, pickL_len]
  have n3 : L3.length = n := by rw [← e3, pickL_len]
  have n4 : L4.length = n := by rw [← e4, pickL_len]
  have n5 : L5.length = n := by rw [← e5, pickL_len]
  have f1 : pickL L1 (flipN W) n = l := by have h := ff_list l W H hlen; rw [hn, e1] at h; exact h
  have f2 : pickL L2 (transN H W) n = l := by have h := tt_list l W H hlen; rw [hn, e2] at h; exact h
  have f5 : ∀ i, i < n → L5.getD (n - 1 - i) 0 = l.getD i 0 := fun i hi => by
    have h := half_list l W H hlen
    rw [hn, e1, e3, e4, e5] at h
    rw [h, pickL_get _ _ _ _ (by omega)]; congr 1; omega
  obtain ⟨E, hE⟩ : ∃ E, sumF (fun b => lvl b * lvl b) l = E := ⟨_, rfl⟩
  obtain ⟨S, hS⟩ : ∃ S, sumF lvl l = S := ⟨_, rfl⟩
  have q3 : ∀ f : Nat → Int, sumF f L3 = sumF f l := fun f => by
    have a := sumF_flip f l W H hlen; rw [hn, e1] at a
    have b := sumF_trans f L1 W H (by rw [n1]; exact hnW); rw [n1, e3] at b
    rw [b, a]
  have q5 : ∀ f : Nat → Int, sumF f L5 = sumF f l := fun f => by
    have a := sumF_flip f L3 H W (by rw [n3]; exact hnH); rw [n3, e4] at a
    have b := sumF_trans f L4 H W (by rw [n4]; exact hnH); rw [n4, e5] at b
    rw [b, a, q3]
  have HE0 := Lib.hid hE; have HE5 := Lib.hid ((q5 _).trans hE); have HS0 := Lib.hid hS; have HS3 := Lib.hid ((q3 _).trans hS)
  obtain ⟨x1, hx1⟩ : ∃ x : Int, S / (Int.gcd S (16 * n) : Nat) = x := ⟨_, rfl⟩
  obtain ⟨x2, hx2⟩ : ∃ x : Int, 16 * (n : Int) / (Int.gcd S (16 * n) : Nat) = x := ⟨_, rfl⟩
  have HM0 := Lib.hid (fun A c w hr => mean_v hp hn A c w S hS hr)
  have HM3 := Lib.hid (fun A c w hr => mean_v hp3 n3 A c w S ((q3 _).trans hS) hr)
  rw [hx1, hx2] at HM0 HM3
  have heq := fun w => eq_ratio_any x1 x2 w
  have HV1 := Lib.hid hp1; have HV2 := Lib.hid hp2; have HV3 := Lib.hid hp3; have HV4 := Lib.hid hp4; have HV5 := Lib.hid hp5
  have HN1 := Lib.hid n1; have HN2 := Lib.hid n2; have HN3 := Lib.hid n3; have HN4 := Lib.hid n4; have HN5 := Lib.hid n5
  have HP1 := Lib.hid e1; have HP2 := Lib.hid e2; have HP3 := Lib.hid e3; have HP4 := Lib.hid e4; have HP5 := Lib.hid e5
  have HQ1 := Lib.hid f1; have HQ2 := Lib.hid f2; have HQ5 := Lib.hid f5
  have HCH : RowKit.Hid (∀ i, (FloatKind.f32.format.order (l.getD i 0) (l.getD i 0) != some .eq) = false) := Lib.hid (fun i => by have h := eqF_self (chk_getD hp.ok i); unfold eqF at h; simpa using h)
  have hfe : firstE [(Pic.mk nm W H l).err, errIf ((Pic.mk nm W H l).h == 1) 16] = 16 := by rw [ok_err hp]; simp [firstE, errIf, hh]
  have HF3 : RowKit.Hid (∀ g c' w, Rd w (some ⟨g, 0, none⟩) (fl l) → Calls Tryz.prog 48 #[.agg #[.string nm, .int .i64 (W : Int), .int .i64 (H : Int), .slice (some ⟨g, 0, none⟩) n c']] w fun e w' => e = .returned (.tuple #[.agg #[.string ⟨#[]⟩, .int .i64 0, .int .i64 0, .slice none 0 0, .string ⟨#[]⟩, .int .i64 0, .int .i64 0, .slice none 0 0], .int .i64 16]) ∧ Below w.heap.size w w') := Lib.hid (fun g c' w h2 => by have h := fields_err (Pic.mk nm W H l) (some ⟨g, 0, none⟩) c' w (ok_sizes hp).2.2.2.1 hmax h2 16 hfe (by decide); rw [← hn]; exact h)
  clear hfe
  rw [show (Pic.mk nm W H l).val (some ad) c = .agg #[.string nm, .int .i64 (W : Int), .int .i64 (H : Int), .slice (some ad) n c] by unfold Pic.val; rw [hn]]
  have hn4 : n ≤ 4096 := by rw [← hn]; exact hl4
  have hn1 : 1 ≤ n := by rw [hnW]; exact prod_pos hW.1 hH.1
  clear hlen hmax hl4 hpos hva hnW hnH hsh hcap hn hp hp1 hp2 hp3 hp4 hp5 n1 n2 n3 n4 n5 e1 e2 e3 e4 e5 f1 f2 f5 hE hS q3 q5 hx1 hx2
  have HR := Lib.hid hr; clear hr
  have HHH := Lib.hid hh; clear hh
  have HL := Lib.hid hlaid; clear hlaid
  have HB := Lib.hid (Below.refl w.heap.size w)
  go_enter Tryz.func12, Tryz.ntmps12
  go_upto_region 1 with fail
  have hn := Blk.new w 43 #[.string nm, .int .i64 (W : Int), .int .i64 (H : Int), .slice (some ad) n c]
  have hb : Below w.heap.size w (w.alloc (.cells #[.string nm, .int .i64 (W : Int), .int .i64 (H : Int), .slice (some ad) n c] 43)) := (Below.refl _ _).alloc (Nat.le_refl _) _
  have hge := HB.out.size
  obtain ⟨bP, hl⟩ : ∃ b, w.heap.size = b := ⟨_, rfl⟩
  generalize w.alloc (.cells #[.string nm, .int .i64 (W : Int), .int .i64 (H : Int), .slice (some ad) n c] 43) = s0 at hn hb ⊢
  replace HR := Lib.hid (HR.out.below hb); replace HB := Lib.hid (HB.out.trans (hb.mono HB.out.size))
  clear hb
  rw [hl] at hn hge
  try rw [hl]
  have HXP := Lib.hid hn; have HGP := Lib.hid hge; clear hn hl hge
  obtain ⟨cHXP_0, cHXP_1, cHXP_2, cHXP_3⟩ := box4 HXP.out
  go_wp2_with fail
  refine (HS.out _ HR.out).mono ?_
  rintro e s1 ⟨rfl, hb⟩
  replace HR := Lib.hid (HR.out.below hb); replace HXP := Lib.hid (HXP.out.below hb); replace HB := Lib.hid (HB.out.trans (hb.mono HB.out.size))
  clear hb
  clear cHXP_0 cHXP_1 cHXP_2 cHXP_3
  obtain ⟨cHXP_0, cHXP_1, cHXP_2, cHXP_3⟩ := box4 HXP.out
  go_wp2_with fail
  refine (own_v HV.out HN.out _ _ _ HR.out).mono ?_
  rintro e s2 ⟨g, c', rfl, hcc, hrd, hb⟩
  replace HR := Lib.hid (HR.out.below hb); replace HXP := Lib.hid (HXP.out.below hb); replace HB := Lib.hid (HB.out.trans (hb.mono HB.out.size))
  clear hb
  have HO := Lib.hid hrd; clear hrd
  clear cHXP_0 cHXP_1 cHXP_2 cHXP_3
  go_wp2_with fail
  refine (flip_v HV.out HN.out _ _ _ L1 HP1.out hcc HO.out).mono ?_
  rintro e s3 ⟨g1, rfl, hr1, hb⟩
  replace HR := Lib.hid (HR.out.below hb); replace HO := Lib.hid (HO.out.below hb); replace HXP := Lib.hid (HXP.out.below hb); replace HB := Lib.hid (HB.out.trans (hb.mono HB.out.size))
  clear hb
  have HL1 := Lib.hid hr1; clear hr1
  clear hcc
  clear HO
  go_upto_region 4 with fail
  have hn := Blk.new s3 50 #[.string nm, .int .i64 (W : Int), .int .i64 (H : Int), .slice (some ⟨g1, 0, none⟩) n n]
  have hb : Below s3.heap.size s3 (s3.alloc (.cells #[.string nm, .int .i64 (W : Int), .int .i64 (H : Int), .slice (some ⟨g1, 0, none⟩) n n] 50)) := (Below.refl _ _).alloc (Nat.le_refl _) _
  have hge := HB.out.size
  have hlt_HXP := HXP.out.lt
  obtain ⟨bF1, hl⟩ : ∃ b, s3.heap.size = b := ⟨_, rfl⟩
  generalize s3.alloc (.cells #[.string nm, .int .i64 (W : Int), .int .i64 (H : Int), .slice (some ⟨g1, 0, none⟩) n n] 50) = s4 at hn hb ⊢
  replace HR := Lib.hid (HR.out.below hb); replace HL1 := Lib.hid (HL1.out.below hb); replace HXP := Lib.hid (HXP.out.below hb); replace HB := Lib.hid (HB.out.trans (hb.mono HB.out.size))
  clear hb
  rw [hl] at hn hge hlt_HXP
  try rw [hl]
  have HXF1 := Lib.hid hn; have HGF1 := Lib.hid hge; clear hn hl hge
  have HNF1HXP : RowKit.Hid (¬ bP = bF1) := Lib.hid (by omega)
  clear hlt_HXP
  obtain ⟨cHXP_0, cHXP_1, cHXP_2, cHXP_3⟩ := box4 HXP.out
  go_wp2_with fail
  refine (own_v HV.out HN.out _ _ _ HR.out).mono ?_
  rintro e s5 ⟨g, c', rfl, hcc, hrd, hb⟩
  replace HR := Lib.hid (HR.out.below hb); replace HL1 := Lib.hid (HL1.out.below hb); replace HXP := Lib.hid (HXP.out.below hb); replace HXF1 := Lib.hid (HXF1.out.below hb)
  replace HB := Lib.hid (HB.out.trans (hb.mono HB.out.size))
  clear hb
  have HO := Lib.hid hrd; clear hrd
  clear cHXP_0 cHXP_1 cHXP_2 cHXP_3
  go_wp2_with fail
  refine (trans_v HV.out HN.out _ _ _ L2 HP2.out hcc HO.out).mono ?_
  rintro e s6 ⟨g2, rfl, hr1, hb⟩
  replace HR := Lib.hid (HR.out.below hb); replace HL1 := Lib.hid (HL1.out.below hb); replace HO := Lib.hid (HO.out.below hb); replace HXP := Lib.hid (HXP.out.below hb)
  replace HXF1 := Lib.hid (HXF1.out.below hb); replace HB := Lib.hid (HB.out.trans (hb.mono HB.out.size))
  clear hb
  have HL2 := Lib.hid hr1; clear hr1
  clear hcc
  clear HO
  go_upto_region 5 with fail
  have hn := Blk.new s6 50 #[.string nm, .int .i64 (H : Int), .int .i64 (W : Int), .slice (some ⟨g2, 0, none⟩) n n]
  have hb : Below s6.heap.size s6 (s6.alloc (.cells #[.string nm, .int .i64 (H : Int), .int .i64 (W : Int), .slice (some ⟨g2, 0, none⟩) n n] 50)) := (Below.refl _ _).alloc (Nat.le_refl _) _
  have hge := HB.out.size
  have hlt_HXP := HXP.out.lt
  have hlt_HXF1 := HXF1.out.lt
  obtain ⟨bF2, hl⟩ : ∃ b, s6.heap.size = b := ⟨_, rfl⟩
  generalize s6.alloc (.cells #[.string nm, .int .i64 (H : Int), .int .i64 (W : Int), .slice (some ⟨g2, 0, none⟩) n n] 50) = s7 at hn hb ⊢
  replace HR := Lib.hid (HR.out.below hb); replace HL1 := Lib.hid (HL1.out.below hb); replace HL2 := Lib.hid (HL2.out.below hb); replace HXP := Lib.hid (HXP.out.below hb)
  replace HXF1 := Lib.hid (HXF1.out.below hb); replace HB := Lib.hid (HB.out.trans (hb.mono HB.out.size))
  clear hb
  rw [hl] at hn hge hlt_HXP hlt_HXF1
  try rw [hl]
  have HXF2 := Lib.hid hn; have HGF2 := Lib.hid hge; clear hn hl hge
  have HNF2HXP : RowKit.Hid (¬ bP = bF2) := Lib.hid (by omega); have HNF2HXF1 : RowKit.Hid (¬ bF1 = bF2) := Lib.hid (by omega)
  clear hlt_HXP hlt_HXF1
  obtain ⟨cHXF1_0, cHXF1_1, cHXF1_2, cHXF1_3⟩ := box4 HXF1.out
  go_wp2_with fail
  refine (told_any _ _ _ _ _ _ _).mono ?_
  rintro e s8 ⟨rfl, hb⟩
  replace HR := Lib.hid (HR.out.below hb); replace HL1 := Lib.hid (HL1.out.below hb); replace HL2 := Lib.hid (HL2.out.below hb); replace HXP := Lib.hid (HXP.out.below hb)
  replace HXF1 := Lib.hid (HXF1.out.below hb); replace HXF2 := Lib.hid (HXF2.out.below hb); replace HB := Lib.hid (HB.out.trans (hb.mono HB.out.size))
  clear hb
  clear cHXF1_0 cHXF1_1 cHXF1_2 cHXF1_3
  go_wp2_with fail
  refine (own_v HV1.out HN1.out _ _ _ HL1.out).mono ?_
  rintro e s9 ⟨g, c', rfl, hcc, hrd, hb⟩
  replace HR := Lib.hid (HR.out.below hb); replace HL1 := Lib.hid (HL1.out.below hb); replace HL2 := Lib.hid (HL2.out.below hb); replace HXP := Lib.hid (HXP.out.below hb)
  replace HXF1 := Lib.hid (HXF1.out.below hb); replace HXF2 := Lib.hid (HXF2.out.below hb); replace HB := Lib.hid (HB.out.trans (hb.mono HB.out.size))
  clear hb
  have HO := Lib.hid hrd; clear hrd
  go_wp2_with fail
  refine (flip_v HV1.out HN1.out _ _ _ l HQ1.out hcc HO.out).mono ?_
  rintro e s10 ⟨g3, rfl, hr1, hb⟩
  replace HR := Lib.hid (HR.out.below hb); replace HL1 := Lib.hid (HL1.out.below hb); replace HL2 := Lib.hid (HL2.out.below hb); replace HO := Lib.hid (HO.out.below hb)
  replace HXP := Lib.hid (HXP.out.below hb); replace HXF1 := Lib.hid (HXF1.out.below hb); replace HXF2 := Lib.hid (HXF2.out.below hb); replace HB := Lib.hid (HB.out.trans (hb.mono HB.out.size))
  clear hb
  have HL3 := Lib.hid hr1; clear hr1
  clear hcc
  clear HO
  go_upto_region 8 with fail
  have hn := Blk.new s10 50 #[.string nm, .int .i64 (W : Int), .int .i64 (H : Int), .slice (some ⟨g3, 0, none⟩) n n]
  have hb : Below s10.heap.size s10 (s10.alloc (.cells #[.string nm, .int .i64 (W : Int), .int .i64 (H : Int), .slice (some ⟨g3, 0, none⟩) n n] 50)) := (Below.refl _ _).alloc (Nat.le_refl _) _
  have hge := HB.out.size
  have hlt_HXP := HXP.out.lt
  have hlt_HXF1 := HXF1.out.lt
  have hlt_HXF2 := HXF2.out.lt
  obtain ⟨bF3, hl⟩ : ∃ b, s10.heap.size = b := ⟨_, rfl⟩
  generalize s10.alloc (.cells #[.string nm, .int .i64 (W : Int), .int .i64 (H : Int), .slice (some ⟨g3, 0, none⟩) n n] 50) = s11 at hn hb ⊢
  replace HR := Lib.hid (HR.out.below hb); replace HL1 := Lib.hid (HL1.out.below hb); replace HL2 := Lib.hid (HL2.out.below hb); replace HL3 := Lib.hid (HL3.out.below hb)
  replace HXP := Lib.hid (HXP.out.below hb); replace HXF1 := Lib.hid (HXF1.out.below hb); replace HXF2 := Lib.hid (HXF2.out.below hb); replace HB := Lib.hid (HB.out.trans (hb.mono HB.out.size))
  clear hb
  rw [hl] at hn hge hlt_HXP hlt_HXF1 hlt_HXF2
  try rw [hl]
  have HXF3 := Lib.hid hn; have HGF3 := Lib.hid hge; clear hn hl hge
  have HNF3HXP : RowKit.Hid (¬ bP = bF3) := Lib.hid (by omega); have HNF3HXF1 : RowKit.Hid (¬ bF1 = bF3) := Lib.hid (by omega); have HNF3HXF2 : RowKit.Hid (¬ bF2 = bF3) := Lib.hid (by omega)
  clear hlt_HXP hlt_HXF1 hlt_HXF2
  obtain ⟨cHXF2_0, cHXF2_1, cHXF2_2, cHXF2_3⟩ := box4 HXF2.out
  go_wp2_with fail
  refine (told_any _ _ _ _ _ _ _).mono ?_
  rintro e s12 ⟨rfl, hb⟩
  replace HR := Lib.hid (HR.out.below hb); replace HL1 := Lib.hid (HL1.out.below hb); replace HL2 := Lib.hid (HL2.out.below hb); replace HL3 := Lib.hid (HL3.out.below hb)
  replace HXP := Lib.hid (HXP.out.below hb); replace HXF1 := Lib.hid (HXF1.out.below hb); replace HXF2 := Lib.hid (HXF2.out.below hb); replace HXF3 := Lib.hid (HXF3.out.below hb)
  replace HB := Lib.hid (HB.out.trans (hb.mono HB.out.size))
  clear hb
  clear cHXF2_0 cHXF2_1 cHXF2_2 cHXF2_3
  go_wp2_with fail
  refine (own_v HV2.out HN2.out _ _ _ HL2.out).mono ?_
  rintro e s13 ⟨g, c', rfl, hcc, hrd, hb⟩
  replace HR := Lib.hid (HR.out.below hb); replace HL1 := Lib.hid (HL1.out.below hb); replace HL2 := Lib.hid (HL2.out.below hb); replace HL3 := Lib.hid (HL3.out.below hb)
  replace HXP := Lib.hid (HXP.out.below hb); replace HXF1 := Lib.hid (HXF1.out.below hb); replace HXF2 := Lib.hid (HXF2.out.below hb); replace HXF3 := Lib.hid (HXF3.out.below hb)
  replace HB := Lib.hid (HB.out.trans (hb.mono HB.out.size))
  clear hb
  have HO := Lib.hid hrd; clear hrd
  go_wp2_with fail
  refine (trans_v HV2.out HN2.out _ _ _ l HQ2.out hcc HO.out).mono ?_
  rintro e s14 ⟨g4, rfl, hr1, hb⟩
  replace HR := Lib.hid (HR.out.below hb); replace HL1 := Lib.hid (HL1.out.below hb); replace HL2 := Lib.hid (HL2.out.below hb); replace HL3 := Lib.hid (HL3.out.below hb)
  replace HO := Lib.hid (HO.out.below hb); replace HXP := Lib.hid (HXP.out.below hb); replace HXF1 := Lib.hid (HXF1.out.below hb); replace HXF2 := Lib.hid (HXF2.out.below hb)
  replace HXF3 := Lib.hid (HXF3.out.below hb); replace HB := Lib.hid (HB.out.trans (hb.mono HB.out.size))
  clear hb
  have HL4 := Lib.hid hr1; clear hr1
  clear hcc
  clear HO
  go_upto_region 9 with fail
  have hn := Blk.new s14 50 #[.string nm, .int .i64 (W : Int), .int .i64 (H : Int), .slice (some ⟨g4, 0, none⟩) n n]
  have hb : Below s14.heap.size s14 (s14.alloc (.cells #[.string nm, .int .i64 (W : Int), .int .i64 (H : Int), .slice (some ⟨g4, 0, none⟩) n n] 50)) := (Below.refl _ _).alloc (Nat.le_refl _) _
  have hge := HB.out.size
  have hlt_HXP := HXP.out.lt
  have hlt_HXF1 := HXF1.out.lt
  have hlt_HXF2 := HXF2.out.lt
  have hlt_HXF3 := HXF3.out.lt
  obtain ⟨bF4, hl⟩ : ∃ b, s14.heap.size = b := ⟨_, rfl⟩
  generalize s14.alloc (.cells #[.string nm, .int .i64 (W : Int), .int .i64 (H : Int), .slice (some ⟨g4, 0, none⟩) n n] 50) = s15 at hn hb ⊢
  replace HR := Lib.hid (HR.out.below hb); replace HL1 := Lib.hid (HL1.out.below hb); replace HL2 := Lib.hid (HL2.out.below hb); replace HL3 := Lib.hid (HL3.out.below hb)
  replace HL4 := Lib.hid (HL4.out.below hb); replace HXP := Lib.hid (HXP.out.below hb); replace HXF1 := Lib.hid (HXF1.out.below hb); replace HXF2 := Lib.hid (HXF2.out.below hb)
  replace HXF3 := Lib.hid (HXF3.out.below hb); replace HB := Lib.hid (HB.out.trans (hb.mono HB.out.size))
  clear hb
  rw [hl] at hn hge hlt_HXP hlt_HXF1 hlt_HXF2 hlt_HXF3
  try rw [hl]
  have HXF4 := Lib.hid hn; have HGF4 := Lib.hid hge; clear hn hl hge
  have HNF4HXP : RowKit.Hid (¬ bP = bF4) := Lib.hid (by omega); have HNF4HXF1 : RowKit.Hid (¬ bF1 = bF4) := Lib.hid (by omega); have HNF4HXF2 : RowKit.Hid (¬ bF2 = bF4) := Lib.hid (by omega); have HNF4HXF3 : RowKit.Hid (¬ bF3 = bF4) := Lib.hid (by omega)
  clear hlt_HXP hlt_HXF1 hlt_HXF2 hlt_HXF3
  obtain ⟨cHXF1_0, cHXF1_1, cHXF1_2, cHXF1_3⟩ := box4 HXF1.out
  go_wp2_with fail
  refine (told_any _ _ _ _ _ _ _).mono ?_
  rintro e s16 ⟨rfl, hb⟩
  replace HR := Lib.hid (HR.out.below hb); replace HL1 := Lib.hid (HL1.out.below hb); replace HL2 := Lib.hid (HL2.out.below hb); replace HL3 := Lib.hid (HL3.out.below hb)
  replace HL4 := Lib.hid (HL4.out.below hb); replace HXP := Lib.hid (HXP.out.below hb); replace HXF1 := Lib.hid (HXF1.out.below hb); replace HXF2 := Lib.hid (HXF2.out.below hb)
  replace HXF3 := Lib.hid (HXF3.out.below hb); replace HXF4 := Lib.hid (HXF4.out.below hb); replace HB := Lib.hid (HB.out.trans (hb.mono HB.out.size))
  clear hb
  clear cHXF1_0 cHXF1_1 cHXF1_2 cHXF1_3
  go_wp2_with fail
  refine (own_v HV1.out HN1.out _ _ _ HL1.out).mono ?_
  rintro e s17 ⟨g, c', rfl, hcc, hrd, hb⟩
  replace HR := Lib.hid (HR.out.below hb); replace HL1 := Lib.hid (HL1.out.below hb); replace HL2 := Lib.hid (HL2.out.below hb); replace HL3 := Lib.hid (HL3.out.below hb)
  replace HL4 := Lib.hid (HL4.out.below hb); replace HXP := Lib.hid (HXP.out.below hb); replace HXF1 := Lib.hid (HXF1.out.below hb); replace HXF2 := Lib.hid (HXF2.out.below hb)
  replace HXF3 := Lib.hid (HXF3.out.below hb); replace HXF4 := Lib.hid (HXF4.out.below hb); replace HB := Lib.hid (HB.out.trans (hb.mono HB.out.size))
  clear hb
  have HO := Lib.hid hrd; clear hrd
  go_wp2_with fail
  refine (trans_v HV1.out HN1.out _ _ _ L3 HP3.out hcc HO.out).mono ?_
  rintro e s18 ⟨g5, rfl, hr1, hb⟩
  replace HR := Lib.hid (HR.out.below hb); replace HL1 := Lib.hid (HL1.out.below hb); replace HL2 := Lib.hid (HL2.out.below hb); replace HL3 := Lib.hid (HL3.out.below hb)
  replace HL4 := Lib.hid (HL4.out.below hb); replace HO := Lib.hid (HO.out.below hb); replace HXP := Lib.hid (HXP.out.below hb); replace HXF1 := Lib.hid (HXF1.out.below hb)
  replace HXF2 := Lib.hid (HXF2.out.below hb); replace HXF3 := Lib.hid (HXF3.out.below hb); replace HXF4 := Lib.hid (HXF4.out.below hb); replace HB := Lib.hid (HB.out.trans (hb.mono HB.out.size))
  clear hb
  have HL5 := Lib.hid hr1; clear hr1
  clear hcc
  clear HO
  go_upto_region 10 with fail
  have hn := Blk.new s18 50 #[.string nm, .int .i64 (H : Int), .int .i64 (W : Int), .slice (some ⟨g5, 0, none⟩) n n]
  have hb : Below s18.heap.size s18 (s18.alloc (.cells #[.string nm, .int .i64 (H : Int), .int .i64 (W : Int), .slice (some ⟨g5, 0, none⟩) n n] 50)) := (Below.refl _ _).alloc (Nat.le_refl _) _
  have hge := HB.out.size
  have hlt_HXP := HXP.out.lt
  have hlt_HXF1 := HXF1.out.lt
  have hlt_HXF2 := HXF2.out.lt
  have hlt_HXF3 := HXF3.out.lt
  have hlt_HXF4 := HXF4.out.lt
  obtain ⟨bF5, hl⟩ : ∃ b, s18.heap.size = b := ⟨_, rfl⟩
  generalize s18.alloc (.cells #[.string nm, .int .i64 (H : Int), .int .i64 (W : Int), .slice (some ⟨g5, 0, none⟩) n n] 50) = s19 at hn hb ⊢
  replace HR := Lib.hid (HR.out.below hb); replace HL1 := Lib.hid (HL1.out.below hb); replace HL2 := Lib.hid (HL2.out.below hb); replace HL3 := Lib.hid (HL3.out.below hb)
  replace HL4 := Lib.hid (HL4.out.below hb); replace HL5 := Lib.hid (HL5.out.below hb); replace HXP := Lib.hid (HXP.out.below hb); replace HXF1 := Lib.hid (HXF1.out.below hb)
  replace HXF2 := Lib.hid (HXF2.out.below hb); replace HXF3 := Lib.hid (HXF3.out.below hb); replace HXF4 := Lib.hid (HXF4.out.below hb); replace HB := Lib.hid (HB.out.trans (hb.mono HB.out.size))
  clear hb
  rw [hl] at hn hge hlt_HXP hlt_HXF1 hlt_HXF2 hlt_HXF3 hlt_HXF4
  try rw [hl]
  have HXF5 := Lib.hid hn; have HGF5 := Lib.hid hge; clear hn hl hge
  have HNF5HXP : RowKit.Hid (¬ bP = bF5) := Lib.hid (by omega); have HNF5HXF1 : RowKit.Hid (¬ bF1 = bF5) := Lib.hid (by omega); have HNF5HXF2 : RowKit.Hid (¬ bF2 = bF5) := Lib.hid (by omega); have HNF5HXF3 : RowKit.Hid (¬ bF3 = bF5) := Lib.hid (by omega); have HNF5HXF4 : RowKit.Hid (¬ bF4 = bF5) := Lib.hid (by omega)
  clear hlt_HXP hlt_HXF1 hlt_HXF2 hlt_HXF3 hlt_HXF4
  obtain ⟨cHXF3_0, cHXF3_1, cHXF3_2, cHXF3_3⟩ := box4 HXF3.out
  obtain ⟨cHXF4_0, cHXF4_1, cHXF4_2, cHXF4_3⟩ := box4 HXF4.out
  obtain ⟨cHXP_0, cHXP_1, cHXP_2, cHXP_3⟩ := box4 HXP.out
  have zP := HXP.out.lt; have z3 := HXF3.out.lt; have z4 := HXF4.out.lt
  go_region_held3 (SK s19)
    (first | exact sk_drew0 _ | exact sk_drew (by assumption) | assumption | exact sk_call (by assumption) (by assumption) | exact sk_alloc (by assumption) _)
    (first
      | (go_at_call 87; refine (told_any _ _ _ _ _ _ _).mono ?_; rintro e wn ⟨rfl, hbn⟩; have hch := sk_call (w0 := s19) (by assumption) hbn)
      | (go_at_call_of 88 (Value.slice (some ⟨g3, 0, none⟩) n n); refine (samePicture_true nm W H _ _ n _ _ l l _ HN.out HN.out HN0.out HSAME.out (HL3.out.below (And.left (by assumption : SK s19 _))) (HR.out.below (And.left (by assumption : SK s19 _)))).mono ?_; rintro e wn ⟨rfl, hbn⟩; have hch := sk_call (w0 := s19) (by assumption) hbn)
      | (go_at_call_of 88 (Value.slice (some ⟨g4, 0, none⟩) n n); refine (samePicture_true nm W H _ _ n _ _ l l _ HN.out HN.out HN0.out HSAME.out (HL4.out.below (And.left (by assumption : SK s19 _))) (HR.out.below (And.left (by assumption : SK s19 _)))).mono ?_; rintro e wn ⟨rfl, hbn⟩; have hch := sk_call (w0 := s19) (by assumption) hbn))
  have hfin := hch.1
  clear hch hbn zP z3 z4
  clear cHXF3_0 cHXF3_1 cHXF3_2 cHXF3_3 cHXF4_0 cHXF4_1 cHXF4_2 cHXF4_3 cHXP_0 cHXP_1 cHXP_2 cHXP_3
  replace HR := Lib.hid (HR.out.below hfin); replace HL1 := Lib.hid (HL1.out.below hfin); replace HL2 := Lib.hid (HL2.out.below hfin); replace HL3 := Lib.hid (HL3.out.below hfin)
  replace HL4 := Lib.hid (HL4.out.below hfin); replace HL5 := Lib.hid (HL5.out.below hfin); replace HXP := Lib.hid (HXP.out.below hfin); replace HXF1 := Lib.hid (HXF1.out.below hfin)
  replace HXF2 := Lib.hid (HXF2.out.below hfin); replace HXF3 := Lib.hid (HXF3.out.below hfin); replace HXF4 := Lib.hid (HXF4.out.below hfin); replace HXF5 := Lib.hid (HXF5.out.below hfin)
  replace HB := Lib.hid (HB.out.trans (hfin.mono HB.out.size))
  clear hfin
  clear HXF3 HXF4 HL3 HL4 HXF2 HL2
  obtain ⟨cHXF5_0, cHXF5_1, cHXF5_2, cHXF5_3⟩ := box4 HXF5.out
  go_wp2_with fail
  refine (told_any _ _ _ _ _ _ _).mono ?_
  rintro e s21 ⟨rfl, hb⟩
  replace HR := Lib.hid (HR.out.below hb); replace HL1 := Lib.hid (HL1.out.below hb); replace HL5 := Lib.hid (HL5.out.below hb); replace HXP := Lib.hid (HXP.out.below hb)
  replace HXF1 := Lib.hid (HXF1.out.below hb); replace HXF5 := Lib.hid (HXF5.out.below hb); replace HB := Lib.hid (HB.out.trans (hb.mono HB.out.size))
  clear hb
  clear cHXF5_0 cHXF5_1 cHXF5_2 cHXF5_3
  go_wp2_with fail
  refine (own_v HV3.out HN3.out _ _ _ HL5.out).mono ?_
  rintro e s22 ⟨g, c', rfl, hcc, hrd, hb⟩
  replace HR := Lib.hid (HR.out.below hb); replace HL1 := Lib.hid (HL1.out.below hb); replace HL5 := Lib.hid (HL5.out.below hb); replace HXP := Lib.hid (HXP.out.below hb)
  replace HXF1 := Lib.hid (HXF1.out.below hb); replace HXF5 := Lib.hid (HXF5.out.below hb); replace HB := Lib.hid (HB.out.trans (hb.mono HB.out.size))
  clear hb
  have HO := Lib.hid hrd; clear hrd
  go_wp2_with fail
  refine (flip_v HV3.out HN3.out _ _ _ L4 HP4.out hcc HO.out).mono ?_
  rintro e s23 ⟨g6, rfl, hr1, hb⟩
  replace HR := Lib.hid (HR.out.below hb); replace HL1 := Lib.hid (HL1.out.below hb); replace HL5 := Lib.hid (HL5.out.below hb); replace HO := Lib.hid (HO.out.below hb)
  replace HXP := Lib.hid (HXP.out.below hb); replace HXF1 := Lib.hid (HXF1.out.below hb); replace HXF5 := Lib.hid (HXF5.out.below hb); replace HB := Lib.hid (HB.out.trans (hb.mono HB.out.size))
  clear hb
  have HL6 := Lib.hid hr1; clear hr1
  clear hcc
  clear HO
  go_upto_region 13 with fail
  have hn := Blk.new s23 50 #[.string nm, .int .i64 (H : Int), .int .i64 (W : Int), .slice (some ⟨g6, 0, none⟩) n n]
  have hb : Below s23.heap.size s23 (s23.alloc (.cells #[.string nm, .int .i64 (H : Int), .int .i64 (W : Int), .slice (some ⟨g6, 0, none⟩) n n] 50)) := (Below.refl _ _).alloc (Nat.le_refl _) _
  have hge := HB.out.size
  have hlt_HXP := HXP.out.lt
  have hlt_HXF1 := HXF1.out.lt
  have hlt_HXF5 := HXF5.out.lt
  obtain ⟨bF6, hl⟩ : ∃ b, s23.heap.size = b := ⟨_, rfl⟩
  generalize s23.alloc (.cells #[.string nm, .int .i64 (H : Int), .int .i64 (W : Int), .slice (some ⟨g6, 0, none⟩) n n] 50) = s24 at hn hb ⊢
  replace HR := Lib.hid (HR.out.below hb); replace HL1 := Lib.hid (HL1.out.below hb); replace HL5 := Lib.hid (HL5.out.below hb); replace HL6 := Lib.hid (HL6.out.below hb)
  replace HXP := Lib.hid (HXP.out.below hb); replace HXF1 := Lib.hid (HXF1.out.below hb); replace HXF5 := Lib.hid (HXF5.out.below hb); replace HB := Lib.hid (HB.out.trans (hb.mono HB.out.size))
  clear hb
  rw [hl] at hn hge hlt_HXP hlt_HXF1 hlt_HXF5
  try rw [hl]
  have HXF6 := Lib.hid hn; have HGF6 := Lib.hid hge; clear hn hl hge
  have HNF6HXP : RowKit.Hid (¬ bP = bF6) := Lib.hid (by omega); have HNF6HXF1 : RowKit.Hid (¬ bF1 = bF6) := Lib.hid (by omega); have HNF6HXF5 : RowKit.Hid (¬ bF5 = bF6) := Lib.hid (by omega)
  clear hlt_HXP hlt_HXF1 hlt_HXF5
  obtain ⟨cHXF6_0, cHXF6_1, cHXF6_2, cHXF6_3⟩ := box4 HXF6.out
  go_wp2_with fail
  refine (told_any _ _ _ _ _ _ _).mono ?_
  rintro e s25 ⟨rfl, hb⟩
  replace HR := Lib.hid (HR.out.below hb); replace HL1 := Lib.hid (HL1.out.below hb); replace HL5 := Lib.hid (HL5.out.below hb); replace HL6 := Lib.hid (HL6.out.below hb)
  replace HXP := Lib.hid (HXP.out.below hb); replace HXF1 := Lib.hid (HXF1.out.below hb); replace HXF5 := Lib.hid (HXF5.out.below hb); replace HXF6 := Lib.hid (HXF6.out.below hb)
  replace HB := Lib.hid (HB.out.trans (hb.mono HB.out.size))
  clear hb
  clear cHXF6_0 cHXF6_1 cHXF6_2 cHXF6_3
  go_wp2_with fail
  refine (own_v HV4.out HN4.out _ _ _ HL6.out).mono ?_
  rintro e s26 ⟨g, c', rfl, hcc, hrd, hb⟩
  replace HR := Lib.hid (HR.out.below hb); replace HL1 := Lib.hid (HL1.out.below hb); replace HL5 := Lib.hid (HL5.out.below hb); replace HL6 := Lib.hid (HL6.out.below hb)
  replace HXP := Lib.hid (HXP.out.below hb); replace HXF1 := Lib.hid (HXF1.out.below hb); replace HXF5 := Lib.hid (HXF5.out.below hb); replace HXF6 := Lib.hid (HXF6.out.below hb)
  replace HB := Lib.hid (HB.out.trans (hb.mono HB.out.size))
  clear hb
  have HO := Lib.hid hrd; clear hrd
  go_wp2_with fail
  refine (trans_v HV4.out HN4.out _ _ _ L5 HP5.out hcc HO.out).mono ?_
  rintro e s27 ⟨g7, rfl, hr1, hb⟩
  replace HR := Lib.hid (HR.out.below hb); replace HL1 := Lib.hid (HL1.out.below hb); replace HL5 := Lib.hid (HL5.out.below hb); replace HL6 := Lib.hid (HL6.out.below hb)
  replace HO := Lib.hid (HO.out.below hb); replace HXP := Lib.hid (HXP.out.below hb); replace HXF1 := Lib.hid (HXF1.out.below hb); replace HXF5 := Lib.hid (HXF5.out.below hb)
  replace HXF6 := Lib.hid (HXF6.out.below hb); replace HB := Lib.hid (HB.out.trans (hb.mono HB.out.size))
  clear hb
  have HL7 := Lib.hid hr1; clear hr1
  clear hcc
  clear HO
  go_upto_region 14 with fail
  have hn := Blk.new s27 50 #[.string nm, .int .i64 (W : Int), .int .i64 (H : Int), .slice (some ⟨g7, 0, none⟩) n n]
  have hb : Below s27.heap.size s27 (s27.alloc (.cells #[.string nm, .int .i64 (W : Int), .int .i64 (H : Int), .slice (some ⟨g7, 0, none⟩) n n] 50)) := (Below.refl _ _).alloc (Nat.le_refl _) _
  have hge := HB.out.size
  have hlt_HXP := HXP.out.lt
  have hlt_HXF1 := HXF1.out.lt
  have hlt_HXF5 := HXF5.out.lt
  have hlt_HXF6 := HXF6.out.lt
  obtain ⟨bF7, hl⟩ : ∃ b, s27.heap.size = b := ⟨_, rfl⟩
  generalize s27.alloc (.cells #[.string nm, .int .i64 (W : Int), .int .i64 (H : Int), .slice (some ⟨g7, 0, none⟩) n n] 50) = s28 at hn hb ⊢
  replace HR := Lib.hid (HR.out.below hb); replace HL1 := Lib.hid (HL1.out.below hb); replace HL5 := Lib.hid (HL5.out.below hb); replace HL6 := Lib.hid (HL6.out.below hb)
  replace HL7 := Lib.hid (HL7.out.below hb); replace HXP := Lib.hid (HXP.out.below hb); replace HXF1 := Lib.hid (HXF1.out.below hb); replace HXF5 := Lib.hid (HXF5.out.below hb)
  replace HXF6 := Lib.hid (HXF6.out.below hb); replace HB := Lib.hid (HB.out.trans (hb.mono HB.out.size))
  clear hb
  rw [hl] at hn hge hlt_HXP hlt_HXF1 hlt_HXF5 hlt_HXF6
  try rw [hl]
  have HXF7 := Lib.hid hn; have HGF7 := Lib.hid hge; clear hn hl hge
  have HNF7HXP : RowKit.Hid (¬ bP = bF7) := Lib.hid (by omega); have HNF7HXF1 : RowKit.Hid (¬ bF1 = bF7) := Lib.hid (by omega); have HNF7HXF5 : RowKit.Hid (¬ bF5 = bF7) := Lib.hid (by omega); have HNF7HXF6 : RowKit.Hid (¬ bF6 = bF7) := Lib.hid (by omega)
  clear hlt_HXP hlt_HXF1 hlt_HXF5 hlt_HXF6
  clear HXF6 HL6
  obtain ⟨cHXP_0, cHXP_1, cHXP_2, cHXP_3⟩ := box4 HXP.out
  go_wp2_with fail
  refine (own_v HV.out HN.out _ _ _ HR.out).mono ?_
  rintro e s29 ⟨g, c', rfl, hcc, hrd, hb⟩
  replace HR := Lib.hid (HR.out.below hb); replace HL1 := Lib.hid (HL1.out.below hb); replace HL5 := Lib.hid (HL5.out.below hb); replace HL7 := Lib.hid (HL7.out.below hb)
  replace HXP := Lib.hid (HXP.out.below hb); replace HXF1 := Lib.hid (HXF1.out.below hb); replace HXF5 := Lib.hid (HXF5.out.below hb); replace HXF7 := Lib.hid (HXF7.out.below hb)
  replace HB := Lib.hid (HB.out.trans (hb.mono HB.out.size))
  clear hb
  have HO := Lib.hid hrd; clear hrd
  clear cHXP_0 cHXP_1 cHXP_2 cHXP_3
  go_wp2_with fail
  refine (energy_v HV.out HN.out _ _ _ E HE0.out HO.out).mono ?_
  rintro e s30 ⟨rfl, hb⟩
  replace HR := Lib.hid (HR.out.below hb); replace HL1 := Lib.hid (HL1.out.below hb); replace HL5 := Lib.hid (HL5.out.below hb); replace HL7 := Lib.hid (HL7.out.below hb)
  replace HO := Lib.hid (HO.out.below hb); replace HXP := Lib.hid (HXP.out.below hb); replace HXF1 := Lib.hid (HXF1.out.below hb); replace HXF5 := Lib.hid (HXF5.out.below hb)
  replace HXF7 := Lib.hid (HXF7.out.below hb); replace HB := Lib.hid (HB.out.trans (hb.mono HB.out.size))
  clear hb
  clear hcc
  clear HO
  obtain ⟨cHXF7_0, cHXF7_1, cHXF7_2, cHXF7_3⟩ := box4 HXF7.out
  go_wp2_with fail
  refine (told_any _ _ _ _ _ _ _).mono ?_
  rintro e s31 ⟨rfl, hb⟩
  replace HR := Lib.hid (HR.out.below hb); replace HL1 := Lib.hid (HL1.out.below hb); replace HL5 := Lib.hid (HL5.out.below hb); replace HL7 := Lib.hid (HL7.out.below hb)
  replace HXP := Lib.hid (HXP.out.below hb); replace HXF1 := Lib.hid (HXF1.out.below hb); replace HXF5 := Lib.hid (HXF5.out.below hb); replace HXF7 := Lib.hid (HXF7.out.below hb)
  replace HB := Lib.hid (HB.out.trans (hb.mono HB.out.size))
  clear hb
  clear cHXF7_0 cHXF7_1 cHXF7_2 cHXF7_3
  go_wp2_with fail
  refine (own_v HV5.out HN5.out _ _ _ HL7.out).mono ?_
  rintro e s32 ⟨g, c', rfl, hcc, hrd, hb⟩
  replace HR := Lib.hid (HR.out.below hb); replace HL1 := Lib.hid (HL1.out.below hb); replace HL5 := Lib.hid (HL5.out.below hb); replace HL7 := Lib.hid (HL7.out.below hb)
  replace HXP := Lib.hid (HXP.out.below hb); replace HXF1 := Lib.hid (HXF1.out.below hb); replace HXF5 := Lib.hid (HXF5.out.below hb); replace HXF7 := Lib.hid (HXF7.out.below hb)
  replace HB := Lib.hid (HB.out.trans (hb.mono HB.out.size))
  clear hb
  have HO := Lib.hid hrd; clear hrd
  go_wp2_with fail
  refine (energy_v HV5.out HN5.out _ _ _ E HE5.out HO.out).mono ?_
  rintro e s33 ⟨rfl, hb⟩
  replace HR := Lib.hid (HR.out.below hb); replace HL1 := Lib.hid (HL1.out.below hb); replace HL5 := Lib.hid (HL5.out.below hb); replace HL7 := Lib.hid (HL7.out.below hb)
  replace HO := Lib.hid (HO.out.below hb); replace HXP := Lib.hid (HXP.out.below hb); replace HXF1 := Lib.hid (HXF1.out.below hb); replace HXF5 := Lib.hid (HXF5.out.below hb)
  replace HXF7 := Lib.hid (HXF7.out.below hb); replace HB := Lib.hid (HB.out.trans (hb.mono HB.out.size))
  clear hb
  clear hcc
  clear HO
  obtain ⟨cHXP_0, cHXP_1, cHXP_2, cHXP_3⟩ := box4 HXP.out
  go_wp2_with fail
  refine (own_v HV.out HN.out _ _ _ HR.out).mono ?_
  rintro e s34 ⟨g, c', rfl, hcc, hrd, hb⟩
  replace HR := Lib.hid (HR.out.below hb); replace HL1 := Lib.hid (HL1.out.below hb); replace HL5 := Lib.hid (HL5.out.below hb); replace HL7 := Lib.hid (HL7.out.below hb)
  replace HXP := Lib.hid (HXP.out.below hb); replace HXF1 := Lib.hid (HXF1.out.below hb); replace HXF5 := Lib.hid (HXF5.out.below hb); replace HXF7 := Lib.hid (HXF7.out.below hb)
  replace HB := Lib.hid (HB.out.trans (hb.mono HB.out.size))
  clear hb
  have HO := Lib.hid hrd; clear hrd
  clear cHXP_0 cHXP_1 cHXP_2 cHXP_3
  go_wp2_with fail
  refine (HM0.out _ _ _ HO.out).mono ?_
  rintro e s35 ⟨rfl, hb⟩
  replace HR := Lib.hid (HR.out.below hb); replace HL1 := Lib.hid (HL1.out.below hb); replace HL5 := Lib.hid (HL5.out.below hb); replace HL7 := Lib.hid (HL7.out.below hb)
  replace HO := Lib.hid (HO.out.below hb); replace HXP := Lib.hid (HXP.out.below hb); replace HXF1 := Lib.hid (HXF1.out.below hb); replace HXF5 := Lib.hid (HXF5.out.below hb)
  replace HXF7 := Lib.hid (HXF7.out.below hb); replace HB := Lib.hid (HB.out.trans (hb.mono HB.out.size))
  clear hb
  clear hcc
  clear HO
  go_upto_region 17 with fail
  have hn := Blk.new s35 33 #[.int .i64 x1, .int .i64 x2]
  have hb : Below s35.heap.size s35 (s35.alloc (.cells #[.int .i64 x1, .int .i64 x2] 33)) := (Below.refl _ _).alloc (Nat.le_refl _) _
  have hge := HB.out.size
  have hlt_HXP := HXP.out.lt
  have hlt_HXF1 := HXF1.out.lt
  have hlt_HXF5 := HXF5.out.lt
  have hlt_HXF7 := HXF7.out.lt
  obtain ⟨bM1, hl⟩ : ∃ b, s35.heap.size = b := ⟨_, rfl⟩
  generalize s35.alloc (.cells #[.int .i64 x1, .int .i64 x2] 33) = s36 at hn hb ⊢
  replace HR := Lib.hid (HR.out.below hb); replace HL1 := Lib.hid (HL1.out.below hb); replace HL5 := Lib.hid (HL5.out.below hb); replace HL7 := Lib.hid (HL7.out.below hb)
  replace HXP := Lib.hid (HXP.out.below hb); replace HXF1 := Lib.hid (HXF1.out.below hb); replace HXF5 := Lib.hid (HXF5.out.below hb); replace HXF7 := Lib.hid (HXF7.out.below hb)
  replace HB := Lib.hid (HB.out.trans (hb.mono HB.out.size))
  clear hb
  rw [hl] at hn hge hlt_HXP hlt_HXF1 hlt_HXF5 hlt_HXF7
  try rw [hl]
  have HXM1 := Lib.hid hn; have HGM1 := Lib.hid hge; clear hn hl hge
  have HNM1HXP : RowKit.Hid (¬ bP = bM1) := Lib.hid (by omega); have HNM1HXF1 : RowKit.Hid (¬ bF1 = bM1) := Lib.hid (by omega); have HNM1HXF5 : RowKit.Hid (¬ bF5 = bM1) := Lib.hid (by omega); have HNM1HXF7 : RowKit.Hid (¬ bF7 = bM1) := Lib.hid (by omega)
  clear hlt_HXP hlt_HXF1 hlt_HXF5 hlt_HXF7
  obtain ⟨cHXF5_0, cHXF5_1, cHXF5_2, cHXF5_3⟩ := box4 HXF5.out
  go_wp2_with fail
  refine (told_any _ _ _ _ _ _ _).mono ?_
  rintro e s37 ⟨rfl, hb⟩
  replace HR := Lib.hid (HR.out.below hb); replace HL1 := Lib.hid (HL1.out.below hb); replace HL5 := Lib.hid (HL5.out.below hb); replace HL7 := Lib.hid (HL7.out.below hb)
  replace HXP := Lib.hid (HXP.out.below hb); replace HXF1 := Lib.hid (HXF1.out.below hb); replace HXF5 := Lib.hid (HXF5.out.below hb); replace HXF7 := Lib.hid (HXF7.out.below hb)
  replace HXM1 := Lib.hid (HXM1.out.below hb); replace HB := Lib.hid (HB.out.trans (hb.mono HB.out.size))
  clear hb
  clear cHXF5_0 cHXF5_1 cHXF5_2 cHXF5_3
  go_wp2_with fail
  refine (own_v HV3.out HN3.out _ _ _ HL5.out).mono ?_
  rintro e s38 ⟨g, c', rfl, hcc, hrd, hb⟩
  replace HR := Lib.hid (HR.out.below hb); replace HL1 := Lib.hid (HL1.out.below hb); replace HL5 := Lib.hid (HL5.out.below hb); replace HL7 := Lib.hid (HL7.out.below hb)
  replace HXP := Lib.hid (HXP.out.below hb); replace HXF1 := Lib.hid (HXF1.out.below hb); replace HXF5 := Lib.hid (HXF5.out.below hb); replace HXF7 := Lib.hid (HXF7.out.below hb)
  replace HXM1 := Lib.hid (HXM1.out.below hb); replace HB := Lib.hid (HB.out.trans (hb.mono HB.out.size))
  clear hb
  have HO := Lib.hid hrd; clear hrd
  go_wp2_with fail
  refine (HM3.out _ _ _ HO.out).mono ?_
  rintro e s39 ⟨rfl, hb⟩
  replace HR := Lib.hid (HR.out.below hb); replace HL1 := Lib.hid (HL1.out.below hb); replace HL5 := Lib.hid (HL5.out.below hb); replace HL7 := Lib.hid (HL7.out.below hb)
  replace HO := Lib.hid (HO.out.below hb); replace HXP := Lib.hid (HXP.out.below hb); replace HXF1 := Lib.hid (HXF1.out.below hb); replace HXF5 := Lib.hid (HXF5.out.below hb)
  replace HXF7 := Lib.hid (HXF7.out.below hb); replace HXM1 := Lib.hid (HXM1.out.below hb); replace HB := Lib.hid (HB.out.trans (hb.mono HB.out.size))
  clear hb
  clear hcc
  clear HO
  go_upto_region 18 with fail
  have hn := Blk.new s39 33 #[.int .i64 x1, .int .i64 x2]
  have hb : Below s39.heap.size s39 (s39.alloc (.cells #[.int .i64 x1, .int .i64 x2] 33)) := (Below.refl _ _).alloc (Nat.le_refl _) _
  have hge := HB.out.size
  have hlt_HXP := HXP.out.lt
  have hlt_HXF1 := HXF1.out.lt
  have hlt_HXF5 := HXF5.out.lt
  have hlt_HXF7 := HXF7.out.lt
  have hlt_HXM1 := HXM1.out.lt
  obtain ⟨bM2, hl⟩ : ∃ b, s39.heap.size = b := ⟨_, rfl⟩
  generalize s39.alloc (.cells #[.int .i64 x1, .int .i64 x2] 33) = s40 at hn hb ⊢
  replace HR := Lib.hid (HR.out.below hb); replace HL1 := Lib.hid (HL1.out.below hb); replace HL5 := Lib.hid (HL5.out.below hb); replace HL7 := Lib.hid (HL7.out.below hb)
  replace HXP := Lib.hid (HXP.out.below hb); replace HXF1 := Lib.hid (HXF1.out.below hb); replace HXF5 := Lib.hid (HXF5.out.below hb); replace HXF7 := Lib.hid (HXF7.out.below hb)
  replace HXM1 := Lib.hid (HXM1.out.below hb); replace HB := Lib.hid (HB.out.trans (hb.mono HB.out.size))
  clear hb
  rw [hl] at hn hge hlt_HXP hlt_HXF1 hlt_HXF5 hlt_HXF7 hlt_HXM1
  try rw [hl]
  have HXM2 := Lib.hid hn; have HGM2 := Lib.hid hge; clear hn hl hge
  have HNM2HXP : RowKit.Hid (¬ bP = bM2) := Lib.hid (by omega); have HNM2HXF1 : RowKit.Hid (¬ bF1 = bM2) := Lib.hid (by omega); have HNM2HXF5 : RowKit.Hid (¬ bF5 = bM2) := Lib.hid (by omega); have HNM2HXF7 : RowKit.Hid (¬ bF7 = bM2) := Lib.hid (by omega); have HNM2HXM1 : RowKit.Hid (¬ bM1 = bM2) := Lib.hid (by omega)
  clear hlt_HXP hlt_HXF1 hlt_HXF5 hlt_HXF7 hlt_HXM1
  obtain ⟨cHXF7_0, cHXF7_1, cHXF7_2, cHXF7_3⟩ := box4 HXF7.out
  obtain ⟨cHXP_0, cHXP_1, cHXP_2, cHXP_3⟩ := box4 HXP.out
  obtain ⟨cHXM1_0, cHXM1_1⟩ := box2 HXM1.out
  obtain ⟨cHXM2_0, cHXM2_1⟩ := box2 HXM2.out
  go_upto_region 20 with fail
  go_wp2
  clear cHXF7_0 cHXF7_1 cHXF7_2 cHXF7_3 cHXP_0 cHXP_1 cHXP_2 cHXP_3 cHXM1_0 cHXM1_1 cHXM2_0 cHXM2_1
  clear HXM1 HXM2
  go_loopw [187] (fun v wr => ∃ i : Nat, i ≤ n ∧ v = .int .i64 i ∧ Below s40.heap.size s40 wr) (fun v _ => n - (intOf v).toNat)
  case atStart => exact ⟨0, by omega, rfl, Below.refl _ _⟩
  case round =>
    obtain ⟨i, hi, rfl, hbel⟩ := hrel
    by_cases hlt : i < n
    · have hr0 := HR.out.below hbel
      have hr7 := HL7.out.below hbel
      obtain ⟨k0, k1, k2, k3⟩ := box4 (HXP.out.below hbel)
      obtain ⟨j0, j1, j2, j3⟩ := box4 (HXF7.out.below hbel)
      obtain ⟨a, ha⟩ : ∃ a, l.getD i 0 = a := ⟨_, rfl⟩
      obtain ⟨d, hd⟩ : ∃ d, n - 1 - i = d := ⟨_, rfl⟩
      obtain ⟨ad', eA, _, hc1⟩ := hr0.get (k := i) (u := .float .f32 a) (by rw [fl_get (by rw [HN.out]; exact hlt), ha])
      cases eA
      obtain ⟨ad7, e7, _, hc2⟩ := hr7.get (k := d) (u := .float .f32 a) (by rw [fl_get (by rw [HN5.out]; omega), ← hd, HQ5.out i hlt, ha])
      cases e7
      rw [add_start] at hc2
      have hab := HCH.out i
      rw [ha] at hab
      have hdd : (n : Int) - 1 - (i : Int) = (d : Int) := by omega
      have hd1 : d < n := by omega
      have HBE := Lib.hid hbel
      clear hr0 hr7 ha hd hbel
      go_wp2
      go_roundw
      case rel => exact ⟨i + 1, by omega, by go_num, HBE.out⟩
      case measure => simp [intOf]; omega
    · have hie : i = n := by omega
      have hnl : ¬ ((i : Int) < (n : Int)) := by omega
      replace HR := Lib.hid (HR.out.below hbel); replace HL1 := Lib.hid (HL1.out.below hbel); replace HL5 := Lib.hid (HL5.out.below hbel); replace HL7 := Lib.hid (HL7.out.below hbel)
      replace HXP := Lib.hid (HXP.out.below hbel); replace HXF1 := Lib.hid (HXF1.out.below hbel); replace HXF5 := Lib.hid (HXF5.out.below hbel); replace HXF7 := Lib.hid (HXF7.out.below hbel)
      replace HB := Lib.hid (HB.out.trans (hbel.mono HB.out.size))
      clear hbel
      clear HXF7 HL7 HXF5 HL5
      obtain ⟨cHXP_0, cHXP_1, cHXP_2, cHXP_3⟩ := box4 HXP.out
      go_wp2_with fail
      refine (own_v HV.out HN.out _ _ _ HR.out).mono ?_
      rintro e s41 ⟨g, c', rfl, hcc, hrd, hb⟩
      replace HR := Lib.hid (HR.out.below hb); replace HL1 := Lib.hid (HL1.out.below hb); replace HXP := Lib.hid (HXP.out.below hb); replace HXF1 := Lib.hid (HXF1.out.below hb)
      replace HB := Lib.hid (HB.out.trans (hb.mono HB.out.size))
      clear hb
      have HO := Lib.hid hrd; clear hrd
      clear cHXP_0 cHXP_1 cHXP_2 cHXP_3
      have hH2 : (H : Int) < 2 := by have := HHH.out; omega
      go_wp2_with fail
      refine (HF3.out g c' _ HO.out).mono ?_
      rintro e s42 ⟨rfl, hb⟩
      replace HR := Lib.hid (HR.out.below hb); replace HL1 := Lib.hid (HL1.out.below hb); replace HO := Lib.hid (HO.out.below hb); replace HXP := Lib.hid (HXP.out.below hb)
      replace HXF1 := Lib.hid (HXF1.out.below hb); replace HB := Lib.hid (HB.out.trans (hb.mono HB.out.size))
      clear hb
      clear hcc
      clear HO
      go_upto_region 27 with fail
      have hn := Blk.new s42 67 #[.string ⟨#[]⟩, .int .i64 0, .int .i64 0, .slice none 0 0, .string ⟨#[]⟩, .int .i64 0, .int .i64 0, .slice none 0 0]
      have hb : Below s42.heap.size s42 (s42.alloc (.cells #[.string ⟨#[]⟩, .int .i64 0, .int .i64 0, .slice none 0 0, .string ⟨#[]⟩, .int .i64 0, .int .i64 0, .slice none 0 0] 67)) := (Below.refl _ _).alloc (Nat.le_refl _) _
      have hge := HB.out.size
      have hlt_HXP := HXP.out.lt
      have hlt_HXF1 := HXF1.out.lt
      obtain ⟨bLF, hl⟩ : ∃ b, s42.heap.size = b := ⟨_, rfl⟩
      generalize s42.alloc (.cells #[.string ⟨#[]⟩, .int .i64 0, .int .i64 0, .slice none 0 0, .string ⟨#[]⟩, .int .i64 0, .int .i64 0, .slice none 0 0] 67) = s43 at hn hb ⊢
      replace HR := Lib.hid (HR.out.below hb); replace HL1 := Lib.hid (HL1.out.below hb); replace HXP := Lib.hid (HXP.out.below hb); replace HXF1 := Lib.hid (HXF1.out.below hb)
      replace HB := Lib.hid (HB.out.trans (hb.mono HB.out.size))
      clear hb
      rw [hl] at hn hge hlt_HXP hlt_HXF1
      try rw [hl]
      have HXLF := Lib.hid hn; have HGLF := Lib.hid hge; clear hn hl hge
      have HNLFHXP : RowKit.Hid (¬ bP = bLF) := Lib.hid (by omega); have HNLFHXF1 : RowKit.Hid (¬ bF1 = bLF) := Lib.hid (by omega)
      clear hlt_HXP hlt_HXF1
      obtain ⟨cHXP_0, cHXP_1, cHXP_2, cHXP_3⟩ := box4 HXP.out
      go_wp2_with fail
      refine (awake_laid _ (HL.out.below HB.out)).mono ?_
      rintro e uz ⟨rfl, hb⟩
      replace HR := Lib.hid (HR.out.below hb); replace HL1 := Lib.hid (HL1.out.below hb); replace HXP := Lib.hid (HXP.out.below hb); replace HXF1 := Lib.hid (HXF1.out.below hb)
      replace HXLF := Lib.hid (HXLF.out.below hb); replace HB := Lib.hid (HB.out.trans (hb.mono HB.out.size))
      clear hb
      go_wp2
      go_ret
      exact trueEnd_mk rfl HB.out
end Go.Proofs.YtnbpcfakkphmcaaGreatDoor
namespace Go.Proofs.YtnbpcfakkphmcaaGreatDoor
open Go.RowKit
set_option linter.unusedVariables false
set_option maxRecDepth 100000

set_option maxHeartbeats 8000000 in
theorem round_ok (nm : ByteArray) (W H : Nat) (l : List Nat) (hp : (Pic.mk nm W H l).Ok) (hh : 2 ≤ H) (A : Option Addr) (c : Nat) (w : World) (hlaid : Laid w) (hsh : shortB (Pic.mk nm W H l) = true) (hcap : l.length ≤ c) (hr : Rd w A (fl l)) : Calls Tryz.prog 12 #[(Pic.mk nm W H l).val A c] w (TrueEnd w) := by
  obtain ⟨hW, hH, hlen, _, hmax⟩ := ok_sizes hp
  have hl4 : l.length ≤ 4096 := hp.big
  have hpos : 0 < (fl l).length := by have := prod_pos hW.1 hH.1; simp [fl]; omega
  obtain ⟨ad, rfl, _, _⟩ := hr.some_ hpos
  have hva := valid_any (Pic.mk nm W H l) (some ad) c w
  obtain ⟨n, hn⟩ : ∃ n, l.length = n := ⟨_, rfl⟩
  have HS : RowKit.Hid (∀ w, Rd w (some ad) (fl l) → Calls Tryz.prog 86 #[.agg #[.string nm, .int .i64 (W : Int), .int .i64 (H : Int), .slice (some ad) n c]] w (BoolEnd true w)) := Lib.hid (fun w hr => by have h := valid_any (Pic.mk nm W H l) (some ad) c w hr; rw [hsh, ok_err hp] at h; rw [← hn]; exact h)
  have hnW : n = W * H := by rw [← hn]; exact hlen
  have hnH : n = H * W := by rw [hnW, Nat.mul_comm]
  have HV := Lib.hid hp; have HN := Lib.hid hn; have HN0 : RowKit.Hid (n ≤ maxLen) := Lib.hid (by rw [← hn]; exact hmax)
  have HSAME : RowKit.Hid (sameF l l = true) := Lib.hid (sameF_self hp.ok)
  obtain ⟨L1, e1⟩ : ∃ L, pickL l (flipN W) n = L := ⟨_, rfl⟩
  obtain ⟨L2, e2⟩ : ∃ L, pickL l (transN W H) n = L := ⟨_, rfl⟩
  obtain ⟨L3, e3⟩ : ∃ L, pickL L1 (transN W H) n = L := ⟨_, rfl⟩
  obtain ⟨L4, e4⟩ : ∃ L, pickL L3 (flipN H) n = L := ⟨_, rfl⟩
  obtain ⟨L5, e5⟩ : ∃ L, pickL L4 (transN H W) n = L := ⟨_, rfl⟩
  have hp1 : (Pic.mk nm W H L1).Ok := by rw [← e1]; exact ok_pick hp hW hH hnW _
  have hp2 : (Pic.mk nm H W L2).Ok := by rw [← e2]; exact ok_pick hp hH hW hnH _
  have hp3 : (Pic.mk nm H W L3).Ok := by rw [← e3]; exact ok_pick hp1 hH hW hnH _
  have hp4 : (Pic.mk nm H W L4).Ok := by rw [← e4]; exact ok_pick hp3 hH hW hnH _
  have hp5 : (Pic.mk nm W H L5).Ok := by rw [← e5]; exact ok_pick hp4 hW hH hnW _
  have n1 : L1.length = n := by rw [← e1, pickL_len]
  have n2 : L2.length = n := by rw [← e2, pickL_len]
  have n3 : L3.length = n := by rw [← e3, pickL_len]
  have n4 : L4.length = n := by rw [← e4, pickL_len]
  have n5 : L5.length = n := by rw [← e5, pickL_len]
  have f1 : pickL L1 (flipN W) n = l := by have h := ff_list l W H hlen; rw [hn, e1] at h; exact h
  have f2 : pickL L2 (transN H W) n = l := by have h := tt_list l W H hlen; rw [hn, e2] at h; exact h
  have f5 : ∀ i, i < n → L5.getD (n - 1 - i) 0 = l.getD i 0 := fun i hi => by
    have h := half_list l W H hlen
    rw [hn, e1, e3, e4, e5] at h
    rw [h, pickL_get _ _ _ _ (by omega)]; congr 1; omega
  obtain ⟨E, hE⟩ : ∃ E, sumF (fun b => lvl b * lvl b) l = E := ⟨_, rfl⟩
  obtain ⟨S, hS⟩ : ∃ S, sumF lvl l = S := ⟨_, rfl⟩
  have q3 : ∀ f : Nat → Int, sumF f L3 = sumF f l := fun f => by
    have a := sumF_flip f l W H hlen; rw [hn, e1] at a
    have b := sumF_trans f L1 W H (by rw [n1]; exact hnW); rw [n1, e3] at b
    rw [b, a]
  have q5 : ∀ f : Nat → Int, sumF f L5 = sumF f l := fun f => by
    have a := sumF_flip f L3 H W (by rw [n3]; exact hnH); rw [n3, e4] at a
    have b := sumF_trans f L4 H W (by rw [n4]; exact hnH); rw [n4, e5] at b
    rw [b, a, q3]
  have HE0 := Lib.hid hE; have HE5 := Lib.hid ((q5 _).trans hE); have HS0 := Lib.hid hS; have HS3 := Lib.hid ((q3 _).trans hS)
  obtain ⟨x1, hx1⟩ : ∃ x : Int, S / (Int.gcd S (16 * n) : Nat) = x := ⟨_, rfl⟩
  obtain ⟨x2, hx2⟩ : ∃ x : Int, 16 * (n : Int) / (Int.gcd S (16 * n) : Nat) = x := ⟨_, rfl⟩
  have HM0 := Lib.hid (fun A c w hr => mean_v hp hn A c w S hS hr)
  have HM3 := Lib.hid (fun A c w hr => mean_v hp3 n3 A c w S ((q3 _).trans hS) hr)
  rw [hx1, hx2] at HM0 HM3
  have heq := fun w => eq_ratio_any x1 x2 w
  have HV1 := Lib.hid hp1; have HV2 := Lib.hid hp2; have HV3 := Lib.hid hp3; have HV4 := Lib.hid hp4; have HV5 := Lib.hid hp5
  have HN1 := Lib.hid n1; have HN2 := Lib.hid n2; have HN3 := Lib.hid n3; have HN4 := Lib.hid n4; have HN5 := Lib.hid n5
  have HP1 := Lib.hid e1; have HP2 := Lib.hid e2; have HP3 := Lib.hid e3; have HP4 := Lib.hid e4; have HP5 := Lib.hid e5
  have HQ1 := Lib.hid f1; have HQ2 := Lib.hid f2; have HQ5 := Lib.hid f5
  have HCH : RowKit.Hid (∀ i, (FloatKind.f32.format.order (l.getD i 0) (l.getD i 0) != some .eq) = false) := Lib.hid (fun i => by have h := eqF_self (chk_getD hp.ok i); unfold eqF at h; simpa using h)
  obtain ⟨K1, hK1⟩ : ∃ K, (H + 1) / 2 = K := ⟨_, rfl⟩
  obtain ⟨K2, hK2⟩ : ∃ K, H / 2 = K := ⟨_, rfl⟩
  obtain ⟨m1, hm1⟩ : ∃ m, W * K1 = m := ⟨_, rfl⟩
  obtain ⟨m2, hm2⟩ : ∃ m, W * K2 = m := ⟨_, rfl⟩
  obtain ⟨L6, e6⟩ : ∃ L, pickL l (fieldN W 0) m1 = L := ⟨_, rfl⟩
  obtain ⟨L7, e7⟩ : ∃ L, pickL l (fieldN W 1) m2 = L := ⟨_, rfl⟩
  obtain ⟨L8, e8⟩ : ∃ L, pickL L1 (fieldN W 0) m1 = L := ⟨_, rfl⟩
  obtain ⟨L9, e9⟩ : ∃ L, pickL L1 (fieldN W 1) m2 = L := ⟨_, rfl⟩
  obtain ⟨LL, eL⟩ : ∃ L, pickL l (fun i => (H - 1) * W + i) W = L := ⟨_, rfl⟩
  have hp6 : (Pic.mk nm W K1 L6).Ok := by rw [← e6]; exact ok_pick hp hW (by omega) hm1.symm _
  have hp7 : (Pic.mk nm W K2 L7).Ok := by rw [← e7]; exact ok_pick hp hW (by omega) hm2.symm _
  have n6 : L6.length = m1 := by rw [← e6, pickL_len]
  have n7 : L7.length = m2 := by rw [← e7, pickL_len]
  have n9 : L9.length = m2 := by rw [← e9, pickL_len]
  have nL : LL.length = W := by rw [← eL, pickL_len]
  have f9 : pickL L7 (flipN W) m2 = L9 := by
    have h := field_flip l W H K2 1 hlen (by omega) (by omega)
    rw [hn, e1, hm2, e7, e9] at h; exact h.symm
  have fw : ∀ i, i < n → wovenN L6 L7 W i = l.getD i 0 := fun i hi => by
    have h := weave_fields l W H K1 K2 hK1.symm hK2.symm i (by rw [← hnW]; exact hi)
    rw [hm1, hm2, e6, e7] at h; exact h
  have hmW1 : W ≤ m1 := by rw [← hm1]; exact Nat.le_mul_of_pos_right _ (by omega)
  have hmW2 : W ≤ m2 := by rw [← hm2]; exact Nat.le_mul_of_pos_right _ (by omega)
  have hm4 : m1 ≤ 4096 ∧ m2 ≤ 4096 := by rw [← hm1, ← hm2]; exact ⟨Nat.le_trans (Nat.mul_le_mul hW.2 (show K1 ≤ 64 by omega)) (by decide), Nat.le_trans (Nat.mul_le_mul hW.2 (show K2 ≤ 64 by omega)) (by decide)⟩
  have hlast0 : (H - 1) % 2 = 0 → ∀ j, j < LL.length → m1 - W + j < L6.length ∧ L6.getD (m1 - W + j) 0 = LL.getD j 0 := fun hd j hj => by
    rw [nL] at hj
    refine ⟨by rw [n6]; omega, ?_⟩
    have h := last_row l W H K1 0 hh hd.symm (by rw [if_pos rfl]; exact hK1.symm) j hj
    rw [hm1, e6] at h
    rw [h, ← eL, pickL_get _ _ _ _ hj]
  have hlast1 : (H - 1) % 2 = 1 → ∀ j, j < LL.length → m2 - W + j < L7.length ∧ L7.getD (m2 - W + j) 0 = LL.getD j 0 := fun hd j hj => by
    rw [nL] at hj
    refine ⟨by rw [n7]; omega, ?_⟩
    have h := last_row l W H K2 1 hh hd.symm (by rw [if_neg (by decide)]; exact hK2.symm) j hj
    rw [hm2, e7] at h
    rw [h, ← eL, pickL_get _ _ _ _ hj]
  have HKK := Lib.hid (And.intro hK1 hK2); have HMM := Lib.hid (And.intro hm1 hm2)
  have HSL : RowKit.Hid (sameF LL LL = true) := Lib.hid (by rw [← eL]; exact pickL_same hp.ok _ _)
  have HS9 : RowKit.Hid (sameF L9 L9 = true) := Lib.hid (by rw [← e9]; exact pickL_same hp1.ok _ _)
  have HNM2 : RowKit.Hid (m2 ≤ maxLen) := Lib.hid (Nat.le_trans hm4.2 (by decide))
  have HHM : RowKit.Hid (K1 + K2 = H) := Lib.hid (by omega)
  have HOR : RowKit.Hid (K1 = K2 ∨ K1 = K2 + 1) := Lib.hid (by omega)
  have HH64 : RowKit.Hid (H ≤ 64) := Lib.hid hH.2
  have HWN : RowKit.Hid (W * H = n) := Lib.hid hnW.symm
  have HH2 := Lib.hid hh
  have HV6 := Lib.hid hp6; have HV7 := Lib.hid hp7; have HN6 := Lib.hid n6; have HN7 := Lib.hid n7; have HN9 := Lib.hid n9; have HNL := Lib.hid nL
  have HP6 := Lib.hid e6; have HP7 := Lib.hid e7; have HP8 := Lib.hid e8; have HP9 := Lib.hid e9; have HPL := Lib.hid eL; have HQ9 := Lib.hid f9; have HQW := Lib.hid fw
  have HT0 := Lib.hid hlast0; have HT1 := Lib.hid hlast1
  clear hp6 hp7 n6 n7 n9 nL f9 fw hlast0 hlast1 e6 e7 e8 e9 eL hK1 hK2 hm1 hm2
  rw [show (Pic.mk nm W H l).val (some ad) c = .agg #[.string nm, .int .i64 (W : Int), .int .i64 (H : Int), .slice (some ad) n c] by unfold Pic.val; rw [hn]]
  have hn4 : n ≤ 4096 := by rw [← hn]; exact hl4
  have hn1 : 1 ≤ n := by rw [hnW]; exact prod_pos hW.1 hH.1
  clear hlen hmax hl4 hpos hva hnW hnH hsh hcap hn hp hp1 hp2 hp3 hp4 hp5 n1 n2 n3 n4 n5 e1 e2 e3 e4 e5 f1 f2 f5 hE hS q3 q5 hx1 hx2
  have HR := Lib.hid hr; clear hr
  have HHH := Lib.hid hh; clear hh
  have HL := Lib.hid hlaid; clear hlaid
  have HB := Lib.hid (Below.refl w.heap.size w)
  go_enter Tryz.func12, Tryz.ntmps12
  go_upto_region 1 with fail
  have hn := Blk.new w 43 #[.string nm, .int .i64 (W : Int), .int .i64 (H : Int), .slice (some ad) n c]
  have hb : Below w.heap.size w (w.alloc (.cells #[.string nm, .int .i64 (W : Int), .int .i64 (H : Int), .slice (some ad) n c] 43)) := (Below.refl _ _).alloc (Nat.le_refl _) _
  have hge := HB.out.size
  obtain ⟨bP, hl⟩ : ∃ b, w.heap.size = b := ⟨_, rfl⟩
  generalize w.alloc (.cells #[.string nm, .int .i64 (W : Int), .int .i64 (H : Int), .slice (some ad) n c] 43) = s0 at hn hb ⊢
  replace HR := Lib.hid (HR.out.below hb); replace HB := Lib.hid (HB.out.trans (hb.mono HB.out.size))
  clear hb
  rw [hl] at hn hge
  try rw [hl]
  have HXP := Lib.hid hn; have HGP := Lib.hid hge; clear hn hl hge
  obtain ⟨cHXP_0, cHXP_1, cHXP_2, cHXP_3⟩ := box4 HXP.out
  go_wp2_with fail
  refine (HS.out _ HR.out).mono ?_
  rintro e s1 ⟨rfl, hb⟩
  replace HR := Lib.hid (HR.out.below hb); replace HXP := Lib.hid (HXP.out.below hb); replace HB := Lib.hid (HB.out.trans (hb.mono HB.out.size))
  clear hb
  clear cHXP_0 cHXP_1 cHXP_2 cHXP_3
  obtain ⟨cHXP_0, cHXP_1, cHXP_2, cHXP_3⟩ := box4 HXP.out
  go_wp2_with fail
  refine (own_v HV.out HN.out _ _ _ HR.out).mono ?_
  rintro e s2 ⟨g, c', rfl, hcc, hrd, hb⟩
  replace HR := Lib.hid (HR.out.below hb); replace HXP := Lib.hid (HXP.out.below hb); replace HB := Lib.hid (HB.out.trans (hb.mono HB.out.size))
  clear hb
  have HO := Lib.hid hrd; clear hrd
  clear cHXP_0 cHXP_1 cHXP_2 cHXP_3
  go_wp2_with fail
  refine (flip_v HV.out HN.out _ _ _ L1 HP1.out hcc HO.out).mono ?_
  rintro e s3 ⟨g1, rfl, hr1, hb⟩
  replace HR := Lib.hid (HR.out.below hb); replace HO := Lib.hid (HO.out.below hb); replace HXP := Lib.hid (HXP.out.below hb); replace HB := Lib.hid (HB.out.trans (hb.mono HB.out.size))
  clear hb
  have HL1 := Lib.hid hr1; clear hr1
  clear hcc
  clear HO
  go_upto_region 4 with fail
  have hn := Blk.new s3 50 #[.string nm, .int .i64 (W : Int), .int .i64 (H : Int), .slice (some ⟨g1, 0, none⟩) n n]
  have hb : Below s3.heap.size s3 (s3.alloc (.cells #[.string nm, .int .i64 (W : Int), .int .i64 (H : Int), .slice (some ⟨g1, 0, none⟩) n n] 50)) := (Below.refl _ _).alloc (Nat.le_refl _) _
  have hge := HB.out.size
  have hlt_HXP := HXP.out.lt
  obtain ⟨bF1, hl⟩ : ∃ b, s3.heap.size = b := ⟨_, rfl⟩
  generalize s3.alloc (.cells #[.string nm, .int .i64 (W : Int), .int .i64 (H : Int), .slice (some ⟨g1, 0, none⟩) n n] 50) = s4 at hn hb ⊢
  replace HR := Lib.hid (HR.out.below hb); replace HL1 := Lib.hid (HL1.out.below hb); replace HXP := Lib.hid (HXP.out.below hb); replace HB := Lib.hid (HB.out.trans (hb.mono HB.out.size))
  clear hb
  rw [hl] at hn hge hlt_HXP
  try rw [hl]
  have HXF1 := Lib.hid hn; have HGF1 := Lib.hid hge; clear hn hl hge
  have HNF1HXP : RowKit.Hid (¬ bP = bF1) := Lib.hid (by omega)
  clear hlt_HXP
  obtain ⟨cHXP_0, cHXP_1, cHXP_2, cHXP_3⟩ := box4 HXP.out
  go_wp2_with fail
  refine (own_v HV.out HN.out _ _ _ HR.out).mono ?_
  rintro e s5 ⟨g, c', rfl, hcc, hrd, hb⟩
  replace HR := Lib.hid (HR.out.below hb); replace HL1 := Lib.hid (HL1.out.below hb); replace HXP := Lib.hid (HXP.out.below hb); replace HXF1 := Lib.hid (HXF1.out.below hb)
  replace HB := Lib.hid (HB.out.trans (hb.mono HB.out.size))
  clear hb
  have HO := Lib.hid hrd; clear hrd
  clear cHXP_0 cHXP_1 cHXP_2 cHXP_3
  go_wp2_with fail
  refine (trans_v HV.out HN.out _ _ _ L2 HP2.out hcc HO.out).mono ?_
  rintro e s6 ⟨g2, rfl, hr1, hb⟩
  replace HR := Lib.hid (HR.out.below hb); replace HL1 := Lib.hid (HL1.out.below hb); replace HO := Lib.hid (HO.out.below hb); replace HXP := Lib.hid (HXP.out.below hb)
  replace HXF1 := Lib.hid (HXF1.out.below hb); replace HB := Lib.hid (HB.out.trans (hb.mono HB.out.size))
  clear hb
  have HL2 := Lib.hid hr1; clear hr1
  clear hcc
  clear HO
  go_upto_region 5 with fail
  have hn := Blk.new s6 50 #[.string nm, .int .i64 (H : Int), .int .i64 (W : Int), .slice (some ⟨g2, 0, none⟩) n n]
  have hb : Below s6.heap.size s6 (s6.alloc (.cells #[.string nm, .int .i64 (H : Int), .int .i64 (W : Int), .slice (some ⟨g2, 0, none⟩) n n] 50)) := (Below.refl _ _).alloc (Nat.le_refl _) _
  have hge := HB.out.size
  have hlt_HXP := HXP.out.lt
  have hlt_HXF1 := HXF1.out.lt
  obtain ⟨bF2, hl⟩ : ∃ b, s6.heap.size = b := ⟨_, rfl⟩
  generalize s6.alloc (.cells #[.string nm, .int .i64 (H : Int), .int .i64 (W : Int), .slice (some ⟨g2, 0, none⟩) n n] 50) = s7 at hn hb ⊢
  replace HR := Lib.hid (HR.out.below hb); replace HL1 := Lib.hid (HL1.out.below hb); replace HL2 := Lib.hid (HL2.out.below hb); replace HXP := Lib.hid (HXP.out.below hb)
  replace HXF1 := Lib.hid (HXF1.out.below hb); replace HB := Lib.hid (HB.out.trans (hb.mono HB.out.size))
  clear hb
  rw [hl] at hn hge hlt_HXP hlt_HXF1
  try rw [hl]
  have HXF2 := Lib.hid hn; have HGF2 := Lib.hid hge; clear hn hl hge
  have HNF2HXP : RowKit.Hid (¬ bP = bF2) := Lib.hid (by omega); have HNF2HXF1 : RowKit.Hid (¬ bF1 = bF2) := Lib.hid (by omega)
  clear hlt_HXP hlt_HXF1
  obtain ⟨cHXF1_0, cHXF1_1, cHXF1_2, cHXF1_3⟩ := box4 HXF1.out
  go_wp2_with fail
  refine (told_any _ _ _ _ _ _ _).mono ?_
  rintro e s8 ⟨rfl, hb⟩
  replace HR := Lib.hid (HR.out.below hb); replace HL1 := Lib.hid (HL1.out.below hb); replace HL2 := Lib.hid (HL2.out.below hb); replace HXP := Lib.hid (HXP.out.below hb)
  replace HXF1 := Lib.hid (HXF1.out.below hb); replace HXF2 := Lib.hid (HXF2.out.below hb); replace HB := Lib.hid (HB.out.trans (hb.mono HB.out.size))
  clear hb
  clear cHXF1_0 cHXF1_1 cHXF1_2 cHXF1_3
  go_wp2_with fail
  refine (own_v HV1.out HN1.out _ _ _ HL1.out).mono ?_
  rintro e s9 ⟨g, c', rfl, hcc, hrd, hb⟩
  replace HR := Lib.hid (HR.out.below hb); replace HL1 := Lib.hid (HL1.out.below hb); replace HL2 := Lib.hid (HL2.out.below hb); replace HXP := Lib.hid (HXP.out.below hb)
  replace HXF1 := Lib.hid (HXF1.out.below hb); replace HXF2 := Lib.hid (HXF2.out.below hb); replace HB := Lib.hid (HB.out.trans (hb.mono HB.out.size))
  clear hb
  have HO := Lib.hid hrd; clear hrd
  go_wp2_with fail
  refine (flip_v HV1.out HN1.out _ _ _ l HQ1.out hcc HO.out).mono ?_
  rintro e s10 ⟨g3, rfl, hr1, hb⟩
  replace HR := Lib.hid (HR.out.below hb); replace HL1 := Lib.hid (HL1.out.below hb); replace HL2 := Lib.hid (HL2.out.below hb); replace HO := Lib.hid (HO.out.below hb)
  replace HXP := Lib.hid (HXP.out.below hb); replace HXF1 := Lib.hid (HXF1.out.below hb); replace HXF2 := Lib.hid (HXF2.out.below hb); replace HB := Lib.hid (HB.out.trans (hb.mono HB.out.size))
  clear hb
  have HL3 := Lib.hid hr1; clear hr1
  clear hcc
  clear HO
  go_upto_region 8 with fail
  have hn := Blk.new s10 50 #[.string nm, .int .i64 (W : Int), .int .i64 (H : Int), .slice (some ⟨g3, 0, none⟩) n n]
  have hb : Below s10.heap.size s10 (s10.alloc (.cells #[.string nm, .int .i64 (W : Int), .int .i64 (H : Int), .slice (some ⟨g3, 0, none⟩) n n] 50)) := (Below.refl _ _).alloc (Nat.le_refl _) _
  have hge := HB.out.size
  have hlt_HXP := HXP.out.lt
  have hlt_HXF1 := HXF1.out.lt
  have hlt_HXF2 := HXF2.out.lt
  obtain ⟨bF3, hl⟩ : ∃ b, s10.heap.size = b := ⟨_, rfl⟩
  generalize s10.alloc (.cells #[.string nm, .int .i64 (W : Int), .int .i64 (H : Int), .slice (some ⟨g3, 0, none⟩) n n] 50) = s11 at hn hb ⊢
  replace HR := Lib.hid (HR.out.below hb); replace HL1 := Lib.hid (HL1.out.below hb); replace HL2 := Lib.hid (HL2.out.below hb); replace HL3 := Lib.hid (HL3.out.below hb)
  replace HXP := Lib.hid (HXP.out.below hb); replace HXF1 := Lib.hid (HXF1.out.below hb); replace HXF2 := Lib.hid (HXF2.out.below hb); replace HB := Lib.hid (HB.out.trans (hb.mono HB.out.size))
  clear hb
  rw [hl] at hn hge hlt_HXP hlt_HXF1 hlt_HXF2
  try rw [hl]
  have HXF3 := Lib.hid hn; have HGF3 := Lib.hid hge; clear hn hl hge
  have HNF3HXP : RowKit.Hid (¬ bP = bF3) := Lib.hid (by omega); have HNF3HXF1 : RowKit.Hid (¬ bF1 = bF3) := Lib.hid (by omega); have HNF3HXF2 : RowKit.Hid (¬ bF2 = bF3) := Lib.hid (by omega)
  clear hlt_HXP hlt_HXF1 hlt_HXF2
  obtain ⟨cHXF2_0, cHXF2_1, cHXF2_2, cHXF2_3⟩ := box4 HXF2.out
  go_wp2_with fail
  refine (told_any _ _ _ _ _ _ _).mono ?_
  rintro e s12 ⟨rfl, hb⟩
  replace HR := Lib.hid (HR.out.below hb); replace HL1 := Lib.hid (HL1.out.below hb); replace HL2 := Lib.hid (HL2.out.below hb); replace HL3 := Lib.hid (HL3.out.below hb)
  replace HXP := Lib.hid (HXP.out.below hb); replace HXF1 := Lib.hid (HXF1.out.below hb); replace HXF2 := Lib.hid (HXF2.out.below hb); replace HXF3 := Lib.hid (HXF3.out.below hb)
  replace HB := Lib.hid (HB.out.trans (hb.mono HB.out.size))
  clear hb
  clear cHXF2_0 cHXF2_1 cHXF2_2 cHXF2_3
  go_wp2_with fail
  refine (own_v HV2.out HN2.out _ _ _ HL2.out).mono ?_
  rintro e s13 ⟨g, c', rfl, hcc, hrd, hb⟩
  replace HR := Lib.hid (HR.out.below hb); replace HL1 := Lib.hid (HL1.out.below hb); replace HL2 := Lib.hid (HL2.out.below hb); replace HL3 := Lib.hid (HL3.out.below hb)
  replace HXP := Lib.hid (HXP.out.below hb); replace HXF1 := Lib.hid (HXF1.out.below hb); replace HXF2 := Lib.hid (HXF2.out.below hb); replace HXF3 := Lib.hid (HXF3.out.below hb)
  replace HB := Lib.hid (HB.out.trans (hb.mono HB.out.size))
  clear hb
  have HO := Lib.hid hrd; clear hrd
  go_wp2_with fail
  refine (trans_v HV2.out HN2.out _ _ _ l HQ2.out hcc HO.out).mono ?_
  rintro e s14 ⟨g4, rfl, hr1, hb⟩
  replace HR := Lib.hid (HR.out.below hb); replace HL1 := Lib.hid (HL1.out.below hb); replace HL2 := Lib.hid (HL2.out.below hb); replace HL3 := Lib.hid (HL3.out.below hb)
  replace HO := Lib.hid (HO.out.below hb); replace HXP := Lib.hid (HXP.out.below hb); replace HXF1 := Lib.hid (HXF1.out.below hb); replace HXF2 := Lib.hid (HXF2.out.below hb)
  replace HXF3 := Lib.hid (HXF3.out.below hb); replace HB := Lib.hid (HB.out.trans (hb.mono HB.out.size))
  clear hb
  have HL4 := Lib.hid hr1; clear hr1
  clear hcc
  clear HO
  go_upto_region 9 with fail
  have hn := Blk.new s14 50 #[.string nm, .int .i64 (W : Int), .int .i64 (H : Int), .slice (some ⟨g4, 0, none⟩) n n]
  have hb : Below s14.heap.size s14 (s14.alloc (.cells #[.string nm, .int .i64 (W : Int), .int .i64 (H : Int), .slice (some ⟨g4, 0, none⟩) n n] 50)) := (Below.refl _ _).alloc (Nat.le_refl _) _
  have hge := HB.out.size
  have hlt_HXP := HXP.out.lt
  have hlt_HXF1 := HXF1.out.lt
  have hlt_HXF2 := HXF2.out.lt
  have hlt_HXF3 := HXF3.out.lt
  obtain ⟨bF4, hl⟩ : ∃ b, s14.heap.size = b := ⟨_, rfl⟩
  generalize s14.alloc (.cells #[.string nm, .int .i64 (W : Int), .int .i64 (H : Int), .slice (some ⟨g4, 0, none⟩) n n] 50) = s15 at hn hb ⊢
  replace HR := Lib.hid (HR.out.below hb); replace HL1 := Lib.hid (HL1.out.below hb); replace HL2 := Lib.hid (HL2.out.below hb); replace HL3 := Lib.hid (HL3.out.below hb)
  replace HL4 := Lib.hid (HL4.out.below hb); replace HXP := Lib.hid (HXP.out.below hb); replace HXF1 := Lib.hid (HXF1.out.below hb); replace HXF2 := Lib.hid (HXF2.out.below hb)
  replace HXF3 := Lib.hid (HXF3.out.below hb); replace HB := Lib.hid (HB.out.trans (hb.mono HB.out.size))
  clear hb
  rw [hl] at hn hge hlt_HXP hlt_HXF1 hlt_HXF2 hlt_HXF3
  try rw [hl]
  have HXF4 := Lib.hid hn; have HGF4 := Lib.hid hge; clear hn hl hge
  have HNF4HXP : RowKit.Hid (¬ bP = bF4) := Lib.hid (by omega); have HNF4HXF1 : RowKit.Hid (¬ bF1 = bF4) := Lib.hid (by omega); have HNF4HXF2 : RowKit.Hid (¬ bF2 = bF4) := Lib.hid (by omega); have HNF4HXF3 : RowKit.Hid (¬ bF3 = bF4) := Lib.hid (by omega)
  clear hlt_HXP hlt_HXF1 hlt_HXF2 hlt_HXF3
  obtain ⟨cHXF1_0, cHXF1_1, cHXF1_2, cHXF1_3⟩ := box4 HXF1.out
  go_wp2_with fail
  refine (told_any _ _ _ _ _ _ _).mono ?_
  rintro e s16 ⟨rfl, hb⟩
  replace HR := Lib.hid (HR.out.below hb); replace HL1 := Lib.hid (HL1.out.below hb); replace HL2 := Lib.hid (HL2.out.below hb); replace HL3 := Lib.hid (HL3.out.below hb)
  replace HL4 := Lib.hid (HL4.out.below hb); replace HXP := Lib.hid (HXP.out.below hb); replace HXF1 := Lib.hid (HXF1.out.below hb); replace HXF2 := Lib.hid (HXF2.out.below hb)
  replace HXF3 := Lib.hid (HXF3.out.below hb); replace HXF4 := Lib.hid (HXF4.out.below hb); replace HB := Lib.hid (HB.out.trans (hb.mono HB.out.size))
  clear hb
  clear cHXF1_0 cHXF1_1 cHXF1_2 cHXF1_3
  go_wp2_with fail
  refine (own_v HV1.out HN1.out _ _ _ HL1.out).mono ?_
  rintro e s17 ⟨g, c', rfl, hcc, hrd, hb⟩
  replace HR := Lib.hid (HR.out.below hb); replace HL1 := Lib.hid (HL1.out.below hb); replace HL2 := Lib.hid (HL2.out.below hb); replace HL3 := Lib.hid (HL3.out.below hb)
  replace HL4 := Lib.hid (HL4.out.below hb); replace HXP := Lib.hid (HXP.out.below hb); replace HXF1 := Lib.hid (HXF1.out.below hb); replace HXF2 := Lib.hid (HXF2.out.below hb)
  replace HXF3 := Lib.hid (HXF3.out.below hb); replace HXF4 := Lib.hid (HXF4.out.below hb); replace HB := Lib.hid (HB.out.trans (hb.mono HB.out.size))
  clear hb
  have HO := Lib.hid hrd; clear hrd
  go_wp2_with fail
  refine (trans_v HV1.out HN1.out _ _ _ L3 HP3.out hcc HO.out).mono ?_
  rintro e s18 ⟨g5, rfl, hr1, hb⟩
  replace HR := Lib.hid (HR.out.below hb); replace HL1 := Lib.hid (HL1.out.below hb); replace HL2 := Lib.hid (HL2.out.below hb); replace HL3 := Lib.hid (HL3.out.below hb)
  replace HL4 := Lib.hid (HL4.out.below hb); replace HO := Lib.hid (HO.out.below hb); replace HXP := Lib.hid (HXP.out.below hb); replace HXF1 := Lib.hid (HXF1.out.below hb)
  replace HXF2 := Lib.hid (HXF2.out.below hb); replace HXF3 := Lib.hid (HXF3.out.below hb); replace HXF4 := Lib.hid (HXF4.out.below hb); replace HB := Lib.hid (HB.out.trans (hb.mono HB.out.size))
  clear hb
  have HL5 := Lib.hid hr1; clear hr1
  clear hcc
  clear HO
  go_upto_region 10 with fail
  have hn := Blk.new s18 50 #[.string nm, .int .i64 (H : Int), .int .i64 (W : Int), .slice (some ⟨g5, 0, none⟩) n n]
  have hb : Below s18.heap.size s18 (s18.alloc (.cells #[.string nm, .int .i64 (H : Int), .int .i64 (W : Int), .slice (some ⟨g5, 0, none⟩) n n] 50)) := (Below.refl _ _).alloc (Nat.le_refl _) _
  have hge := HB.out.size
  have hlt_HXP := HXP.out.lt
  have hlt_HXF1 := HXF1.out.lt
  have hlt_HXF2 := HXF2.out.lt
  have hlt_HXF3 := HXF3.out.lt
  have hlt_HXF4 := HXF4.out.lt
  obtain ⟨bF5, hl⟩ : ∃ b, s18.heap.size = b := ⟨_, rfl⟩
  generalize s18.alloc (.cells #[.string nm, .int .i64 (H : Int), .int .i64 (W : Int), .slice (some ⟨g5, 0, none⟩) n n] 50) = s19 at hn hb ⊢
  replace HR := Lib.hid (HR.out.below hb); replace HL1 := Lib.hid (HL1.out.below hb); replace HL2 := Lib.hid (HL2.out.below hb); replace HL3 := Lib.hid (HL3.out.below hb)
  replace HL4 := Lib.hid (HL4.out.below hb); replace HL5 := Lib.hid (HL5.out.below hb); replace HXP := Lib.hid (HXP.out.below hb); replace HXF1 := Lib.hid (HXF1.out.below hb)
  replace HXF2 := Lib.hid (HXF2.out.below hb); replace HXF3 := Lib.hid (HXF3.out.below hb); replace HXF4 := Lib.hid (HXF4.out.below hb); replace HB := Lib.hid (HB.out.trans (hb.mono HB.out.size))
  clear hb
  rw [hl] at hn hge hlt_HXP hlt_HXF1 hlt_HXF2 hlt_HXF3 hlt_HXF4
  try rw [hl]
  have HXF5 := Lib.hid hn; have HGF5 := Lib.hid hge; clear hn hl hge
  have HNF5HXP : RowKit.Hid (¬ bP = bF5) := Lib.hid (by omega); have HNF5HXF1 : RowKit.Hid (¬ bF1 = bF5) := Lib.hid (by omega); have HNF5HXF2 : RowKit.Hid (¬ bF2 = bF5) := Lib.hid (by omega); have HNF5HXF3 : RowKit.Hid (¬ bF3 = bF5) := Lib.hid (by omega); have HNF5HXF4 : RowKit.Hid (¬ bF4 = bF5) := Lib.hid (by omega)
  clear hlt_HXP hlt_HXF1 hlt_HXF2 hlt_HXF3 hlt_HXF4
  obtain ⟨cHXF3_0, cHXF3_1, cHXF3_2, cHXF3_3⟩ := box4 HXF3.out
  obtain ⟨cHXF4_0, cHXF4_1, cHXF4_2, cHXF4_3⟩ := box4 HXF4.out
  obtain ⟨cHXP_0, cHXP_1, cHXP_2, cHXP_3⟩ := box4 HXP.out
  have zP := HXP.out.lt; have z3 := HXF3.out.lt; have z4 := HXF4.out.lt
  go_region_held3 (SK s19)
    (first | exact sk_drew0 _ | exact sk_drew (by assumption) | assumption | exact sk_call (by assumption) (by assumption) | exact sk_alloc (by assumption) _)
    (first
      | (go_at_call 87; refine (told_any _ _ _ _ _ _ _).mono ?_; rintro e wn ⟨rfl, hbn⟩; have hch := sk_call (w0 := s19) (by assumption) hbn)
      | (go_at_call_of 88 (Value.slice (some ⟨g3, 0, none⟩) n n); refine (samePicture_true nm W H _ _ n _ _ l l _ HN.out HN.out HN0.out HSAME.out (HL3.out.below (And.left (by assumption : SK s19 _))) (HR.out.below (And.left (by assumption : SK s19 _)))).mono ?_; rintro e wn ⟨rfl, hbn⟩; have hch := sk_call (w0 := s19) (by assumption) hbn)
      | (go_at_call_of 88 (Value.slice (some ⟨g4, 0, none⟩) n n); refine (samePicture_true nm W H _ _ n _ _ l l _ HN.out HN.out HN0.out HSAME.out (HL4.out.below (And.left (by assumption : SK s19 _))) (HR.out.below (And.left (by assumption : SK s19 _)))).mono ?_; rintro e wn ⟨rfl, hbn⟩; have hch := sk_call (w0 := s19) (by assumption) hbn))
  have hfin := hch.1
  clear hch hbn zP z3 z4
  clear cHXF3_0 cHXF3_1 cHXF3_2 cHXF3_3 cHXF4_0 cHXF4_1 cHXF4_2 cHXF4_3 cHXP_0 cHXP_1 cHXP_2 cHXP_3
  replace HR := Lib.hid (HR.out.below hfin); replace HL1 := Lib.hid (HL1.out.below hfin); replace HL2 := Lib.hid (HL2.out.below hfin); replace HL3 := Lib.hid (HL3.out.below hfin)
  replace HL4 := Lib.hid (HL4.out.below hfin); replace HL5 := Lib.hid (HL5.out.below hfin); replace HXP := Lib.hid (HXP.out.below hfin); replace HXF1 := Lib.hid (HXF1.out.below hfin)
  replace HXF2 := Lib.hid (HXF2.out.below hfin); replace HXF3 := Lib.hid (HXF3.out.below hfin); replace HXF4 := Lib.hid (HXF4.out.below hfin); replace HXF5 := Lib.hid (HXF5.out.below hfin)
  replace HB := Lib.hid (HB.out.trans (hfin.mono HB.out.size))
  clear hfin
  clear HXF3 HXF4 HL3 HL4 HXF2 HL2
  obtain ⟨cHXF5_0, cHXF5_1, cHXF5_2, cHXF5_3⟩ := box4 HXF5.out
  go_wp2_with fail
  refine (told_any _ _ _ _ _ _ _).mono ?_
  rintro e s21 ⟨rfl, hb⟩
  replace HR := Lib.hid (HR.out.below hb); replace HL1 := Lib.hid (HL1.out.below hb); replace HL5 := Lib.hid (HL5.out.below hb); replace HXP := Lib.hid (HXP.out.below hb)
  replace HXF1 := Lib.hid (HXF1.out.below hb); replace HXF5 := Lib.hid (HXF5.out.below hb); replace HB := Lib.hid (HB.out.trans (hb.mono HB.out.size))
  clear hb
  clear cHXF5_0 cHXF5_1 cHXF5_2 cHXF5_3
  go_wp2_with fail
  refine (own_v HV3.out HN3.out _ _ _ HL5.out).mono ?_
  rintro e s22 ⟨g, c', rfl, hcc, hrd, hb⟩
  replace HR := Lib.hid (HR.out.below hb); replace HL1 := Lib.hid (HL1.out.below hb); replace HL5 := Lib.hid (HL5.out.below hb); replace HXP := Lib.hid (HXP.out.below hb)
  replace HXF1 := Lib.hid (HXF1.out.below hb); replace HXF5 := Lib.hid (HXF5.out.below hb); replace HB := Lib.hid (HB.out.trans (hb.mono HB.out.size))
  clear hb
  have HO := Lib.hid hrd; clear hrd
  go_wp2_with fail
  refine (flip_v HV3.out HN3.out _ _ _ L4 HP4.out hcc HO.out).mono ?_
  rintro e s23 ⟨g6, rfl, hr1, hb⟩
  replace HR := Lib.hid (HR.out.below hb); replace HL1 := Lib.hid (HL1.out.below hb); replace HL5 := Lib.hid (HL5.out.below hb); replace HO := Lib.hid (HO.out.below hb)
  replace HXP := Lib.hid (HXP.out.below hb); replace HXF1 := Lib.hid (HXF1.out.below hb); replace HXF5 := Lib.hid (HXF5.out.below hb); replace HB := Lib.hid (HB.out.trans (hb.mono HB.out.size))
  clear hb
  have HL6 := Lib.hid hr1; clear hr1
  clear hcc
  clear HO
  go_upto_region 13 with fail
  have hn := Blk.new s23 50 #[.string nm, .int .i64 (H : Int), .int .i64 (W : Int), .slice (some ⟨g6, 0, none⟩) n n]
  have hb : Below s23.heap.size s23 (s23.alloc (.cells #[.string nm, .int .i64 (H : Int), .int .i64 (W : Int), .slice (some ⟨g6, 0, none⟩) n n] 50)) := (Below.refl _ _).alloc (Nat.le_refl _) _
  have hge := HB.out.size
  have hlt_HXP := HXP.out.lt
  have hlt_HXF1 := HXF1.out.lt
  have hlt_HXF5 := HXF5.out.lt
  obtain ⟨bF6, hl⟩ : ∃ b, s23.heap.size = b := ⟨_, rfl⟩
  generalize s23.alloc (.cells #[.string nm, .int .i64 (H : Int), .int .i64 (W : Int), .slice (some ⟨g6, 0, none⟩) n n] 50) = s24 at hn hb ⊢
  replace HR := Lib.hid (HR.out.below hb); replace HL1 := Lib.hid (HL1.out.below hb); replace HL5 := Lib.hid (HL5.out.below hb); replace HL6 := Lib.hid (HL6.out.below hb)
  replace HXP := Lib.hid (HXP.out.below hb); replace HXF1 := Lib.hid (HXF1.out.below hb); replace HXF5 := Lib.hid (HXF5.out.below hb); replace HB := Lib.hid (HB.out.trans (hb.mono HB.out.size))
  clear hb
  rw [hl] at hn hge hlt_HXP hlt_HXF1 hlt_HXF5
  try rw [hl]
  have HXF6 := Lib.hid hn; have HGF6 := Lib.hid hge; clear hn hl hge
  have HNF6HXP : RowKit.Hid (¬ bP = bF6) := Lib.hid (by omega); have HNF6HXF1 : RowKit.Hid (¬ bF1 = bF6) := Lib.hid (by omega); have HNF6HXF5 : RowKit.Hid (¬ bF5 = bF6) := Lib.hid (by omega)
  clear hlt_HXP hlt_HXF1 hlt_HXF5
  obtain ⟨cHXF6_0, cHXF6_1, cHXF6_2, cHXF6_3⟩ := box4 HXF6.out
  go_wp2_with fail
  refine (told_any _ _ _ _ _ _ _).mono ?_
  rintro e s25 ⟨rfl, hb⟩
  replace HR := Lib.hid (HR.out.below hb); replace HL1 := Lib.hid (HL1.out.below hb); replace HL5 := Lib.hid (HL5.out.below hb); replace HL6 := Lib.hid (HL6.out.below hb)
  replace HXP := Lib.hid (HXP.out.below hb); replace HXF1 := Lib.hid (HXF1.out.below hb); replace HXF5 := Lib.hid (HXF5.out.below hb); replace HXF6 := Lib.hid (HXF6.out.below hb)
  replace HB := Lib.hid (HB.out.trans (hb.mono HB.out.size))
  clear hb
  clear cHXF6_0 cHXF6_1 cHXF6_2 cHXF6_3
  go_wp2_with fail
  refine (own_v HV4.out HN4.out _ _ _ HL6.out).mono ?_
  rintro e s26 ⟨g, c', rfl, hcc, hrd, hb⟩
  replace HR := Lib.hid (HR.out.below hb); replace HL1 := Lib.hid (HL1.out.below hb); replace HL5 := Lib.hid (HL5.out.below hb); replace HL6 := Lib.hid (HL6.out.below hb)
  replace HXP := Lib.hid (HXP.out.below hb); replace HXF1 := Lib.hid (HXF1.out.below hb); replace HXF5 := Lib.hid (HXF5.out.below hb); replace HXF6 := Lib.hid (HXF6.out.below hb)
  replace HB := Lib.hid (HB.out.trans (hb.mono HB.out.size))
  clear hb
  have HO := Lib.hid hrd; clear hrd
  go_wp2_with fail
  refine (trans_v HV4.out HN4.out _ _ _ L5 HP5.out hcc HO.out).mono ?_
  rintro e s27 ⟨g7, rfl, hr1, hb⟩
  replace HR := Lib.hid (HR.out.below hb); replace HL1 := Lib.hid (HL1.out.below hb); replace HL5 := Lib.hid (HL5.out.below hb); replace HL6 := Lib.hid (HL6.out.below hb)
  replace HO := Lib.hid (HO.out.below hb); replace HXP := Lib.hid (HXP.out.below hb); replace HXF1 := Lib.hid (HXF1.out.below hb); replace HXF5 := Lib.hid (HXF5.out.below hb)
  replace HXF6 := Lib.hid (HXF6.out.below hb); replace HB := Lib.hid (HB.out.trans (hb.mono HB.out.size))
  clear hb
  have HL7 := Lib.hid hr1; clear hr1
  clear hcc
  clear HO
  go_upto_region 14 with fail
  have hn := Blk.new s27 50 #[.string nm, .int .i64 (W : Int), .int .i64 (H : Int), .slice (some ⟨g7, 0, none⟩) n n]
  have hb : Below s27.heap.size s27 (s27.alloc (.cells #[.string nm, .int .i64 (W : Int), .int .i64 (H : Int), .slice (some ⟨g7, 0, none⟩) n n] 50)) := (Below.refl _ _).alloc (Nat.le_refl _) _
  have hge := HB.out.size
  have hlt_HXP := HXP.out.lt
  have hlt_HXF1 := HXF1.out.lt
  have hlt_HXF5 := HXF5.out.lt
  have hlt_HXF6 := HXF6.out.lt
  obtain ⟨bF7, hl⟩ : ∃ b, s27.heap.size = b := ⟨_, rfl⟩
  generalize s27.alloc (.cells #[.string nm, .int .i64 (W : Int), .int .i64 (H : Int), .slice (some ⟨g7, 0, none⟩) n n] 50) = s28 at hn hb ⊢
  replace HR := Lib.hid (HR.out.below hb); replace HL1 := Lib.hid (HL1.out.below hb); replace HL5 := Lib.hid (HL5.out.below hb); replace HL6 := Lib.hid (HL6.out.below hb)
  replace HL7 := Lib.hid (HL7.out.below hb); replace HXP := Lib.hid (HXP.out.below hb); replace HXF1 := Lib.hid (HXF1.out.below hb); replace HXF5 := Lib.hid (HXF5.out.below hb)
  replace HXF6 := Lib.hid (HXF6.out.below hb); replace HB := Lib.hid (HB.out.trans (hb.mono HB.out.size))
  clear hb
  rw [hl] at hn hge hlt_HXP hlt_HXF1 hlt_HXF5 hlt_HXF6
  try rw [hl]
  have HXF7 := Lib.hid hn; have HGF7 := Lib.hid hge; clear hn hl hge
  have HNF7HXP : RowKit.Hid (¬ bP = bF7) := Lib.hid (by omega); have HNF7HXF1 : RowKit.Hid (¬ bF1 = bF7) := Lib.hid (by omega); have HNF7HXF5 : RowKit.Hid (¬ bF5 = bF7) := Lib.hid (by omega); have HNF7HXF6 : RowKit.Hid (¬ bF6 = bF7) := Lib.hid (by omega)
  clear hlt_HXP hlt_HXF1 hlt_HXF5 hlt_HXF6
  clear HXF6 HL6
  obtain ⟨cHXP_0, cHXP_1, cHXP_2, cHXP_3⟩ := box4 HXP.out
  go_wp2_with fail
  refine (own_v HV.out HN.out _ _ _ HR.out).mono ?_
  rintro e s29 ⟨g, c', rfl, hcc, hrd, hb⟩
  replace HR := Lib.hid (HR.out.below hb); replace HL1 := Lib.hid (HL1.out.below hb); replace HL5 := Lib.hid (HL5.out.below hb); replace HL7 := Lib.hid (HL7.out.below hb)
  replace HXP := Lib.hid (HXP.out.below hb); replace HXF1 := Lib.hid (HXF1.out.below hb); replace HXF5 := Lib.hid (HXF5.out.below hb); replace HXF7 := Lib.hid (HXF7.out.below hb)
  replace HB := Lib.hid (HB.out.trans (hb.mono HB.out.size))
  clear hb
  have HO := Lib.hid hrd; clear hrd
  clear cHXP_0 cHXP_1 cHXP_2 cHXP_3
  go_wp2_with fail
  refine (energy_v HV.out HN.out _ _ _ E HE0.out HO.out).mono ?_
  rintro e s30 ⟨rfl, hb⟩
  replace HR := Lib.hid (HR.out.below hb); replace HL1 := Lib.hid (HL1.out.below hb); replace HL5 := Lib.hid (HL5.out.below hb); replace HL7 := Lib.hid (HL7.out.below hb)
  replace HO := Lib.hid (HO.out.below hb); replace HXP := Lib.hid (HXP.out.below hb); replace HXF1 := Lib.hid (HXF1.out.below hb); replace HXF5 := Lib.hid (HXF5.out.below hb)
  replace HXF7 := Lib.hid (HXF7.out.below hb); replace HB := Lib.hid (HB.out.trans (hb.mono HB.out.size))
  clear hb
  clear hcc
  clear HO
  obtain ⟨cHXF7_0, cHXF7_1, cHXF7_2, cHXF7_3⟩ := box4 HXF7.out
  go_wp2_with fail
  refine (told_any _ _ _ _ _ _ _).mono ?_
  rintro e s31 ⟨rfl, hb⟩
  replace HR := Lib.hid (HR.out.below hb); replace HL1 := Lib.hid (HL1.out.below hb); replace HL5 := Lib.hid (HL5.out.below hb); replace HL7 := Lib.hid (HL7.out.below hb)
  replace HXP := Lib.hid (HXP.out.below hb); replace HXF1 := Lib.hid (HXF1.out.below hb); replace HXF5 := Lib.hid (HXF5.out.below hb); replace HXF7 := Lib.hid (HXF7.out.below hb)
  replace HB := Lib.hid (HB.out.trans (hb.mono HB.out.size))
  clear hb
  clear cHXF7_0 cHXF7_1 cHXF7_2 cHXF7_3
  go_wp2_with fail
  refine (own_v HV5.out HN5.out _ _ _ HL7.out).mono ?_
  rintro e s32 ⟨g, c', rfl, hcc, hrd, hb⟩
  replace HR := Lib.hid (HR.out.below hb); replace HL1 := Lib.hid (HL1.out.below hb); replace HL5 := Lib.hid (HL5.out.below hb); replace HL7 := Lib.hid (HL7.out.below hb)
  replace HXP := Lib.hid (HXP.out.below hb); replace HXF1 := Lib.hid (HXF1.out.below hb); replace HXF5 := Lib.hid (HXF5.out.below hb); replace HXF7 := Lib.hid (HXF7.out.below hb)
  replace HB := Lib.hid (HB.out.trans (hb.mono HB.out.size))
  clear hb
  have HO := Lib.hid hrd; clear hrd
  go_wp2_with fail
  refine (energy_v HV5.out HN5.out _ _ _ E HE5.out HO.out).mono ?_
  rintro e s33 ⟨rfl, hb⟩
  replace HR := Lib.hid (HR.out.below hb); replace HL1 := Lib.hid (HL1.out.below hb); replace HL5 := Lib.hid (HL5.out.below hb); replace HL7 := Lib.hid (HL7.out.below hb)
  replace HO := Lib.hid (HO.out.below hb); replace HXP := Lib.hid (HXP.out.below hb); replace HXF1 := Lib.hid (HXF1.out.below hb); replace HXF5 := Lib.hid (HXF5.out.below hb)
  replace HXF7 := Lib.hid (HXF7.out.below hb); replace HB := Lib.hid (HB.out.trans (hb.mono HB.out.size))
  clear hb
  clear hcc
  clear HO
  obtain ⟨cHXP_0, cHXP_1, cHXP_2, cHXP_3⟩ := box4 HXP.out
  go_wp2_with fail
  refine (own_v HV.out HN.out _ _ _ HR.out).mono ?_
  rintro e s34 ⟨g, c', rfl, hcc, hrd, hb⟩
  replace HR := Lib.hid (HR.out.below hb); replace HL1 := Lib.hid (HL1.out.below hb); replace HL5 := Lib.hid (HL5.out.below hb); replace HL7 := Lib.hid (HL7.out.below hb)
  replace HXP := Lib.hid (HXP.out.below hb); replace HXF1 := Lib.hid (HXF1.out.below hb); replace HXF5 := Lib.hid (HXF5.out.below hb); replace HXF7 := Lib.hid (HXF7.out.below hb)
  replace HB := Lib.hid (HB.out.trans (hb.mono HB.out.size))
  clear hb
  have HO := Lib.hid hrd; clear hrd
  clear cHXP_0 cHXP_1 cHXP_2 cHXP_3
  go_wp2_with fail
  refine (HM0.out _ _ _ HO.out).mono ?_
  rintro e s35 ⟨rfl, hb⟩
  replace HR := Lib.hid (HR.out.below hb); replace HL1 := Lib.hid (HL1.out.below hb); replace HL5 := Lib.hid (HL5.out.below hb); replace HL7 := Lib.hid (HL7.out.below hb)
  replace HO := Lib.hid (HO.out.below hb); replace HXP := Lib.hid (HXP.out.below hb); replace HXF1 := Lib.hid (HXF1.out.below hb); replace HXF5 := Lib.hid (HXF5.out.below hb)
  replace HXF7 := Lib.hid (HXF7.out.below hb); replace HB := Lib.hid (HB.out.trans (hb.mono HB.out.size))
  clear hb
  clear hcc
  clear HO
  go_upto_region 17 with fail
  have hn := Blk.new s35 33 #[.int .i64 x1, .int .i64 x2]
  have hb : Below s35.heap.size s35 (s35.alloc (.cells #[.int .i64 x1, .int .i64 x2] 33)) := (Below.refl _ _).alloc (Nat.le_refl _) _
  have hge := HB.out.size
  have hlt_HXP := HXP.out.lt
  have hlt_HXF1 := HXF1.out.lt
  have hlt_HXF5 := HXF5.out.lt
  have hlt_HXF7 := HXF7.out.lt
  obtain ⟨bM1, hl⟩ : ∃ b, s35.heap.size = b := ⟨_, rfl⟩
  generalize s35.alloc (.cells #[.int .i64 x1, .int .i64 x2] 33) = s36 at hn hb ⊢
  replace HR := Lib.hid (HR.out.below hb); replace HL1 := Lib.hid (HL1.out.below hb); replace HL5 := Lib.hid (HL5.out.below hb); replace HL7 := Lib.hid (HL7.out.below hb)
  replace HXP := Lib.hid (HXP.out.below hb); replace HXF1 := Lib.hid (HXF1.out.below hb); replace HXF5 := Lib.hid (HXF5.out.below hb); replace HXF7 := Lib.hid (HXF7.out.below hb)
  replace HB := Lib.hid (HB.out.trans (hb.mono HB.out.size))
  clear hb
  rw [hl] at hn hge hlt_HXP hlt_HXF1 hlt_HXF5 hlt_HXF7
  try rw [hl]
  have HXM1 := Lib.hid hn; have HGM1 := Lib.hid hge; clear hn hl hge
  have HNM1HXP : RowKit.Hid (¬ bP = bM1) := Lib.hid (by omega); have HNM1HXF1 : RowKit.Hid (¬ bF1 = bM1) := Lib.hid (by omega); have HNM1HXF5 : RowKit.Hid (¬ bF5 = bM1) := Lib.hid (by omega); have HNM1HXF7 : RowKit.Hid (¬ bF7 = bM1) := Lib.hid (by omega)
  clear hlt_HXP hlt_HXF1 hlt_HXF5 hlt_HXF7
  obtain ⟨cHXF5_0, cHXF5_1, cHXF5_2, cHXF5_3⟩ := box4 HXF5.out
  go_wp2_with fail
  refine (told_any _ _ _ _ _ _ _).mono ?_
  rintro e s37 ⟨rfl, hb⟩
  replace HR := Lib.hid (HR.out.below hb); replace HL1 := Lib.hid (HL1.out.below hb); replace HL5 := Lib.hid (HL5.out.below hb); replace HL7 := Lib.hid (HL7.out.below hb)
  replace HXP := Lib.hid (HXP.out.below hb); replace HXF1 := Lib.hid (HXF1.out.below hb); replace HXF5 := Lib.hid (HXF5.out.below hb); replace HXF7 := Lib.hid (HXF7.out.below hb)
  replace HXM1 := Lib.hid (HXM1.out.below hb); replace HB := Lib.hid (HB.out.trans (hb.mono HB.out.size))
  clear hb
  clear cHXF5_0 cHXF5_1 cHXF5_2 cHXF5_3
  go_wp2_with fail
  refine (own_v HV3.out HN3.out _ _ _ HL5.out).mono ?_
  rintro e s38 ⟨g, c', rfl, hcc, hrd, hb⟩
  replace HR := Lib.hid (HR.out.below hb); replace HL1 := Lib.hid (HL1.out.below hb); replace HL5 := Lib.hid (HL5.out.below hb); replace HL7 := Lib.hid (HL7.out.below hb)
  replace HXP := Lib.hid (HXP.out.below hb); replace HXF1 := Lib.hid (HXF1.out.below hb); replace HXF5 := Lib.hid (HXF5.out.below hb); replace HXF7 := Lib.hid (HXF7.out.below hb)
  replace HXM1 := Lib.hid (HXM1.out.below hb); replace HB := Lib.hid (HB.out.trans (hb.mono HB.out.size))
  clear hb
  have HO := Lib.hid hrd; clear hrd
  go_wp2_with fail
  refine (HM3.out _ _ _ HO.out).mono ?_
  rintro e s39 ⟨rfl, hb⟩
  replace HR := Lib.hid (HR.out.below hb); replace HL1 := Lib.hid (HL1.out.below hb); replace HL5 := Lib.hid (HL5.out.below hb); replace HL7 := Lib.hid (HL7.out.below hb)
  replace HO := Lib.hid (HO.out.below hb); replace HXP := Lib.hid (HXP.out.below hb); replace HXF1 := Lib.hid (HXF1.out.below hb); replace HXF5 := Lib.hid (HXF5.out.below hb)
  replace HXF7 := Lib.hid (HXF7.out.below hb); replace HXM1 := Lib.hid (HXM1.out.below hb); replace HB := Lib.hid (HB.out.trans (hb.mono HB.out.size))
  clear hb
  clear hcc
  clear HO
  go_upto_region 18 with fail
  have hn := Blk.new s39 33 #[.int .i64 x1, .int .i64 x2]
  have hb : Below s39.heap.size s39 (s39.alloc (.cells #[.int .i64 x1, .int .i64 x2] 33)) := (Below.refl _ _).alloc (Nat.le_refl _) _
  have hge := HB.out.size
  have hlt_HXP := HXP.out.lt
  have hlt_HXF1 := HXF1.out.lt
  have hlt_HXF5 := HXF5.out.lt
  have hlt_HXF7 := HXF7.out.lt
  have hlt_HXM1 := HXM1.out.lt
  obtain ⟨bM2, hl⟩ : ∃ b, s39.heap.size = b := ⟨_, rfl⟩
  generalize s39.alloc (.cells #[.int .i64 x1, .int .i64 x2] 33) = s40 at hn hb ⊢
  replace HR := Lib.hid (HR.out.below hb); replace HL1 := Lib.hid (HL1.out.below hb); replace HL5 := Lib.hid (HL5.out.below hb); replace HL7 := Lib.hid (HL7.out.below hb)
  replace HXP := Lib.hid (HXP.out.below hb); replace HXF1 := Lib.hid (HXF1.out.below hb); replace HXF5 := Lib.hid (HXF5.out.below hb); replace HXF7 := Lib.hid (HXF7.out.below hb)
  replace HXM1 := Lib.hid (HXM1.out.below hb); replace HB := Lib.hid (HB.out.trans (hb.mono HB.out.size))
  clear hb
  rw [hl] at hn hge hlt_HXP hlt_HXF1 hlt_HXF5 hlt_HXF7 hlt_HXM1
  try rw [hl]
  have HXM2 := Lib.hid hn; have HGM2 := Lib.hid hge; clear hn hl hge
  have HNM2HXP : RowKit.Hid (¬ bP = bM2) := Lib.hid (by omega); have HNM2HXF1 : RowKit.Hid (¬ bF1 = bM2) := Lib.hid (by omega); have HNM2HXF5 : RowKit.Hid (¬ bF5 = bM2) := Lib.hid (by omega); have HNM2HXF7 : RowKit.Hid (¬ bF7 = bM2) := Lib.hid (by omega); have HNM2HXM1 : RowKit.Hid (¬ bM1 = bM2) := Lib.hid (by omega)
  clear hlt_HXP hlt_HXF1 hlt_HXF5 hlt_HXF7 hlt_HXM1
  obtain ⟨cHXF7_0, cHXF7_1, cHXF7_2, cHXF7_3⟩ := box4 HXF7.out
  obtain ⟨cHXP_0, cHXP_1, cHXP_2, cHXP_3⟩ := box4 HXP.out
  obtain ⟨cHXM1_0, cHXM1_1⟩ := box2 HXM1.out
  obtain ⟨cHXM2_0, cHXM2_1⟩ := box2 HXM2.out
  go_upto_region 20 with fail
  go_wp2
  clear cHXF7_0 cHXF7_1 cHXF7_2 cHXF7_3 cHXP_0 cHXP_1 cHXP_2 cHXP_3 cHXM1_0 cHXM1_1 cHXM2_0 cHXM2_1
  clear HXM1 HXM2
  go_loopw [187] (fun v wr => ∃ i : Nat, i ≤ n ∧ v = .int .i64 i ∧ Below s40.heap.size s40 wr) (fun v _ => n - (intOf v).toNat)
  case atStart => exact ⟨0, by omega, rfl, Below.refl _ _⟩
  case round =>
    obtain ⟨i, hi, rfl, hbel⟩ := hrel
    by_cases hlt : i < n
    · have hr0 := HR.out.below hbel
      have hr7 := HL7.out.below hbel
      obtain ⟨k0, k1, k2, k3⟩ := box4 (HXP.out.below hbel)
      obtain ⟨j0, j1, j2, j3⟩ := box4 (HXF7.out.below hbel)
      obtain ⟨a, ha⟩ : ∃ a, l.getD i 0 = a := ⟨_, rfl⟩
      obtain ⟨d, hd⟩ : ∃ d, n - 1 - i = d := ⟨_, rfl⟩
      obtain ⟨ad', eA, _, hc1⟩ := hr0.get (k := i) (u := .float .f32 a) (by rw [fl_get (by rw [HN.out]; exact hlt), ha])
      cases eA
      obtain ⟨ad7, e7, _, hc2⟩ := hr7.get (k := d) (u := .float .f32 a) (by rw [fl_get (by rw [HN5.out]; omega), ← hd, HQ5.out i hlt, ha])
      cases e7
      rw [add_start] at hc2
      have hab := HCH.out i
      rw [ha] at hab
      have hdd : (n : Int) - 1 - (i : Int) = (d : Int) := by omega
      have hd1 : d < n := by omega
      have HBE := Lib.hid hbel
      clear hr0 hr7 ha hd hbel
      go_wp2
      go_roundw
      case rel => exact ⟨i + 1, by omega, by go_num, HBE.out⟩
      case measure => simp [intOf]; omega
    · have hie : i = n := by omega
      have hnl : ¬ ((i : Int) < (n : Int)) := by omega
      replace HR := Lib.hid (HR.out.below hbel); replace HL1 := Lib.hid (HL1.out.below hbel); replace HL5 := Lib.hid (HL5.out.below hbel); replace HL7 := Lib.hid (HL7.out.below hbel)
      replace HXP := Lib.hid (HXP.out.below hbel); replace HXF1 := Lib.hid (HXF1.out.below hbel); replace HXF5 := Lib.hid (HXF5.out.below hbel); replace HXF7 := Lib.hid (HXF7.out.below hbel)
      replace HB := Lib.hid (HB.out.trans (hbel.mono HB.out.size))
      clear hbel
      clear HXF7 HL7 HXF5 HL5
      obtain ⟨cHXP_0, cHXP_1, cHXP_2, cHXP_3⟩ := box4 HXP.out
      go_wp2_with fail
      refine (own_v HV.out HN.out _ _ _ HR.out).mono ?_
      rintro e s41 ⟨g, c', rfl, hcc, hrd, hb⟩
      replace HR := Lib.hid (HR.out.below hb); replace HL1 := Lib.hid (HL1.out.below hb); replace HXP := Lib.hid (HXP.out.below hb); replace HXF1 := Lib.hid (HXF1.out.below hb)
      replace HB := Lib.hid (HB.out.trans (hb.mono HB.out.size))
      clear hb
      have HO := Lib.hid hrd; clear hrd
      clear cHXP_0 cHXP_1 cHXP_2 cHXP_3
      go_wp2_with fail
      have hH2 : ¬ (H : Int) < 2 := by have := HHH.out; omega
      refine (fields_v HV.out HN.out _ _ _ HH2.out K1 K2 m1 m2 L6 L7 HKK.out HMM.out HP6.out HP7.out hcc HO.out).mono ?_
      rintro e s42 ⟨ga, gb, rfl, hr1, hr2, hb⟩
      replace HR := Lib.hid (HR.out.below hb); replace HL1 := Lib.hid (HL1.out.below hb); replace HO := Lib.hid (HO.out.below hb); replace HXP := Lib.hid (HXP.out.below hb)
      replace HXF1 := Lib.hid (HXF1.out.below hb); replace HB := Lib.hid (HB.out.trans (hb.mono HB.out.size))
      clear hb
      have HL8 := Lib.hid hr1; clear hr1
      have HL9 := Lib.hid hr2; clear hr2
      clear hcc
      clear HO
      go_upto_region 27 with fail
      have hn := Blk.new s42 67 #[.string nm, .int .i64 (W : Int), .int .i64 (K1 : Int), .slice (some ⟨ga, 0, none⟩) m1 m1, .string nm, .int .i64 (W : Int), .int .i64 (K2 : Int), .slice (some ⟨gb, 0, none⟩) m2 m2]
      have hb : Below s42.heap.size s42 (s42.alloc (.cells #[.string nm, .int .i64 (W : Int), .int .i64 (K1 : Int), .slice (some ⟨ga, 0, none⟩) m1 m1, .string nm, .int .i64 (W : Int), .int .i64 (K2 : Int), .slice (some ⟨gb, 0, none⟩) m2 m2] 67)) := (Below.refl _ _).alloc (Nat.le_refl _) _
      have hge := HB.out.size
      have hlt_HXP := HXP.out.lt
      have hlt_HXF1 := HXF1.out.lt
      obtain ⟨bLF, hl⟩ : ∃ b, s42.heap.size = b := ⟨_, rfl⟩
      generalize s42.alloc (.cells #[.string nm, .int .i64 (W : Int), .int .i64 (K1 : Int), .slice (some ⟨ga, 0, none⟩) m1 m1, .string nm, .int .i64 (W : Int), .int .i64 (K2 : Int), .slice (some ⟨gb, 0, none⟩) m2 m2] 67) = s43 at hn hb ⊢
      replace HR := Lib.hid (HR.out.below hb); replace HL1 := Lib.hid (HL1.out.below hb); replace HL8 := Lib.hid (HL8.out.below hb); replace HL9 := Lib.hid (HL9.out.below hb)
      replace HXP := Lib.hid (HXP.out.below hb); replace HXF1 := Lib.hid (HXF1.out.below hb); replace HB := Lib.hid (HB.out.trans (hb.mono HB.out.size))
      clear hb
      rw [hl] at hn hge hlt_HXP hlt_HXF1
      try rw [hl]
      have HXLF := Lib.hid hn; have HGLF := Lib.hid hge; clear hn hl hge
      have HNLFHXP : RowKit.Hid (¬ bP = bLF) := Lib.hid (by omega); have HNLFHXF1 : RowKit.Hid (¬ bF1 = bLF) := Lib.hid (by omega)
      clear hlt_HXP hlt_HXF1
      obtain ⟨cHXP_0, cHXP_1, cHXP_2, cHXP_3⟩ := box4 HXP.out
      go_upto_region 31 with fail
      clear cHXP_0 cHXP_1 cHXP_2 cHXP_3
      go_cut [29, 30] from 221 to 232 (fun p e wx => ∃ b gw, p = .pointer (some ⟨b, 0, none⟩) ∧ e = .int .i64 0 ∧ s43.heap.size ≤ b ∧ Blk wx b 50 #[.string nm, .int .i64 (W : Int), .int .i64 (H : Int), .slice (some ⟨gw, 0, none⟩) n n] ∧ Rd wx (some ⟨gw, 0, none⟩) (fl l) ∧ Below s43.heap.size s43 wx)
      case first =>
        obtain ⟨cHXLF_0, cHXLF_1, cHXLF_2, cHXLF_3, cHXLF_4, cHXLF_5, cHXLF_6, cHXLF_7⟩ := box8' HXLF.out
        have zL := HXLF.out.lt
        go_region_held3 (SK s43)
          (first | exact sk_drew0 _ | exact sk_drew (by assumption) | assumption | exact sk_call (by assumption) (by assumption) | exact sk_alloc (by assumption) _ | exact sk_set4 (by assumption) (by first | exact (And.left (by assumption : SK s43 _)).size | exact Nat.le_refl _) _ _ _ _)
          (first
            | (go_at_call_of 87 (Value.slice (some ⟨ga, 0, none⟩) m1 m1); refine (told_any _ _ _ _ _ _ _).mono ?_; rintro e wn ⟨rfl, hbn⟩; have hch := sk_call (w0 := s43) (by assumption) hbn; (first | (have HBOX : RowKit.Hid (Blk wn s43.heap.size 50 #[.string ⟨#[]⟩, .int .i64 0, .int .i64 0, .slice none 0 0]) := Lib.hid ((Blk.new s43.drew 50 #[.string ⟨#[]⟩, .int .i64 0, .int .i64 0, .slice none 0 0]).below hbn)) | (have HBOX := Lib.hid ((Blk.new _ 50 #[.string ⟨#[]⟩, .int .i64 0, .int .i64 0, .slice none 0 0]).below hbn)) | (replace HBOX := Lib.hid (HBOX.out.below hbn)) | skip))
            | (go_at_call_of 30 (Value.slice (some ⟨ga, 0, none⟩) m1 m1); refine (own_v HV6.out HN6.out _ _ _ (HL8.out.below (And.left (by assumption : SK s43 _)))).mono ?_; rintro e wn ⟨gc, cc, rfl, hcc, hro, hbn⟩; have hch := sk_call (w0 := s43) (by assumption) hbn; (first | (have HBOX : RowKit.Hid (Blk wn s43.heap.size 50 #[.string ⟨#[]⟩, .int .i64 0, .int .i64 0, .slice none 0 0]) := Lib.hid ((Blk.new s43.drew 50 #[.string ⟨#[]⟩, .int .i64 0, .int .i64 0, .slice none 0 0]).below hbn)) | (have HBOX := Lib.hid ((Blk.new _ 50 #[.string ⟨#[]⟩, .int .i64 0, .int .i64 0, .slice none 0 0]).below hbn)) | (replace HBOX := Lib.hid (HBOX.out.below hbn)) | skip); have HOA := Lib.hid hro; clear hro)
            | (go_at_call_of 87 (Value.slice (some ⟨gb, 0, none⟩) m2 m2); refine (told_any _ _ _ _ _ _ _).mono ?_; rintro e wn ⟨rfl, hbn⟩; have hch := sk_call (w0 := s43) (by assumption) hbn; (first | (have HBOX : RowKit.Hid (Blk wn s43.heap.size 50 #[.string ⟨#[]⟩, .int .i64 0, .int .i64 0, .slice none 0 0]) := Lib.hid ((Blk.new s43.drew 50 #[.string ⟨#[]⟩, .int .i64 0, .int .i64 0, .slice none 0 0]).below hbn)) | (have HBOX := Lib.hid ((Blk.new _ 50 #[.string ⟨#[]⟩, .int .i64 0, .int .i64 0, .slice none 0 0]).below hbn)) | (replace HBOX := Lib.hid (HBOX.out.below hbn)) | skip); replace HOA := Lib.hid (by first | exact HOA.out.below hbn | exact (HOA.out.below ((Below.refl _ _).alloc (Nat.le_refl _) _)).below hbn))
            | (go_at_call_of 30 (Value.slice (some ⟨gb, 0, none⟩) m2 m2); refine (own_v HV7.out HN7.out _ _ _ (HL9.out.below (And.left (by assumption : SK s43 _)))).mono ?_; rintro e wn ⟨gd, cd, rfl, hcd, hro, hbn⟩; have hch := sk_call (w0 := s43) (by assumption) hbn; (first | (have HBOX : RowKit.Hid (Blk wn s43.heap.size 50 #[.string ⟨#[]⟩, .int .i64 0, .int .i64 0, .slice none 0 0]) := Lib.hid ((Blk.new s43.drew 50 #[.string ⟨#[]⟩, .int .i64 0, .int .i64 0, .slice none 0 0]).below hbn)) | (have HBOX := Lib.hid ((Blk.new _ 50 #[.string ⟨#[]⟩, .int .i64 0, .int .i64 0, .slice none 0 0]).below hbn)) | (replace HBOX := Lib.hid (HBOX.out.below hbn)) | skip); replace HOA := Lib.hid (by first | exact HOA.out.below hbn | exact (HOA.out.below ((Below.refl _ _).alloc (Nat.le_refl _) _)).below hbn); have HOB := Lib.hid hro; clear hro)
            | (go_at_call 42; refine (woven_v HV6.out HV7.out HN6.out HN7.out HHM.out HOR.out HH64.out HWN.out l HN.out HQW.out _ _ _ _ _ hcc hcd (by first | exact HOA.out | exact HOA.out.below ((Below.refl _ _).alloc (Nat.le_refl _) _)) (by first | exact HOB.out | exact HOB.out.below ((Below.refl _ _).alloc (Nat.le_refl _) _))).mono ?_; rintro e wn ⟨gw, rfl, hro, hbn⟩; have hch := sk_call (w0 := s43) (by assumption) hbn; (first | (have HBOX : RowKit.Hid (Blk wn s43.heap.size 50 #[.string ⟨#[]⟩, .int .i64 0, .int .i64 0, .slice none 0 0]) := Lib.hid ((Blk.new s43.drew 50 #[.string ⟨#[]⟩, .int .i64 0, .int .i64 0, .slice none 0 0]).below hbn)) | (have HBOX := Lib.hid ((Blk.new _ 50 #[.string ⟨#[]⟩, .int .i64 0, .int .i64 0, .slice none 0 0]).below hbn)) | (replace HBOX := Lib.hid (HBOX.out.below hbn)) | skip); have HLW := Lib.hid hro; clear hro; (first | (have hbz := HBOX.out; obtain ⟨y0, y1, y2, y3⟩ := box4 hbz; have y4 := hbz.frozen 0; have y5 := hbz.frozen 1; have y6 := hbz.frozen 2; have y7 := hbz.frozen 3; have y8 := hbz.lt; clear hbz) | skip)))
        all_goals
          go_wp2_with fail
          go_meet
          first
            | (have hbz := HBOX.out; exact ⟨_, gw, rfl, rfl, (by first | exact (And.left (by assumption : SK s43 _)).size | exact Nat.le_refl _), blk_set4' hbz (.string nm) (.int .i64 (W : Int)) (.int .i64 (H : Int)) (.slice (some ⟨gw, 0, none⟩) n n), rdl_set4 HLW.out hbz (nf_four rfl rfl rfl rfl) (.string nm) (.int .i64 (W : Int)) (.int .i64 (H : Int)) (.slice (some ⟨gw, 0, none⟩) n n) rfl rfl rfl, below_set4 hch.1 (by first | exact (And.left (by assumption : SK s43 _)).size | exact Nat.le_refl _) (.string nm) (.int .i64 (W : Int)) (.int .i64 (H : Int)) (.slice (some ⟨gw, 0, none⟩) n n)⟩)
            | exact ⟨_, gw, rfl, rfl, hch.1.size, Blk.new _ _ _, HLW.out.below ((Below.refl _ _).alloc (Nat.le_refl _) _), (by assumption : SK s43 _).1⟩
      case rest =>
        obtain ⟨bF8, gw, rfl, rfl, hge8, hx8, hrw, hfin⟩ := hcut
        have HNF8HXP : RowKit.Hid (¬ bP = bF8) := Lib.hid (by have h := HXP.out.lt; omega); have HNF8HXF1 : RowKit.Hid (¬ bF1 = bF8) := Lib.hid (by have h := HXF1.out.lt; omega); have HNF8HXLF : RowKit.Hid (¬ bLF = bF8) := Lib.hid (by have h := HXLF.out.lt; omega)
        replace HR := Lib.hid (HR.out.below hfin); replace HL1 := Lib.hid (HL1.out.below hfin); replace HL8 := Lib.hid (HL8.out.below hfin); replace HL9 := Lib.hid (HL9.out.below hfin)
        replace HXP := Lib.hid (HXP.out.below hfin); replace HXF1 := Lib.hid (HXF1.out.below hfin); replace HXLF := Lib.hid (HXLF.out.below hfin); replace HB := Lib.hid (HB.out.trans (hfin.mono HB.out.size))
        clear hfin
        have HXF8 := Lib.hid hx8; have HLW := Lib.hid hrw; clear hx8 hrw hge8
        obtain ⟨cHXF1_0, cHXF1_1, cHXF1_2, cHXF1_3⟩ := box4 HXF1.out
        go_wp2_with fail
        refine (told_any _ _ _ _ _ _ _).mono ?_
        rintro e s44 ⟨rfl, hb⟩
        replace HR := Lib.hid (HR.out.below hb); replace HL1 := Lib.hid (HL1.out.below hb); replace HL8 := Lib.hid (HL8.out.below hb); replace HL9 := Lib.hid (HL9.out.below hb)
        replace HLW := Lib.hid (HLW.out.below hb); replace HXP := Lib.hid (HXP.out.below hb); replace HXF1 := Lib.hid (HXF1.out.below hb); replace HXLF := Lib.hid (HXLF.out.below hb)
        replace HXF8 := Lib.hid (HXF8.out.below hb); replace HB := Lib.hid (HB.out.trans (hb.mono HB.out.size))
        clear hb
        clear cHXF1_0 cHXF1_1 cHXF1_2 cHXF1_3
        go_wp2_with fail
        refine (own_v HV1.out HN1.out _ _ _ HL1.out).mono ?_
        rintro e s45 ⟨g, c', rfl, hcc, hrd, hb⟩
        replace HR := Lib.hid (HR.out.below hb); replace HL1 := Lib.hid (HL1.out.below hb); replace HL8 := Lib.hid (HL8.out.below hb); replace HL9 := Lib.hid (HL9.out.below hb)
        replace HLW := Lib.hid (HLW.out.below hb); replace HXP := Lib.hid (HXP.out.below hb); replace HXF1 := Lib.hid (HXF1.out.below hb); replace HXLF := Lib.hid (HXLF.out.below hb)
        replace HXF8 := Lib.hid (HXF8.out.below hb); replace HB := Lib.hid (HB.out.trans (hb.mono HB.out.size))
        clear hb
        have HO := Lib.hid hrd; clear hrd
        go_wp2_with fail
        refine (fields_v HV1.out HN1.out _ _ _ HH2.out K1 K2 m1 m2 L8 L9 HKK.out HMM.out HP8.out HP9.out hcc HO.out).mono ?_
        rintro e s46 ⟨gp, gq, rfl, hr1, hr2, hb⟩
        replace HR := Lib.hid (HR.out.below hb); replace HL1 := Lib.hid (HL1.out.below hb); replace HL8 := Lib.hid (HL8.out.below hb); replace HL9 := Lib.hid (HL9.out.below hb)
        replace HLW := Lib.hid (HLW.out.below hb); replace HO := Lib.hid (HO.out.below hb); replace HXP := Lib.hid (HXP.out.below hb); replace HXF1 := Lib.hid (HXF1.out.below hb)
        replace HXLF := Lib.hid (HXLF.out.below hb); replace HXF8 := Lib.hid (HXF8.out.below hb); replace HB := Lib.hid (HB.out.trans (hb.mono HB.out.size))
        clear hb
        have HLP := Lib.hid hr1; clear hr1
        have HLQ := Lib.hid hr2; clear hr2
        clear hcc
        clear HO HLP
        go_upto_region 33 with fail
        have hn := Blk.new s46 67 #[.string nm, .int .i64 (W : Int), .int .i64 (K1 : Int), .slice (some ⟨gp, 0, none⟩) m1 m1, .string nm, .int .i64 (W : Int), .int .i64 (K2 : Int), .slice (some ⟨gq, 0, none⟩) m2 m2]
        have hb : Below s46.heap.size s46 (s46.alloc (.cells #[.string nm, .int .i64 (W : Int), .int .i64 (K1 : Int), .slice (some ⟨gp, 0, none⟩) m1 m1, .string nm, .int .i64 (W : Int), .int .i64 (K2 : Int), .slice (some ⟨gq, 0, none⟩) m2 m2] 67)) := (Below.refl _ _).alloc (Nat.le_refl _) _
        have hge := HB.out.size
        have hlt_HXP := HXP.out.lt
        have hlt_HXF1 := HXF1.out.lt
        have hlt_HXLF := HXLF.out.lt
        have hlt_HXF8 := HXF8.out.lt
        obtain ⟨bGF, hl⟩ : ∃ b, s46.heap.size = b := ⟨_, rfl⟩
        generalize s46.alloc (.cells #[.string nm, .int .i64 (W : Int), .int .i64 (K1 : Int), .slice (some ⟨gp, 0, none⟩) m1 m1, .string nm, .int .i64 (W : Int), .int .i64 (K2 : Int), .slice (some ⟨gq, 0, none⟩) m2 m2] 67) = s47 at hn hb ⊢
        replace HR := Lib.hid (HR.out.below hb); replace HL1 := Lib.hid (HL1.out.below hb); replace HL8 := Lib.hid (HL8.out.below hb); replace HL9 := Lib.hid (HL9.out.below hb)
        replace HLW := Lib.hid (HLW.out.below hb); replace HLQ := Lib.hid (HLQ.out.below hb); replace HXP := Lib.hid (HXP.out.below hb); replace HXF1 := Lib.hid (HXF1.out.below hb)
        replace HXLF := Lib.hid (HXLF.out.below hb); replace HXF8 := Lib.hid (HXF8.out.below hb); replace HB := Lib.hid (HB.out.trans (hb.mono HB.out.size))
        clear hb
        rw [hl] at hn hge hlt_HXP hlt_HXF1 hlt_HXLF hlt_HXF8
        try rw [hl]
        have HXGF := Lib.hid hn; have HGGF := Lib.hid hge; clear hn hl hge
        have HNGFHXP : RowKit.Hid (¬ bP = bGF) := Lib.hid (by omega); have HNGFHXF1 : RowKit.Hid (¬ bF1 = bGF) := Lib.hid (by omega); have HNGFHXLF : RowKit.Hid (¬ bLF = bGF) := Lib.hid (by omega); have HNGFHXF8 : RowKit.Hid (¬ bF8 = bGF) := Lib.hid (by omega)
        clear hlt_HXP hlt_HXF1 hlt_HXLF hlt_HXF8
        clear HXF1 HL1
        obtain ⟨cHXLF_0, cHXLF_1, cHXLF_2, cHXLF_3, cHXLF_4, cHXLF_5, cHXLF_6, cHXLF_7⟩ := box8' HXLF.out
        go_wp2_with fail
        refine (told_any _ _ _ _ _ _ _).mono ?_
        rintro e s48 ⟨rfl, hb⟩
        replace HR := Lib.hid (HR.out.below hb); replace HL8 := Lib.hid (HL8.out.below hb); replace HL9 := Lib.hid (HL9.out.below hb); replace HLW := Lib.hid (HLW.out.below hb)
        replace HLQ := Lib.hid (HLQ.out.below hb); replace HXP := Lib.hid (HXP.out.below hb); replace HXLF := Lib.hid (HXLF.out.below hb); replace HXF8 := Lib.hid (HXF8.out.below hb)
        replace HXGF := Lib.hid (HXGF.out.below hb); replace HB := Lib.hid (HB.out.trans (hb.mono HB.out.size))
        clear hb
        clear cHXLF_0 cHXLF_1 cHXLF_2 cHXLF_3 cHXLF_4 cHXLF_5 cHXLF_6 cHXLF_7
        go_wp2_with fail
        refine (own_v HV7.out HN7.out _ _ _ HL9.out).mono ?_
        rintro e s49 ⟨g, c', rfl, hcc, hrd, hb⟩
        replace HR := Lib.hid (HR.out.below hb); replace HL8 := Lib.hid (HL8.out.below hb); replace HL9 := Lib.hid (HL9.out.below hb); replace HLW := Lib.hid (HLW.out.below hb)
        replace HLQ := Lib.hid (HLQ.out.below hb); replace HXP := Lib.hid (HXP.out.below hb); replace HXLF := Lib.hid (HXLF.out.below hb); replace HXF8 := Lib.hid (HXF8.out.below hb)
        replace HXGF := Lib.hid (HXGF.out.below hb); replace HB := Lib.hid (HB.out.trans (hb.mono HB.out.size))
        clear hb
        have HO := Lib.hid hrd; clear hrd
        go_wp2_with fail
        refine (flip_v HV7.out HN7.out _ _ _ L9 HQ9.out hcc HO.out).mono ?_
        rintro e s50 ⟨gh, rfl, hr1, hb⟩
        replace HR := Lib.hid (HR.out.below hb); replace HL8 := Lib.hid (HL8.out.below hb); replace HL9 := Lib.hid (HL9.out.below hb); replace HLW := Lib.hid (HLW.out.below hb)
        replace HLQ := Lib.hid (HLQ.out.below hb); replace HO := Lib.hid (HO.out.below hb); replace HXP := Lib.hid (HXP.out.below hb); replace HXLF := Lib.hid (HXLF.out.below hb)
        replace HXF8 := Lib.hid (HXF8.out.below hb); replace HXGF := Lib.hid (HXGF.out.below hb); replace HB := Lib.hid (HB.out.trans (hb.mono HB.out.size))
        clear hb
        have HLH := Lib.hid hr1; clear hr1
        clear hcc
        clear HO
        go_upto_region 34 with fail
        have hn := Blk.new s50 50 #[.string nm, .int .i64 (W : Int), .int .i64 (K2 : Int), .slice (some ⟨gh, 0, none⟩) m2 m2]
        have hb : Below s50.heap.size s50 (s50.alloc (.cells #[.string nm, .int .i64 (W : Int), .int .i64 (K2 : Int), .slice (some ⟨gh, 0, none⟩) m2 m2] 50)) := (Below.refl _ _).alloc (Nat.le_refl _) _
        have hge := HB.out.size
        have hlt_HXP := HXP.out.lt
        have hlt_HXLF := HXLF.out.lt
        have hlt_HXF8 := HXF8.out.lt
        have hlt_HXGF := HXGF.out.lt
        obtain ⟨bF9, hl⟩ : ∃ b, s50.heap.size = b := ⟨_, rfl⟩
        generalize s50.alloc (.cells #[.string nm, .int .i64 (W : Int), .int .i64 (K2 : Int), .slice (some ⟨gh, 0, none⟩) m2 m2] 50) = s51 at hn hb ⊢
        replace HR := Lib.hid (HR.out.below hb); replace HL8 := Lib.hid (HL8.out.below hb); replace HL9 := Lib.hid (HL9.out.below hb); replace HLW := Lib.hid (HLW.out.below hb)
        replace HLQ := Lib.hid (HLQ.out.below hb); replace HLH := Lib.hid (HLH.out.below hb); replace HXP := Lib.hid (HXP.out.below hb); replace HXLF := Lib.hid (HXLF.out.below hb)
        replace HXF8 := Lib.hid (HXF8.out.below hb); replace HXGF := Lib.hid (HXGF.out.below hb); replace HB := Lib.hid (HB.out.trans (hb.mono HB.out.size))
        clear hb
        rw [hl] at hn hge hlt_HXP hlt_HXLF hlt_HXF8 hlt_HXGF
        try rw [hl]
        have HXF9 := Lib.hid hn; have HGF9 := Lib.hid hge; clear hn hl hge
        have HNF9HXP : RowKit.Hid (¬ bP = bF9) := Lib.hid (by omega); have HNF9HXLF : RowKit.Hid (¬ bLF = bF9) := Lib.hid (by omega); have HNF9HXF8 : RowKit.Hid (¬ bF8 = bF9) := Lib.hid (by omega); have HNF9HXGF : RowKit.Hid (¬ bGF = bF9) := Lib.hid (by omega)
        clear hlt_HXP hlt_HXLF hlt_HXF8 hlt_HXGF
        obtain ⟨cHXF8_0, cHXF8_1, cHXF8_2, cHXF8_3⟩ := box4 HXF8.out
        obtain ⟨cHXP_0, cHXP_1, cHXP_2, cHXP_3⟩ := box4 HXP.out
        obtain ⟨cHXGF_0, cHXGF_1, cHXGF_2, cHXGF_3, cHXGF_4, cHXGF_5, cHXGF_6, cHXGF_7⟩ := box8' HXGF.out
        obtain ⟨cHXF9_0, cHXF9_1, cHXF9_2, cHXF9_3⟩ := box4 HXF9.out
        have zP := HXP.out.lt; have z3 := HXF8.out.lt; have z4 := HXGF.out.lt; have z5 := HXF9.out.lt
        go_region_held3 (SK s51)
          (first | exact sk_drew0 _ | exact sk_drew (by assumption) | assumption | exact sk_call (by assumption) (by assumption) | exact sk_alloc (by assumption) _)
          (first
            | (go_at_call 87; refine (told_any _ _ _ _ _ _ _).mono ?_; rintro e wn ⟨rfl, hbn⟩; have hch := sk_call (w0 := s51) (by assumption) hbn)
            | (go_at_call_of 88 (Value.slice (some ⟨gw, 0, none⟩) n n); refine (samePicture_true nm W H _ _ n _ _ l l _ HN.out HN.out HN0.out HSAME.out (HLW.out.below (And.left (by assumption : SK s51 _))) (HR.out.below (And.left (by assumption : SK s51 _)))).mono ?_; rintro e wn ⟨rfl, hbn⟩; have hch := sk_call (w0 := s51) (by assumption) hbn)
            | (go_at_call_of 88 (Value.slice (some ⟨gq, 0, none⟩) m2 m2); refine (samePicture_true nm W K2 _ _ m2 _ _ L9 L9 _ HN9.out HN9.out HNM2.out HS9.out (HLQ.out.below (And.left (by assumption : SK s51 _))) (HLH.out.below (And.left (by assumption : SK s51 _)))).mono ?_; rintro e wn ⟨rfl, hbn⟩; have hch := sk_call (w0 := s51) (by assumption) hbn))
        have hfin := hch.1
        clear hch hbn zP z3 z4 z5
        clear cHXF8_0 cHXF8_1 cHXF8_2 cHXF8_3 cHXP_0 cHXP_1 cHXP_2 cHXP_3 cHXGF_0 cHXGF_1 cHXGF_2 cHXGF_3 cHXGF_4 cHXGF_5 cHXGF_6 cHXGF_7 cHXF9_0 cHXF9_1 cHXF9_2 cHXF9_3
        replace HR := Lib.hid (HR.out.below hfin); replace HL8 := Lib.hid (HL8.out.below hfin); replace HL9 := Lib.hid (HL9.out.below hfin); replace HLW := Lib.hid (HLW.out.below hfin)
        replace HLQ := Lib.hid (HLQ.out.below hfin); replace HLH := Lib.hid (HLH.out.below hfin); replace HXP := Lib.hid (HXP.out.below hfin); replace HXLF := Lib.hid (HXLF.out.below hfin)
        replace HXF8 := Lib.hid (HXF8.out.below hfin); replace HXGF := Lib.hid (HXGF.out.below hfin); replace HXF9 := Lib.hid (HXF9.out.below hfin); replace HB := Lib.hid (HB.out.trans (hfin.mono HB.out.size))
        clear hfin
        clear HXF8 HLW HXGF HLQ HXF9 HLH
        go_upto_region 36 with fail
        obtain ⟨v0, hv0⟩ : ∃ s, wn = s := ⟨_, rfl⟩
        rw [hv0] at HR HL8 HL9 HXP HXLF HB ⊢
        clear hv0
        go_cut [35, 36] from 270 to 284 (fun p e wx => ∃ b gl, p = .pointer (some ⟨b, 0, none⟩) ∧ e = .int .i64 0 ∧ v0.heap.size ≤ b ∧ Blk wx b 50 #[.string nm, .int .i64 (W : Int), .int .i64 ((1 : Nat) : Int), .slice (some ⟨gl, 0, none⟩) W W] ∧ Rd wx (some ⟨gl, 0, none⟩) (fl LL) ∧ Below v0.heap.size v0 wx)
        case first =>
          obtain ⟨cHXP_0, cHXP_1, cHXP_2, cHXP_3⟩ := box4 HXP.out
          have zP := HXP.out.lt
          have hw1 : IntKind.i64.wrap ((H : Int) - 1) = (H : Int) - 1 := IntWalk.i64_in _ (by have h1 := HHH.out; have h2 := HH64.out; omega)
          go_region_held3 (SK v0)
            (first | exact sk_drew0 _ | exact sk_drew (by assumption) | assumption | exact sk_call (by assumption) (by assumption) | exact sk_alloc (by assumption) _ | exact sk_set4 (by assumption) (by first | exact (And.left (by assumption : SK v0 _)).size | exact Nat.le_refl _) _ _ _ _)
            (first
              | (go_at_call 30; refine (own_v HV.out HN.out _ _ _ (HR.out.below (And.left (by assumption : SK v0 _)))).mono ?_; rintro e wm ⟨gc, cc, rfl, hcc, hro, hbn⟩; have hch := sk_call (w0 := v0) (by assumption) hbn; (first | (have HBOX : RowKit.Hid (Blk wm v0.heap.size 50 #[.string ⟨#[]⟩, .int .i64 0, .int .i64 0, .slice none 0 0]) := Lib.hid ((Blk.new v0.drew 50 #[.string ⟨#[]⟩, .int .i64 0, .int .i64 0, .slice none 0 0]).below hbn)) | (have HBOX := Lib.hid ((Blk.new _ 50 #[.string ⟨#[]⟩, .int .i64 0, .int .i64 0, .slice none 0 0]).below hbn)) | (replace HBOX := Lib.hid (HBOX.out.below hbn)) | skip); have HOA := Lib.hid hro; clear hro)
              | (go_at_call 31; refine (last_v HV.out HN.out _ _ _ LL HPL.out hcc (by first | exact HOA.out | exact HOA.out.below ((Below.refl _ _).alloc (Nat.le_refl _) _))).mono ?_; rintro e wm ⟨gl, rfl, hro, hbn⟩; have hch := sk_call (w0 := v0) (by assumption) hbn; (first | (have HBOX : RowKit.Hid (Blk wm v0.heap.size 50 #[.string ⟨#[]⟩, .int .i64 0, .int .i64 0, .slice none 0 0]) := Lib.hid ((Blk.new v0.drew 50 #[.string ⟨#[]⟩, .int .i64 0, .int .i64 0, .slice none 0 0]).below hbn)) | (have HBOX := Lib.hid ((Blk.new _ 50 #[.string ⟨#[]⟩, .int .i64 0, .int .i64 0, .slice none 0 0]).below hbn)) | (replace HBOX := Lib.hid (HBOX.out.below hbn)) | skip); have HLL := Lib.hid hro; clear hro; (first | (have hbz := HBOX.out; obtain ⟨y0, y1, y2, y3⟩ := box4 hbz; have y4 := hbz.frozen 0; have y5 := hbz.frozen 1; have y6 := hbz.frozen 2; have y7 := hbz.frozen 3; have y8 := hbz.lt; clear hbz) | skip)))
          all_goals
            go_wp2_with fail
            go_meet
            first
              | (have hbz := HBOX.out; exact ⟨_, gl, rfl, rfl, (by first | exact (And.left (by assumption : SK v0 _)).size | exact Nat.le_refl _), blk_set4' hbz (.string nm) (.int .i64 (W : Int)) (.int .i64 ((1 : Nat) : Int)) (.slice (some ⟨gl, 0, none⟩) W W), rdl_set4 HLL.out hbz (nf_four rfl rfl rfl rfl) (.string nm) (.int .i64 (W : Int)) (.int .i64 ((1 : Nat) : Int)) (.slice (some ⟨gl, 0, none⟩) W W) rfl rfl rfl, below_set4 hch.1 (by first | exact (And.left (by assumption : SK v0 _)).size | exact Nat.le_refl _) (.string nm) (.int .i64 (W : Int)) (.int .i64 ((1 : Nat) : Int)) (.slice (some ⟨gl, 0, none⟩) W W)⟩)
              | exact ⟨_, gl, rfl, rfl, hch.1.size, Blk.new _ _ _, HLL.out.below ((Below.refl _ _).alloc (Nat.le_refl _) _), (by assumption : SK v0 _).1⟩
        case rest =>
          obtain ⟨bC, gl, rfl, rfl, hge8, hx8, hrw, hfin⟩ := hcut
          replace HR := Lib.hid (HR.out.below hfin); replace HL8 := Lib.hid (HL8.out.below hfin); replace HL9 := Lib.hid (HL9.out.below hfin); replace HXP := Lib.hid (HXP.out.below hfin)
          replace HXLF := Lib.hid (HXLF.out.below hfin); replace HB := Lib.hid (HB.out.trans (hfin.mono HB.out.size))
          clear hfin
          have HXC := Lib.hid hx8; have HLL := Lib.hid hrw; clear hx8 hrw hge8
          rcases (show (H - 1) % 2 = 0 ∨ (H - 1) % 2 = 1 by omega) with hpar | hpar
          · skip
            have hmod : Int.tmod ((H : Int) - 1) 2 = 0 := by have h2 := HHH.out; rw [Int.tmod_eq_emod_of_nonneg (by omega)]; omega
            obtain ⟨cHXLF_0, cHXLF_1, cHXLF_2, cHXLF_3, cHXLF_4, cHXLF_5, cHXLF_6, cHXLF_7⟩ := box8' HXLF.out
            obtain ⟨cHXP_0, cHXP_1, cHXP_2, cHXP_3⟩ := box4 HXP.out
            go_upto_region 38 with fail
            clear cHXLF_0 cHXLF_1 cHXLF_2 cHXLF_3 cHXLF_4 cHXLF_5 cHXLF_6 cHXLF_7 cHXP_0 cHXP_1 cHXP_2 cHXP_3
            have hn := Blk.new wc 50 #[.string nm, .int .i64 (W : Int), .int .i64 (K1 : Int), .slice (some ⟨ga, 0, none⟩) m1 m1]
            have hb : Below wc.heap.size wc (wc.alloc (.cells #[.string nm, .int .i64 (W : Int), .int .i64 (K1 : Int), .slice (some ⟨ga, 0, none⟩) m1 m1] 50)) := (Below.refl _ _).alloc (Nat.le_refl _) _
            have hge := HB.out.size
            have hlt_HXP := HXP.out.lt
            have hlt_HXLF := HXLF.out.lt
            have hlt_HXC := HXC.out.lt
            obtain ⟨bZ, hl⟩ : ∃ b, wc.heap.size = b := ⟨_, rfl⟩
            generalize wc.alloc (.cells #[.string nm, .int .i64 (W : Int), .int .i64 (K1 : Int), .slice (some ⟨ga, 0, none⟩) m1 m1] 50) = s52 at hn hb ⊢
            replace HR := Lib.hid (HR.out.below hb); replace HL8 := Lib.hid (HL8.out.below hb); replace HL9 := Lib.hid (HL9.out.below hb); replace HLL := Lib.hid (HLL.out.below hb)
            replace HXP := Lib.hid (HXP.out.below hb); replace HXLF := Lib.hid (HXLF.out.below hb); replace HXC := Lib.hid (HXC.out.below hb); replace HB := Lib.hid (HB.out.trans (hb.mono HB.out.size))
            clear hb
            rw [hl] at hn hge hlt_HXP hlt_HXLF hlt_HXC
            try rw [hl]
            have HXZ := Lib.hid hn; have HGZ := Lib.hid hge; clear hn hl hge
            have HNZHXP : RowKit.Hid (¬ bP = bZ) := Lib.hid (by omega); have HNZHXLF : RowKit.Hid (¬ bLF = bZ) := Lib.hid (by omega); have HNZHXC : RowKit.Hid (¬ bC = bZ) := Lib.hid (by omega)
            clear hlt_HXP hlt_HXLF hlt_HXC
            obtain ⟨q, hq⟩ : ∃ q, m1 - W = q := ⟨_, rfl⟩
            have hmm1 := hm4.1; have hmm2 := hm4.2
            have hqi : (m1 : Int) - (W : Int) = (q : Int) := by omega
            have hqn : m1 - q = W := by omega
            have HLZ := Lib.hid (rd_from (q := q) HL8.out (by rw [← hq]; exact HT0.out hpar))
            obtain ⟨cHXC_0, cHXC_1, cHXC_2, cHXC_3⟩ := box4 HXC.out
            obtain ⟨cHXZ_0, cHXZ_1, cHXZ_2, cHXZ_3⟩ := box4 HXZ.out
            obtain ⟨cHXP_0, cHXP_1, cHXP_2, cHXP_3⟩ := box4 HXP.out
            have zC := HXC.out.lt; have zZ := HXZ.out.lt; have zP := HXP.out.lt
            have hWm : (W : Int) ≤ (m1 : Int) := by omega
            refine wp_region_facts [Fact.is (.int .i64 (0)), Fact.is (.bool true), Fact.is (.bool true), Fact.is (.pointer (some ⟨bZ, 3, none⟩)), Fact.is (.slice (some ⟨ga, 0, none⟩) m1 m1), Fact.is (.int .i64 (m1 : Int)), Fact.is (.pointer (some ⟨bP, 1, none⟩)), Fact.is (.int .i64 (W : Int)), Fact.is (.bool true), Fact.is (.bool true), Fact.is (.bool true), Fact.is (.pointer (some ⟨bC, 3, none⟩)), Fact.is (.slice (some ⟨gl, 0, none⟩) W W), Fact.is (.pointer (some ⟨bZ, 3, none⟩)), Fact.is (.slice (some ⟨ga, 0, none⟩) m1 m1), Fact.is (.pointer (some ⟨bZ, 3, none⟩)), Fact.is (.slice (some ⟨ga, 0, none⟩) m1 m1), Fact.is (.int .i64 (m1 : Int)), Fact.is (.pointer (some ⟨bP, 1, none⟩)), Fact.is (.int .i64 (W : Int)), Fact.is (.int .i64 (q : Int)), Fact.is (.slice (some ⟨ga, q, none⟩) W W), Fact.is (.bool true), Fact.is (.bool true), Fact.is (.bool true), Fact.is (.bool true), Fact.is (.bool true), Fact.is (.bool true)] [[], [0], [1], [2], [2, 3], [2, 4], [2], [2, 6], [2, 5, 7], [2, 8], [9], [10], [10, 11], [10], [10, 13], [10], [10, 15], [10, 16], [10], [10, 18], [10, 17, 19], [10, 14, 20], [10, 12, 21], [10, 22], [23], [24], [24, 25], [26]] [(some 291, 0), (some 292, 1), (some 293, 2), (some 294, 3), (some 295, 4), (some 296, 5), (some 297, 6), (some 298, 7), (some 299, 8), (some 300, 9), (some 301, 10), (some 302, 11), (some 303, 12), (some 304, 13), (some 305, 14), (some 306, 15), (some 307, 16), (some 308, 17), (some 309, 18), (some 310, 19), (some 311, 20), (some 312, 21), (some 313, 22), (some 314, 23), (some 315, 24), (some 316, 25), (some 317, 26), (some 2, 27)] (by kernel_rfl) (by kernel_rfl) (by kernel_rfl) (by kernel_rfl) (fun _ _ _ _ e h => by have h1 : _ ∧ _ := h; exact ⟨e ▸ h1.1, h1.2⟩) ?hstep ?hend
            case hstep =>
              intro i hi
              match i, hi with
              | 0, _ =>
                intro v w' hR hd
                change SpecOp _ _ _ _ 0 (canon _ v _ []) w' _
                simp only [canon_nil]
                refine spec_of rfl (fun KK hK => ?_)
                go_simp
                exact hK.out _ _ (Below.refl _ _) rfl
              | 1, _ =>
                intro v w' hR hd
                have e0 : v 0 = .int .i64 (0) := hd 0 (by decide)
                change SpecOp _ _ _ _ 1 (Act.put (canon _ v _ []) (some 291) (v 0)) w' _
                rw [e0]
                simp only [canon_nil, Act.put, List.setIfInBounds_toArray, List.set_cons_zero, List.set_cons_succ]
                refine spec_of rfl (fun KK hK => ?_)
                go_simp
                exact hK.out _ _ (Below.refl _ _) rfl
              | 2, _ =>
                intro v w' hR hd
                have e1 : v 1 = .bool true := hd 1 (by decide)
                change SpecOp _ _ _ _ 2 (Act.put (canon _ v _ []) (some 292) (v 1)) w' _
                rw [e1]
                simp only [canon_nil, Act.put, List.setIfInBounds_toArray, List.set_cons_zero, List.set_cons_succ]
                refine spec_of rfl (fun KK hK => ?_)
                go_simp
                exact hK.out _ _ (Below.refl _ _) rfl
              | 3, _ =>
                intro v w' hR hd
                have e2 : v 2 = .bool true := hd 2 (by decide)
                change SpecOp _ _ _ _ 3 (Act.put (canon _ v _ []) (some 293) (v 2)) w' _
                rw [e2]
                simp only [canon_nil, Act.put, List.setIfInBounds_toArray, List.set_cons_zero, List.set_cons_succ]
                refine spec_of rfl (fun KK hK => ?_)
                go_simp
                exact hK.out _ _ (Below.refl _ _) rfl
              | 4, _ =>
                intro v w' hR hd
                have e2 : v 2 = .bool true := hd 2 (by decide)
                have e3 : v 3 = .pointer (some ⟨bZ, 3, none⟩) := hd 3 (by decide)
                change SpecOp _ _ _ _ 4 (Act.put (Act.put (canon _ v _ []) (some 294) (v 3)) (some 293) (v 2)) w' _
                rw [e2, e3]
                simp only [canon_nil, Act.put, List.setIfInBounds_toArray, List.set_cons_zero, List.set_cons_succ]
                have q0 := (hR.cell (p := ⟨bZ, 3, none⟩) zZ).trans cHXZ_3
                refine spec_of rfl (fun KK hK => ?_)
                go_simp
                exact hK.out _ _ (Below.refl _ _) rfl
              | 5, _ =>
                intro v w' hR hd
                have e2 : v 2 = .bool true := hd 2 (by decide)
                have e4 : v 4 = .slice (some ⟨ga, 0, none⟩) m1 m1 := hd 4 (by decide)
                change SpecOp _ _ _ _ 5 (Act.put (Act.put (canon _ v _ []) (some 295) (v 4)) (some 293) (v 2)) w' _
                rw [e2, e4]
                simp only [canon_nil, Act.put, List.setIfInBounds_toArray, List.set_cons_zero, List.set_cons_succ]
                refine spec_of rfl (fun KK hK => ?_)
                go_simp
                exact hK.out _ _ (Below.refl _ _) rfl
              | 6, _ =>
                intro v w' hR hd
                have e2 : v 2 = .bool true := hd 2 (by decide)
                change SpecOp _ _ _ _ 6 (Act.put (canon _ v _ []) (some 293) (v 2)) w' _
                rw [e2]
                simp only [canon_nil, Act.put, List.setIfInBounds_toArray, List.set_cons_zero, List.set_cons_succ]
                refine spec_of rfl (fun KK hK => ?_)
                go_simp
                exact hK.out _ _ (Below.refl _ _) rfl
              | 7, _ =>
                intro v w' hR hd
                have e2 : v 2 = .bool true := hd 2 (by decide)
                have e6 : v 6 = .pointer (some ⟨bP, 1, none⟩) := hd 6 (by decide)
                change SpecOp _ _ _ _ 7 (Act.put (Act.put (canon _ v _ []) (some 297) (v 6)) (some 293) (v 2)) w' _
                rw [e2, e6]
                simp only [canon_nil, Act.put, List.setIfInBounds_toArray, List.set_cons_zero, List.set_cons_succ]
                have q0 := (hR.cell (p := ⟨bP, 1, none⟩) zP).trans cHXP_1
                refine spec_of rfl (fun KK hK => ?_)
                go_simp
                exact hK.out _ _ (Below.refl _ _) rfl
              | 8, _ =>
                intro v w' hR hd
                have e2 : v 2 = .bool true := hd 2 (by decide)
                have e5 : v 5 = .int .i64 (m1 : Int) := hd 5 (by decide)
                have e7 : v 7 = .int .i64 (W : Int) := hd 7 (by decide)
                change SpecOp _ _ _ _ 8 (Act.put (Act.put (Act.put (canon _ v _ []) (some 298) (v 7)) (some 296) (v 5)) (some 293) (v 2)) w' _
                rw [e2, e5, e7]
                simp only [canon_nil, Act.put, List.setIfInBounds_toArray, List.set_cons_zero, List.set_cons_succ]
                refine spec_of rfl (fun KK hK => ?_)
                go_simp
                exact hK.out _ _ (Below.refl _ _) (by first | rfl | exact congrArg Value.bool (decide_eq_true hWm) | (simp; omega))
              | 9, _ =>
                intro v w' hR hd
                have e2 : v 2 = .bool true := hd 2 (by decide)
                have e8 : v 8 = .bool true := hd 8 (by decide)
                change SpecOp _ _ _ _ 9 (Act.put (Act.put (canon _ v _ []) (some 299) (v 8)) (some 293) (v 2)) w' _
                rw [e2, e8]
                simp only [canon_nil, Act.put, List.setIfInBounds_toArray, List.set_cons_zero, List.set_cons_succ]
                refine spec_of rfl (fun KK hK => ?_)
                go_simp
                exact hK.out _ _ (Below.refl _ _) rfl
              | 10, _ =>
                intro v w' hR hd
                have e9 : v 9 = .bool true := hd 9 (by decide)
                change SpecOp _ _ _ _ 10 (Act.put (canon _ v _ []) (some 300) (v 9)) w' _
                rw [e9]
                simp only [canon_nil, Act.put, List.setIfInBounds_toArray, List.set_cons_zero, List.set_cons_succ]
                refine spec_of rfl (fun KK hK => ?_)
                go_simp
                exact hK.out _ _ (Below.refl _ _) rfl
              | 11, _ =>
                intro v w' hR hd
                have e10 : v 10 = .bool true := hd 10 (by decide)
                change SpecOp _ _ _ _ 11 (Act.put (canon _ v _ []) (some 301) (v 10)) w' _
                rw [e10]
                simp only [canon_nil, Act.put, List.setIfInBounds_toArray, List.set_cons_zero, List.set_cons_succ]
                refine spec_of rfl (fun KK hK => ?_)
                go_simp
                exact hK.out _ _ (Below.refl _ _) rfl
              | 12, _ =>
                intro v w' hR hd
                have e10 : v 10 = .bool true := hd 10 (by decide)
                have e11 : v 11 = .pointer (some ⟨bC, 3, none⟩) := hd 11 (by decide)
                change SpecOp _ _ _ _ 12 (Act.put (Act.put (canon _ v _ []) (some 302) (v 11)) (some 301) (v 10)) w' _
                rw [e10, e11]
                simp only [canon_nil, Act.put, List.setIfInBounds_toArray, List.set_cons_zero, List.set_cons_succ]
                have q0 := (hR.cell (p := ⟨bC, 3, none⟩) zC).trans cHXC_3
                refine spec_of rfl (fun KK hK => ?_)
                go_simp
                exact hK.out _ _ (Below.refl _ _) rfl
              | 13, _ =>
                intro v w' hR hd
                have e10 : v 10 = .bool true := hd 10 (by decide)
                change SpecOp _ _ _ _ 13 (Act.put (canon _ v _ []) (some 301) (v 10)) w' _
                rw [e10]
                simp only [canon_nil, Act.put, List.setIfInBounds_toArray, List.set_cons_zero, List.set_cons_succ]
                refine spec_of rfl (fun KK hK => ?_)
                go_simp
                exact hK.out _ _ (Below.refl _ _) rfl
              | 14, _ =>
                intro v w' hR hd
                have e10 : v 10 = .bool true := hd 10 (by decide)
                have e13 : v 13 = .pointer (some ⟨bZ, 3, none⟩) := hd 13 (by decide)
                change SpecOp _ _ _ _ 14 (Act.put (Act.put (canon _ v _ []) (some 304) (v 13)) (some 301) (v 10)) w' _
                rw [e10, e13]
                simp only [canon_nil, Act.put, List.setIfInBounds_toArray, List.set_cons_zero, List.set_cons_succ]
                have q0 := (hR.cell (p := ⟨bZ, 3, none⟩) zZ).trans cHXZ_3
                refine spec_of rfl (fun KK hK => ?_)
                go_simp
                exact hK.out _ _ (Below.refl _ _) rfl
              | 15, _ =>
                intro v w' hR hd
                have e10 : v 10 = .bool true := hd 10 (by decide)
                change SpecOp _ _ _ _ 15 (Act.put (canon _ v _ []) (some 301) (v 10)) w' _
                rw [e10]
                simp only [canon_nil, Act.put, List.setIfInBounds_toArray, List.set_cons_zero, List.set_cons_succ]
                refine spec_of rfl (fun KK hK => ?_)
                go_simp
                exact hK.out _ _ (Below.refl _ _) rfl
              | 16, _ =>
                intro v w' hR hd
                have e10 : v 10 = .bool true := hd 10 (by decide)
                have e15 : v 15 = .pointer (some ⟨bZ, 3, none⟩) := hd 15 (by decide)
                change SpecOp _ _ _ _ 16 (Act.put (Act.put (canon _ v _ []) (some 306) (v 15)) (some 301) (v 10)) w' _
                rw [e10, e15]
                simp only [canon_nil, Act.put, List.setIfInBounds_toArray, List.set_cons_zero, List.set_cons_succ]
                have q0 := (hR.cell (p := ⟨bZ, 3, none⟩) zZ).trans cHXZ_3
                refine spec_of rfl (fun KK hK => ?_)
                go_simp
                exact hK.out _ _ (Below.refl _ _) rfl
              | 17, _ =>
                intro v w' hR hd
                have e10 : v 10 = .bool true := hd 10 (by decide)
                have e16 : v 16 = .slice (some ⟨ga, 0, none⟩) m1 m1 := hd 16 (by decide)
                change SpecOp _ _ _ _ 17 (Act.put (Act.put (canon _ v _ []) (some 307) (v 16)) (some 301) (v 10)) w' _
                rw [e10, e16]
                simp only [canon_nil, Act.put, List.setIfInBounds_toArray, List.set_cons_zero, List.set_cons_succ]
                refine spec_of rfl (fun KK hK => ?_)
                go_simp
                exact hK.out _ _ (Below.refl _ _) rfl
              | 18, _ =>
                intro v w' hR hd
                have e10 : v 10 = .bool true := hd 10 (by decide)
                change SpecOp _ _ _ _ 18 (Act.put (canon _ v _ []) (some 301) (v 10)) w' _
                rw [e10]
                simp only [canon_nil, Act.put, List.setIfInBounds_toArray, List.set_cons_zero, List.set_cons_succ]
                refine spec_of rfl (fun KK hK => ?_)
                go_simp
                exact hK.out _ _ (Below.refl _ _) rfl
              | 19, _ =>
                intro v w' hR hd
                have e10 : v 10 = .bool true := hd 10 (by decide)
                have e18 : v 18 = .pointer (some ⟨bP, 1, none⟩) := hd 18 (by decide)
                change SpecOp _ _ _ _ 19 (Act.put (Act.put (canon _ v _ []) (some 309) (v 18)) (some 301) (v 10)) w' _
                rw [e10, e18]
                simp only [canon_nil, Act.put, List.setIfInBounds_toArray, List.set_cons_zero, List.set_cons_succ]
                have q0 := (hR.cell (p := ⟨bP, 1, none⟩) zP).trans cHXP_1
                refine spec_of rfl (fun KK hK => ?_)
                go_simp
                exact hK.out _ _ (Below.refl _ _) rfl
              | 20, _ =>
                intro v w' hR hd
                have e10 : v 10 = .bool true := hd 10 (by decide)
                have e17 : v 17 = .int .i64 (m1 : Int) := hd 17 (by decide)
                have e19 : v 19 = .int .i64 (W : Int) := hd 19 (by decide)
                change SpecOp _ _ _ _ 20 (Act.put (Act.put (Act.put (canon _ v _ []) (some 310) (v 19)) (some 308) (v 17)) (some 301) (v 10)) w' _
                rw [e10, e17, e19]
                simp only [canon_nil, Act.put, List.setIfInBounds_toArray, List.set_cons_zero, List.set_cons_succ]
                refine spec_of rfl (fun KK hK => ?_)
                go_simp
                exact hK.out _ _ (Below.refl _ _) (congrArg (Value.int .i64) (by first | exact hqi | exact IntWalk.i64_in _ (by omega) | (rw [IntWalk.i64_in _ (by omega)]; first | exact hqi | rfl | omega)))
              | 21, _ =>
                intro v w' hR hd
                have e10 : v 10 = .bool true := hd 10 (by decide)
                have e14 : v 14 = .slice (some ⟨ga, 0, none⟩) m1 m1 := hd 14 (by decide)
                have e20 : v 20 = .int .i64 (q : Int) := hd 20 (by decide)
                change SpecOp _ _ _ _ 21 (Act.put (Act.put (Act.put (canon _ v _ []) (some 311) (v 20)) (some 305) (v 14)) (some 301) (v 10)) w' _
                rw [e10, e14, e20]
                simp only [canon_nil, Act.put, List.setIfInBounds_toArray, List.set_cons_zero, List.set_cons_succ]
                have hq0 : (0 : Int) ≤ (q : Int) := by omega
                have hqm : (q : Int) ≤ (m1 : Int) := by omega
                have hqne : ¬ m1 = q := by omega
                refine spec_of rfl (fun KK hK => ?_)
                go_simp
                exact hK.out _ _ (Below.refl _ _) (by first | rfl | (rw [hqn]; first | rfl | (rw [add_start]; rfl)) | (simp [add_start, hqn]))
              | 22, _ =>
                intro v w' hR hd
                have e10 : v 10 = .bool true := hd 10 (by decide)
                have e12 : v 12 = .slice (some ⟨gl, 0, none⟩) W W := hd 12 (by decide)
                have e21 : v 21 = .slice (some ⟨ga, q, none⟩) W W := hd 21 (by decide)
                change SpecOp _ _ _ _ 22 (Act.put (Act.put (Act.put (canon _ v _ []) (some 312) (v 21)) (some 303) (v 12)) (some 301) (v 10)) w' _
                rw [e10, e12, e21]
                simp only [canon_nil, Act.put, List.setIfInBounds_toArray, List.set_cons_zero, List.set_cons_succ]
                refine spec_of rfl (fun KK hK => ?_)
                go_simp
                refine (samesam W LL HNL.out HSL.out _ _ _ _ _ (HLL.out.below hR) (HLZ.out.below hR)).mono ?_
                rintro e wm ⟨rfl, hbn⟩
                exact hK.out _ _ hbn rfl
              | 23, _ =>
                intro v w' hR hd
                have e10 : v 10 = .bool true := hd 10 (by decide)
                have e22 : v 22 = .bool true := hd 22 (by decide)
                change SpecOp _ _ _ _ 23 (Act.put (Act.put (canon _ v _ []) (some 313) (v 22)) (some 301) (v 10)) w' _
                rw [e10, e22]
                simp only [canon_nil, Act.put, List.setIfInBounds_toArray, List.set_cons_zero, List.set_cons_succ]
                refine spec_of rfl (fun KK hK => ?_)
                go_simp
                exact hK.out _ _ (Below.refl _ _) rfl
              | 24, _ =>
                intro v w' hR hd
                have e23 : v 23 = .bool true := hd 23 (by decide)
                change SpecOp _ _ _ _ 24 (Act.put (canon _ v _ []) (some 314) (v 23)) w' _
                rw [e23]
                simp only [canon_nil, Act.put, List.setIfInBounds_toArray, List.set_cons_zero, List.set_cons_succ]
                refine spec_of rfl (fun KK hK => ?_)
                go_simp
                exact hK.out _ _ (Below.refl _ _) rfl
              | 25, _ =>
                intro v w' hR hd
                have e24 : v 24 = .bool true := hd 24 (by decide)
                change SpecOp _ _ _ _ 25 (Act.put (canon _ v _ []) (some 315) (v 24)) w' _
                rw [e24]
                simp only [canon_nil, Act.put, List.setIfInBounds_toArray, List.set_cons_zero, List.set_cons_succ]
                refine spec_of rfl (fun KK hK => ?_)
                go_simp
                refine (awake_laid _ (HL.out.below (HB.out.trans (hR.mono HB.out.size)))).mono ?_
                rintro e wm ⟨rfl, hbn⟩
                exact hK.out _ _ hbn rfl
              | 26, _ =>
                intro v w' hR hd
                have e24 : v 24 = .bool true := hd 24 (by decide)
                have e25 : v 25 = .bool true := hd 25 (by decide)
                change SpecOp _ _ _ _ 26 (Act.put (Act.put (canon _ v _ []) (some 316) (v 25)) (some 315) (v 24)) w' _
                rw [e24, e25]
                simp only [canon_nil, Act.put, List.setIfInBounds_toArray, List.set_cons_zero, List.set_cons_succ]
                refine spec_of rfl (fun KK hK => ?_)
                go_simp
                exact hK.out _ _ (Below.refl _ _) rfl
              | 27, _ =>
                intro v w' hR hd
                have e26 : v 26 = .bool true := hd 26 (by decide)
                change SpecOp _ _ _ _ 27 (Act.put (canon _ v _ []) (some 317) (v 26)) w' _
                rw [e26]
                simp only [canon_nil, Act.put, List.setIfInBounds_toArray, List.set_cons_zero, List.set_cons_succ]
                refine spec_of rfl (fun KK hK => ?_)
                go_simp
                exact hK.out _ _ (Below.refl _ _) rfl
              | i + 28, h => exact absurd h (Nat.not_lt.2 (Nat.le_add_left 28 i))
            case hend =>
              intro v w' hR hall
              simp only [putL, Act.put, List.setIfInBounds_toArray, List.set_cons_zero, List.set_cons_succ]
              have e0 : v 0 = .int .i64 (0) := hall 0 (by decide)
              have e1 : v 1 = .bool true := hall 1 (by decide)
              have e2 : v 2 = .bool true := hall 2 (by decide)
              have e3 : v 3 = .pointer (some ⟨bZ, 3, none⟩) := hall 3 (by decide)
              have e4 : v 4 = .slice (some ⟨ga, 0, none⟩) m1 m1 := hall 4 (by decide)
              have e5 : v 5 = .int .i64 (m1 : Int) := hall 5 (by decide)
              have e6 : v 6 = .pointer (some ⟨bP, 1, none⟩) := hall 6 (by decide)
              have e7 : v 7 = .int .i64 (W : Int) := hall 7 (by decide)
              have e8 : v 8 = .bool true := hall 8 (by decide)
              have e9 : v 9 = .bool true := hall 9 (by decide)
              have e10 : v 10 = .bool true := hall 10 (by decide)
              have e11 : v 11 = .pointer (some ⟨bC, 3, none⟩) := hall 11 (by decide)
              have e12 : v 12 = .slice (some ⟨gl, 0, none⟩) W W := hall 12 (by decide)
              have e13 : v 13 = .pointer (some ⟨bZ, 3, none⟩) := hall 13 (by decide)
              have e14 : v 14 = .slice (some ⟨ga, 0, none⟩) m1 m1 := hall 14 (by decide)
              have e15 : v 15 = .pointer (some ⟨bZ, 3, none⟩) := hall 15 (by decide)
              have e16 : v 16 = .slice (some ⟨ga, 0, none⟩) m1 m1 := hall 16 (by decide)
              have e17 : v 17 = .int .i64 (m1 : Int) := hall 17 (by decide)
              have e18 : v 18 = .pointer (some ⟨bP, 1, none⟩) := hall 18 (by decide)
              have e19 : v 19 = .int .i64 (W : Int) := hall 19 (by decide)
              have e20 : v 20 = .int .i64 (q : Int) := hall 20 (by decide)
              have e21 : v 21 = .slice (some ⟨ga, q, none⟩) W W := hall 21 (by decide)
              have e22 : v 22 = .bool true := hall 22 (by decide)
              have e23 : v 23 = .bool true := hall 23 (by decide)
              have e24 : v 24 = .bool true := hall 24 (by decide)
              have e25 : v 25 = .bool true := hall 25 (by decide)
              have e26 : v 26 = .bool true := hall 26 (by decide)
              have e27 : v 27 = .bool true := hall 27 (by decide)
              clear e0 e1 e2 e3 e4 e5 e6 e7 e8 e9 e10 e11 e12 e13 e14 e15 e16 e17 e18 e19 e20 e21 e22 e23 e24 e25 e26
              go_wp2
              go_ret
              exact trueEnd_mk (congrArg Ending.returned e27) (HB.out.trans (hR.mono HB.out.size))
          · skip
            have hmod : Int.tmod ((H : Int) - 1) 2 = 1 := by have h2 := HHH.out; rw [Int.tmod_eq_emod_of_nonneg (by omega)]; omega
            obtain ⟨cHXLF_0, cHXLF_1, cHXLF_2, cHXLF_3, cHXLF_4, cHXLF_5, cHXLF_6, cHXLF_7⟩ := box8' HXLF.out
            obtain ⟨cHXP_0, cHXP_1, cHXP_2, cHXP_3⟩ := box4 HXP.out
            go_upto_region 38 with fail
            clear cHXLF_0 cHXLF_1 cHXLF_2 cHXLF_3 cHXLF_4 cHXLF_5 cHXLF_6 cHXLF_7 cHXP_0 cHXP_1 cHXP_2 cHXP_3
            have hn := Blk.new wc 50 #[.string nm, .int .i64 (W : Int), .int .i64 (K2 : Int), .slice (some ⟨gb, 0, none⟩) m2 m2]
            have hb : Below wc.heap.size wc (wc.alloc (.cells #[.string nm, .int .i64 (W : Int), .int .i64 (K2 : Int), .slice (some ⟨gb, 0, none⟩) m2 m2] 50)) := (Below.refl _ _).alloc (Nat.le_refl _) _
            have hge := HB.out.size
            have hlt_HXP := HXP.out.lt
            have hlt_HXLF := HXLF.out.lt
            have hlt_HXC := HXC.out.lt
            obtain ⟨bZ, hl⟩ : ∃ b, wc.heap.size = b := ⟨_, rfl⟩
            generalize wc.alloc (.cells #[.string nm, .int .i64 (W : Int), .int .i64 (K2 : Int), .slice (some ⟨gb, 0, none⟩) m2 m2] 50) = s52 at hn hb ⊢
            replace HR := Lib.hid (HR.out.below hb); replace HL8 := Lib.hid (HL8.out.below hb); replace HL9 := Lib.hid (HL9.out.below hb); replace HLL := Lib.hid (HLL.out.below hb)
            replace HXP := Lib.hid (HXP.out.below hb); replace HXLF := Lib.hid (HXLF.out.below hb); replace HXC := Lib.hid (HXC.out.below hb); replace HB := Lib.hid (HB.out.trans (hb.mono HB.out.size))
            clear hb
            rw [hl] at hn hge hlt_HXP hlt_HXLF hlt_HXC
            try rw [hl]
            have HXZ := Lib.hid hn; have HGZ := Lib.hid hge; clear hn hl hge
            have HNZHXP : RowKit.Hid (¬ bP = bZ) := Lib.hid (by omega); have HNZHXLF : RowKit.Hid (¬ bLF = bZ) := Lib.hid (by omega); have HNZHXC : RowKit.Hid (¬ bC = bZ) := Lib.hid (by omega)
            clear hlt_HXP hlt_HXLF hlt_HXC
            obtain ⟨q, hq⟩ : ∃ q, m2 - W = q := ⟨_, rfl⟩
            have hmm1 := hm4.1; have hmm2 := hm4.2
            have hqi : (m2 : Int) - (W : Int) = (q : Int) := by omega
            have hqn : m2 - q = W := by omega
            have HLZ := Lib.hid (rd_from (q := q) HL9.out (by rw [← hq]; exact HT1.out hpar))
            obtain ⟨cHXC_0, cHXC_1, cHXC_2, cHXC_3⟩ := box4 HXC.out
            obtain ⟨cHXZ_0, cHXZ_1, cHXZ_2, cHXZ_3⟩ := box4 HXZ.out
            obtain ⟨cHXP_0, cHXP_1, cHXP_2, cHXP_3⟩ := box4 HXP.out
            have zC := HXC.out.lt; have zZ := HXZ.out.lt; have zP := HXP.out.lt
            have hWm : (W : Int) ≤ (m2 : Int) := by omega
            refine wp_region_facts [Fact.is (.int .i64 (0)), Fact.is (.bool true), Fact.is (.bool true), Fact.is (.pointer (some ⟨bZ, 3, none⟩)), Fact.is (.slice (some ⟨gb, 0, none⟩) m2 m2), Fact.is (.int .i64 (m2 : Int)), Fact.is (.pointer (some ⟨bP, 1, none⟩)), Fact.is (.int .i64 (W : Int)), Fact.is (.bool true), Fact.is (.bool true), Fact.is (.bool true), Fact.is (.pointer (some ⟨bC, 3, none⟩)), Fact.is (.slice (some ⟨gl, 0, none⟩) W W), Fact.is (.pointer (some ⟨bZ, 3, none⟩)), Fact.is (.slice (some ⟨gb, 0, none⟩) m2 m2), Fact.is (.pointer (some ⟨bZ, 3, none⟩)), Fact.is (.slice (some ⟨gb, 0, none⟩) m2 m2), Fact.is (.int .i64 (m2 : Int)), Fact.is (.pointer (some ⟨bP, 1, none⟩)), Fact.is (.int .i64 (W : Int)), Fact.is (.int .i64 (q : Int)), Fact.is (.slice (some ⟨gb, q, none⟩) W W), Fact.is (.bool true), Fact.is (.bool true), Fact.is (.bool true), Fact.is (.bool true), Fact.is (.bool true), Fact.is (.bool true)] [[], [0], [1], [2], [2, 3], [2, 4], [2], [2, 6], [2, 5, 7], [2, 8], [9], [10], [10, 11], [10], [10, 13], [10], [10, 15], [10, 16], [10], [10, 18], [10, 17, 19], [10, 14, 20], [10, 12, 21], [10, 22], [23], [24], [24, 25], [26]] [(some 291, 0), (some 292, 1), (some 293, 2), (some 294, 3), (some 295, 4), (some 296, 5), (some 297, 6), (some 298, 7), (some 299, 8), (some 300, 9), (some 301, 10), (some 302, 11), (some 303, 12), (some 304, 13), (some 305, 14), (some 306, 15), (some 307, 16), (some 308, 17), (some 309, 18), (some 310, 19), (some 311, 20), (some 312, 21), (some 313, 22), (some 314, 23), (some 315, 24), (some 316, 25), (some 317, 26), (some 2, 27)] (by kernel_rfl) (by kernel_rfl) (by kernel_rfl) (by kernel_rfl) (fun _ _ _ _ e h => by have h1 : _ ∧ _ := h; exact ⟨e ▸ h1.1, h1.2⟩) ?hstep ?hend
            case hstep =>
              intro i hi
              match i, hi with
              | 0, _ =>
                intro v w' hR hd
                change SpecOp _ _ _ _ 0 (canon _ v _ []) w' _
                simp only [canon_nil]
                refine spec_of rfl (fun KK hK => ?_)
                go_simp
                exact hK.out _ _ (Below.refl _ _) rfl
              | 1, _ =>
                intro v w' hR hd
                have e0 : v 0 = .int .i64 (0) := hd 0 (by decide)
                change SpecOp _ _ _ _ 1 (Act.put (canon _ v _ []) (some 291) (v 0)) w' _
                rw [e0]
                simp only [canon_nil, Act.put, List.setIfInBounds_toArray, List.set_cons_zero, List.set_cons_succ]
                refine spec_of rfl (fun KK hK => ?_)
                go_simp
                exact hK.out _ _ (Below.refl _ _) rfl
              | 2, _ =>
                intro v w' hR hd
                have e1 : v 1 = .bool true := hd 1 (by decide)
                change SpecOp _ _ _ _ 2 (Act.put (canon _ v _ []) (some 292) (v 1)) w' _
                rw [e1]
                simp only [canon_nil, Act.put, List.setIfInBounds_toArray, List.set_cons_zero, List.set_cons_succ]
                refine spec_of rfl (fun KK hK => ?_)
                go_simp
                exact hK.out _ _ (Below.refl _ _) rfl
              | 3, _ =>
                intro v w' hR hd
                have e2 : v 2 = .bool true := hd 2 (by decide)
                change SpecOp _ _ _ _ 3 (Act.put (canon _ v _ []) (some 293) (v 2)) w' _
                rw [e2]
                simp only [canon_nil, Act.put, List.setIfInBounds_toArray, List.set_cons_zero, List.set_cons_succ]
                refine spec_of rfl (fun KK hK => ?_)
                go_simp
                exact hK.out _ _ (Below.refl _ _) rfl
              | 4, _ =>
                intro v w' hR hd
                have e2 : v 2 = .bool true := hd 2 (by decide)
                have e3 : v 3 = .pointer (some ⟨bZ, 3, none⟩) := hd 3 (by decide)
                change SpecOp _ _ _ _ 4 (Act.put (Act.put (canon _ v _ []) (some 294) (v 3)) (some 293) (v 2)) w' _
                rw [e2, e3]
                simp only [canon_nil, Act.put, List.setIfInBounds_toArray, List.set_cons_zero, List.set_cons_succ]
                have q0 := (hR.cell (p := ⟨bZ, 3, none⟩) zZ).trans cHXZ_3
                refine spec_of rfl (fun KK hK => ?_)
                go_simp
                exact hK.out _ _ (Below.refl _ _) rfl
              | 5, _ =>
                intro v w' hR hd
                have e2 : v 2 = .bool true := hd 2 (by decide)
                have e4 : v 4 = .slice (some ⟨gb, 0, none⟩) m2 m2 := hd 4 (by decide)
                change SpecOp _ _ _ _ 5 (Act.put (Act.put (canon _ v _ []) (some 295) (v 4)) (some 293) (v 2)) w' _
                rw [e2, e4]
                simp only [canon_nil, Act.put, List.setIfInBounds_toArray, List.set_cons_zero, List.set_cons_succ]
                refine spec_of rfl (fun KK hK => ?_)
                go_simp
                exact hK.out _ _ (Below.refl _ _) rfl
              | 6, _ =>
                intro v w' hR hd
                have e2 : v 2 = .bool true := hd 2 (by decide)
                change SpecOp _ _ _ _ 6 (Act.put (canon _ v _ []) (some 293) (v 2)) w' _
                rw [e2]
                simp only [canon_nil, Act.put, List.setIfInBounds_toArray, List.set_cons_zero, List.set_cons_succ]
                refine spec_of rfl (fun KK hK => ?_)
                go_simp
                exact hK.out _ _ (Below.refl _ _) rfl
              | 7, _ =>
                intro v w' hR hd
                have e2 : v 2 = .bool true := hd 2 (by decide)
                have e6 : v 6 = .pointer (some ⟨bP, 1, none⟩) := hd 6 (by decide)
                change SpecOp _ _ _ _ 7 (Act.put (Act.put (canon _ v _ []) (some 297) (v 6)) (some 293) (v 2)) w' _
                rw [e2, e6]
                simp only [canon_nil, Act.put, List.setIfInBounds_toArray, List.set_cons_zero, List.set_cons_succ]
                have q0 := (hR.cell (p := ⟨bP, 1, none⟩) zP).trans cHXP_1
                refine spec_of rfl (fun KK hK => ?_)
                go_simp
                exact hK.out _ _ (Below.refl _ _) rfl
              | 8, _ =>
                intro v w' hR hd
                have e2 : v 2 = .bool true := hd 2 (by decide)
                have e5 : v 5 = .int .i64 (m2 : Int) := hd 5 (by decide)
                have e7 : v 7 = .int .i64 (W : Int) := hd 7 (by decide)
                change SpecOp _ _ _ _ 8 (Act.put (Act.put (Act.put (canon _ v _ []) (some 298) (v 7)) (some 296) (v 5)) (some 293) (v 2)) w' _
                rw [e2, e5, e7]
                simp only [canon_nil, Act.put, List.setIfInBounds_toArray, List.set_cons_zero, List.set_cons_succ]
                refine spec_of rfl (fun KK hK => ?_)
                go_simp
                exact hK.out _ _ (Below.refl _ _) (by first | rfl | exact congrArg Value.bool (decide_eq_true hWm) | (simp; omega))
              | 9, _ =>
                intro v w' hR hd
                have e2 : v 2 = .bool true := hd 2 (by decide)
                have e8 : v 8 = .bool true := hd 8 (by decide)
                change SpecOp _ _ _ _ 9 (Act.put (Act.put (canon _ v _ []) (some 299) (v 8)) (some 293) (v 2)) w' _
                rw [e2, e8]
                simp only [canon_nil, Act.put, List.setIfInBounds_toArray, List.set_cons_zero, List.set_cons_succ]
                refine spec_of rfl (fun KK hK => ?_)
                go_simp
                exact hK.out _ _ (Below.refl _ _) rfl
              | 10, _ =>
                intro v w' hR hd
                have e9 : v 9 = .bool true := hd 9 (by decide)
                change SpecOp _ _ _ _ 10 (Act.put (canon _ v _ []) (some 300) (v 9)) w' _
                rw [e9]
                simp only [canon_nil, Act.put, List.setIfInBounds_toArray, List.set_cons_zero, List.set_cons_succ]
                refine spec_of rfl (fun KK hK => ?_)
                go_simp
                exact hK.out _ _ (Below.refl _ _) rfl
              | 11, _ =>
                intro v w' hR hd
                have e10 : v 10 = .bool true := hd 10 (by decide)
                change SpecOp _ _ _ _ 11 (Act.put (canon _ v _ []) (some 301) (v 10)) w' _
                rw [e10]
                simp only [canon_nil, Act.put, List.setIfInBounds_toArray, List.set_cons_zero, List.set_cons_succ]
                refine spec_of rfl (fun KK hK => ?_)
                go_simp
                exact hK.out _ _ (Below.refl _ _) rfl
              | 12, _ =>
                intro v w' hR hd
                have e10 : v 10 = .bool true := hd 10 (by decide)
                have e11 : v 11 = .pointer (some ⟨bC, 3, none⟩) := hd 11 (by decide)
                change SpecOp _ _ _ _ 12 (Act.put (Act.put (canon _ v _ []) (some 302) (v 11)) (some 301) (v 10)) w' _
                rw [e10, e11]
                simp only [canon_nil, Act.put, List.setIfInBounds_toArray, List.set_cons_zero, List.set_cons_succ]
                have q0 := (hR.cell (p := ⟨bC, 3, none⟩) zC).trans cHXC_3
                refine spec_of rfl (fun KK hK => ?_)
                go_simp
                exact hK.out _ _ (Below.refl _ _) rfl
              | 13, _ =>
                intro v w' hR hd
                have e10 : v 10 = .bool true := hd 10 (by decide)
                change SpecOp _ _ _ _ 13 (Act.put (canon _ v _ []) (some 301) (v 10)) w' _
                rw [e10]
                simp only [canon_nil, Act.put, List.setIfInBounds_toArray, List.set_cons_zero, List.set_cons_succ]
                refine spec_of rfl (fun KK hK => ?_)
                go_simp
                exact hK.out _ _ (Below.refl _ _) rfl
              | 14, _ =>
                intro v w' hR hd
                have e10 : v 10 = .bool true := hd 10 (by decide)
                have e13 : v 13 = .pointer (some ⟨bZ, 3, none⟩) := hd 13 (by decide)
                change SpecOp _ _ _ _ 14 (Act.put (Act.put (canon _ v _ []) (some 304) (v 13)) (some 301) (v 10)) w' _
                rw [e10, e13]
                simp only [canon_nil, Act.put, List.setIfInBounds_toArray, List.set_cons_zero, List.set_cons_succ]
                have q0 := (hR.cell (p := ⟨bZ, 3, none⟩) zZ).trans cHXZ_3
                refine spec_of rfl (fun KK hK => ?_)
                go_simp
                exact hK.out _ _ (Below.refl _ _) rfl
              | 15, _ =>
                intro v w' hR hd
                have e10 : v 10 = .bool true := hd 10 (by decide)
                change SpecOp _ _ _ _ 15 (Act.put (canon _ v _ []) (some 301) (v 10)) w' _
                rw [e10]
                simp only [canon_nil, Act.put, List.setIfInBounds_toArray, List.set_cons_zero, List.set_cons_succ]
                refine spec_of rfl (fun KK hK => ?_)
                go_simp
                exact hK.out _ _ (Below.refl _ _) rfl
              | 16, _ =>
                intro v w' hR hd
                have e10 : v 10 = .bool true := hd 10 (by decide)
                have e15 : v 15 = .pointer (some ⟨bZ, 3, none⟩) := hd 15 (by decide)
                change SpecOp _ _ _ _ 16 (Act.put (Act.put (canon _ v _ []) (some 306) (v 15)) (some 301) (v 10)) w' _
                rw [e10, e15]
                simp only [canon_nil, Act.put, List.setIfInBounds_toArray, List.set_cons_zero, List.set_cons_succ]
                have q0 := (hR.cell (p := ⟨bZ, 3, none⟩) zZ).trans cHXZ_3
                refine spec_of rfl (fun KK hK => ?_)
                go_simp
                exact hK.out _ _ (Below.refl _ _) rfl
              | 17, _ =>
                intro v w' hR hd
                have e10 : v 10 = .bool true := hd 10 (by decide)
                have e16 : v 16 = .slice (some ⟨gb, 0, none⟩) m2 m2 := hd 16 (by decide)
                change SpecOp _ _ _ _ 17 (Act.put (Act.put (canon _ v _ []) (some 307) (v 16)) (some 301) (v 10)) w' _
                rw [e10, e16]
                simp only [canon_nil, Act.put, List.setIfInBounds_toArray, List.set_cons_zero, List.set_cons_succ]
                refine spec_of rfl (fun KK hK => ?_)
                go_simp
                exact hK.out _ _ (Below.refl _ _) rfl
              | 18, _ =>
                intro v w' hR hd
                have e10 : v 10 = .bool true := hd 10 (by decide)
                change SpecOp _ _ _ _ 18 (Act.put (canon _ v _ []) (some 301) (v 10)) w' _
                rw [e10]
                simp only [canon_nil, Act.put, List.setIfInBounds_toArray, List.set_cons_zero, List.set_cons_succ]
                refine spec_of rfl (fun KK hK => ?_)
                go_simp
                exact hK.out _ _ (Below.refl _ _) rfl
              | 19, _ =>
                intro v w' hR hd
                have e10 : v 10 = .bool true := hd 10 (by decide)
                have e18 : v 18 = .pointer (some ⟨bP, 1, none⟩) := hd 18 (by decide)
                change SpecOp _ _ _ _ 19 (Act.put (Act.put (canon _ v _ []) (some 309) (v 18)) (some 301) (v 10)) w' _
                rw [e10, e18]
                simp only [canon_nil, Act.put, List.setIfInBounds_toArray, List.set_cons_zero, List.set_cons_succ]
                have q0 := (hR.cell (p := ⟨bP, 1, none⟩) zP).trans cHXP_1
                refine spec_of rfl (fun KK hK => ?_)
                go_simp
                exact hK.out _ _ (Below.refl _ _) rfl
              | 20, _ =>
                intro v w' hR hd
                have e10 : v 10 = .bool true := hd 10 (by decide)
                have e17 : v 17 = .int .i64 (m2 : Int) := hd 17 (by decide)
                have e19 : v 19 = .int .i64 (W : Int) := hd 19 (by decide)
                change SpecOp _ _ _ _ 20 (Act.put (Act.put (Act.put (canon _ v _ []) (some 310) (v 19)) (some 308) (v 17)) (some 301) (v 10)) w' _
                rw [e10, e17, e19]
                simp only [canon_nil, Act.put, List.setIfInBounds_toArray, List.set_cons_zero, List.set_cons_succ]
                refine spec_of rfl (fun KK hK => ?_)
                go_simp
                exact hK.out _ _ (Below.refl _ _) (congrArg (Value.int .i64) (by first | exact hqi | exact IntWalk.i64_in _ (by omega) | (rw [IntWalk.i64_in _ (by omega)]; first | exact hqi | rfl | omega)))
              | 21, _ =>
                intro v w' hR hd
                have e10 : v 10 = .bool true := hd 10 (by decide)
                have e14 : v 14 = .slice (some ⟨gb, 0, none⟩) m2 m2 := hd 14 (by decide)
                have e20 : v 20 = .int .i64 (q : Int) := hd 20 (by decide)
                change SpecOp _ _ _ _ 21 (Act.put (Act.put (Act.put (canon _ v _ []) (some 311) (v 20)) (some 305) (v 14)) (some 301) (v 10)) w' _
                rw [e10, e14, e20]
                simp only [canon_nil, Act.put, List.setIfInBounds_toArray, List.set_cons_zero, List.set_cons_succ]
                have hq0 : (0 : Int) ≤ (q : Int) := by omega
                have hqm : (q : Int) ≤ (m2 : Int) := by omega
                have hqne : ¬ m2 = q := by omega
                refine spec_of rfl (fun KK hK => ?_)
                go_simp
                exact hK.out _ _ (Below.refl _ _) (by first | rfl | (rw [hqn]; first | rfl | (rw [add_start]; rfl)) | (simp [add_start, hqn]))
              | 22, _ =>
                intro v w' hR hd
                have e10 : v 10 = .bool true := hd 10 (by decide)
                have e12 : v 12 = .slice (some ⟨gl, 0, none⟩) W W := hd 12 (by decide)
                have e21 : v 21 = .slice (some ⟨gb, q, none⟩) W W := hd 21 (by decide)
                change SpecOp _ _ _ _ 22 (Act.put (Act.put (Act.put (canon _ v _ []) (some 312) (v 21)) (some 303) (v 12)) (some 301) (v 10)) w' _
                rw [e10, e12, e21]
                simp only [canon_nil, Act.put, List.setIfInBounds_toArray, List.set_cons_zero, List.set_cons_succ]
                refine spec_of rfl (fun KK hK => ?_)
                go_simp
                refine (samesam W LL HNL.out HSL.out _ _ _ _ _ (HLL.out.below hR) (HLZ.out.below hR)).mono ?_
                rintro e wm ⟨rfl, hbn⟩
                exact hK.out _ _ hbn rfl
              | 23, _ =>
                intro v w' hR hd
                have e10 : v 10 = .bool true := hd 10 (by decide)
                have e22 : v 22 = .bool true := hd 22 (by decide)
                change SpecOp _ _ _ _ 23 (Act.put (Act.put (canon _ v _ []) (some 313) (v 22)) (some 301) (v 10)) w' _
                rw [e10, e22]
                simp only [canon_nil, Act.put, List.setIfInBounds_toArray, List.set_cons_zero, List.set_cons_succ]
                refine spec_of rfl (fun KK hK => ?_)
                go_simp
                exact hK.out _ _ (Below.refl _ _) rfl
              | 24, _ =>
                intro v w' hR hd
                have e23 : v 23 = .bool true := hd 23 (by decide)
                change SpecOp _ _ _ _ 24 (Act.put (canon _ v _ []) (some 314) (v 23)) w' _
                rw [e23]
                simp only [canon_nil, Act.put, List.setIfInBounds_toArray, List.set_cons_zero, List.set_cons_succ]
                refine spec_of rfl (fun KK hK => ?_)
                go_simp
                exact hK.out _ _ (Below.refl _ _) rfl
              | 25, _ =>
                intro v w' hR hd
                have e24 : v 24 = .bool true := hd 24 (by decide)
                change SpecOp _ _ _ _ 25 (Act.put (canon _ v _ []) (some 315) (v 24)) w' _
                rw [e24]
                simp only [canon_nil, Act.put, List.setIfInBounds_toArray, List.set_cons_zero, List.set_cons_succ]
                refine spec_of rfl (fun KK hK => ?_)
                go_simp
                refine (awake_laid _ (HL.out.below (HB.out.trans (hR.mono HB.out.size)))).mono ?_
                rintro e wm ⟨rfl, hbn⟩
                exact hK.out _ _ hbn rfl
              | 26, _ =>
                intro v w' hR hd
                have e24 : v 24 = .bool true := hd 24 (by decide)
                have e25 : v 25 = .bool true := hd 25 (by decide)
                change SpecOp _ _ _ _ 26 (Act.put (Act.put (canon _ v _ []) (some 316) (v 25)) (some 315) (v 24)) w' _
                rw [e24, e25]
                simp only [canon_nil, Act.put, List.setIfInBounds_toArray, List.set_cons_zero, List.set_cons_succ]
                refine spec_of rfl (fun KK hK => ?_)
                go_simp
                exact hK.out _ _ (Below.refl _ _) rfl
              | 27, _ =>
                intro v w' hR hd
                have e26 : v 26 = .bool true := hd 26 (by decide)
                change SpecOp _ _ _ _ 27 (Act.put (canon _ v _ []) (some 317) (v 26)) w' _
                rw [e26]
                simp only [canon_nil, Act.put, List.setIfInBounds_toArray, List.set_cons_zero, List.set_cons_succ]
                refine spec_of rfl (fun KK hK => ?_)
                go_simp
                exact hK.out _ _ (Below.refl _ _) rfl
              | i + 28, h => exact absurd h (Nat.not_lt.2 (Nat.le_add_left 28 i))
            case hend =>
              intro v w' hR hall
              simp only [putL, Act.put, List.setIfInBounds_toArray, List.set_cons_zero, List.set_cons_succ]
              have e0 : v 0 = .int .i64 (0) := hall 0 (by decide)
              have e1 : v 1 = .bool true := hall 1 (by decide)
              have e2 : v 2 = .bool true := hall 2 (by decide)
              have e3 : v 3 = .pointer (some ⟨bZ, 3, none⟩) := hall 3 (by decide)
              have e4 : v 4 = .slice (some ⟨gb, 0, none⟩) m2 m2 := hall 4 (by decide)
              have e5 : v 5 = .int .i64 (m2 : Int) := hall 5 (by decide)
              have e6 : v 6 = .pointer (some ⟨bP, 1, none⟩) := hall 6 (by decide)
              have e7 : v 7 = .int .i64 (W : Int) := hall 7 (by decide)
              have e8 : v 8 = .bool true := hall 8 (by decide)
              have e9 : v 9 = .bool true := hall 9 (by decide)
              have e10 : v 10 = .bool true := hall 10 (by decide)
              have e11 : v 11 = .pointer (some ⟨bC, 3, none⟩) := hall 11 (by decide)
              have e12 : v 12 = .slice (some ⟨gl, 0, none⟩) W W := hall 12 (by decide)
              have e13 : v 13 = .pointer (some ⟨bZ, 3, none⟩) := hall 13 (by decide)
              have e14 : v 14 = .slice (some ⟨gb, 0, none⟩) m2 m2 := hall 14 (by decide)
              have e15 : v 15 = .pointer (some ⟨bZ, 3, none⟩) := hall 15 (by decide)
              have e16 : v 16 = .slice (some ⟨gb, 0, none⟩) m2 m2 := hall 16 (by decide)
              have e17 : v 17 = .int .i64 (m2 : Int) := hall 17 (by decide)
              have e18 : v 18 = .pointer (some ⟨bP, 1, none⟩) := hall 18 (by decide)
              have e19 : v 19 = .int .i64 (W : Int) := hall 19 (by decide)
              have e20 : v 20 = .int .i64 (q : Int) := hall 20 (by decide)
              have e21 : v 21 = .slice (some ⟨gb, q, none⟩) W W := hall 21 (by decide)
              have e22 : v 22 = .bool true := hall 22 (by decide)
              have e23 : v 23 = .bool true := hall 23 (by decide)
              have e24 : v 24 = .bool true := hall 24 (by decide)
              have e25 : v 25 = .bool true := hall 25 (by decide)
              have e26 : v 26 = .bool true := hall 26 (by decide)
              have e27 : v 27 = .bool true := hall 27 (by decide)
              clear e0 e1 e2 e3 e4 e5 e6 e7 e8 e9 e10 e11 e12 e13 e14 e15 e16 e17 e18 e19 e20 e21 e22 e23 e24 e25 e26
              go_wp2
              go_ret
              exact trueEnd_mk (congrArg Ending.returned e27) (HB.out.trans (hR.mono HB.out.size))
end Go.Proofs.YtnbpcfakkphmcaaGreatDoor
namespace Go.Proofs.YtnbpcfakkphmcaaGreatDoor
open Go.RowKit
set_option linter.unusedVariables false
set_option maxRecDepth 100000

theorem round_any (p : Pic) (A : Option Addr) (c : Nat) (w : World) (hlaid : Laid w) (hA : A = none → p.l.length = 0 ∧ c = 0) (hcap : p.l.length ≤ c) (hs : p.name.size ≤ maxLen) (hr : Rd w A (fl p.l)) : Calls Tryz.prog 12 #[p.val A c] w (TrueEnd w) := by
  by_cases hsh : (shortB p && (p.err == 0)) = true
  · have h2 := hsh
    simp only [Bool.and_eq_true, beq_iff_eq] at h2
    obtain ⟨hb, he⟩ := h2
    have hp := ok_of he
    obtain ⟨nm, pw, ph, l⟩ := p
    have h1 := hp.w1; have h2 := hp.h1
    simp only [] at h1 h2
    obtain ⟨W, rfl⟩ : ∃ W : Nat, pw = W := ⟨pw.toNat, by omega⟩
    obtain ⟨H, rfl⟩ : ∃ H : Nat, ph = H := ⟨ph.toNat, by omega⟩
    by_cases hh : H = 1
    · exact round_one nm W H l hp hh A c w hlaid hb hcap hr
    · exact round_ok nm W H l hp (by omega) A c w hlaid hb hcap hr
  · exact round_long p A c w hlaid hr (by simpa using hsh)
end Go.Proofs.YtnbpcfakkphmcaaGreatDoor
