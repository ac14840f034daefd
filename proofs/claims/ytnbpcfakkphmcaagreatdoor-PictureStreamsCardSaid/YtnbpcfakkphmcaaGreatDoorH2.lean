/- Parts of a proof: PictureStreams: the walk of the law (z). PictureStreams: the walk of the law (s). PictureStreams: the walk of the law (b). PictureStreams: the walk of the law (long). PictureStreams, for any bytes. -/
import Derived.Test.YtnbpcfakkphmcaaGreatDoorH1
import Derived.Test.YtnbpcfakkphmcaaGreatDoorBa
import Derived.Test.YtnbpcfakkphmcaaGreatDoorAg
namespace Go.Proofs.YtnbpcfakkphmcaaGreatDoor
open Go.RowKit
set_option linter.unusedVariables false
set_option maxRecDepth 100000

theorem own_noneB (w : World) : (w.alloc (.cells #[] 5)).ownsRow w.heap.size 5 1 (.slice (some ⟨w.heap.size, 0, none⟩) 0 0) 0 [] :=
  ⟨rfl, .inr ⟨_, 0, #[], rfl, Nat.le_refl _, heap_alloc_new w _, Nat.le_refl _, by decide, rfl, rfl⟩⟩
theorem info_byte : (Tryz.prog.info? 5).map (fun i => (i.zero, i.size, i.bytes)) = some (some (.int .u8 0), 1, 1) := by kernel_rfl
set_option maxHeartbeats 2000000 in
theorem streams_z (bs : List U8) (A : Option Addr) (c n : Nat) (w : World) (hlaid : Laid w) (hn : bs.length = n) (hz : n = 0) (hA : A = none → c = 0) (hc : n ≤ c)
    (hr : Rd w A (bs.map (fun b => Value.int .u8 b.1))) (pk : List Pk) (sk : List (Int × Int)) (m1 m2 : Nat) (E : Int) (hm1 : pk.length = m1) (hm2 : sk.length = m2) (hm1b : m1 ≤ 100000) (hm2b : m2 ≤ 100000)
    (hcode : ∀ A c w, n ≤ c → Rd w A (bs.map (fun b => Value.int .u8 b.1)) → Calls Tryz.prog 73 #[.slice A n c] w fun e w' => ∃ A1 c1 A2 c2, e = .returned (.tuple #[.slice A1 m1 c1, .slice A2 m2 c2, .int .i64 E]) ∧ Rd w' A1 (pksC pk) ∧ Rd w' A2 (spansC sk) ∧ Below w.heap.size w w')
    (href : ∀ A c w, n ≤ c → Rd w A (bs.map (fun b => Value.int .u8 b.1)) → Calls Tryz.prog 74 #[.slice A n c] w fun e w' => ∃ A1 c1 A2 c2, e = .returned (.tuple #[.slice A1 m1 c1, .slice A2 m2 c2, .int .i64 E]) ∧ Rd w' A1 (pksC pk) ∧ Rd w' A2 (spansC sk) ∧ Below w.heap.size w w')
    (hheard : ∀ A c w, Rd w A (pksC pk) → Calls Tryz.prog 76 #[.slice A m1 c] w fun e w' => ∃ A' c', e = .returned (.slice A' m1 c') ∧ Rd w' A' (pksC pk) ∧ Below w.heap.size w w')
    (hspans : ∀ A A2 c c2 w, Rd w A (spansC sk) → Rd w A2 (spansC sk) → Calls Tryz.prog 77 #[.slice A m2 c, .slice A2 m2 c2] w fun e w' => e = .returned (.bool true) ∧ Below w.heap.size w w') :
    Calls Tryz.prog 9 #[.slice A n c] w (YesEnd w) := by
  obtain ⟨i0, hi, hz0, hz1, hz2⟩ := info_parts info_byte
  have HL := Lib.hid hlaid; have HR := Lib.hid hr; have HN := Lib.hid hn; have HC := Lib.hid hc; have HM1 := Lib.hid hm1; have HM2 := Lib.hid hm2
  have HCODE := Lib.hid hcode; have HREF := Lib.hid href; have HHEARD := Lib.hid hheard; have HSPANS := Lib.hid hspans
  have HM1B : RowKit.Hid (m1 ≤ maxLen) := Lib.hid (by unfold maxLen; omega)
  have hsp := hcode
  clear hlaid hr hc hm1 hm2 hcode href hheard hspans hm1b hm2b hsp
  have HB := Lib.hid (Below.refl w.heap.size w)
  subst hz
  have HL0 : RowKit.Hid (bs = []) := Lib.hid (List.eq_nil_of_length_eq_zero hn)
  have hsrc : ∀ W, Src Tryz.prog i0.size 106 (.slice A 0 c) 0 [] W := fun W => by
    cases A with
    | none => rw [hA rfl]; exact Src.ofNil W Tryz.underlying106 0
    | some a => exact Src.ofSlice W Tryz.underlying106 a 0 c [] (by simp) (fun j u h => by simp at h) (fun u h => by cases h)
  have HS := Lib.hid hsrc; clear hsrc hA hn
  go_enter Tryz.func9, Tryz.ntmps9
  go_upto_region 3 with fail
  have HOW := Lib.hid (own_noneB w)
  go_wp2_with (at_builtin; go_must (refine wpList_append_nothing _ (by rfl) (.tmp 19) (.tmp 20) 106 106 (by rfl) 5 i0 Tryz.underlying106 hi (some ⟨w.heap.size, 0, none⟩) 0 0 (Nat.le_refl _) (by rfl) (.slice A 0 c) (by rfl) (HS.out _) ?_))
  have hb : Below w.heap.size w (w.alloc (.cells #[] 5)) := (Below.refl _ _).alloc (Nat.le_refl _) _
  have hrd : Rd (w.alloc (.cells #[] 5)) (some ⟨w.heap.size, 0, none⟩) (bs.map (fun b => Value.int .u8 b.1)) := fun h0 => by rw [HL0.out] at h0; simp at h0
  obtain ⟨g0, hg0⟩ : ∃ g, w.heap.size = g := ⟨_, rfl⟩
  generalize w.alloc (.cells #[] 5) = v1w at hb hrd ⊢
  have HB2 := Lib.hid hb
  rw [hg0] at hrd ⊢
  have HRD := Lib.hid hrd
  clear hrd hb hg0
  replace HB := HB2; clear HB2
  clear HOW
  refine (HCODE.out _ _ _ (Nat.le_refl _) HRD.out).mono ?_
  rintro e u1w ⟨A1, c1, A2, c2, rfl, hr1, hr2, hb⟩
  have HDa := Lib.hid (rdB_of hr1); have HMa := Lib.hid (Nat.le_refl u1w.heap.size); have HDb := Lib.hid (rdB_of hr2); have HMb := Lib.hid (Nat.le_refl u1w.heap.size); clear hr1 hr2
  replace HB := Lib.hid (HB.out.trans (hb.mono HB.out.size))
  clear hb
  clear HRD
  go_wp2_with fail
  refine (HREF.out _ _ _ HC.out (HR.out.below HB.out)).mono ?_
  rintro e u2w ⟨A3, c3, A4, c4, rfl, hr1, hr2, hb⟩
  have HDp := Lib.hid (rdB_of hr1); have HMp := Lib.hid (Nat.le_refl u2w.heap.size); have HDq := Lib.hid (rdB_of hr2); have HMq := Lib.hid (Nat.le_refl u2w.heap.size); clear hr1 hr2
  replace HDa := Lib.hid (HDa.out.below (hb.mono HMa.out)); replace HMa := Lib.hid (Nat.le_trans HMa.out hb.size)
  replace HDb := Lib.hid (HDb.out.below (hb.mono HMb.out)); replace HMb := Lib.hid (Nat.le_trans HMb.out hb.size)
  replace HB := Lib.hid (HB.out.trans (hb.mono HB.out.size))
  clear hb
  go_wp2_with fail
  refine (HHEARD.out _ _ _ (HDa.out.rd HMa.out)).mono ?_
  rintro e u3w ⟨A5, c5, rfl, hr1, hb⟩
  have HDh := Lib.hid (rdB_of hr1); have HMh := Lib.hid (Nat.le_refl u3w.heap.size); clear hr1
  replace HDa := Lib.hid (HDa.out.below (hb.mono HMa.out)); replace HMa := Lib.hid (Nat.le_trans HMa.out hb.size)
  replace HDb := Lib.hid (HDb.out.below (hb.mono HMb.out)); replace HMb := Lib.hid (Nat.le_trans HMb.out hb.size)
  replace HDp := Lib.hid (HDp.out.below (hb.mono HMp.out)); replace HMp := Lib.hid (Nat.le_trans HMp.out hb.size)
  replace HDq := Lib.hid (HDq.out.below (hb.mono HMq.out)); replace HMq := Lib.hid (Nat.le_trans HMq.out hb.size)
  replace HB := Lib.hid (HB.out.trans (hb.mono HB.out.size))
  clear hb
  go_wp2_with fail
  refine (samePk_same _ _ _ _ m1 pk _ HM1.out HM1B.out (HDh.out.rd HMh.out) (HDp.out.rd HMp.out)).mono ?_
  rintro e u4w ⟨rfl, hb⟩
  replace HDa := Lib.hid (HDa.out.below (hb.mono HMa.out)); replace HMa := Lib.hid (Nat.le_trans HMa.out hb.size)
  replace HDb := Lib.hid (HDb.out.below (hb.mono HMb.out)); replace HMb := Lib.hid (Nat.le_trans HMb.out hb.size)
  replace HDp := Lib.hid (HDp.out.below (hb.mono HMp.out)); replace HMp := Lib.hid (Nat.le_trans HMp.out hb.size)
  replace HDq := Lib.hid (HDq.out.below (hb.mono HMq.out)); replace HMq := Lib.hid (Nat.le_trans HMq.out hb.size)
  replace HDh := Lib.hid (HDh.out.below (hb.mono HMh.out)); replace HMh := Lib.hid (Nat.le_trans HMh.out hb.size)
  replace HB := Lib.hid (HB.out.trans (hb.mono HB.out.size))
  clear hb
  go_wp2_with fail
  refine (HSPANS.out _ _ _ _ _ (HDb.out.rd HMb.out) (HDq.out.rd HMq.out)).mono ?_
  rintro e u5w ⟨rfl, hb⟩
  replace HDa := Lib.hid (HDa.out.below (hb.mono HMa.out)); replace HMa := Lib.hid (Nat.le_trans HMa.out hb.size)
  replace HDb := Lib.hid (HDb.out.below (hb.mono HMb.out)); replace HMb := Lib.hid (Nat.le_trans HMb.out hb.size)
  replace HDp := Lib.hid (HDp.out.below (hb.mono HMp.out)); replace HMp := Lib.hid (Nat.le_trans HMp.out hb.size)
  replace HDq := Lib.hid (HDq.out.below (hb.mono HMq.out)); replace HMq := Lib.hid (Nat.le_trans HMq.out hb.size)
  replace HDh := Lib.hid (HDh.out.below (hb.mono HMh.out)); replace HMh := Lib.hid (Nat.le_trans HMh.out hb.size)
  replace HB := Lib.hid (HB.out.trans (hb.mono HB.out.size))
  clear hb
  go_wp2_with fail
  refine (awake_laid _ (HL.out.below HB.out)).mono ?_
  rintro e u6w ⟨rfl, hb⟩
  replace HDa := Lib.hid (HDa.out.below (hb.mono HMa.out)); replace HMa := Lib.hid (Nat.le_trans HMa.out hb.size)
  replace HDb := Lib.hid (HDb.out.below (hb.mono HMb.out)); replace HMb := Lib.hid (Nat.le_trans HMb.out hb.size)
  replace HDp := Lib.hid (HDp.out.below (hb.mono HMp.out)); replace HMp := Lib.hid (Nat.le_trans HMp.out hb.size)
  replace HDq := Lib.hid (HDq.out.below (hb.mono HMq.out)); replace HMq := Lib.hid (Nat.le_trans HMq.out hb.size)
  replace HDh := Lib.hid (HDh.out.below (hb.mono HMh.out)); replace HMh := Lib.hid (Nat.le_trans HMh.out hb.size)
  replace HB := Lib.hid (HB.out.trans (hb.mono HB.out.size))
  clear hb
  go_wp2
  go_ret
  exact yesEnd_mk rfl HB.out
end Go.Proofs.YtnbpcfakkphmcaaGreatDoor
namespace Go.Proofs.YtnbpcfakkphmcaaGreatDoor
open Go.RowKit
set_option linter.unusedVariables false
set_option maxRecDepth 100000

set_option maxHeartbeats 2000000 in
theorem streams_s (bs : List U8) (A : Option Addr) (c n : Nat) (w : World) (hlaid : Laid w) (hn : bs.length = n) (hz : 0 < n) (hn2 : n ≤ 240) (hc : n ≤ c)
    (hr : Rd w A (bs.map (fun b => Value.int .u8 b.1))) (pk : List Pk) (sk : List (Int × Int)) (m1 m2 : Nat) (E : Int) (hm1 : pk.length = m1) (hm2 : sk.length = m2) (hm1b : m1 ≤ 100000) (hm2b : m2 ≤ 100000)
    (hcode : ∀ A c w, n ≤ c → Rd w A (bs.map (fun b => Value.int .u8 b.1)) → Calls Tryz.prog 73 #[.slice A n c] w fun e w' => ∃ A1 c1 A2 c2, e = .returned (.tuple #[.slice A1 m1 c1, .slice A2 m2 c2, .int .i64 E]) ∧ Rd w' A1 (pksC pk) ∧ Rd w' A2 (spansC sk) ∧ Below w.heap.size w w')
    (href : ∀ A c w, n ≤ c → Rd w A (bs.map (fun b => Value.int .u8 b.1)) → Calls Tryz.prog 74 #[.slice A n c] w fun e w' => ∃ A1 c1 A2 c2, e = .returned (.tuple #[.slice A1 m1 c1, .slice A2 m2 c2, .int .i64 E]) ∧ Rd w' A1 (pksC pk) ∧ Rd w' A2 (spansC sk) ∧ Below w.heap.size w w')
    (hheard : ∀ A c w, Rd w A (pksC pk) → Calls Tryz.prog 76 #[.slice A m1 c] w fun e w' => ∃ A' c', e = .returned (.slice A' m1 c') ∧ Rd w' A' (pksC pk) ∧ Below w.heap.size w w')
    (hspans : ∀ A A2 c c2 w, Rd w A (spansC sk) → Rd w A2 (spansC sk) → Calls Tryz.prog 77 #[.slice A m2 c, .slice A2 m2 c2] w fun e w' => e = .returned (.bool true) ∧ Below w.heap.size w w') :
    Calls Tryz.prog 9 #[.slice A n c] w (YesEnd w) := by
  obtain ⟨i0, hi, hz0, hz1, hz2⟩ := info_parts info_byte
  have HL := Lib.hid hlaid; have HR := Lib.hid hr; have HN := Lib.hid hn; have HC := Lib.hid hc; have HM1 := Lib.hid hm1; have HM2 := Lib.hid hm2
  have HCODE := Lib.hid hcode; have HREF := Lib.hid href; have HHEARD := Lib.hid hheard; have HSPANS := Lib.hid hspans
  have HM1B : RowKit.Hid (m1 ≤ maxLen) := Lib.hid (by unfold maxLen; omega)
  have hsp := hcode
  clear hlaid hr hc hm1 hm2 hcode href hheard hspans hm1b hm2b hsp
  have HB := Lib.hid (Below.refl w.heap.size w)
  have h3 : ¬ (240 : Int) < n := by omega
  obtain ⟨ad, rfl, had, hcells⟩ := HR.out (by simp; omega)
  have HFL : RowKit.Hid ((bs.map (fun b => Value.int .u8 b.1)).length = n * 1) := Lib.hid (by simp; omega)
  have HQ : RowKit.Hid (∀ W, Below w.heap.size w W → ∀ (j : Nat) (u : Value), (bs.map (fun b => Value.int .u8 b.1))[j]? = some u → W.cell? (ad.add j) = some u) := Lib.hid (fun W hb j u hj => (hb.cell (p := ad.add j) (by rw [block_of_add]; exact had)).trans (hcells j u hj))
  have hn16 : n ≤ 20000 := by omega
  clear had hcells hn
  go_enter Tryz.func9, Tryz.ntmps9
  go_upto_region 3 with fail
  have HOW := Lib.hid (own_noneB w)
  go_wp2_with (at_builtin; go_must (refine wpList_append_own_at _ (by rfl) (.tmp 19) (.tmp 20) 106 (by rfl) w.heap.size 5 i0 (.int .u8 0) 1 1 Tryz.underlying106 hi hz0 hz1 hz2 (by rfl) (by decide) (.slice (some ⟨w.heap.size, 0, none⟩) 0 0) 0 [] (by rfl) HOW.out ad n c (bs.map (fun b => Value.int .u8 b.1)) (by rfl) HFL.out (HQ.out _ ((Below.refl _ _).alloc (Nat.le_refl _) _)) (by intro u hu; obtain ⟨b, _, rfl⟩ := List.mem_map.1 hu; rfl) (by unfold maxLen; omega) (by omega) (by simp) ?_); intro v' v1w hown hgrow hnil hat; rw [Nat.zero_add, List.nil_append] at hown)
  obtain ⟨g0, c0, rfl, hcap⟩ := own_form hown (by omega)
  have HRD := Lib.hid (rd_own hown)
  have HB2 := Lib.hid ((HB.out.alloc HB.out.size (.cells #[] 5)).grown hgrow (by simp) (fun k hk => by have h1 : w.heap.size = k := (by simpa [Value.ownBlock] using hk); omega))
  replace HB := HB2; clear HB2
  clear hown hgrow hnil hat
  clear HOW
  refine (HCODE.out _ _ _ hcap HRD.out).mono ?_
  rintro e u1w ⟨A1, c1, A2, c2, rfl, hr1, hr2, hb⟩
  have HDa := Lib.hid (rdB_of hr1); have HMa := Lib.hid (Nat.le_refl u1w.heap.size); have HDb := Lib.hid (rdB_of hr2); have HMb := Lib.hid (Nat.le_refl u1w.heap.size); clear hr1 hr2
  replace HB := Lib.hid (HB.out.trans (hb.mono HB.out.size))
  clear hb
  clear HRD
  go_wp2_with fail
  refine (HREF.out _ _ _ HC.out (HR.out.below HB.out)).mono ?_
  rintro e u2w ⟨A3, c3, A4, c4, rfl, hr1, hr2, hb⟩
  have HDp := Lib.hid (rdB_of hr1); have HMp := Lib.hid (Nat.le_refl u2w.heap.size); have HDq := Lib.hid (rdB_of hr2); have HMq := Lib.hid (Nat.le_refl u2w.heap.size); clear hr1 hr2
  replace HDa := Lib.hid (HDa.out.below (hb.mono HMa.out)); replace HMa := Lib.hid (Nat.le_trans HMa.out hb.size)
  replace HDb := Lib.hid (HDb.out.below (hb.mono HMb.out)); replace HMb := Lib.hid (Nat.le_trans HMb.out hb.size)
  replace HB := Lib.hid (HB.out.trans (hb.mono HB.out.size))
  clear hb
  go_wp2_with fail
  refine (HHEARD.out _ _ _ (HDa.out.rd HMa.out)).mono ?_
  rintro e u3w ⟨A5, c5, rfl, hr1, hb⟩
  have HDh := Lib.hid (rdB_of hr1); have HMh := Lib.hid (Nat.le_refl u3w.heap.size); clear hr1
  replace HDa := Lib.hid (HDa.out.below (hb.mono HMa.out)); replace HMa := Lib.hid (Nat.le_trans HMa.out hb.size)
  replace HDb := Lib.hid (HDb.out.below (hb.mono HMb.out)); replace HMb := Lib.hid (Nat.le_trans HMb.out hb.size)
  replace HDp := Lib.hid (HDp.out.below (hb.mono HMp.out)); replace HMp := Lib.hid (Nat.le_trans HMp.out hb.size)
  replace HDq := Lib.hid (HDq.out.below (hb.mono HMq.out)); replace HMq := Lib.hid (Nat.le_trans HMq.out hb.size)
  replace HB := Lib.hid (HB.out.trans (hb.mono HB.out.size))
  clear hb
  go_wp2_with fail
  refine (samePk_same _ _ _ _ m1 pk _ HM1.out HM1B.out (HDh.out.rd HMh.out) (HDp.out.rd HMp.out)).mono ?_
  rintro e u4w ⟨rfl, hb⟩
  replace HDa := Lib.hid (HDa.out.below (hb.mono HMa.out)); replace HMa := Lib.hid (Nat.le_trans HMa.out hb.size)
  replace HDb := Lib.hid (HDb.out.below (hb.mono HMb.out)); replace HMb := Lib.hid (Nat.le_trans HMb.out hb.size)
  replace HDp := Lib.hid (HDp.out.below (hb.mono HMp.out)); replace HMp := Lib.hid (Nat.le_trans HMp.out hb.size)
  replace HDq := Lib.hid (HDq.out.below (hb.mono HMq.out)); replace HMq := Lib.hid (Nat.le_trans HMq.out hb.size)
  replace HDh := Lib.hid (HDh.out.below (hb.mono HMh.out)); replace HMh := Lib.hid (Nat.le_trans HMh.out hb.size)
  replace HB := Lib.hid (HB.out.trans (hb.mono HB.out.size))
  clear hb
  go_wp2_with fail
  refine (HSPANS.out _ _ _ _ _ (HDb.out.rd HMb.out) (HDq.out.rd HMq.out)).mono ?_
  rintro e u5w ⟨rfl, hb⟩
  replace HDa := Lib.hid (HDa.out.below (hb.mono HMa.out)); replace HMa := Lib.hid (Nat.le_trans HMa.out hb.size)
  replace HDb := Lib.hid (HDb.out.below (hb.mono HMb.out)); replace HMb := Lib.hid (Nat.le_trans HMb.out hb.size)
  replace HDp := Lib.hid (HDp.out.below (hb.mono HMp.out)); replace HMp := Lib.hid (Nat.le_trans HMp.out hb.size)
  replace HDq := Lib.hid (HDq.out.below (hb.mono HMq.out)); replace HMq := Lib.hid (Nat.le_trans HMq.out hb.size)
  replace HDh := Lib.hid (HDh.out.below (hb.mono HMh.out)); replace HMh := Lib.hid (Nat.le_trans HMh.out hb.size)
  replace HB := Lib.hid (HB.out.trans (hb.mono HB.out.size))
  clear hb
  go_wp2_with fail
  refine (awake_laid _ (HL.out.below HB.out)).mono ?_
  rintro e u6w ⟨rfl, hb⟩
  replace HDa := Lib.hid (HDa.out.below (hb.mono HMa.out)); replace HMa := Lib.hid (Nat.le_trans HMa.out hb.size)
  replace HDb := Lib.hid (HDb.out.below (hb.mono HMb.out)); replace HMb := Lib.hid (Nat.le_trans HMb.out hb.size)
  replace HDp := Lib.hid (HDp.out.below (hb.mono HMp.out)); replace HMp := Lib.hid (Nat.le_trans HMp.out hb.size)
  replace HDq := Lib.hid (HDq.out.below (hb.mono HMq.out)); replace HMq := Lib.hid (Nat.le_trans HMq.out hb.size)
  replace HDh := Lib.hid (HDh.out.below (hb.mono HMh.out)); replace HMh := Lib.hid (Nat.le_trans HMh.out hb.size)
  replace HB := Lib.hid (HB.out.trans (hb.mono HB.out.size))
  clear hb
  go_wp2
  go_ret
  exact yesEnd_mk rfl HB.out
end Go.Proofs.YtnbpcfakkphmcaaGreatDoor
namespace Go.Proofs.YtnbpcfakkphmcaaGreatDoor
open Go.RowKit
set_option linter.unusedVariables false
set_option maxRecDepth 100000

set_option maxHeartbeats 2000000 in
theorem streams_b (bs : List U8) (A : Option Addr) (c n : Nat) (w : World) (hlaid : Laid w) (hn : bs.length = n) (hz : n = 16385) (hc : n ≤ c)
    (hr : Rd w A (bs.map (fun b => Value.int .u8 b.1))) (pk : List Pk) (sk : List (Int × Int)) (m1 m2 : Nat) (E : Int) (hm1 : pk.length = m1) (hm2 : sk.length = m2) (hm1b : m1 ≤ 100000) (hm2b : m2 ≤ 100000)
    (hcode : ∀ A c w, n ≤ c → Rd w A (bs.map (fun b => Value.int .u8 b.1)) → Calls Tryz.prog 73 #[.slice A n c] w fun e w' => ∃ A1 c1 A2 c2, e = .returned (.tuple #[.slice A1 m1 c1, .slice A2 m2 c2, .int .i64 E]) ∧ Rd w' A1 (pksC pk) ∧ Rd w' A2 (spansC sk) ∧ Below w.heap.size w w')
    (href : ∀ A c w, n ≤ c → Rd w A (bs.map (fun b => Value.int .u8 b.1)) → Calls Tryz.prog 74 #[.slice A n c] w fun e w' => ∃ A1 c1 A2 c2, e = .returned (.tuple #[.slice A1 m1 c1, .slice A2 m2 c2, .int .i64 E]) ∧ Rd w' A1 (pksC pk) ∧ Rd w' A2 (spansC sk) ∧ Below w.heap.size w w')
    (hheard : ∀ A c w, Rd w A (pksC pk) → Calls Tryz.prog 76 #[.slice A m1 c] w fun e w' => ∃ A' c', e = .returned (.slice A' m1 c') ∧ Rd w' A' (pksC pk) ∧ Below w.heap.size w w')
    (hspans : ∀ A A2 c c2 w, Rd w A (spansC sk) → Rd w A2 (spansC sk) → Calls Tryz.prog 77 #[.slice A m2 c, .slice A2 m2 c2] w fun e w' => e = .returned (.bool true) ∧ Below w.heap.size w w') :
    Calls Tryz.prog 9 #[.slice A n c] w (YesEnd w) := by
  obtain ⟨i0, hi, hz0, hz1, hz2⟩ := info_parts info_byte
  have HL := Lib.hid hlaid; have HR := Lib.hid hr; have HN := Lib.hid hn; have HC := Lib.hid hc; have HM1 := Lib.hid hm1; have HM2 := Lib.hid hm2
  have HCODE := Lib.hid hcode; have HREF := Lib.hid href; have HHEARD := Lib.hid hheard; have HSPANS := Lib.hid hspans
  have HM1B : RowKit.Hid (m1 ≤ maxLen) := Lib.hid (by unfold maxLen; omega)
  have hsp := hcode
  clear hlaid hr hc hm1 hm2 hcode href hheard hspans hm1b hm2b hsp
  have HB := Lib.hid (Below.refl w.heap.size w)
  have h3 : (240 : Int) < n := by omega
  have h4 : ((n : Int) != 16385) = false := by simp; omega
  have hpos : 0 < n := by omega
  have hn17 : n ≤ 20000 := by omega
  obtain ⟨ad, rfl, had, hcells⟩ := HR.out (by simp; omega)
  have HFL : RowKit.Hid ((bs.map (fun b => Value.int .u8 b.1)).length = n * 1) := Lib.hid (by simp; omega)
  have HQ : RowKit.Hid (∀ W, Below w.heap.size w W → ∀ (j : Nat) (u : Value), (bs.map (fun b => Value.int .u8 b.1))[j]? = some u → W.cell? (ad.add j) = some u) := Lib.hid (fun W hb j u hj => (hb.cell (p := ad.add j) (by rw [block_of_add]; exact had)).trans (hcells j u hj))
  have hn16 : n ≤ 20000 := by omega
  clear had hcells hn hz
  go_enter Tryz.func9, Tryz.ntmps9
  go_upto_region 3 with fail
  have HOW := Lib.hid (own_noneB w)
  go_wp2_with (at_builtin; go_must (refine wpList_append_own_at _ (by rfl) (.tmp 19) (.tmp 20) 106 (by rfl) w.heap.size 5 i0 (.int .u8 0) 1 1 Tryz.underlying106 hi hz0 hz1 hz2 (by rfl) (by decide) (.slice (some ⟨w.heap.size, 0, none⟩) 0 0) 0 [] (by rfl) HOW.out ad n c (bs.map (fun b => Value.int .u8 b.1)) (by rfl) HFL.out (HQ.out _ ((Below.refl _ _).alloc (Nat.le_refl _) _)) (by intro u hu; obtain ⟨b, _, rfl⟩ := List.mem_map.1 hu; rfl) (by unfold maxLen; omega) (by omega) (by simp) ?_); intro v' v1w hown hgrow hnil hat; rw [Nat.zero_add, List.nil_append] at hown)
  obtain ⟨g0, c0, rfl, hcap⟩ := own_form hown (by omega)
  have HRD := Lib.hid (rd_own hown)
  have HB2 := Lib.hid ((HB.out.alloc HB.out.size (.cells #[] 5)).grown hgrow (by simp) (fun k hk => by have h1 : w.heap.size = k := (by simpa [Value.ownBlock] using hk); omega))
  replace HB := HB2; clear HB2
  clear hown hgrow hnil hat
  clear HOW
  refine (HCODE.out _ _ _ hcap HRD.out).mono ?_
  rintro e u1w ⟨A1, c1, A2, c2, rfl, hr1, hr2, hb⟩
  have HDa := Lib.hid (rdB_of hr1); have HMa := Lib.hid (Nat.le_refl u1w.heap.size); have HDb := Lib.hid (rdB_of hr2); have HMb := Lib.hid (Nat.le_refl u1w.heap.size); clear hr1 hr2
  replace HB := Lib.hid (HB.out.trans (hb.mono HB.out.size))
  clear hb
  clear HRD
  go_wp2_with fail
  refine (HREF.out _ _ _ HC.out (HR.out.below HB.out)).mono ?_
  rintro e u2w ⟨A3, c3, A4, c4, rfl, hr1, hr2, hb⟩
  have HDp := Lib.hid (rdB_of hr1); have HMp := Lib.hid (Nat.le_refl u2w.heap.size); have HDq := Lib.hid (rdB_of hr2); have HMq := Lib.hid (Nat.le_refl u2w.heap.size); clear hr1 hr2
  replace HDa := Lib.hid (HDa.out.below (hb.mono HMa.out)); replace HMa := Lib.hid (Nat.le_trans HMa.out hb.size)
  replace HDb := Lib.hid (HDb.out.below (hb.mono HMb.out)); replace HMb := Lib.hid (Nat.le_trans HMb.out hb.size)
  replace HB := Lib.hid (HB.out.trans (hb.mono HB.out.size))
  clear hb
  go_wp2_with fail
  refine (HHEARD.out _ _ _ (HDa.out.rd HMa.out)).mono ?_
  rintro e u3w ⟨A5, c5, rfl, hr1, hb⟩
  have HDh := Lib.hid (rdB_of hr1); have HMh := Lib.hid (Nat.le_refl u3w.heap.size); clear hr1
  replace HDa := Lib.hid (HDa.out.below (hb.mono HMa.out)); replace HMa := Lib.hid (Nat.le_trans HMa.out hb.size)
  replace HDb := Lib.hid (HDb.out.below (hb.mono HMb.out)); replace HMb := Lib.hid (Nat.le_trans HMb.out hb.size)
  replace HDp := Lib.hid (HDp.out.below (hb.mono HMp.out)); replace HMp := Lib.hid (Nat.le_trans HMp.out hb.size)
  replace HDq := Lib.hid (HDq.out.below (hb.mono HMq.out)); replace HMq := Lib.hid (Nat.le_trans HMq.out hb.size)
  replace HB := Lib.hid (HB.out.trans (hb.mono HB.out.size))
  clear hb
  go_wp2_with fail
  refine (samePk_same _ _ _ _ m1 pk _ HM1.out HM1B.out (HDh.out.rd HMh.out) (HDp.out.rd HMp.out)).mono ?_
  rintro e u4w ⟨rfl, hb⟩
  replace HDa := Lib.hid (HDa.out.below (hb.mono HMa.out)); replace HMa := Lib.hid (Nat.le_trans HMa.out hb.size)
  replace HDb := Lib.hid (HDb.out.below (hb.mono HMb.out)); replace HMb := Lib.hid (Nat.le_trans HMb.out hb.size)
  replace HDp := Lib.hid (HDp.out.below (hb.mono HMp.out)); replace HMp := Lib.hid (Nat.le_trans HMp.out hb.size)
  replace HDq := Lib.hid (HDq.out.below (hb.mono HMq.out)); replace HMq := Lib.hid (Nat.le_trans HMq.out hb.size)
  replace HDh := Lib.hid (HDh.out.below (hb.mono HMh.out)); replace HMh := Lib.hid (Nat.le_trans HMh.out hb.size)
  replace HB := Lib.hid (HB.out.trans (hb.mono HB.out.size))
  clear hb
  go_wp2_with fail
  refine (HSPANS.out _ _ _ _ _ (HDb.out.rd HMb.out) (HDq.out.rd HMq.out)).mono ?_
  rintro e u5w ⟨rfl, hb⟩
  replace HDa := Lib.hid (HDa.out.below (hb.mono HMa.out)); replace HMa := Lib.hid (Nat.le_trans HMa.out hb.size)
  replace HDb := Lib.hid (HDb.out.below (hb.mono HMb.out)); replace HMb := Lib.hid (Nat.le_trans HMb.out hb.size)
  replace HDp := Lib.hid (HDp.out.below (hb.mono HMp.out)); replace HMp := Lib.hid (Nat.le_trans HMp.out hb.size)
  replace HDq := Lib.hid (HDq.out.below (hb.mono HMq.out)); replace HMq := Lib.hid (Nat.le_trans HMq.out hb.size)
  replace HDh := Lib.hid (HDh.out.below (hb.mono HMh.out)); replace HMh := Lib.hid (Nat.le_trans HMh.out hb.size)
  replace HB := Lib.hid (HB.out.trans (hb.mono HB.out.size))
  clear hb
  go_wp2_with fail
  refine (awake_laid _ (HL.out.below HB.out)).mono ?_
  rintro e u6w ⟨rfl, hb⟩
  replace HDa := Lib.hid (HDa.out.below (hb.mono HMa.out)); replace HMa := Lib.hid (Nat.le_trans HMa.out hb.size)
  replace HDb := Lib.hid (HDb.out.below (hb.mono HMb.out)); replace HMb := Lib.hid (Nat.le_trans HMb.out hb.size)
  replace HDp := Lib.hid (HDp.out.below (hb.mono HMp.out)); replace HMp := Lib.hid (Nat.le_trans HMp.out hb.size)
  replace HDq := Lib.hid (HDq.out.below (hb.mono HMq.out)); replace HMq := Lib.hid (Nat.le_trans HMq.out hb.size)
  replace HDh := Lib.hid (HDh.out.below (hb.mono HMh.out)); replace HMh := Lib.hid (Nat.le_trans HMh.out hb.size)
  replace HB := Lib.hid (HB.out.trans (hb.mono HB.out.size))
  clear hb
  go_wp2
  go_ret
  exact yesEnd_mk rfl HB.out
end Go.Proofs.YtnbpcfakkphmcaaGreatDoor
namespace Go.Proofs.YtnbpcfakkphmcaaGreatDoor
open Go.RowKit
set_option linter.unusedVariables false
set_option maxRecDepth 100000

theorem streams_long (A : Option Addr) (c n : Nat) (w : World) (hlaid : Laid w) (h1 : 240 < n) (h2 : n ≠ 16385) :
    Calls Tryz.prog 9 #[.slice A n c] w (YesEnd w) := by
  have HL := Lib.hid hlaid; clear hlaid
  have HB := Lib.hid (Below.refl w.heap.size w)
  have h3 : (240 : Int) < n := by omega
  have h4 : ((n : Int) != 16385) = true := by simp; omega
  clear h1 h2
  go_enter Tryz.func9, Tryz.ntmps9
  go_wp2_with fail
  refine (awake_laid _ (HL.out.below HB.out)).mono ?_
  rintro e u1w ⟨rfl, hb⟩
  replace HB := Lib.hid (HB.out.trans (hb.mono HB.out.size))
  clear hb
  go_wp2
  go_ret
  exact yesEnd_mk rfl HB.out
end Go.Proofs.YtnbpcfakkphmcaaGreatDoor
namespace Go.Proofs.YtnbpcfakkphmcaaGreatDoor
open Go.RowKit
set_option linter.unusedVariables false
theorem brd_of_rd {w : World} {A : Option Addr} {bs : List U8} (h : Rd w A (bs.map (fun b => Value.int .u8 b.1))) : BRd w.heap.size w A bs := fun h0 => by
  obtain ⟨ad, e, hl, hc⟩ := h (by simpa using h0)
  exact ⟨ad, e, hl, fun j hj => hc j _ (by simp [List.getD, hj])⟩
theorem streams_law (bs : List U8) (A : Option Addr) (c : Nat) (w : World) (hlaid : Laid w) (hA : A = none → c = 0) (hc : bs.length ≤ c) (hr : Rd w A (bs.map (fun b => Value.int .u8 b.1))) :
    Calls Tryz.prog 9 #[.slice A bs.length c] w (YesEnd w) := by
  obtain ⟨n, hn⟩ : ∃ n, bs.length = n := ⟨_, rfl⟩
  rw [hn] at hc ⊢
  by_cases h1 : n ≤ 240
  · obtain ⟨F, hF⟩ : ∃ F, rfold bs (List.range n) = F := ⟨_, rfl⟩
    have hb := rfold_len bs (List.range n)
    rw [List.length_range, hF] at hb
    have hcode : ∀ (A : Option Addr) (c : Nat) (w : World), n ≤ c → Rd w A (bs.map (fun b => Value.int .u8 b.1)) → Calls Tryz.prog 73 #[.slice A n c] w fun e w' => ∃ A1 c1 A2 c2, e = .returned (.tuple #[.slice A1 F.pk.length c1, .slice A2 F.sk.length c2, .int .i64 0]) ∧ Rd w' A1 (pksC F.pk) ∧ Rd w' A2 (spansC F.sk) ∧ Below w.heap.size w w' := fun A c w hc hr => by
      have h := received_any A c bs (by omega) (by omega) w (brd_of_rd hr)
      rw [hn, hF] at h
      refine h.mono ?_
      rintro e w' ⟨v1, v2, rfl, o1, o2, hbl⟩
      obtain ⟨A1, c1, rfl⟩ := own_shape o1
      obtain ⟨A2, c2, rfl⟩ := own_shape o2
      exact ⟨A1, c1, A2, c2, rfl, rd_own o1, rd_own o2, hbl⟩
    have href : ∀ (A : Option Addr) (c : Nat) (w : World), n ≤ c → Rd w A (bs.map (fun b => Value.int .u8 b.1)) → Calls Tryz.prog 74 #[.slice A n c] w fun e w' => ∃ A1 c1 A2 c2, e = .returned (.tuple #[.slice A1 F.pk.length c1, .slice A2 F.sk.length c2, .int .i64 0]) ∧ Rd w' A1 (pksC F.pk) ∧ Rd w' A2 (spansC F.sk) ∧ Below w.heap.size w w' := fun A c w hc hr => by
      have h := receivedR_any A c bs (by omega) (by omega) w (brd_of_rd hr)
      rw [hn] at h
      refine h.mono ?_
      rintro e w' ⟨v1, v2, rfl, o1, o2, hbl⟩
      rw [hn, hF] at o1 o2
      obtain ⟨A1, c1, rfl⟩ := own_shape o1
      obtain ⟨A2, c2, rfl⟩ := own_shape o2
      exact ⟨A1, c1, A2, c2, rfl, rd_own o1, rd_own o2, hbl⟩
    have hheard : ∀ (A : Option Addr) (c : Nat) (w : World), Rd w A (pksC F.pk) → Calls Tryz.prog 76 #[.slice A F.pk.length c] w fun e w' => ∃ A' c', e = .returned (.slice A' F.pk.length c') ∧ Rd w' A' (pksC F.pk) ∧ Below w.heap.size w w' := fun A c w hr => heard_any A c F.pk w (by omega) hr
    have hspans : ∀ (A A2 : Option Addr) (c c2 : Nat) (w : World), Rd w A (spansC F.sk) → Rd w A2 (spansC F.sk) → Calls Tryz.prog 77 #[.slice A F.sk.length c, .slice A2 F.sk.length c2] w fun e w' => e = .returned (.bool true) ∧ Below w.heap.size w w' := fun A A2 c c2 w h h2 => by
      have hs : sameP F.sk F.sk = true := by simp [sameP]
      have h3 := sameSpans_any A A2 c c2 F.sk F.sk w (by unfold maxLen; omega) (by unfold maxLen; omega) h h2
      rw [hs] at h3
      exact h3
    by_cases hz : n = 0
    · exact streams_z bs A c n w hlaid hn hz hA hc hr F.pk F.sk _ _ 0 rfl rfl (by omega) (by omega) hcode href hheard hspans
    · exact streams_s bs A c n w hlaid hn (by omega) h1 hc hr F.pk F.sk _ _ 0 rfl rfl (by omega) (by omega) hcode href hheard hspans
  · by_cases h2 : n = 16385
    · refine streams_b bs A c n w hlaid hn h2 hc hr [] [] 0 0 26 rfl rfl (by omega) (by omega) (fun A c w _ _ => ?_) (fun A c w _ _ => ?_) (fun A c w h => heard_any A c [] w (by simp) h) (fun A A2 c c2 w h h3 => ?_)
      · refine (received_long A c n (by omega) w).mono ?_
        rintro e w' ⟨rfl, hb⟩
        exact ⟨none, 0, none, 0, rfl, fun h => absurd h (by simp [pksC]), fun h => absurd h (by simp [spansC]), hb⟩
      · refine (receivedR_long A c n (by omega) w).mono ?_
        rintro e w' ⟨rfl, rfl⟩
        exact ⟨none, 0, none, 0, rfl, fun h => absurd h (by simp [pksC]), fun h => absurd h (by simp [spansC]), Below.refl _ _⟩
      · have hs : sameP [] [] = true := by simp [sameP]
        have h4 := sameSpans_any A A2 c c2 [] [] w (by simp) (by simp) h h3
        rw [hs] at h4
        exact h4
    · exact streams_long A c n w hlaid (by omega) h2
end Go.Proofs.YtnbpcfakkphmcaaGreatDoor
