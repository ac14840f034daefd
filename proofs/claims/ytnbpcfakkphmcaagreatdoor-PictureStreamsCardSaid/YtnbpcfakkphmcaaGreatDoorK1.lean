/- Parts of a proof: The reference's errors of packets, the law's list of packets, the frame of a wrong packet. The reference's frame of a packet. The reference's packet of a frame. The counters that are lost, by the reference. Whole boxes: a struct or an array is loaded, and stored, in one step, its cells unopened. What the program and the reference answer of packets. -/
import Derived.Test.YtnbpcfakkphmcaaGreatDoorAp
import Derived.Test.YtnbpcfakkphmcaaGreatDoorAm
import Derived.Test.YtnbpcfakkphmcaaGreatDoorAv
import Derived.Test.YtnbpcfakkphmcaaGreatDoorAj
import Derived.Test.YtnbpcfakkphmcaaGreatDoorAc
import Derived.Test.YtnbpcfakkphmcaaGreatDoorAd
import Derived.Test.YtnbpcfakkphmcaaGreatDoorRe
import Derived.Test.YtnbpcfakkphmcaaGreatDoorL
import Derived.Deep.MidRow
import Derived.Deep.WholeRow
import Derived.Test.YtnbpcfakkphmcaaGreatDoorP3
namespace Go.Proofs.YtnbpcfakkphmcaaGreatDoor
open Go.RowKit
set_option linter.unusedVariables false
def shortPk (n : Nat) : Bool := decide (n ≤ 24) || decide (n = 1025)
theorem shortPackets_any (A : Option Addr) (n c : Nat) (w : World) : Calls Tryz.prog 63 #[.slice A n c] w fun e w' => e = .returned (.bool (shortPk n)) ∧ w = w' := by
  by_cases h1 : n ≤ 24
  · have HE : RowKit.Hid (shortPk n = true) := Lib.hid (by simp [shortPk, h1])
    have h1' : (n : Int) ≤ 24 := by omega
    clear h1
    go_enter Tryz.func63, Tryz.ntmps63
    go_wp2
    go_ret
    exact ⟨ret_bool HE.out.symm, rfl⟩
  · have h1' : ¬ (n : Int) ≤ 24 := by omega
    by_cases h2 : n = 1025
    · subst h2
      go_enter Tryz.func63, Tryz.ntmps63
      go_wp2
      go_ret
      exact ⟨rfl, rfl⟩
    · have HE : RowKit.Hid (shortPk n = false) := Lib.hid (by simp [shortPk, h1, h2])
      have h2' : ((n : Int) == 1025) = false := by simp; omega
      clear h1 h2
      go_enter Tryz.func63, Tryz.ntmps63
      go_wp2
      go_ret
      exact ⟨ret_bool HE.out.symm, rfl⟩
set_option maxRecDepth 100000 in
theorem checkPacketR_any (ki co d0 d1 d2 d3 d4 d5 d6 d7 d8 d9 : Int) (w : World) : Calls Tryz.prog 68 #[.agg #[.int .i64 ki, .int .i64 co, .int .u8 d0, .int .u8 d1, .int .u8 d2, .int .u8 d3, .int .u8 d4, .int .u8 d5, .int .u8 d6, .int .u8 d7, .int .u8 d8, .int .u8 d9]] w fun e w' => e = .returned (.int .i64 (pkErr ki co)) ∧ Below w.heap.size w w' := by
  go_enter Tryz.func68, Tryz.ntmps68
  go_wp2_with fail
  have hx0 := (Blk.new w 89 #[.int .i64 ki, .int .i64 co, .int .u8 d0, .int .u8 d1, .int .u8 d2, .int .u8 d3, .int .u8 d4, .int .u8 d5, .int .u8 d6, .int .u8 d7, .int .u8 d8, .int .u8 d9])
  have hb0 := ((Below.refl w.heap.size w).alloc (Nat.le_refl _) (.cells #[.int .i64 ki, .int .i64 co, .int .u8 d0, .int .u8 d1, .int .u8 d2, .int .u8 d3, .int .u8 d4, .int .u8 d5, .int .u8 d6, .int .u8 d7, .int .u8 d8, .int .u8 d9] 89))
  generalize (w.alloc (.cells #[.int .i64 ki, .int .i64 co, .int .u8 d0, .int .u8 d1, .int .u8 d2, .int .u8 d3, .int .u8 d4, .int .u8 d5, .int .u8 d6, .int .u8 d7, .int .u8 d8, .int .u8 d9] 89)) = w0 at hx0 hb0 ⊢
  have HX0_0 := Lib.hid hx0
  have HB_0 := Lib.hid hb0
  clear hx0 hb0
  have k0_0 : w0.cell? ⟨w.heap.size, 0, none⟩ = some (.int .i64 ki) := HX0_0.out.cell 0
  have k0_1 : w0.cell? ⟨w.heap.size, 1, none⟩ = some (.int .i64 co) := HX0_0.out.cell 1
  go_region_held3 (fun w' => w'.cell? ⟨w.heap.size, 0, none⟩ = some (.int .i64 ki) ∧ w'.cell? ⟨w.heap.size, 1, none⟩ = some (.int .i64 co)) (go_keep)
    (first
      | (go_at_call 19; refine (checkRange_any _ _ _ _).mono ?_; rintro e w' ⟨rfl, rfl⟩)
      | (go_at_call 99; refine (firstR_n _ _ _ [outs ki 0 255, outs co 0 255] _ rfl (by simp [maxLen]) (by exact rd_of_blk (Blk.new w0 _ _) rfl)).mono ?_; rintro e w' ⟨rfl, rfl⟩))
  go_wp2
  go_ret
  exact ⟨rfl, (HB_0.out.alloc HB_0.out.size _).drew⟩
def pksErr (l : List Pk) : Int := if 1024 < l.length then 5 else firstPk l
theorem lostErr_eq (l : List Pk) (kind : Int) : lostErr l kind = firstE [pksErr l, outs kind 0 255] := by
  unfold lostErr pksErr
  by_cases h : 1024 < l.length
  · rw [if_pos h, decide_eq_true (by omega)]; rfl
  · rw [if_neg h, decide_eq_false (by omega)]; rfl
set_option maxRecDepth 100000 in
theorem checkPackets_any (A : Option Addr) (c : Nat) (l : List Pk) (w : World) (hl : l.length ≤ maxLen) (hr : Rd w A (pksC l)) :
    Calls Tryz.prog 69 #[.slice A l.length c] w fun e w' => e = .returned (.int .i64 (pksErr l)) ∧ Below w.heap.size w w' := by
  unfold maxLen at hl
  have HR := Lib.hid hr; clear hr
  have HE : RowKit.Hid (pksErr l = if 1024 < l.length then 5 else firstPk l) := Lib.hid rfl
  obtain ⟨E, hE⟩ : ∃ E, pksErr l = E := ⟨_, rfl⟩
  rw [hE] at HE ⊢
  clear hE
  obtain ⟨n, hn⟩ : ∃ n, l.length = n := ⟨_, rfl⟩
  have HN := Lib.hid hn
  rw [hn] at hl HE ⊢
  clear hn
  go_enter Tryz.func69, Tryz.ntmps69
  by_cases h4 : 1024 < n
  · have h4' : (1024 : Int) < n := by omega
    have HE2 := Lib.hid (HE.out.trans (if_pos h4))
    clear h4 HE
    go_wp2
    go_ret
    exact ⟨ret_int HE2.out.symm, Below.refl _ _⟩
  have h4' : ¬ (1024 : Int) < n := by omega
  have HE2 := Lib.hid (HE.out.trans (if_neg h4))
  clear h4 HE
  go_wp2
  go_loopw [3] (fun v wr => ∃ i : Nat, i ≤ n ∧ v = .int .i64 i ∧ RowKit.Hid (firstPk l = firstPk (l.drop i)) ∧ Below w.heap.size w wr) (fun v _ => n - (intOf v).toNat)
  case atStart => exact ⟨0, by omega, rfl, Lib.hid rfl, Below.refl _ _⟩
  case round =>
    obtain ⟨i, hi, rfl, Hf, hbel⟩ := hrel
    by_cases hlt : i < n
    · have g1 : i < l.length := by rw [HN.out]; exact hlt
      obtain ⟨p, hp⟩ : ∃ p, l[i] = p := ⟨_, rfl⟩
      have hat : ∀ j v, p.cells[j]? = some v → (pksC l)[i * 12 + j]? = some v := fun j v hv => pksC_at g1 j v (by rw [hp]; exact hv)
      obtain ⟨ad, rfl, hbl, hcc⟩ := (HR.out.below hbel) (by rw [pksC_len]; omega)
      have hcx : ∀ j v, p.cells[j]? = some v → wr.cell? ((ad.add (i * 12)).add j) = some v := fun j v hv => by
        rw [Addr.add_add]; exact hcc _ _ (hat j v hv)
      have q0 : wr.cell? (ad.add (i * 12)) = some (.int .i64 p.k) := by
        have h := hcx 0 _ rfl
        rwa [Addr.add_add] at h
      have q1 : wr.cell? ⟨(ad.add (i * 12)).block, (ad.add (i * 12)).off + 1, none⟩ = some (.int .i64 p.c) := hcx 1 _ rfl
      have q2 : wr.cell? ⟨(ad.add (i * 12)).block, (ad.add (i * 12)).off + 2, none⟩ = some (.int .u8 p.d0) := hcx 2 _ rfl
      have q3 : wr.cell? ⟨(ad.add (i * 12)).block, (ad.add (i * 12)).off + 3, none⟩ = some (.int .u8 p.d1) := hcx 3 _ rfl
      have q4 : wr.cell? ⟨(ad.add (i * 12)).block, (ad.add (i * 12)).off + 4, none⟩ = some (.int .u8 p.d2) := hcx 4 _ rfl
      have q5 : wr.cell? ⟨(ad.add (i * 12)).block, (ad.add (i * 12)).off + 5, none⟩ = some (.int .u8 p.d3) := hcx 5 _ rfl
      have q6 : wr.cell? ⟨(ad.add (i * 12)).block, (ad.add (i * 12)).off + 6, none⟩ = some (.int .u8 p.d4) := hcx 6 _ rfl
      have q7 : wr.cell? ⟨(ad.add (i * 12)).block, (ad.add (i * 12)).off + 7, none⟩ = some (.int .u8 p.d5) := hcx 7 _ rfl
      have q8 : wr.cell? ⟨(ad.add (i * 12)).block, (ad.add (i * 12)).off + 8, none⟩ = some (.int .u8 p.d6) := hcx 8 _ rfl
      have q9 : wr.cell? ⟨(ad.add (i * 12)).block, (ad.add (i * 12)).off + 9, none⟩ = some (.int .u8 p.d7) := hcx 9 _ rfl
      have q10 : wr.cell? ⟨(ad.add (i * 12)).block, (ad.add (i * 12)).off + 10, none⟩ = some (.int .u8 p.d8) := hcx 10 _ rfl
      have q11 : wr.cell? ⟨(ad.add (i * 12)).block, (ad.add (i * 12)).off + 11, none⟩ = some (.int .u8 p.d9) := hcx 11 _ rfl
      have Hd := Lib.hid (show firstPk (l.drop i) = if p.err = 0 then firstPk (l.drop (i + 1)) else p.err by
        rw [List.drop_eq_getElem_cons g1, hp]; rfl)
      have HBel := Lib.hid hbel
      have z0 : ad.block < wr.heap.size := hbl
      clear hbel hcc hcx hat hp
      go_wp2_with fail
      refine (checkPacketR_any _ _ _ _ _ _ _ _ _ _ _ _ _).mono ?_
      rintro e w1 ⟨rfl, hb1⟩
      have HB1 := Lib.hid (HBel.out.trans (hb1.mono HBel.out.size)); clear hb1
      obtain ⟨x, hx⟩ : ∃ x, pkErr p.k p.c = x := ⟨_, rfl⟩
      have hx' : p.err = x := hx
      rw [hx]
      rw [hx'] at Hd
      by_cases hz : x = 0
      · have hz' : (x != 0) = false := by simp [hz]
        have HZ := Lib.hid hz; clear hz hx hx'
        go_wp2
        go_roundw
        case rel => exact ⟨i + 1, by omega, by go_num, Lib.hid (by rw [Hf.out, Hd.out, if_pos HZ.out]), HB1.out⟩
        case measure => simp [intOf]; omega
      · have hz' : (x != 0) = true := by simp [hz]
        have HZ := Lib.hid hz; clear hz hx hx'
        go_wp2
        go_ret
        exact ⟨ret_int (by rw [HE2.out, Hf.out, Hd.out, if_neg HZ.out]), HB1.out⟩
    · have : i = n := by omega
      subst this
      go_wp2
      go_ret
      exact ⟨ret_int (by rw [HE2.out, Hf.out, List.drop_of_length_le (by rw [HN.out]; exact Nat.le_refl _)]; rfl), hbel⟩
theorem pksC_snoc {l : List Pk} {i : Nat} (h : i < l.length) : pksC (l.take (i + 1)) = pksC (l.take i) ++ pksC [l[i]] := by
  rw [← pksC_app]; congr 1; simp
set_option maxRecDepth 100000 in
/-- The law's copy of packets. -/
theorem packets_any (A : Option Addr) (c : Nat) (l : List Pk) (w : World) (hl : l.length ≤ 1000000) (hr : Rd w A (pksC l)) :
    Calls Tryz.prog 67 #[.slice A l.length c] w fun e w' => ∃ A' c', e = .returned (.slice A' l.length c') ∧ Rd w' A' (pksC l) ∧ Below w.heap.size w w' := by
  obtain ⟨i0, hi, hz0, hz1, hz2⟩ := info_parts info_packet
  have HR := Lib.hid hr; clear hr
  obtain ⟨n, hn⟩ : ∃ n, l.length = n := ⟨_, rfl⟩
  have HN := Lib.hid hn
  rw [hn] at hl ⊢
  clear hn
  go_enter Tryz.func67, Tryz.ntmps67
  go_wp2
  go_loopw [3, 8] (fun sv v wr => ∃ i : Nat, i ≤ n ∧ v = .int .i64 i ∧ wr.ownsRow w.heap.size 92 12 sv i (pksC (l.take i)) ∧ Below w.heap.size w wr) (fun _ v _ => n - (intOf v).toNat)
  case atStart => exact ⟨0, by omega, rfl, by exact World.ownsRow_nil _ _ _ _, Below.refl _ _⟩
  case round =>
    obtain ⟨i, hi2, rfl, hown, hbel⟩ := hrel
    by_cases hlt : i < n
    · have g1 : i < l.length := by rw [HN.out]; exact hlt
      obtain ⟨p, hp⟩ : ∃ p, l[i] = p := ⟨_, rfl⟩
      have HSN : RowKit.Hid (pksC (l.take (i + 1)) = pksC (l.take i) ++ pksC [p]) := Lib.hid (by rw [pksC_snoc g1, hp])
      have hat : ∀ j v, p.cells[j]? = some v → (pksC l)[i * 12 + j]? = some v := fun j v hv => pksC_at g1 j v (by rw [hp]; exact hv)
      obtain ⟨ad, rfl, hbl, hcc⟩ := (HR.out.below hbel) (by rw [pksC_len]; omega)
      have hcx : ∀ j v, p.cells[j]? = some v → wr.cell? ((ad.add (i * 12)).add j) = some v := fun j v hv => by
        rw [Addr.add_add]; exact hcc _ _ (hat j v hv)
      have q0 : wr.cell? (ad.add (i * 12)) = some (.int .i64 p.k) := by
        have h := hcx 0 _ rfl
        rwa [Addr.add_add] at h
      have q1 : wr.cell? ⟨(ad.add (i * 12)).block, (ad.add (i * 12)).off + 1, none⟩ = some (.int .i64 p.c) := hcx 1 _ rfl
      have q2 : wr.cell? ⟨(ad.add (i * 12)).block, (ad.add (i * 12)).off + 2, none⟩ = some (.int .u8 p.d0) := hcx 2 _ rfl
      have q3 : wr.cell? ⟨(ad.add (i * 12)).block, (ad.add (i * 12)).off + 3, none⟩ = some (.int .u8 p.d1) := hcx 3 _ rfl
      have q4 : wr.cell? ⟨(ad.add (i * 12)).block, (ad.add (i * 12)).off + 4, none⟩ = some (.int .u8 p.d2) := hcx 4 _ rfl
      have q5 : wr.cell? ⟨(ad.add (i * 12)).block, (ad.add (i * 12)).off + 5, none⟩ = some (.int .u8 p.d3) := hcx 5 _ rfl
      have q6 : wr.cell? ⟨(ad.add (i * 12)).block, (ad.add (i * 12)).off + 6, none⟩ = some (.int .u8 p.d4) := hcx 6 _ rfl
      have q7 : wr.cell? ⟨(ad.add (i * 12)).block, (ad.add (i * 12)).off + 7, none⟩ = some (.int .u8 p.d5) := hcx 7 _ rfl
      have q8 : wr.cell? ⟨(ad.add (i * 12)).block, (ad.add (i * 12)).off + 8, none⟩ = some (.int .u8 p.d6) := hcx 8 _ rfl
      have q9 : wr.cell? ⟨(ad.add (i * 12)).block, (ad.add (i * 12)).off + 9, none⟩ = some (.int .u8 p.d7) := hcx 9 _ rfl
      have q10 : wr.cell? ⟨(ad.add (i * 12)).block, (ad.add (i * 12)).off + 10, none⟩ = some (.int .u8 p.d8) := hcx 10 _ rfl
      have q11 : wr.cell? ⟨(ad.add (i * 12)).block, (ad.add (i * 12)).off + 11, none⟩ = some (.int .u8 p.d9) := hcx 11 _ rfl
      have HBel := Lib.hid hbel
      have z0 : ad.block < wr.heap.size := hbl
      have hsz := hbel.size
      have HO := Lib.hid hown
      have hnb := heap_alloc_new (wr.alloc (.cells #[.int .i64 p.k, .int .i64 p.c, .int .u8 p.d0, .int .u8 p.d1, .int .u8 p.d2, .int .u8 p.d3, .int .u8 p.d4, .int .u8 p.d5, .int .u8 p.d6, .int .u8 p.d7, .int .u8 p.d8, .int .u8 p.d9] 89)) (.cells #[.int .i64 p.k, .int .i64 p.c, .int .u8 p.d0, .int .u8 p.d1, .int .u8 p.d2, .int .u8 p.d3, .int .u8 p.d4, .int .u8 p.d5, .int .u8 p.d6, .int .u8 p.d7, .int .u8 p.d8, .int .u8 p.d9] 92)
      rw [World.size_alloc] at hnb
      have HNB := Lib.hid hnb
      clear hbel hcc hcx hat hp hown hnb
      go_wp2_with (at_builtin; go_must (refine wpList_append_own_at _ (by rfl) (.tmp 12) (.tmp 14) 96 (by rfl) w.heap.size 92 i0 pk0.val 12 32 Tryz.underlying96 hi hz0 hz1 hz2 (by rfl) (by decide) _ i (pksC (l.take i)) (by rfl) ((HO.out.alloc _).alloc _) ⟨wr.heap.size + 1, 0, none⟩ 1 1 (pksC [p]) rfl rfl (World.news_of_block HNB.out) (by simp [pksC, Pk.cells, Value.oneCell']) (by unfold maxLen; omega) (by omega) (by simp; omega) ?_); intro v' w4 hown1 hgrow hnil hat1)
      go_roundw
      case rel =>
        refine ⟨i + 1, by omega, by go_num, by rw [HSN.out]; exact hown1, ?_⟩
        exact ((HBel.out.alloc HBel.out.size (.cells #[.int .i64 p.k, .int .i64 p.c, .int .u8 p.d0, .int .u8 p.d1, .int .u8 p.d2, .int .u8 p.d3, .int .u8 p.d4, .int .u8 p.d5, .int .u8 p.d6, .int .u8 p.d7, .int .u8 p.d8, .int .u8 p.d9] 89)).alloc (by have := HBel.out.size; simp; omega) (.cells #[.int .i64 p.k, .int .i64 p.c, .int .u8 p.d0, .int .u8 p.d1, .int .u8 p.d2, .int .u8 p.d3, .int .u8 p.d4, .int .u8 p.d5, .int .u8 p.d6, .int .u8 p.d7, .int .u8 p.d8, .int .u8 p.d9] 92)).grown hgrow (by simp; omega) (fun r hr => (owns_block ((HO.out.alloc (.cells #[.int .i64 p.k, .int .i64 p.c, .int .u8 p.d0, .int .u8 p.d1, .int .u8 p.d2, .int .u8 p.d3, .int .u8 p.d4, .int .u8 p.d5, .int .u8 p.d6, .int .u8 p.d7, .int .u8 p.d8, .int .u8 p.d9] 89)).alloc (.cells #[.int .i64 p.k, .int .i64 p.c, .int .u8 p.d0, .int .u8 p.d1, .int .u8 p.d2, .int .u8 p.d3, .int .u8 p.d4, .int .u8 p.d5, .int .u8 p.d6, .int .u8 p.d7, .int .u8 p.d8, .int .u8 p.d9] 92)) r hr).1)
      case measure => simp [intOf]; omega
    · have : i = n := by omega
      subst this
      have ht : l.take i = l := List.take_of_length_le (by rw [HN.out]; exact Nat.le_refl _)
      rw [ht] at hown
      obtain ⟨A', c', rfl⟩ := own_shape hown
      have HRD := Lib.hid (rd_own hown)
      have HBel := Lib.hid hbel
      clear hown ht hbel
      go_wp2
      go_ret
      exact ⟨A', c', rfl, HRD.out, HBel.out⟩
set_option maxRecDepth 100000 in
set_option maxHeartbeats 1000000 in
theorem encode_bad (ki co d0 d1 d2 d3 d4 d5 d6 d7 d8 d9 : Int) (w : World) (he : pkErr ki co ≠ 0) : Calls Tryz.prog 64 #[.agg #[.int .i64 ki, .int .i64 co, .int .u8 d0, .int .u8 d1, .int .u8 d2, .int .u8 d3, .int .u8 d4, .int .u8 d5, .int .u8 d6, .int .u8 d7, .int .u8 d8, .int .u8 d9]] w fun e w' => e = .returned (.tuple #[.agg #[.int .u8 0, .int .u8 0, .int .u8 0, .int .u8 0, .int .u8 0, .int .u8 0, .int .u8 0, .int .u8 0, .int .u8 0, .int .u8 0, .int .u8 0, .int .u8 0, .int .u8 0, .int .u8 0, .int .u8 0, .int .u8 0], .int .i64 (pkErr ki co)]) ∧ Below w.heap.size w w' := by
  obtain ⟨E, hE⟩ : ∃ E, pkErr ki co = E := ⟨_, rfl⟩
  have HE := Lib.hid hE
  rw [hE] at he ⊢
  have hne : (E != 0) = true := by simpa using he
  clear hE he
  go_enter Tryz.func64, Tryz.ntmps64
  go_wp2_with fail
  have hx1 := (Blk.new (w.alloc (.cells #[.int .i64 ki, .int .i64 co, .int .u8 d0, .int .u8 d1, .int .u8 d2, .int .u8 d3, .int .u8 d4, .int .u8 d5, .int .u8 d6, .int .u8 d7, .int .u8 d8, .int .u8 d9] 92)) 85 #[.int .u8 0, .int .u8 0, .int .u8 0, .int .u8 0, .int .u8 0, .int .u8 0, .int .u8 0, .int .u8 0, .int .u8 0, .int .u8 0, .int .u8 0, .int .u8 0, .int .u8 0, .int .u8 0, .int .u8 0, .int .u8 0])
  simp only [World.size_alloc] at hx1
  have hb0 := (((Below.refl w.heap.size w).alloc (Nat.le_refl _) (.cells #[.int .i64 ki, .int .i64 co, .int .u8 d0, .int .u8 d1, .int .u8 d2, .int .u8 d3, .int .u8 d4, .int .u8 d5, .int .u8 d6, .int .u8 d7, .int .u8 d8, .int .u8 d9] 92)).alloc (by simp only [World.size_alloc]; omega) (.cells #[.int .u8 0, .int .u8 0, .int .u8 0, .int .u8 0, .int .u8 0, .int .u8 0, .int .u8 0, .int .u8 0, .int .u8 0, .int .u8 0, .int .u8 0, .int .u8 0, .int .u8 0, .int .u8 0, .int .u8 0, .int .u8 0] 85))
  generalize ((w.alloc (.cells #[.int .i64 ki, .int .i64 co, .int .u8 d0, .int .u8 d1, .int .u8 d2, .int .u8 d3, .int .u8 d4, .int .u8 d5, .int .u8 d6, .int .u8 d7, .int .u8 d8, .int .u8 d9] 92)).alloc (.cells #[.int .u8 0, .int .u8 0, .int .u8 0, .int .u8 0, .int .u8 0, .int .u8 0, .int .u8 0, .int .u8 0, .int .u8 0, .int .u8 0, .int .u8 0, .int .u8 0, .int .u8 0, .int .u8 0, .int .u8 0, .int .u8 0] 85)) = w0 at hx1 hb0 ⊢
  have HX1_0 := Lib.hid hx1
  have HB_0 := Lib.hid hb0
  clear hx1 hb0
  refine (packetError_any _ _ _ _ _ _ _ _ _ _ _ _ _).mono ?_
  rw [HE.out]
  rintro e wn ⟨rfl, hch⟩
  have hx1 := HX1_0.out.below hch
  have HB_1 := Lib.hid (HB_0.out.trans (hch.mono HB_0.out.size))
  have z1 : w.heap.size + 1 < wn.heap.size := hx1.lt
  clear hch HX1_0 HB_0
  have e0 := hx1.cell 0
  have e1 := hx1.cell 1
  have e2 := hx1.cell 2
  have e3 := hx1.cell 3
  have e4 := hx1.cell 4
  have e5 := hx1.cell 5
  have e6 := hx1.cell 6
  have e7 := hx1.cell 7
  have e8 := hx1.cell 8
  have e9 := hx1.cell 9
  have e10 := hx1.cell 10
  have e11 := hx1.cell 11
  have e12 := hx1.cell 12
  have e13 := hx1.cell 13
  have e14 := hx1.cell 14
  have e15 := hx1.cell 15
  simp only [List.getElem?_toArray, List.getElem?_cons_zero, List.getElem?_cons_succ] at e0 e1 e2 e3 e4 e5 e6 e7 e8 e9 e10 e11 e12 e13 e14 e15
  have ef0 := hx1.frozen 0
  have ef1 := hx1.frozen 1
  have ef2 := hx1.frozen 2
  have ef3 := hx1.frozen 3
  have ef4 := hx1.frozen 4
  have ef5 := hx1.frozen 5
  have ef6 := hx1.frozen 6
  have ef7 := hx1.frozen 7
  have ef8 := hx1.frozen 8
  have ef9 := hx1.frozen 9
  have ef10 := hx1.frozen 10
  have ef11 := hx1.frozen 11
  have ef12 := hx1.frozen 12
  have ef13 := hx1.frozen 13
  have ef14 := hx1.frozen 14
  have ef15 := hx1.frozen 15
  clear hx1
  go_wp2
  refine bodyPost_ret (v := .tuple #[.agg #[.int .u8 0, .int .u8 0, .int .u8 0, .int .u8 0, .int .u8 0, .int .u8 0, .int .u8 0, .int .u8 0, .int .u8 0, .int .u8 0, .int .u8 0, .int .u8 0, .int .u8 0, .int .u8 0, .int .u8 0, .int .u8 0], .int .i64 E]) (by simp [results, Tryz.results64, go_sem, e0, e1, e2, e3, e4, e5, e6, e7, e8, e9, e10, e11, e12, e13, e14, e15]) rfl ⟨rfl, ?_⟩
  exact ((((((((((((((((HB_1.out.setCell (p := ⟨w.heap.size + 1, 0, none⟩) (by simp) _).setCell (p := ⟨w.heap.size + 1, 1, none⟩) (by simp) _).setCell (p := ⟨w.heap.size + 1, 2, none⟩) (by simp) _).setCell (p := ⟨w.heap.size + 1, 3, none⟩) (by simp) _).setCell (p := ⟨w.heap.size + 1, 4, none⟩) (by simp) _).setCell (p := ⟨w.heap.size + 1, 5, none⟩) (by simp) _).setCell (p := ⟨w.heap.size + 1, 6, none⟩) (by simp) _).setCell (p := ⟨w.heap.size + 1, 7, none⟩) (by simp) _).setCell (p := ⟨w.heap.size + 1, 8, none⟩) (by simp) _).setCell (p := ⟨w.heap.size + 1, 9, none⟩) (by simp) _).setCell (p := ⟨w.heap.size + 1, 10, none⟩) (by simp) _).setCell (p := ⟨w.heap.size + 1, 11, none⟩) (by simp) _).setCell (p := ⟨w.heap.size + 1, 12, none⟩) (by simp) _).setCell (p := ⟨w.heap.size + 1, 13, none⟩) (by simp) _).setCell (p := ⟨w.heap.size + 1, 14, none⟩) (by simp) _).setCell (p := ⟨w.heap.size + 1, 15, none⟩) (by simp) _)
end Go.Proofs.YtnbpcfakkphmcaaGreatDoor
namespace Go.Proofs.YtnbpcfakkphmcaaGreatDoor
open Go.RowKit
set_option linter.unusedVariables false
def u8A (l : List Int) : Array Value := (l.map (Value.int .u8)).toArray
theorem u8A_set (l : List Int) (i : Nat) (v : Int) : (u8A l).setIfInBounds i (.int .u8 v) = u8A (l.set i v) := by
  unfold u8A
  rw [List.map_set]
  simp
theorem u8A_get {l : List Int} {i : Nat} (h : i < l.length) : (u8A l)[i]? = some (.int .u8 (l.getD i 0)) := by
  unfold u8A
  simp [h, List.getD]
theorem blk_u8_set {w : World} {g : Nat} {t : TypeId} {l : List Int} (h : Blk w g t (u8A l)) (i : Nat) (v : Int) : Blk (w.setCell ⟨g, i, none⟩ (.int .u8 v)) g t (u8A (l.set i v)) := by
  rw [← u8A_set]; exact h.set_ i _
theorem blk_u8_get {w : World} {g : Nat} {t : TypeId} {l : List Int} (h : Blk w g t (u8A l)) {i : Nat} (hi : i < l.length) : w.cell? ⟨g, i, none⟩ = some (.int .u8 (l.getD i 0)) := (h.cell i).trans (u8A_get hi)
/-- The bytes of a frame, with the first k bytes of the data put in. -/
def putD (ds : List U8) : Nat → List Int → List Int
  | 0, l => l
  | k + 1, l => (putD ds k l).set (3 + k) (ds.getD k u0).1
theorem putD_len (ds : List U8) (k : Nat) (l : List Int) : (putD ds k l).length = l.length := by
  induction k with
  | zero => rfl
  | succ k ih => unfold putD; rw [List.length_set, ih]
set_option maxRecDepth 100000 in
set_option maxHeartbeats 2000000 in
theorem encodeR_ok (ki co : U8) (d0 d1 d2 d3 d4 d5 d6 d7 d8 d9 : U8) (w : World) : Calls Tryz.prog 70 #[.agg #[.int .i64 ki.1, .int .i64 co.1, .int .u8 d0.1, .int .u8 d1.1, .int .u8 d2.1, .int .u8 d3.1, .int .u8 d4.1, .int .u8 d5.1, .int .u8 d6.1, .int .u8 d7.1, .int .u8 d8.1, .int .u8 d9.1]] w fun e w' => ∃ (P : U8) (S : Int), xorF [ki, co, d0, d1, d2, d3, d4, d5, d6, d7, d8, d9] 0 = P.1 ∧ rollF 251 65521 [u171, ki, co, d0, d1, d2, d3, d4, d5, d6, d7, d8, d9, P] 1 = S ∧ e = .returned (.agg #[.int .u8 171, .int .u8 ki.1, .int .u8 co.1, .int .u8 d0.1, .int .u8 d1.1, .int .u8 d2.1, .int .u8 d3.1, .int .u8 d4.1, .int .u8 d5.1, .int .u8 d6.1, .int .u8 d7.1, .int .u8 d8.1, .int .u8 d9.1, .int .u8 P.1, .int .u8 (S / 256), .int .u8 (S % 256)]) ∧ Below w.heap.size w w' := by
  have hki := ki.2
  have hco := co.2
  go_enter Tryz.func70, Tryz.ntmps70
  go_upto_region 2 with fail
  have hp := ((Blk.new w 89 #[.int .i64 ki.1, .int .i64 co.1, .int .u8 d0.1, .int .u8 d1.1, .int .u8 d2.1, .int .u8 d3.1, .int .u8 d4.1, .int .u8 d5.1, .int .u8 d6.1, .int .u8 d7.1, .int .u8 d8.1, .int .u8 d9.1]).alloc (.cells #[.int .u8 0, .int .u8 0, .int .u8 0, .int .u8 0, .int .u8 0, .int .u8 0, .int .u8 0, .int .u8 0, .int .u8 0, .int .u8 0, .int .u8 0, .int .u8 0, .int .u8 0, .int .u8 0, .int .u8 0, .int .u8 0] 85)).alloc (.cells #[.int .u8 0, .int .u8 0, .int .u8 0, .int .u8 0, .int .u8 0, .int .u8 0, .int .u8 0, .int .u8 0, .int .u8 0, .int .u8 0, .int .u8 0, .int .u8 0, .int .u8 0, .int .u8 0, .int .u8 0, .int .u8 0] 85)
  have hr := (Blk.new (w.alloc (.cells #[.int .i64 ki.1, .int .i64 co.1, .int .u8 d0.1, .int .u8 d1.1, .int .u8 d2.1, .int .u8 d3.1, .int .u8 d4.1, .int .u8 d5.1, .int .u8 d6.1, .int .u8 d7.1, .int .u8 d8.1, .int .u8 d9.1] 89)) 85 #[.int .u8 0, .int .u8 0, .int .u8 0, .int .u8 0, .int .u8 0, .int .u8 0, .int .u8 0, .int .u8 0, .int .u8 0, .int .u8 0, .int .u8 0, .int .u8 0, .int .u8 0, .int .u8 0, .int .u8 0, .int .u8 0]).alloc (.cells #[.int .u8 0, .int .u8 0, .int .u8 0, .int .u8 0, .int .u8 0, .int .u8 0, .int .u8 0, .int .u8 0, .int .u8 0, .int .u8 0, .int .u8 0, .int .u8 0, .int .u8 0, .int .u8 0, .int .u8 0, .int .u8 0] 85)
  have ho := Blk.new ((w.alloc (.cells #[.int .i64 ki.1, .int .i64 co.1, .int .u8 d0.1, .int .u8 d1.1, .int .u8 d2.1, .int .u8 d3.1, .int .u8 d4.1, .int .u8 d5.1, .int .u8 d6.1, .int .u8 d7.1, .int .u8 d8.1, .int .u8 d9.1] 89)).alloc (.cells #[.int .u8 0, .int .u8 0, .int .u8 0, .int .u8 0, .int .u8 0, .int .u8 0, .int .u8 0, .int .u8 0, .int .u8 0, .int .u8 0, .int .u8 0, .int .u8 0, .int .u8 0, .int .u8 0, .int .u8 0, .int .u8 0] 85)) 85 #[.int .u8 0, .int .u8 0, .int .u8 0, .int .u8 0, .int .u8 0, .int .u8 0, .int .u8 0, .int .u8 0, .int .u8 0, .int .u8 0, .int .u8 0, .int .u8 0, .int .u8 0, .int .u8 0, .int .u8 0, .int .u8 0]
  have hb := ((((Below.refl w.heap.size w).alloc (Nat.le_refl _) (.cells #[.int .i64 ki.1, .int .i64 co.1, .int .u8 d0.1, .int .u8 d1.1, .int .u8 d2.1, .int .u8 d3.1, .int .u8 d4.1, .int .u8 d5.1, .int .u8 d6.1, .int .u8 d7.1, .int .u8 d8.1, .int .u8 d9.1] 89)).alloc (by simp only [World.size_alloc]; omega) (.cells #[.int .u8 0, .int .u8 0, .int .u8 0, .int .u8 0, .int .u8 0, .int .u8 0, .int .u8 0, .int .u8 0, .int .u8 0, .int .u8 0, .int .u8 0, .int .u8 0, .int .u8 0, .int .u8 0, .int .u8 0, .int .u8 0] 85)).alloc (by simp only [World.size_alloc]; omega) (.cells #[.int .u8 0, .int .u8 0, .int .u8 0, .int .u8 0, .int .u8 0, .int .u8 0, .int .u8 0, .int .u8 0, .int .u8 0, .int .u8 0, .int .u8 0, .int .u8 0, .int .u8 0, .int .u8 0, .int .u8 0, .int .u8 0] 85))
  simp only [World.size_alloc] at hr ho
  generalize (((w.alloc (.cells #[.int .i64 ki.1, .int .i64 co.1, .int .u8 d0.1, .int .u8 d1.1, .int .u8 d2.1, .int .u8 d3.1, .int .u8 d4.1, .int .u8 d5.1, .int .u8 d6.1, .int .u8 d7.1, .int .u8 d8.1, .int .u8 d9.1] 89)).alloc (.cells #[.int .u8 0, .int .u8 0, .int .u8 0, .int .u8 0, .int .u8 0, .int .u8 0, .int .u8 0, .int .u8 0, .int .u8 0, .int .u8 0, .int .u8 0, .int .u8 0, .int .u8 0, .int .u8 0, .int .u8 0, .int .u8 0] 85)).alloc (.cells #[.int .u8 0, .int .u8 0, .int .u8 0, .int .u8 0, .int .u8 0, .int .u8 0, .int .u8 0, .int .u8 0, .int .u8 0, .int .u8 0, .int .u8 0, .int .u8 0, .int .u8 0, .int .u8 0, .int .u8 0, .int .u8 0] 85)) = w0 at hp hr ho hb ⊢
  have k0 := hp.cell 0
  have k1 := hp.cell 1
  have o0 := ho.cell 0; have of0 := ho.frozen 0
  have o1 := ho.cell 1; have of1 := ho.frozen 1
  have o2 := ho.cell 2; have of2 := ho.frozen 2
  simp only [List.getElem?_toArray, List.getElem?_cons_zero, List.getElem?_cons_succ] at k0 k1 o0 o1 o2
  have z1 := hp.lt; have z3 := ho.lt
  have HP := Lib.hid hp; have HR := Lib.hid hr; have HO := Lib.hid ho; have HB := Lib.hid hb
  clear hp hr ho hb
  go_region
  have ho : Blk (((w0.setCell ⟨w.heap.size + 1 + 1, 0, none⟩ (.int .u8 171)).setCell ⟨w.heap.size + 1 + 1, 1, none⟩ (.int .u8 ki.1)).setCell ⟨w.heap.size + 1 + 1, 2, none⟩ (.int .u8 co.1)).drew (w.heap.size + 1 + 1) 85 (u8A [171, ki.1, co.1, 0, 0, 0, 0, 0, 0, 0, 0, 0, 0, 0, 0, 0]) := ((HO.out.set_ 0 (.int .u8 171)).set_ 1 (.int .u8 ki.1)).set_ 2 (.int .u8 co.1)
  have hp : Blk (((w0.setCell ⟨w.heap.size + 1 + 1, 0, none⟩ (.int .u8 171)).setCell ⟨w.heap.size + 1 + 1, 1, none⟩ (.int .u8 ki.1)).setCell ⟨w.heap.size + 1 + 1, 2, none⟩ (.int .u8 co.1)).drew w.heap.size 89 #[.int .i64 ki.1, .int .i64 co.1, .int .u8 d0.1, .int .u8 d1.1, .int .u8 d2.1, .int .u8 d3.1, .int .u8 d4.1, .int .u8 d5.1, .int .u8 d6.1, .int .u8 d7.1, .int .u8 d8.1, .int .u8 d9.1] := ((HP.out.far (p := ⟨w.heap.size + 1 + 1, 0, none⟩) (by dsimp only; omega) _).far (p := ⟨w.heap.size + 1 + 1, 1, none⟩) (by dsimp only; omega) _).far (p := ⟨w.heap.size + 1 + 1, 2, none⟩) (by dsimp only; omega) _
  have hr : Blk (((w0.setCell ⟨w.heap.size + 1 + 1, 0, none⟩ (.int .u8 171)).setCell ⟨w.heap.size + 1 + 1, 1, none⟩ (.int .u8 ki.1)).setCell ⟨w.heap.size + 1 + 1, 2, none⟩ (.int .u8 co.1)).drew (w.heap.size + 1) 85 #[.int .u8 0, .int .u8 0, .int .u8 0, .int .u8 0, .int .u8 0, .int .u8 0, .int .u8 0, .int .u8 0, .int .u8 0, .int .u8 0, .int .u8 0, .int .u8 0, .int .u8 0, .int .u8 0, .int .u8 0, .int .u8 0] := ((HR.out.far (p := ⟨w.heap.size + 1 + 1, 0, none⟩) (by dsimp only; omega) _).far (p := ⟨w.heap.size + 1 + 1, 1, none⟩) (by dsimp only; omega) _).far (p := ⟨w.heap.size + 1 + 1, 2, none⟩) (by dsimp only; omega) _
  have hb := (((HB.out.setCell (p := ⟨w.heap.size + 1 + 1, 0, none⟩) (by dsimp only; omega) (.int .u8 171)).setCell (p := ⟨w.heap.size + 1 + 1, 1, none⟩) (by dsimp only; omega) (.int .u8 ki.1)).setCell (p := ⟨w.heap.size + 1 + 1, 2, none⟩) (by dsimp only; omega) (.int .u8 co.1)).drew
  clear HP HR HO HB z1 z3 k0 k1 o0 o1 o2 of0 of1 of2
  generalize (((w0.setCell ⟨w.heap.size + 1 + 1, 0, none⟩ (.int .u8 171)).setCell ⟨w.heap.size + 1 + 1, 1, none⟩ (.int .u8 ki.1)).setCell ⟨w.heap.size + 1 + 1, 2, none⟩ (.int .u8 co.1)).drew = w1 at ho hp hr hb ⊢
  have HP := Lib.hid hp; have HR := Lib.hid hr; have HO := Lib.hid ho; have HB := Lib.hid hb
  clear hp hr ho hb
  obtain ⟨ds, hds⟩ : ∃ ds : List U8, ds = [d0, d1, d2, d3, d4, d5, d6, d7, d8, d9] := ⟨_, rfl⟩
  obtain ⟨L0, hL0⟩ : ∃ L0 : List Int, L0 = [171, ki.1, co.1, 0, 0, 0, 0, 0, 0, 0, 0, 0, 0, 0, 0, 0] := ⟨_, rfl⟩
  have HL0 : RowKit.Hid (L0.length = 16) := Lib.hid (by rw [hL0]; rfl)
  rw [← hL0] at HO
  have HDS : RowKit.Hid (∀ k, k < 10 → (#[.int .i64 ki.1, .int .i64 co.1, .int .u8 d0.1, .int .u8 d1.1, .int .u8 d2.1, .int .u8 d3.1, .int .u8 d4.1, .int .u8 d5.1, .int .u8 d6.1, .int .u8 d7.1, .int .u8 d8.1, .int .u8 d9.1] : Array Value)[2 + k]? = some (.int .u8 (ds.getD k u0).1)) := Lib.hid (fun k hk => by
    subst hds
    match k, hk with
    | 0, _ => rfl
    | 1, _ => rfl
    | 2, _ => rfl
    | 3, _ => rfl
    | 4, _ => rfl
    | 5, _ => rfl
    | 6, _ => rfl
    | 7, _ => rfl
    | 8, _ => rfl
    | 9, _ => rfl)
  have HEND : RowKit.Hid (putD ds 10 L0 = [171, ki.1, co.1, d0.1, d1.1, d2.1, d3.1, d4.1, d5.1, d6.1, d7.1, d8.1, d9.1, 0, 0, 0]) := Lib.hid (by subst hds; subst hL0; rfl)
  clear hds hL0
  go_wp2
  go_loopw [4] (fun v wr => ∃ k : Nat, k ≤ 10 ∧ v = .int .i64 k ∧ Blk wr (w.heap.size + 1 + 1) 85 (u8A (putD ds k L0)) ∧ Blk wr w.heap.size 89 #[.int .i64 ki.1, .int .i64 co.1, .int .u8 d0.1, .int .u8 d1.1, .int .u8 d2.1, .int .u8 d3.1, .int .u8 d4.1, .int .u8 d5.1, .int .u8 d6.1, .int .u8 d7.1, .int .u8 d8.1, .int .u8 d9.1] ∧ Blk wr (w.heap.size + 1) 85 #[.int .u8 0, .int .u8 0, .int .u8 0, .int .u8 0, .int .u8 0, .int .u8 0, .int .u8 0, .int .u8 0, .int .u8 0, .int .u8 0, .int .u8 0, .int .u8 0, .int .u8 0, .int .u8 0, .int .u8 0, .int .u8 0] ∧ Below w.heap.size w wr) (fun v _ => 10 - (intOf v).toNat)
  case atStart => exact ⟨0, by omega, rfl, HO.out, HP.out, HR.out, HB.out⟩
  case round =>
    obtain ⟨k, hk, rfl, ho, hp, hr, hb⟩ := hrel
    clear HO HP HR HB
    by_cases hlt : k < 10
    · have hlt' : (k : Int) < 10 := by omega
      obtain ⟨m, hm⟩ : ∃ m : Nat, (3 : Int) + k = m := ⟨3 + k, by omega⟩
      have hm16 : (m : Int) < 16 := by omega
      have hmk : m = 3 + k := by omega
      have q := (hp.cell (2 + k)).trans (HDS.out k hlt)
      have fo := ho.frozen m
      have z1 := hp.lt
      have z3 := ho.lt
      have ho2 := Lib.hid (blk_u8_set ho m (ds.getD k u0).1)
      have hp2 := Lib.hid (hp.far (p := ⟨w.heap.size + 1 + 1, m, none⟩) (by dsimp only; omega) (.int .u8 (ds.getD k u0).1))
      have hr2 := Lib.hid (hr.far (p := ⟨w.heap.size + 1 + 1, m, none⟩) (by dsimp only; omega) (.int .u8 (ds.getD k u0).1))
      have hb2 := Lib.hid (hb.setCell (p := ⟨w.heap.size + 1 + 1, m, none⟩) (by dsimp only; omega) (.int .u8 (ds.getD k u0).1))
      have HM := Lib.hid hmk
      have cw := (ho.cell m).trans (u8A_get (by rw [putD_len, HL0.out]; omega))
      clear ho hp hr hb hmk
      obtain ⟨y, hy⟩ : ∃ y, (ds.getD k u0).1 = y := ⟨_, rfl⟩
      rw [hy] at q ho2 hp2 hr2 hb2
      have HY := Lib.hid hy
      clear hy
      go_wp2
      go_roundw
      case rel => exact ⟨k + 1, by omega, by go_num, by (show Blk _ _ _ (u8A ((putD ds k L0).set (3 + k) (ds.getD k u0).1))); rw [HY.out, ← HM.out]; exact ho2.out, hp2.out, hr2.out, hb2.out⟩
      case measure => simp [intOf]; omega
    · have hk10 : k = 10 := by omega
      subst hk10
      have HP := Lib.hid hp; have HR := Lib.hid hr; have HB := Lib.hid hb
      rw [HEND.out] at ho
      obtain ⟨es, hes⟩ : ∃ es : List U8, es = [ki, co, d0, d1, d2, d3, d4, d5, d6, d7, d8, d9] := ⟨_, rfl⟩
      obtain ⟨L1, hL1⟩ : ∃ L1 : List Int, L1 = [171, ki.1, co.1, d0.1, d1.1, d2.1, d3.1, d4.1, d5.1, d6.1, d7.1, d8.1, d9.1, 0, 0, 0] := ⟨_, rfl⟩
      have HL1 : RowKit.Hid (L1.length = 16) := Lib.hid (by rw [hL1]; rfl)
      have HEL : RowKit.Hid (es.length = 12) := Lib.hid (by rw [hes]; rfl)
      have HST : RowKit.Hid (L1.set 13 (xorF (es.take 0) 0) = L1) := Lib.hid (by subst hL1; rfl)
      rw [← hL1] at ho
      have HES : RowKit.Hid (∀ i, 1 ≤ i → i < 13 → L1.getD i 0 = (es.getD (i - 1) u0).1) := Lib.hid (fun i h1 h2 => by
        subst hes; subst hL1
        match i, h1, h2 with
        | 1, _, _ => rfl
        | 2, _, _ => rfl
        | 3, _, _ => rfl
        | 4, _, _ => rfl
        | 5, _, _ => rfl
        | 6, _, _ => rfl
        | 7, _, _ => rfl
        | 8, _, _ => rfl
        | 9, _, _ => rfl
        | 10, _, _ => rfl
        | 11, _, _ => rfl
        | 12, _, _ => rfl)
      have HL1E := Lib.hid hL1; have HESE := Lib.hid hes
      have HO := Lib.hid ho
      clear hL1 hes ho hp hr hb HDS HEND HL0
      go_wp2
      go_loopw [5] (fun v wr => ∃ i : Nat, 1 ≤ i ∧ i ≤ 13 ∧ v = .int .i64 i ∧ Blk wr (w.heap.size + 1 + 1) 85 (u8A (L1.set 13 (xorF (es.take (i - 1)) 0))) ∧ Blk wr (w.heap.size + 1) 85 #[.int .u8 0, .int .u8 0, .int .u8 0, .int .u8 0, .int .u8 0, .int .u8 0, .int .u8 0, .int .u8 0, .int .u8 0, .int .u8 0, .int .u8 0, .int .u8 0, .int .u8 0, .int .u8 0, .int .u8 0, .int .u8 0] ∧ Below w.heap.size w wr) (fun v _ => 13 - (intOf v).toNat)
      case atStart => exact ⟨1, by omega, by omega, rfl, by rw [HST.out]; exact HO.out, HR.out, HB.out⟩
      case round =>
        clear HO HP HR HB
        obtain ⟨i, hi1, hi2, rfl, ho, hr, hb⟩ := hrel
        by_cases hlt : i < 13
        · have hlt' : (i : Int) < 13 := by omega
          obtain ⟨X, hX⟩ : ∃ X, xorF (es.take (i - 1)) 0 = X := ⟨_, rfl⟩
          obtain ⟨Y, hY⟩ : ∃ Y, (es.getD (i - 1) u0).1 = Y := ⟨_, rfl⟩
          have HXY : RowKit.Hid (xorF (es.take (i + 1 - 1)) 0 = bits .xor .u8 X Y) := Lib.hid (by
            have e : es.take (i + 1 - 1) = es.take (i - 1) ++ [es.getD (i - 1) u0] := by
              have e1 : i + 1 - 1 = (i - 1) + 1 := by omega
              have e2 : i - 1 < es.length := by rw [HEL.out]; omega
              rw [e1, List.take_succ_eq_append_getElem e2]
              simp [List.getD, e2]
            rw [e, xorF_snoc, hX, hY])
          rw [hX] at ho
          have q13 : wr.cell? ⟨w.heap.size + 1 + 1, 13, none⟩ = some (.int .u8 X) := (blk_u8_get ho (i := 13) (by rw [List.length_set, HL1.out]; omega)).trans (by simp [List.getD, HL1.out])
          have qi : wr.cell? ⟨w.heap.size + 1 + 1, i, none⟩ = some (.int .u8 Y) := (blk_u8_get ho (i := i) (by rw [List.length_set, HL1.out]; omega)).trans (by
            have h := HES.out i hi1 hlt
            rw [hY] at h
            rw [← h]
            have hne : ¬ 13 = i := by omega
            simp [List.getD, hne])
          have f13 := ho.frozen 13
          have z3 := ho.lt
          have ho2 : RowKit.Hid (Blk (wr.setCell ⟨w.heap.size + 1 + 1, 13, none⟩ (.int .u8 (bits .xor .u8 X Y))) (w.heap.size + 1 + 1) 85 (u8A (L1.set 13 (bits .xor .u8 X Y)))) := Lib.hid (by
            have h := blk_u8_set ho 13 (bits .xor .u8 X Y)
            rwa [List.set_set] at h)
          have hr2 := Lib.hid (hr.far (p := ⟨w.heap.size + 1 + 1, 13, none⟩) (by dsimp only; omega) (.int .u8 (bits .xor .u8 X Y)))
          have hb2 := Lib.hid (hb.setCell (p := ⟨w.heap.size + 1 + 1, 13, none⟩) (by dsimp only; omega) (.int .u8 (bits .xor .u8 X Y)))
          clear ho hr hb hX hY
          have hi16 : (i : Int) < 16 := by omega
          go_wp2
          go_region
          go_wp2
          go_roundw
          case rel => exact ⟨i + 1, by omega, by omega, by go_num, by rw [HXY.out]; exact ho2.out, hr2.out, hb2.out.drew⟩
          case measure => simp [intOf]; omega
        · have hi13 : i = 13 := by omega
          subst hi13
          obtain ⟨P, hP⟩ : ∃ P : U8, xorF es 0 = P.1 := ⟨⟨xorF es 0, xorF_bd es 0 (by decide)⟩, rfl⟩
          have e12 : es.take (13 - 1) = es := List.take_of_length_le (by rw [HEL.out]; omega)
          rw [e12, hP, HL1E.out] at ho
          rw [HESE.out] at hP
          have HP := Lib.hid hP
          have ho' : Blk wr (w.heap.size + 1 + 1) 85 #[.int .u8 171, .int .u8 ki.1, .int .u8 co.1, .int .u8 d0.1, .int .u8 d1.1, .int .u8 d2.1, .int .u8 d3.1, .int .u8 d4.1, .int .u8 d5.1, .int .u8 d6.1, .int .u8 d7.1, .int .u8 d8.1, .int .u8 d9.1, .int .u8 P.1, .int .u8 0, .int .u8 0] := ho
          have HBR := Lib.hid (brd_of_blk ho' (off := 0) (bs := [u171, ki, co, d0, d1, d2, d3, d4, d5, d6, d7, d8, d9, P]) [.int .u8 0, .int .u8 0] rfl)
          have HO := Lib.hid ho'; have HR := Lib.hid hr; have HB := Lib.hid hb
          have z3 := ho'.lt
          clear ho ho' hr hb hP e12 HL1 HEL HST HES HL1E HESE
          go_wp2_with fail
          refine (checkRef_any (some ⟨w.heap.size + 1 + 1, 0, none⟩) 16 [u171, ki, co, d0, d1, d2, d3, d4, d5, d6, d7, d8, d9, P] (by simp) wr HBR.out).mono ?_
          rintro e w6 ⟨rfl, rfl⟩
          obtain ⟨S, hS⟩ : ∃ S, rollF 251 65521 [u171, ki, co, d0, d1, d2, d3, d4, d5, d6, d7, d8, d9, P] 1 = S := ⟨_, rfl⟩
          have hSb := rollF_bd 251 65521 (by omega) [u171, ki, co, d0, d1, d2, d3, d4, d5, d6, d7, d8, d9, P] 1 (by omega)
          rw [hS] at hSb ⊢
          have HS := Lib.hid hS
          clear hS
          have ho := HO.out; have hr := HR.out
          have g0 := ho.cell 0
          have g1 := ho.cell 1
          have g2 := ho.cell 2
          have g3 := ho.cell 3
          have g4 := ho.cell 4
          have g5 := ho.cell 5
          have g6 := ho.cell 6
          have g7 := ho.cell 7
          have g8 := ho.cell 8
          have g9 := ho.cell 9
          have g10 := ho.cell 10
          have g11 := ho.cell 11
          have g12 := ho.cell 12
          have g13 := ho.cell 13
          have g14 := ho.cell 14
          have g15 := ho.cell 15
          simp only [List.getElem?_toArray, List.getElem?_cons_zero, List.getElem?_cons_succ] at g0 g1 g2 g3 g4 g5 g6 g7 g8 g9 g10 g11 g12 g13 g14 g15
          have e0 := hr.cell 0
          have e1 := hr.cell 1
          have e2 := hr.cell 2
          have e3 := hr.cell 3
          have e4 := hr.cell 4
          have e5 := hr.cell 5
          have e6 := hr.cell 6
          have e7 := hr.cell 7
          have e8 := hr.cell 8
          have e9 := hr.cell 9
          have e10 := hr.cell 10
          have e11 := hr.cell 11
          have e12 := hr.cell 12
          have e13 := hr.cell 13
          have e14 := hr.cell 14
          have e15 := hr.cell 15
          simp only [List.getElem?_toArray, List.getElem?_cons_zero, List.getElem?_cons_succ] at e0 e1 e2 e3 e4 e5 e6 e7 e8 e9 e10 e11 e12 e13 e14 e15
          have ef0 := hr.frozen 0
          have ef1 := hr.frozen 1
          have ef2 := hr.frozen 2
          have ef3 := hr.frozen 3
          have ef4 := hr.frozen 4
          have ef5 := hr.frozen 5
          have ef6 := hr.frozen 6
          have ef7 := hr.frozen 7
          have ef8 := hr.frozen 8
          have ef9 := hr.frozen 9
          have ef10 := hr.frozen 10
          have ef11 := hr.frozen 11
          have ef12 := hr.frozen 12
          have ef13 := hr.frozen 13
          have ef14 := hr.frozen 14
          have ef15 := hr.frozen 15
          have f14 := ho.frozen 14
          have f15 := ho.frozen 15
          have z2 := hr.lt
          clear ho hr HBR HO HR
          go_wp2
          refine bodyPost_ret (v := .agg #[.int .u8 171, .int .u8 ki.1, .int .u8 co.1, .int .u8 d0.1, .int .u8 d1.1, .int .u8 d2.1, .int .u8 d3.1, .int .u8 d4.1, .int .u8 d5.1, .int .u8 d6.1, .int .u8 d7.1, .int .u8 d8.1, .int .u8 d9.1, .int .u8 P.1, .int .u8 (S / 256), .int .u8 (S % 256)]) (by simp [results, Tryz.results70, go_sem, e0, e1, e2, e3, e4, e5, e6, e7, e8, e9, e10, e11, e12, e13, e14, e15]) rfl ⟨P, S, HP.out, HS.out, rfl, ?_⟩
          exact ((((((((((((((((((HB.out.setCell (p := ⟨w.heap.size + 1 + 1, 14, none⟩) (by simp; omega) _).setCell (p := ⟨w.heap.size + 1 + 1, 15, none⟩) (by simp; omega) _).setCell (p := ⟨w.heap.size + 1, 0, none⟩) (by simp) _).setCell (p := ⟨w.heap.size + 1, 1, none⟩) (by simp) _).setCell (p := ⟨w.heap.size + 1, 2, none⟩) (by simp) _).setCell (p := ⟨w.heap.size + 1, 3, none⟩) (by simp) _).setCell (p := ⟨w.heap.size + 1, 4, none⟩) (by simp) _).setCell (p := ⟨w.heap.size + 1, 5, none⟩) (by simp) _).setCell (p := ⟨w.heap.size + 1, 6, none⟩) (by simp) _).setCell (p := ⟨w.heap.size + 1, 7, none⟩) (by simp) _).setCell (p := ⟨w.heap.size + 1, 8, none⟩) (by simp) _).setCell (p := ⟨w.heap.size + 1, 9, none⟩) (by simp) _).setCell (p := ⟨w.heap.size + 1, 10, none⟩) (by simp) _).setCell (p := ⟨w.heap.size + 1, 11, none⟩) (by simp) _).setCell (p := ⟨w.heap.size + 1, 12, none⟩) (by simp) _).setCell (p := ⟨w.heap.size + 1, 13, none⟩) (by simp) _).setCell (p := ⟨w.heap.size + 1, 14, none⟩) (by simp) _).setCell (p := ⟨w.heap.size + 1, 15, none⟩) (by simp) _)
end Go.Proofs.YtnbpcfakkphmcaaGreatDoor
namespace Go.Proofs.YtnbpcfakkphmcaaGreatDoor
open Go.RowKit
set_option linter.unusedVariables false
attribute [local go_sem] run_neq_struct
/-- The cells of a packet, with the first k bytes of the data put in. -/
def putP (ds : List U8) : Nat → List Value → List Value
  | 0, c => c
  | k + 1, c => (putP ds k c).set (2 + k) (.int .u8 (ds.getD k u0).1)
theorem putP_len (ds : List U8) (k : Nat) (l : List Value) : (putP ds k l).length = l.length := by
  induction k with
  | zero => rfl
  | succ k ih => unfold putP; rw [List.length_set, ih]
theorem blk_l_set {w : World} {g : Nat} {t : TypeId} {l : List Value} (h : Blk w g t l.toArray) (i : Nat) (v : Value) : Blk (w.setCell ⟨g, i, none⟩ v) g t (l.set i v).toArray := by
  have e : (l.set i v).toArray = l.toArray.setIfInBounds i v := by simp
  rw [e]; exact h.set_ i v
set_option maxRecDepth 100000 in
set_option maxHeartbeats 1000000 in
theorem decodeR_form (f0 f1 f2 f3 f4 f5 f6 f7 f8 f9 f10 f11 f12 f13 f14 f15 : U8) (h0 : f0.1 ≠ 171) (w : World) : Calls Tryz.prog 72 #[.agg #[.int .u8 f0.1, .int .u8 f1.1, .int .u8 f2.1, .int .u8 f3.1, .int .u8 f4.1, .int .u8 f5.1, .int .u8 f6.1, .int .u8 f7.1, .int .u8 f8.1, .int .u8 f9.1, .int .u8 f10.1, .int .u8 f11.1, .int .u8 f12.1, .int .u8 f13.1, .int .u8 f14.1, .int .u8 f15.1]] w fun e w' => e = .returned (.tuple #[.agg #[.int .i64 0, .int .i64 0, .int .u8 0, .int .u8 0, .int .u8 0, .int .u8 0, .int .u8 0, .int .u8 0, .int .u8 0, .int .u8 0, .int .u8 0, .int .u8 0], .int .i64 1]) ∧ Below w.heap.size w w' := by
  have h0' : (f0.1 != 171) = true := by simpa using h0
  clear h0
  go_enter Tryz.func72, Tryz.ntmps72
  go_upto_region 1 with fail
  have hs := (Blk.new w 85 #[.int .u8 f0.1, .int .u8 f1.1, .int .u8 f2.1, .int .u8 f3.1, .int .u8 f4.1, .int .u8 f5.1, .int .u8 f6.1, .int .u8 f7.1, .int .u8 f8.1, .int .u8 f9.1, .int .u8 f10.1, .int .u8 f11.1, .int .u8 f12.1, .int .u8 f13.1, .int .u8 f14.1, .int .u8 f15.1]).alloc (.cells #[.int .i64 0, .int .i64 0, .int .u8 0, .int .u8 0, .int .u8 0, .int .u8 0, .int .u8 0, .int .u8 0, .int .u8 0, .int .u8 0, .int .u8 0, .int .u8 0] 89)
  have hr := Blk.new (w.alloc (.cells #[.int .u8 f0.1, .int .u8 f1.1, .int .u8 f2.1, .int .u8 f3.1, .int .u8 f4.1, .int .u8 f5.1, .int .u8 f6.1, .int .u8 f7.1, .int .u8 f8.1, .int .u8 f9.1, .int .u8 f10.1, .int .u8 f11.1, .int .u8 f12.1, .int .u8 f13.1, .int .u8 f14.1, .int .u8 f15.1] 85)) 89 #[.int .i64 0, .int .i64 0, .int .u8 0, .int .u8 0, .int .u8 0, .int .u8 0, .int .u8 0, .int .u8 0, .int .u8 0, .int .u8 0, .int .u8 0, .int .u8 0]
  have hb := (((Below.refl w.heap.size w).alloc (Nat.le_refl _) (.cells #[.int .u8 f0.1, .int .u8 f1.1, .int .u8 f2.1, .int .u8 f3.1, .int .u8 f4.1, .int .u8 f5.1, .int .u8 f6.1, .int .u8 f7.1, .int .u8 f8.1, .int .u8 f9.1, .int .u8 f10.1, .int .u8 f11.1, .int .u8 f12.1, .int .u8 f13.1, .int .u8 f14.1, .int .u8 f15.1] 85)).alloc (by simp only [World.size_alloc]; omega) (.cells #[.int .i64 0, .int .i64 0, .int .u8 0, .int .u8 0, .int .u8 0, .int .u8 0, .int .u8 0, .int .u8 0, .int .u8 0, .int .u8 0, .int .u8 0, .int .u8 0] 89))
  simp only [World.size_alloc] at hr
  generalize ((w.alloc (.cells #[.int .u8 f0.1, .int .u8 f1.1, .int .u8 f2.1, .int .u8 f3.1, .int .u8 f4.1, .int .u8 f5.1, .int .u8 f6.1, .int .u8 f7.1, .int .u8 f8.1, .int .u8 f9.1, .int .u8 f10.1, .int .u8 f11.1, .int .u8 f12.1, .int .u8 f13.1, .int .u8 f14.1, .int .u8 f15.1] 85)).alloc (.cells #[.int .i64 0, .int .i64 0, .int .u8 0, .int .u8 0, .int .u8 0, .int .u8 0, .int .u8 0, .int .u8 0, .int .u8 0, .int .u8 0, .int .u8 0, .int .u8 0] 89)) = w0 at hs hr hb ⊢
  have k0 : w0.cell? ⟨w.heap.size, 0, none⟩ = some (.int .u8 f0.1) := hs.cell 0
  have z1 := hs.lt
  have z2 := hr.lt
  have e0 := hr.cell 0
  have e1 := hr.cell 1
  have e2 := hr.cell 2
  have e3 := hr.cell 3
  have e4 := hr.cell 4
  have e5 := hr.cell 5
  have e6 := hr.cell 6
  have e7 := hr.cell 7
  have e8 := hr.cell 8
  have e9 := hr.cell 9
  have e10 := hr.cell 10
  have e11 := hr.cell 11
  simp only [List.getElem?_toArray, List.getElem?_cons_zero, List.getElem?_cons_succ] at e0 e1 e2 e3 e4 e5 e6 e7 e8 e9 e10 e11
  have ef0 := hr.frozen 0
  have ef1 := hr.frozen 1
  have ef2 := hr.frozen 2
  have ef3 := hr.frozen 3
  have ef4 := hr.frozen 4
  have ef5 := hr.frozen 5
  have ef6 := hr.frozen 6
  have ef7 := hr.frozen 7
  have ef8 := hr.frozen 8
  have ef9 := hr.frozen 9
  have ef10 := hr.frozen 10
  have ef11 := hr.frozen 11
  have HB := Lib.hid hb
  clear hs hr hb
  go_wp2
  refine bodyPost_ret (v := .tuple #[.agg #[.int .i64 0, .int .i64 0, .int .u8 0, .int .u8 0, .int .u8 0, .int .u8 0, .int .u8 0, .int .u8 0, .int .u8 0, .int .u8 0, .int .u8 0, .int .u8 0], .int .i64 1]) (by simp [results, Tryz.results72, go_sem, e0, e1, e2, e3, e4, e5, e6, e7, e8, e9, e10, e11]) rfl ⟨rfl, ?_⟩
  exact ((((((((((((HB.out.setCell (p := ⟨w.heap.size + 1, 0, none⟩) (by simp) _).setCell (p := ⟨w.heap.size + 1, 1, none⟩) (by simp) _).setCell (p := ⟨w.heap.size + 1, 2, none⟩) (by simp) _).setCell (p := ⟨w.heap.size + 1, 3, none⟩) (by simp) _).setCell (p := ⟨w.heap.size + 1, 4, none⟩) (by simp) _).setCell (p := ⟨w.heap.size + 1, 5, none⟩) (by simp) _).setCell (p := ⟨w.heap.size + 1, 6, none⟩) (by simp) _).setCell (p := ⟨w.heap.size + 1, 7, none⟩) (by simp) _).setCell (p := ⟨w.heap.size + 1, 8, none⟩) (by simp) _).setCell (p := ⟨w.heap.size + 1, 9, none⟩) (by simp) _).setCell (p := ⟨w.heap.size + 1, 10, none⟩) (by simp) _).setCell (p := ⟨w.heap.size + 1, 11, none⟩) (by simp) _)
set_option maxRecDepth 100000 in
set_option maxHeartbeats 1000000 in
theorem decodeR_sync (f1 f2 f3 f4 f5 f6 f7 f8 f9 f10 f11 f12 f13 f14 f15 : U8) (w : World) : Calls Tryz.prog 72 #[.agg #[.int .u8 171, .int .u8 f1.1, .int .u8 f2.1, .int .u8 f3.1, .int .u8 f4.1, .int .u8 f5.1, .int .u8 f6.1, .int .u8 f7.1, .int .u8 f8.1, .int .u8 f9.1, .int .u8 f10.1, .int .u8 f11.1, .int .u8 f12.1, .int .u8 f13.1, .int .u8 f14.1, .int .u8 f15.1]] w fun e w' => ∃ (P : U8) (S : Int), xorF [f1, f2, f3, f4, f5, f6, f7, f8, f9, f10, f11, f12] 0 = P.1 ∧ rollF 251 65521 [u171, f1, f2, f3, f4, f5, f6, f7, f8, f9, f10, f11, f12, P] 1 = S ∧ ((goodEnd P S f13 f14 f15 ∧ e = .returned (.tuple #[.agg #[.int .i64 f1.1, .int .i64 f2.1, .int .u8 f3.1, .int .u8 f4.1, .int .u8 f5.1, .int .u8 f6.1, .int .u8 f7.1, .int .u8 f8.1, .int .u8 f9.1, .int .u8 f10.1, .int .u8 f11.1, .int .u8 f12.1], .int .i64 0])) ∨ (¬ goodEnd P S f13 f14 f15 ∧ e = .returned (.tuple #[.agg #[.int .i64 0, .int .i64 0, .int .u8 0, .int .u8 0, .int .u8 0, .int .u8 0, .int .u8 0, .int .u8 0, .int .u8 0, .int .u8 0, .int .u8 0, .int .u8 0], .int .i64 27]))) ∧ Below w.heap.size w w' := by
  go_enter Tryz.func72, Tryz.ntmps72
  go_upto_region 1 with fail
  have hs := (Blk.new w 85 #[.int .u8 171, .int .u8 f1.1, .int .u8 f2.1, .int .u8 f3.1, .int .u8 f4.1, .int .u8 f5.1, .int .u8 f6.1, .int .u8 f7.1, .int .u8 f8.1, .int .u8 f9.1, .int .u8 f10.1, .int .u8 f11.1, .int .u8 f12.1, .int .u8 f13.1, .int .u8 f14.1, .int .u8 f15.1]).alloc (.cells #[.int .i64 0, .int .i64 0, .int .u8 0, .int .u8 0, .int .u8 0, .int .u8 0, .int .u8 0, .int .u8 0, .int .u8 0, .int .u8 0, .int .u8 0, .int .u8 0] 89)
  have hr := Blk.new (w.alloc (.cells #[.int .u8 171, .int .u8 f1.1, .int .u8 f2.1, .int .u8 f3.1, .int .u8 f4.1, .int .u8 f5.1, .int .u8 f6.1, .int .u8 f7.1, .int .u8 f8.1, .int .u8 f9.1, .int .u8 f10.1, .int .u8 f11.1, .int .u8 f12.1, .int .u8 f13.1, .int .u8 f14.1, .int .u8 f15.1] 85)) 89 #[.int .i64 0, .int .i64 0, .int .u8 0, .int .u8 0, .int .u8 0, .int .u8 0, .int .u8 0, .int .u8 0, .int .u8 0, .int .u8 0, .int .u8 0, .int .u8 0]
  have hb := (((Below.refl w.heap.size w).alloc (Nat.le_refl _) (.cells #[.int .u8 171, .int .u8 f1.1, .int .u8 f2.1, .int .u8 f3.1, .int .u8 f4.1, .int .u8 f5.1, .int .u8 f6.1, .int .u8 f7.1, .int .u8 f8.1, .int .u8 f9.1, .int .u8 f10.1, .int .u8 f11.1, .int .u8 f12.1, .int .u8 f13.1, .int .u8 f14.1, .int .u8 f15.1] 85)).alloc (by simp only [World.size_alloc]; omega) (.cells #[.int .i64 0, .int .i64 0, .int .u8 0, .int .u8 0, .int .u8 0, .int .u8 0, .int .u8 0, .int .u8 0, .int .u8 0, .int .u8 0, .int .u8 0, .int .u8 0] 89))
  simp only [World.size_alloc] at hr
  generalize ((w.alloc (.cells #[.int .u8 171, .int .u8 f1.1, .int .u8 f2.1, .int .u8 f3.1, .int .u8 f4.1, .int .u8 f5.1, .int .u8 f6.1, .int .u8 f7.1, .int .u8 f8.1, .int .u8 f9.1, .int .u8 f10.1, .int .u8 f11.1, .int .u8 f12.1, .int .u8 f13.1, .int .u8 f14.1, .int .u8 f15.1] 85)).alloc (.cells #[.int .i64 0, .int .i64 0, .int .u8 0, .int .u8 0, .int .u8 0, .int .u8 0, .int .u8 0, .int .u8 0, .int .u8 0, .int .u8 0, .int .u8 0, .int .u8 0] 89)) = w0 at hs hr hb ⊢
  have k0 := hs.cell 0
  have k1 := hs.cell 1
  have k2 := hs.cell 2
  have k3 := hs.cell 3
  have k4 := hs.cell 4
  have k5 := hs.cell 5
  have k6 := hs.cell 6
  have k7 := hs.cell 7
  have k8 := hs.cell 8
  have k9 := hs.cell 9
  have k10 := hs.cell 10
  have k11 := hs.cell 11
  have k12 := hs.cell 12
  have k13 := hs.cell 13
  have k14 := hs.cell 14
  have k15 := hs.cell 15
  simp only [List.getElem?_toArray, List.getElem?_cons_zero, List.getElem?_cons_succ] at k0 k1 k2 k3 k4 k5 k6 k7 k8 k9 k10 k11 k12 k13 k14 k15
  have z1 := hs.lt
  have HS := Lib.hid hs; have HR := Lib.hid hr; have HB := Lib.hid hb
  clear hs hr hb k3 k4 k5 k6 k7 k8 k9 k10 k11 k12 k13 k14 k15
  go_upto_region 4 with fail
  have hp := Blk.new w0 89 #[.int .i64 f1.1, .int .i64 f2.1, .int .u8 0, .int .u8 0, .int .u8 0, .int .u8 0, .int .u8 0, .int .u8 0, .int .u8 0, .int .u8 0, .int .u8 0, .int .u8 0]
  have hs := HS.out.alloc (.cells #[.int .i64 f1.1, .int .i64 f2.1, .int .u8 0, .int .u8 0, .int .u8 0, .int .u8 0, .int .u8 0, .int .u8 0, .int .u8 0, .int .u8 0, .int .u8 0, .int .u8 0] 89)
  have hr := HR.out.alloc (.cells #[.int .i64 f1.1, .int .i64 f2.1, .int .u8 0, .int .u8 0, .int .u8 0, .int .u8 0, .int .u8 0, .int .u8 0, .int .u8 0, .int .u8 0, .int .u8 0, .int .u8 0] 89)
  have hb := HB.out.alloc HB.out.size (.cells #[.int .i64 f1.1, .int .i64 f2.1, .int .u8 0, .int .u8 0, .int .u8 0, .int .u8 0, .int .u8 0, .int .u8 0, .int .u8 0, .int .u8 0, .int .u8 0, .int .u8 0] 89)
  have z2 := HR.out.lt
  obtain ⟨gp, hgp⟩ : ∃ g, w0.heap.size = g := ⟨_, rfl⟩
  rw [hgp] at hp z1 z2 ⊢
  generalize w0.alloc (.cells #[.int .i64 f1.1, .int .i64 f2.1, .int .u8 0, .int .u8 0, .int .u8 0, .int .u8 0, .int .u8 0, .int .u8 0, .int .u8 0, .int .u8 0, .int .u8 0, .int .u8 0] 89) = w1 at hp hs hr hb ⊢
  clear hgp HS HR HB k0 k1 k2
  obtain ⟨ds, hds⟩ : ∃ ds : List U8, ds = [f3, f4, f5, f6, f7, f8, f9, f10, f11, f12] := ⟨_, rfl⟩
  obtain ⟨C0, hC0⟩ : ∃ C0 : List Value, C0 = [.int .i64 f1.1, .int .i64 f2.1, .int .u8 0, .int .u8 0, .int .u8 0, .int .u8 0, .int .u8 0, .int .u8 0, .int .u8 0, .int .u8 0, .int .u8 0, .int .u8 0] := ⟨_, rfl⟩
  have hp : Blk w1 gp 89 C0.toArray := by rw [hC0]; exact hp
  have HDS : RowKit.Hid (∀ k, k < 10 → (#[.int .u8 171, .int .u8 f1.1, .int .u8 f2.1, .int .u8 f3.1, .int .u8 f4.1, .int .u8 f5.1, .int .u8 f6.1, .int .u8 f7.1, .int .u8 f8.1, .int .u8 f9.1, .int .u8 f10.1, .int .u8 f11.1, .int .u8 f12.1, .int .u8 f13.1, .int .u8 f14.1, .int .u8 f15.1] : Array Value)[3 + k]? = some (.int .u8 (ds.getD k u0).1)) := Lib.hid (fun k hk => by
    subst hds
    match k, hk with
    | 0, _ => rfl
    | 1, _ => rfl
    | 2, _ => rfl
    | 3, _ => rfl
    | 4, _ => rfl
    | 5, _ => rfl
    | 6, _ => rfl
    | 7, _ => rfl
    | 8, _ => rfl
    | 9, _ => rfl)
  have HC0L : RowKit.Hid (C0.length = 12) := Lib.hid (by rw [hC0]; rfl)
  have HEND : RowKit.Hid (putP ds 10 C0 = [.int .i64 f1.1, .int .i64 f2.1, .int .u8 f3.1, .int .u8 f4.1, .int .u8 f5.1, .int .u8 f6.1, .int .u8 f7.1, .int .u8 f8.1, .int .u8 f9.1, .int .u8 f10.1, .int .u8 f11.1, .int .u8 f12.1]) := Lib.hid (by subst hds; subst hC0; rfl)
  have HP := Lib.hid hp; have HS := Lib.hid hs; have HR := Lib.hid hr; have HB := Lib.hid hb
  clear hds hC0 hp hs hr hb
  go_wp2
  go_loopw [5] (fun v wr => ∃ k : Nat, k ≤ 10 ∧ v = .int .i64 k ∧ Blk wr gp 89 (putP ds k C0).toArray ∧ Blk wr w.heap.size 85 #[.int .u8 171, .int .u8 f1.1, .int .u8 f2.1, .int .u8 f3.1, .int .u8 f4.1, .int .u8 f5.1, .int .u8 f6.1, .int .u8 f7.1, .int .u8 f8.1, .int .u8 f9.1, .int .u8 f10.1, .int .u8 f11.1, .int .u8 f12.1, .int .u8 f13.1, .int .u8 f14.1, .int .u8 f15.1] ∧ Blk wr (w.heap.size + 1) 89 #[.int .i64 0, .int .i64 0, .int .u8 0, .int .u8 0, .int .u8 0, .int .u8 0, .int .u8 0, .int .u8 0, .int .u8 0, .int .u8 0, .int .u8 0, .int .u8 0] ∧ Below w.heap.size w wr) (fun v _ => 10 - (intOf v).toNat)
  case atStart => exact ⟨0, by omega, rfl, HP.out, HS.out, HR.out, HB.out⟩
  case round =>
    obtain ⟨k, hk, rfl, hp, hs, hr, hb⟩ := hrel
    clear HP HS HR HB
    by_cases hlt : k < 10
    · have hlt' : (k : Int) < 10 := by omega
      obtain ⟨m, hm⟩ : ∃ m : Nat, (3 : Int) + k = m := ⟨3 + k, by omega⟩
      have hm16 : (m : Int) < 16 := by omega
      have hmk : m = 3 + k := by omega
      have q : wr.cell? ⟨w.heap.size, m, none⟩ = some (.int .u8 (ds.getD k u0).1) := by rw [hmk]; exact (hs.cell (3 + k)).trans (HDS.out k hlt)
      have fo := hp.frozen (2 + k)
      obtain ⟨x, cw⟩ : ∃ x, wr.cell? ⟨gp, 2 + k, none⟩ = some x := ⟨_, (hp.cell (2 + k)).trans (by rw [List.getElem?_toArray]; exact List.getElem?_eq_getElem (by rw [putP_len, HC0L.out]; omega))⟩
      have y1 := hs.lt
      have y3 := hp.lt
      have hp2 : RowKit.Hid (Blk (wr.setCell ⟨gp, 2 + k, none⟩ (.int .u8 (ds.getD k u0).1)) gp 89 (putP ds (k + 1) C0).toArray) := Lib.hid (blk_l_set hp (2 + k) (.int .u8 (ds.getD k u0).1))
      have hs2 := Lib.hid (hs.far (p := ⟨gp, 2 + k, none⟩) (by dsimp only; omega) (.int .u8 (ds.getD k u0).1))
      have hr2 := Lib.hid (hr.far (p := ⟨gp, 2 + k, none⟩) (by dsimp only; omega) (.int .u8 (ds.getD k u0).1))
      have hb2 := Lib.hid (hb.setCell (p := ⟨gp, 2 + k, none⟩) (by dsimp only; omega) (.int .u8 (ds.getD k u0).1))
      clear hp hs hr hb hmk
      generalize (ds.getD k u0).1 = y at q hp2 hs2 hr2 hb2
      go_wp2
      go_roundw
      case rel => exact ⟨k + 1, by omega, by go_num, hp2.out, hs2.out, hr2.out, hb2.out⟩
      case measure => simp [intOf]; omega
    · have hk10 : k = 10 := by omega
      subst hk10
      rw [HEND.out] at hp
      have c0 := hp.cell 0
      have c1 := hp.cell 1
      have c2 := hp.cell 2
      have c3 := hp.cell 3
      have c4 := hp.cell 4
      have c5 := hp.cell 5
      have c6 := hp.cell 6
      have c7 := hp.cell 7
      have c8 := hp.cell 8
      have c9 := hp.cell 9
      have c10 := hp.cell 10
      have c11 := hp.cell 11
      simp only [List.getElem?_toArray, List.getElem?_cons_zero, List.getElem?_cons_succ] at c0 c1 c2 c3 c4 c5 c6 c7 c8 c9 c10 c11
      have s0 := hs.cell 0
      have s1 := hs.cell 1
      have s2 := hs.cell 2
      have s3 := hs.cell 3
      have s4 := hs.cell 4
      have s5 := hs.cell 5
      have s6 := hs.cell 6
      have s7 := hs.cell 7
      have s8 := hs.cell 8
      have s9 := hs.cell 9
      have s10 := hs.cell 10
      have s11 := hs.cell 11
      have s12 := hs.cell 12
      have s13 := hs.cell 13
      have s14 := hs.cell 14
      have s15 := hs.cell 15
      simp only [List.getElem?_toArray, List.getElem?_cons_zero, List.getElem?_cons_succ] at s0 s1 s2 s3 s4 s5 s6 s7 s8 s9 s10 s11 s12 s13 s14 s15
      have y1 := hs.lt
      have y3 := hp.lt
      have HR := Lib.hid hr; have HB := Lib.hid hb; have HPB := Lib.hid hp
      clear hp hs hr hb HEND HDS
      obtain ⟨P, hP⟩ : ∃ P : U8, xorF [f1, f2, f3, f4, f5, f6, f7, f8, f9, f10, f11, f12] 0 = P.1 := ⟨⟨xorF [f1, f2, f3, f4, f5, f6, f7, f8, f9, f10, f11, f12] 0, xorF_bd [f1, f2, f3, f4, f5, f6, f7, f8, f9, f10, f11, f12] 0 (by decide)⟩, rfl⟩
      obtain ⟨S, hS⟩ : ∃ S, rollF 251 65521 [u171, f1, f2, f3, f4, f5, f6, f7, f8, f9, f10, f11, f12, P] 1 = S := ⟨_, rfl⟩
      have HENC : RowKit.Hid (∀ w, Calls Tryz.prog 70 #[.agg #[.int .i64 f1.1, .int .i64 f2.1, .int .u8 f3.1, .int .u8 f4.1, .int .u8 f5.1, .int .u8 f6.1, .int .u8 f7.1, .int .u8 f8.1, .int .u8 f9.1, .int .u8 f10.1, .int .u8 f11.1, .int .u8 f12.1]] w fun e w' => e = .returned (.agg #[.int .u8 171, .int .u8 f1.1, .int .u8 f2.1, .int .u8 f3.1, .int .u8 f4.1, .int .u8 f5.1, .int .u8 f6.1, .int .u8 f7.1, .int .u8 f8.1, .int .u8 f9.1, .int .u8 f10.1, .int .u8 f11.1, .int .u8 f12.1, .int .u8 P.1, .int .u8 (S / 256), .int .u8 (S % 256)]) ∧ Below w.heap.size w w') := Lib.hid (fun w => (encodeR_ok f1 f2 f3 f4 f5 f6 f7 f8 f9 f10 f11 f12 w).mono (by
        rintro e w' ⟨P', S', hP', hS', rfl, hb⟩
        have e1 : P' = P := Subtype.ext (hP'.symm.trans hP)
        subst e1
        rw [hS] at hS'
        subst hS'
        exact ⟨rfl, hb⟩))
      have HPP := Lib.hid hP; have HSS := Lib.hid hS
      clear hP hS
      have z2 := HR.out.lt
      by_cases hg : goodEnd P S f13 f14 f15
      · have hr : ∀ w, (Op.equalIn 10000 85 (.agg #[.int .u8 171, .int .u8 f1.1, .int .u8 f2.1, .int .u8 f3.1, .int .u8 f4.1, .int .u8 f5.1, .int .u8 f6.1, .int .u8 f7.1, .int .u8 f8.1, .int .u8 f9.1, .int .u8 f10.1, .int .u8 f11.1, .int .u8 f12.1, .int .u8 P.1, .int .u8 (S / 256), .int .u8 (S % 256)]) (.agg #[.int .u8 171, .int .u8 f1.1, .int .u8 f2.1, .int .u8 f3.1, .int .u8 f4.1, .int .u8 f5.1, .int .u8 f6.1, .int .u8 f7.1, .int .u8 f8.1, .int .u8 f9.1, .int .u8 f10.1, .int .u8 f11.1, .int .u8 f12.1, .int .u8 f13.1, .int .u8 f14.1, .int .u8 f15.1])).run Tryz.prog w = .ok true w := fun w => by
          rw [run_equalIn_frame, hg.1, hg.2.1, hg.2.2, decide_eq_true rfl]
        have HG := Lib.hid hg
        clear hg
        go_upto_region 8 with fail
        refine wp_region_facts [Fact.is (.agg #[.int .i64 f1.1, .int .i64 f2.1, .int .u8 f3.1, .int .u8 f4.1, .int .u8 f5.1, .int .u8 f6.1, .int .u8 f7.1, .int .u8 f8.1, .int .u8 f9.1, .int .u8 f10.1, .int .u8 f11.1, .int .u8 f12.1]), Fact.is (.agg #[.int .u8 171, .int .u8 f1.1, .int .u8 f2.1, .int .u8 f3.1, .int .u8 f4.1, .int .u8 f5.1, .int .u8 f6.1, .int .u8 f7.1, .int .u8 f8.1, .int .u8 f9.1, .int .u8 f10.1, .int .u8 f11.1, .int .u8 f12.1, .int .u8 P.1, .int .u8 (S / 256), .int .u8 (S % 256)]), Fact.is (.agg #[.int .u8 171, .int .u8 f1.1, .int .u8 f2.1, .int .u8 f3.1, .int .u8 f4.1, .int .u8 f5.1, .int .u8 f6.1, .int .u8 f7.1, .int .u8 f8.1, .int .u8 f9.1, .int .u8 f10.1, .int .u8 f11.1, .int .u8 f12.1, .int .u8 f13.1, .int .u8 f14.1, .int .u8 f15.1]), Fact.is (.bool false)] [[], [0], [], [1, 2]] [(some 28, 0), (some 29, 1), (some 30, 2), (some 31, 3)] (by kernel_rfl) (by kernel_rfl) (by kernel_rfl) (by kernel_rfl) (fun _ _ _ _ e h => by have h1 : _ ∧ _ := h; exact ⟨e ▸ h1.1, h1.2⟩) ?hstep ?hend
        case hstep =>
          intro i hi
          match i, hi with
          | 0, _ =>
            intro v w' hR hd
            change SpecOp _ _ _ _ 0 (canon _ v _ []) w' _
            simp only [canon_nil]
            have q0 := (hR.cell (p := ⟨gp, 0, none⟩) y3).trans c0
            have q1 := (hR.cell (p := ⟨gp, 1, none⟩) y3).trans c1
            have q2 := (hR.cell (p := ⟨gp, 2, none⟩) y3).trans c2
            have q3 := (hR.cell (p := ⟨gp, 3, none⟩) y3).trans c3
            have q4 := (hR.cell (p := ⟨gp, 4, none⟩) y3).trans c4
            have q5 := (hR.cell (p := ⟨gp, 5, none⟩) y3).trans c5
            have q6 := (hR.cell (p := ⟨gp, 6, none⟩) y3).trans c6
            have q7 := (hR.cell (p := ⟨gp, 7, none⟩) y3).trans c7
            have q8 := (hR.cell (p := ⟨gp, 8, none⟩) y3).trans c8
            have q9 := (hR.cell (p := ⟨gp, 9, none⟩) y3).trans c9
            have q10 := (hR.cell (p := ⟨gp, 10, none⟩) y3).trans c10
            have q11 := (hR.cell (p := ⟨gp, 11, none⟩) y3).trans c11
            refine spec_of rfl (fun KK hK => ?_)
            go_simp
            exact hK.out _ _ (Below.refl _ _) rfl
          | 1, _ =>
            intro v w' hR hd
            have e0 : v 0 = .agg #[.int .i64 f1.1, .int .i64 f2.1, .int .u8 f3.1, .int .u8 f4.1, .int .u8 f5.1, .int .u8 f6.1, .int .u8 f7.1, .int .u8 f8.1, .int .u8 f9.1, .int .u8 f10.1, .int .u8 f11.1, .int .u8 f12.1] := hd 0 (by decide)
            change SpecOp _ _ _ _ 1 (Act.put (canon _ v _ []) (some 28) (v 0)) w' _
            rw [e0]
            simp only [canon_nil, Act.put, List.setIfInBounds_toArray, List.set_cons_zero, List.set_cons_succ]
            refine spec_of rfl (fun KK hK => ?_)
            go_simp
            refine (HENC.out _).mono ?_
            rintro e wn ⟨rfl, hbn⟩
            exact hK.out _ _ hbn rfl
          | 2, _ =>
            intro v w' hR hd
            change SpecOp _ _ _ _ 2 (canon _ v _ []) w' _
            simp only [canon_nil]
            have q0 := (hR.cell (p := ⟨w.heap.size, 0, none⟩) y1).trans s0
            have q1 := (hR.cell (p := ⟨w.heap.size, 1, none⟩) y1).trans s1
            have q2 := (hR.cell (p := ⟨w.heap.size, 2, none⟩) y1).trans s2
            have q3 := (hR.cell (p := ⟨w.heap.size, 3, none⟩) y1).trans s3
            have q4 := (hR.cell (p := ⟨w.heap.size, 4, none⟩) y1).trans s4
            have q5 := (hR.cell (p := ⟨w.heap.size, 5, none⟩) y1).trans s5
            have q6 := (hR.cell (p := ⟨w.heap.size, 6, none⟩) y1).trans s6
            have q7 := (hR.cell (p := ⟨w.heap.size, 7, none⟩) y1).trans s7
            have q8 := (hR.cell (p := ⟨w.heap.size, 8, none⟩) y1).trans s8
            have q9 := (hR.cell (p := ⟨w.heap.size, 9, none⟩) y1).trans s9
            have q10 := (hR.cell (p := ⟨w.heap.size, 10, none⟩) y1).trans s10
            have q11 := (hR.cell (p := ⟨w.heap.size, 11, none⟩) y1).trans s11
            have q12 := (hR.cell (p := ⟨w.heap.size, 12, none⟩) y1).trans s12
            have q13 := (hR.cell (p := ⟨w.heap.size, 13, none⟩) y1).trans s13
            have q14 := (hR.cell (p := ⟨w.heap.size, 14, none⟩) y1).trans s14
            have q15 := (hR.cell (p := ⟨w.heap.size, 15, none⟩) y1).trans s15
            refine spec_of rfl (fun KK hK => ?_)
            go_simp
            exact hK.out _ _ (Below.refl _ _) rfl
          | 3, _ =>
            intro v w' hR hd
            have e1 : v 1 = .agg #[.int .u8 171, .int .u8 f1.1, .int .u8 f2.1, .int .u8 f3.1, .int .u8 f4.1, .int .u8 f5.1, .int .u8 f6.1, .int .u8 f7.1, .int .u8 f8.1, .int .u8 f9.1, .int .u8 f10.1, .int .u8 f11.1, .int .u8 f12.1, .int .u8 P.1, .int .u8 (S / 256), .int .u8 (S % 256)] := hd 1 (by decide)
            have e2 : v 2 = .agg #[.int .u8 171, .int .u8 f1.1, .int .u8 f2.1, .int .u8 f3.1, .int .u8 f4.1, .int .u8 f5.1, .int .u8 f6.1, .int .u8 f7.1, .int .u8 f8.1, .int .u8 f9.1, .int .u8 f10.1, .int .u8 f11.1, .int .u8 f12.1, .int .u8 f13.1, .int .u8 f14.1, .int .u8 f15.1] := hd 2 (by decide)
            change SpecOp _ _ _ _ 3 (Act.put (Act.put (canon _ v _ []) (some 30) (v 2)) (some 29) (v 1)) w' _
            rw [e1, e2]
            simp only [canon_nil, Act.put, List.setIfInBounds_toArray, List.set_cons_zero, List.set_cons_succ]
            refine spec_of rfl (fun KK hK => ?_)
            go_simp
            exact hK.out _ _ (Below.refl _ _) rfl
          | i + 4, h => exact absurd h (Nat.not_lt.2 (Nat.le_add_left 4 i))
        case hend =>
          intro v w' hR hall
          simp only [putL, Act.put, List.setIfInBounds_toArray, List.set_cons_zero, List.set_cons_succ]
          have e0 : v 0 = .agg #[.int .i64 f1.1, .int .i64 f2.1, .int .u8 f3.1, .int .u8 f4.1, .int .u8 f5.1, .int .u8 f6.1, .int .u8 f7.1, .int .u8 f8.1, .int .u8 f9.1, .int .u8 f10.1, .int .u8 f11.1, .int .u8 f12.1] := hall 0 (by decide)
          have e1 : v 1 = .agg #[.int .u8 171, .int .u8 f1.1, .int .u8 f2.1, .int .u8 f3.1, .int .u8 f4.1, .int .u8 f5.1, .int .u8 f6.1, .int .u8 f7.1, .int .u8 f8.1, .int .u8 f9.1, .int .u8 f10.1, .int .u8 f11.1, .int .u8 f12.1, .int .u8 P.1, .int .u8 (S / 256), .int .u8 (S % 256)] := hall 1 (by decide)
          have e2 : v 2 = .agg #[.int .u8 171, .int .u8 f1.1, .int .u8 f2.1, .int .u8 f3.1, .int .u8 f4.1, .int .u8 f5.1, .int .u8 f6.1, .int .u8 f7.1, .int .u8 f8.1, .int .u8 f9.1, .int .u8 f10.1, .int .u8 f11.1, .int .u8 f12.1, .int .u8 f13.1, .int .u8 f14.1, .int .u8 f15.1] := hall 2 (by decide)
          have e3 : v 3 = .bool false := hall 3 (by decide)
          rw [e0, e1, e2, e3]
          clear e0 e1 e2 e3 hall v
          have hr2 := HR.out.below hR
          have hp2 := HPB.out.below hR
          have HB2 := Lib.hid (HB.out.trans (hR.mono HB.out.size))
          have y5 := hr2.lt
          have y6 := hp2.lt
          have e0 := hr2.cell 0
          have e1 := hr2.cell 1
          have e2 := hr2.cell 2
          have e3 := hr2.cell 3
          have e4 := hr2.cell 4
          have e5 := hr2.cell 5
          have e6 := hr2.cell 6
          have e7 := hr2.cell 7
          have e8 := hr2.cell 8
          have e9 := hr2.cell 9
          have e10 := hr2.cell 10
          have e11 := hr2.cell 11
          simp only [List.getElem?_toArray, List.getElem?_cons_zero, List.getElem?_cons_succ] at e0 e1 e2 e3 e4 e5 e6 e7 e8 e9 e10 e11
          have ef0 := hr2.frozen 0
          have ef1 := hr2.frozen 1
          have ef2 := hr2.frozen 2
          have ef3 := hr2.frozen 3
          have ef4 := hr2.frozen 4
          have ef5 := hr2.frozen 5
          have ef6 := hr2.frozen 6
          have ef7 := hr2.frozen 7
          have ef8 := hr2.frozen 8
          have ef9 := hr2.frozen 9
          have ef10 := hr2.frozen 10
          have ef11 := hr2.frozen 11
          have x0 := hp2.cell 0
          have x1 := hp2.cell 1
          have x2 := hp2.cell 2
          have x3 := hp2.cell 3
          have x4 := hp2.cell 4
          have x5 := hp2.cell 5
          have x6 := hp2.cell 6
          have x7 := hp2.cell 7
          have x8 := hp2.cell 8
          have x9 := hp2.cell 9
          have x10 := hp2.cell 10
          have x11 := hp2.cell 11
          simp only [List.getElem?_toArray, List.getElem?_cons_zero, List.getElem?_cons_succ] at x0 x1 x2 x3 x4 x5 x6 x7 x8 x9 x10 x11
          clear hr2 hp2 hR HR HB HPB
          go_wp2
          refine bodyPost_ret (v := .tuple #[.agg #[.int .i64 f1.1, .int .i64 f2.1, .int .u8 f3.1, .int .u8 f4.1, .int .u8 f5.1, .int .u8 f6.1, .int .u8 f7.1, .int .u8 f8.1, .int .u8 f9.1, .int .u8 f10.1, .int .u8 f11.1, .int .u8 f12.1], .int .i64 0]) (by simp [results, Tryz.results72, go_sem, e0, e1, e2, e3, e4, e5, e6, e7, e8, e9, e10, e11]) rfl ⟨P, S, HPP.out, HSS.out, .inl ⟨HG.out, rfl⟩, ?_⟩
          exact ((((((((((((HB2.out.setCell (p := ⟨w.heap.size + 1, 0, none⟩) (by simp) _).setCell (p := ⟨w.heap.size + 1, 1, none⟩) (by simp) _).setCell (p := ⟨w.heap.size + 1, 2, none⟩) (by simp) _).setCell (p := ⟨w.heap.size + 1, 3, none⟩) (by simp) _).setCell (p := ⟨w.heap.size + 1, 4, none⟩) (by simp) _).setCell (p := ⟨w.heap.size + 1, 5, none⟩) (by simp) _).setCell (p := ⟨w.heap.size + 1, 6, none⟩) (by simp) _).setCell (p := ⟨w.heap.size + 1, 7, none⟩) (by simp) _).setCell (p := ⟨w.heap.size + 1, 8, none⟩) (by simp) _).setCell (p := ⟨w.heap.size + 1, 9, none⟩) (by simp) _).setCell (p := ⟨w.heap.size + 1, 10, none⟩) (by simp) _).setCell (p := ⟨w.heap.size + 1, 11, none⟩) (by simp) _)
      · have hr : ∀ w, (Op.equalIn 10000 85 (.agg #[.int .u8 171, .int .u8 f1.1, .int .u8 f2.1, .int .u8 f3.1, .int .u8 f4.1, .int .u8 f5.1, .int .u8 f6.1, .int .u8 f7.1, .int .u8 f8.1, .int .u8 f9.1, .int .u8 f10.1, .int .u8 f11.1, .int .u8 f12.1, .int .u8 P.1, .int .u8 (S / 256), .int .u8 (S % 256)]) (.agg #[.int .u8 171, .int .u8 f1.1, .int .u8 f2.1, .int .u8 f3.1, .int .u8 f4.1, .int .u8 f5.1, .int .u8 f6.1, .int .u8 f7.1, .int .u8 f8.1, .int .u8 f9.1, .int .u8 f10.1, .int .u8 f11.1, .int .u8 f12.1, .int .u8 f13.1, .int .u8 f14.1, .int .u8 f15.1])).run Tryz.prog w = .ok false w := fun w => by
          rw [run_equalIn_frame, decide_eq_false (fun h => hg (by simp only [List.cons.injEq, true_and, and_true] at h; exact h))]
        have HG := Lib.hid hg
        clear hg
        go_upto_region 8 with fail
        refine wp_region_facts [Fact.is (.agg #[.int .i64 f1.1, .int .i64 f2.1, .int .u8 f3.1, .int .u8 f4.1, .int .u8 f5.1, .int .u8 f6.1, .int .u8 f7.1, .int .u8 f8.1, .int .u8 f9.1, .int .u8 f10.1, .int .u8 f11.1, .int .u8 f12.1]), Fact.is (.agg #[.int .u8 171, .int .u8 f1.1, .int .u8 f2.1, .int .u8 f3.1, .int .u8 f4.1, .int .u8 f5.1, .int .u8 f6.1, .int .u8 f7.1, .int .u8 f8.1, .int .u8 f9.1, .int .u8 f10.1, .int .u8 f11.1, .int .u8 f12.1, .int .u8 P.1, .int .u8 (S / 256), .int .u8 (S % 256)]), Fact.is (.agg #[.int .u8 171, .int .u8 f1.1, .int .u8 f2.1, .int .u8 f3.1, .int .u8 f4.1, .int .u8 f5.1, .int .u8 f6.1, .int .u8 f7.1, .int .u8 f8.1, .int .u8 f9.1, .int .u8 f10.1, .int .u8 f11.1, .int .u8 f12.1, .int .u8 f13.1, .int .u8 f14.1, .int .u8 f15.1]), Fact.is (.bool true)] [[], [0], [], [1, 2]] [(some 28, 0), (some 29, 1), (some 30, 2), (some 31, 3)] (by kernel_rfl) (by kernel_rfl) (by kernel_rfl) (by kernel_rfl) (fun _ _ _ _ e h => by have h1 : _ ∧ _ := h; exact ⟨e ▸ h1.1, h1.2⟩) ?hstep ?hend
        case hstep =>
          intro i hi
          match i, hi with
          | 0, _ =>
            intro v w' hR hd
            change SpecOp _ _ _ _ 0 (canon _ v _ []) w' _
            simp only [canon_nil]
            have q0 := (hR.cell (p := ⟨gp, 0, none⟩) y3).trans c0
            have q1 := (hR.cell (p := ⟨gp, 1, none⟩) y3).trans c1
            have q2 := (hR.cell (p := ⟨gp, 2, none⟩) y3).trans c2
            have q3 := (hR.cell (p := ⟨gp, 3, none⟩) y3).trans c3
            have q4 := (hR.cell (p := ⟨gp, 4, none⟩) y3).trans c4
            have q5 := (hR.cell (p := ⟨gp, 5, none⟩) y3).trans c5
            have q6 := (hR.cell (p := ⟨gp, 6, none⟩) y3).trans c6
            have q7 := (hR.cell (p := ⟨gp, 7, none⟩) y3).trans c7
            have q8 := (hR.cell (p := ⟨gp, 8, none⟩) y3).trans c8
            have q9 := (hR.cell (p := ⟨gp, 9, none⟩) y3).trans c9
            have q10 := (hR.cell (p := ⟨gp, 10, none⟩) y3).trans c10
            have q11 := (hR.cell (p := ⟨gp, 11, none⟩) y3).trans c11
            refine spec_of rfl (fun KK hK => ?_)
            go_simp
            exact hK.out _ _ (Below.refl _ _) rfl
          | 1, _ =>
            intro v w' hR hd
            have e0 : v 0 = .agg #[.int .i64 f1.1, .int .i64 f2.1, .int .u8 f3.1, .int .u8 f4.1, .int .u8 f5.1, .int .u8 f6.1, .int .u8 f7.1, .int .u8 f8.1, .int .u8 f9.1, .int .u8 f10.1, .int .u8 f11.1, .int .u8 f12.1] := hd 0 (by decide)
            change SpecOp _ _ _ _ 1 (Act.put (canon _ v _ []) (some 28) (v 0)) w' _
            rw [e0]
            simp only [canon_nil, Act.put, List.setIfInBounds_toArray, List.set_cons_zero, List.set_cons_succ]
            refine spec_of rfl (fun KK hK => ?_)
            go_simp
            refine (HENC.out _).mono ?_
            rintro e wn ⟨rfl, hbn⟩
            exact hK.out _ _ hbn rfl
          | 2, _ =>
            intro v w' hR hd
            change SpecOp _ _ _ _ 2 (canon _ v _ []) w' _
            simp only [canon_nil]
            have q0 := (hR.cell (p := ⟨w.heap.size, 0, none⟩) y1).trans s0
            have q1 := (hR.cell (p := ⟨w.heap.size, 1, none⟩) y1).trans s1
            have q2 := (hR.cell (p := ⟨w.heap.size, 2, none⟩) y1).trans s2
            have q3 := (hR.cell (p := ⟨w.heap.size, 3, none⟩) y1).trans s3
            have q4 := (hR.cell (p := ⟨w.heap.size, 4, none⟩) y1).trans s4
            have q5 := (hR.cell (p := ⟨w.heap.size, 5, none⟩) y1).trans s5
            have q6 := (hR.cell (p := ⟨w.heap.size, 6, none⟩) y1).trans s6
            have q7 := (hR.cell (p := ⟨w.heap.size, 7, none⟩) y1).trans s7
            have q8 := (hR.cell (p := ⟨w.heap.size, 8, none⟩) y1).trans s8
            have q9 := (hR.cell (p := ⟨w.heap.size, 9, none⟩) y1).trans s9
            have q10 := (hR.cell (p := ⟨w.heap.size, 10, none⟩) y1).trans s10
            have q11 := (hR.cell (p := ⟨w.heap.size, 11, none⟩) y1).trans s11
            have q12 := (hR.cell (p := ⟨w.heap.size, 12, none⟩) y1).trans s12
            have q13 := (hR.cell (p := ⟨w.heap.size, 13, none⟩) y1).trans s13
            have q14 := (hR.cell (p := ⟨w.heap.size, 14, none⟩) y1).trans s14
            have q15 := (hR.cell (p := ⟨w.heap.size, 15, none⟩) y1).trans s15
            refine spec_of rfl (fun KK hK => ?_)
            go_simp
            exact hK.out _ _ (Below.refl _ _) rfl
          | 3, _ =>
            intro v w' hR hd
            have e1 : v 1 = .agg #[.int .u8 171, .int .u8 f1.1, .int .u8 f2.1, .int .u8 f3.1, .int .u8 f4.1, .int .u8 f5.1, .int .u8 f6.1, .int .u8 f7.1, .int .u8 f8.1, .int .u8 f9.1, .int .u8 f10.1, .int .u8 f11.1, .int .u8 f12.1, .int .u8 P.1, .int .u8 (S / 256), .int .u8 (S % 256)] := hd 1 (by decide)
            have e2 : v 2 = .agg #[.int .u8 171, .int .u8 f1.1, .int .u8 f2.1, .int .u8 f3.1, .int .u8 f4.1, .int .u8 f5.1, .int .u8 f6.1, .int .u8 f7.1, .int .u8 f8.1, .int .u8 f9.1, .int .u8 f10.1, .int .u8 f11.1, .int .u8 f12.1, .int .u8 f13.1, .int .u8 f14.1, .int .u8 f15.1] := hd 2 (by decide)
            change SpecOp _ _ _ _ 3 (Act.put (Act.put (canon _ v _ []) (some 30) (v 2)) (some 29) (v 1)) w' _
            rw [e1, e2]
            simp only [canon_nil, Act.put, List.setIfInBounds_toArray, List.set_cons_zero, List.set_cons_succ]
            refine spec_of rfl (fun KK hK => ?_)
            go_simp
            exact hK.out _ _ (Below.refl _ _) rfl
          | i + 4, h => exact absurd h (Nat.not_lt.2 (Nat.le_add_left 4 i))
        case hend =>
          intro v w' hR hall
          simp only [putL, Act.put, List.setIfInBounds_toArray, List.set_cons_zero, List.set_cons_succ]
          have e0 : v 0 = .agg #[.int .i64 f1.1, .int .i64 f2.1, .int .u8 f3.1, .int .u8 f4.1, .int .u8 f5.1, .int .u8 f6.1, .int .u8 f7.1, .int .u8 f8.1, .int .u8 f9.1, .int .u8 f10.1, .int .u8 f11.1, .int .u8 f12.1] := hall 0 (by decide)
          have e1 : v 1 = .agg #[.int .u8 171, .int .u8 f1.1, .int .u8 f2.1, .int .u8 f3.1, .int .u8 f4.1, .int .u8 f5.1, .int .u8 f6.1, .int .u8 f7.1, .int .u8 f8.1, .int .u8 f9.1, .int .u8 f10.1, .int .u8 f11.1, .int .u8 f12.1, .int .u8 P.1, .int .u8 (S / 256), .int .u8 (S % 256)] := hall 1 (by decide)
          have e2 : v 2 = .agg #[.int .u8 171, .int .u8 f1.1, .int .u8 f2.1, .int .u8 f3.1, .int .u8 f4.1, .int .u8 f5.1, .int .u8 f6.1, .int .u8 f7.1, .int .u8 f8.1, .int .u8 f9.1, .int .u8 f10.1, .int .u8 f11.1, .int .u8 f12.1, .int .u8 f13.1, .int .u8 f14.1, .int .u8 f15.1] := hall 2 (by decide)
          have e3 : v 3 = .bool true := hall 3 (by decide)
          rw [e0, e1, e2, e3]
          clear e0 e1 e2 e3 hall v
          have hr2 := HR.out.below hR
          have hp2 := HPB.out.below hR
          have HB2 := Lib.hid (HB.out.trans (hR.mono HB.out.size))
          have y5 := hr2.lt
          have y6 := hp2.lt
          have e0 := hr2.cell 0
          have e1 := hr2.cell 1
          have e2 := hr2.cell 2
          have e3 := hr2.cell 3
          have e4 := hr2.cell 4
          have e5 := hr2.cell 5
          have e6 := hr2.cell 6
          have e7 := hr2.cell 7
          have e8 := hr2.cell 8
          have e9 := hr2.cell 9
          have e10 := hr2.cell 10
          have e11 := hr2.cell 11
          simp only [List.getElem?_toArray, List.getElem?_cons_zero, List.getElem?_cons_succ] at e0 e1 e2 e3 e4 e5 e6 e7 e8 e9 e10 e11
          have ef0 := hr2.frozen 0
          have ef1 := hr2.frozen 1
          have ef2 := hr2.frozen 2
          have ef3 := hr2.frozen 3
          have ef4 := hr2.frozen 4
          have ef5 := hr2.frozen 5
          have ef6 := hr2.frozen 6
          have ef7 := hr2.frozen 7
          have ef8 := hr2.frozen 8
          have ef9 := hr2.frozen 9
          have ef10 := hr2.frozen 10
          have ef11 := hr2.frozen 11
          have x0 := hp2.cell 0
          have x1 := hp2.cell 1
          have x2 := hp2.cell 2
          have x3 := hp2.cell 3
          have x4 := hp2.cell 4
          have x5 := hp2.cell 5
          have x6 := hp2.cell 6
          have x7 := hp2.cell 7
          have x8 := hp2.cell 8
          have x9 := hp2.cell 9
          have x10 := hp2.cell 10
          have x11 := hp2.cell 11
          simp only [List.getElem?_toArray, List.getElem?_cons_zero, List.getElem?_cons_succ] at x0 x1 x2 x3 x4 x5 x6 x7 x8 x9 x10 x11
          clear hr2 hp2 hR HR HB HPB
          go_wp2
          refine bodyPost_ret (v := .tuple #[.agg #[.int .i64 0, .int .i64 0, .int .u8 0, .int .u8 0, .int .u8 0, .int .u8 0, .int .u8 0, .int .u8 0, .int .u8 0, .int .u8 0, .int .u8 0, .int .u8 0], .int .i64 27]) (by simp [results, Tryz.results72, go_sem, e0, e1, e2, e3, e4, e5, e6, e7, e8, e9, e10, e11]) rfl ⟨P, S, HPP.out, HSS.out, .inr ⟨HG.out, rfl⟩, ?_⟩
          exact ((((((((((((HB2.out.setCell (p := ⟨w.heap.size + 1, 0, none⟩) (by simp) _).setCell (p := ⟨w.heap.size + 1, 1, none⟩) (by simp) _).setCell (p := ⟨w.heap.size + 1, 2, none⟩) (by simp) _).setCell (p := ⟨w.heap.size + 1, 3, none⟩) (by simp) _).setCell (p := ⟨w.heap.size + 1, 4, none⟩) (by simp) _).setCell (p := ⟨w.heap.size + 1, 5, none⟩) (by simp) _).setCell (p := ⟨w.heap.size + 1, 6, none⟩) (by simp) _).setCell (p := ⟨w.heap.size + 1, 7, none⟩) (by simp) _).setCell (p := ⟨w.heap.size + 1, 8, none⟩) (by simp) _).setCell (p := ⟨w.heap.size + 1, 9, none⟩) (by simp) _).setCell (p := ⟨w.heap.size + 1, 10, none⟩) (by simp) _).setCell (p := ⟨w.heap.size + 1, 11, none⟩) (by simp) _)
theorem decodeR_any (f0 f1 f2 f3 f4 f5 f6 f7 f8 f9 f10 f11 f12 f13 f14 f15 : U8) (w : World) : Calls Tryz.prog 72 #[.agg #[.int .u8 f0.1, .int .u8 f1.1, .int .u8 f2.1, .int .u8 f3.1, .int .u8 f4.1, .int .u8 f5.1, .int .u8 f6.1, .int .u8 f7.1, .int .u8 f8.1, .int .u8 f9.1, .int .u8 f10.1, .int .u8 f11.1, .int .u8 f12.1, .int .u8 f13.1, .int .u8 f14.1, .int .u8 f15.1]] w fun e w' => e = .returned (.tuple #[pkV (goodB [f0, f1, f2, f3, f4, f5, f6, f7, f8, f9, f10, f11, f12, f13, f14, f15]) [f0, f1, f2, f3, f4, f5, f6, f7, f8, f9, f10, f11, f12, f13, f14, f15], .int .i64 (errD [f0, f1, f2, f3, f4, f5, f6, f7, f8, f9, f10, f11, f12, f13, f14, f15])]) ∧ Below w.heap.size w w' := by
  by_cases h0 : f0.1 = 171
  · have e0 : f0 = u171 := Subtype.ext h0
    subst e0
    refine (decodeR_sync f1 f2 f3 f4 f5 f6 f7 f8 f9 f10 f11 f12 f13 f14 f15 w).mono ?_
    rintro e w' ⟨P, S, hP, hS, hr, hb⟩
    refine ⟨?_, hb⟩
    have key : goodB [u171, f1, f2, f3, f4, f5, f6, f7, f8, f9, f10, f11, f12, f13, f14, f15] = true ↔ goodEnd P S f13 f14 f15 := by
      unfold goodB goodEnd
      simp only [decide_eq_true_eq, List.getD_cons_zero, List.getD_cons_succ, List.drop_succ_cons, List.drop_zero, List.take_succ_cons, List.take_zero]
      rw [hP]
      constructor
      · rintro ⟨_, h1, h2, h3⟩
        have : f13 = P := Subtype.ext h1.symm
        subst this
        rw [hS] at h2 h3
        exact ⟨rfl, h2, h3⟩
      · rintro ⟨h1, h2, h3⟩
        have : P = f13 := Subtype.ext h1
        subst this
        rw [hS]
        exact ⟨rfl, rfl, h2, h3⟩
    rcases hr with ⟨hg, rfl⟩ | ⟨hg, rfl⟩
    · rw [errD_good (key.2 hg), key.2 hg]; rfl
    · have hb0 : goodB [u171, f1, f2, f3, f4, f5, f6, f7, f8, f9, f10, f11, f12, f13, f14, f15] = false := by
        cases h : goodB [u171, f1, f2, f3, f4, f5, f6, f7, f8, f9, f10, f11, f12, f13, f14, f15] with
        | true => exact absurd (key.1 h) hg
        | false => rfl
      unfold errD
      rw [hb0]; rfl
  · refine (decodeR_form f0 f1 f2 f3 f4 f5 f6 f7 f8 f9 f10 f11 f12 f13 f14 f15 h0 w).mono ?_
    rintro e w' ⟨rfl, hb⟩
    have hb0 : goodB [f0, f1, f2, f3, f4, f5, f6, f7, f8, f9, f10, f11, f12, f13, f14, f15] = false := decide_eq_false (fun h => h0 h.1)
    refine ⟨?_, hb⟩
    unfold errD
    rw [hb0, if_neg (by simp), List.getD_cons_zero, if_neg h0]; rfl
end Go.Proofs.YtnbpcfakkphmcaaGreatDoor
namespace Go.Proofs.YtnbpcfakkphmcaaGreatDoor
open Go.RowKit
set_option linter.unusedVariables false
/-- The counters from c up to d. -/
def dueR : Nat → Int → Int → List Int
  | 0, _, _ => []
  | n + 1, c, d => if c = d then [] else c :: dueR n ((c + 1) % 256) d
theorem dueR_end (n : Nat) (c : Int) : dueR (n + 1) c c = [] := if_pos rfl
theorem dueR_next (n : Nat) {c d : Int} (h : c ≠ d) : dueR (n + 1) c d = c :: dueR n ((c + 1) % 256) d := if_neg h
def lostR (kind : Int) : List Pk → Int → List Int → List Int
  | [], _, acc => acc
  | p :: l, c, acc => if p.k = kind then (if 0 ≤ c then lostR kind l p.c (acc ++ dueR 256 ((c + 1) % 256) p.c) else lostR kind l p.c acc) else lostR kind l c acc
theorem lostR_other {kind : Int} {p : Pk} {l : List Pk} {c : Int} {acc : List Int} (h : p.k ≠ kind) : lostR kind (p :: l) c acc = lostR kind l c acc := if_neg h
theorem lostR_first {kind : Int} {p : Pk} {l : List Pk} {c : Int} {acc : List Int} (h : p.k = kind) (hc : ¬ 0 ≤ c) : lostR kind (p :: l) c acc = lostR kind l p.c acc := (if_pos h).trans (if_neg hc)
theorem lostR_next {kind : Int} {p : Pk} {l : List Pk} {c : Int} {acc : List Int} (h : p.k = kind) (hc : 0 ≤ c) : lostR kind (p :: l) c acc = lostR kind l p.c (acc ++ dueR 256 ((c + 1) % 256) p.c) := (if_pos h).trans (if_pos hc)
theorem dueF_R (d : Int) : ∀ (n : Nat) (c : Int) (acc : List Int), acc.length ≤ 256 → ((acc ++ dueR n c d).length ≤ 256 → dueF n c d acc = (acc ++ dueR n c d, false)) ∧ (256 < (acc ++ dueR n c d).length → ∃ r, dueF n c d acc = (r, true) ∧ 256 < r.length) := by
  intro n
  induction n with
  | zero => intro c acc h; exact ⟨fun _ => by simp [dueF, dueR], fun h2 => by simp [dueR] at h2; omega⟩
  | succ n ih =>
    intro c acc h
    by_cases hc : c = d
    · subst hc
      rw [dueR_end, dueF_end, List.append_nil]
      exact ⟨fun _ => rfl, fun h2 => by omega⟩
    · rw [dueR_next n hc]
      by_cases hm : 256 < acc.length + 1
      · rw [dueF_many n hc hm]
        exact ⟨fun h2 => by simp at h2; omega, fun _ => ⟨_, rfl, by simp; omega⟩⟩
      · rw [dueF_next n hc hm]
        have e : acc ++ c :: dueR n ((c + 1) % 256) d = (acc ++ [c]) ++ dueR n ((c + 1) % 256) d := by simp
        rw [e]
        exact ih _ (acc ++ [c]) (by simp; omega)
theorem lostR_len (kind : Int) : ∀ (l : List Pk) (c : Int) (acc : List Int), acc.length ≤ (lostR kind l c acc).length := by
  intro l
  induction l with
  | nil => intro c acc; exact Nat.le_refl _
  | cons p l ih =>
    intro c acc
    by_cases hk : p.k = kind
    · by_cases hc : 0 ≤ c
      · rw [lostR_next hk hc]
        exact Nat.le_trans (by simp) (ih p.c (acc ++ dueR 256 ((c + 1) % 256) p.c))
      · rw [lostR_first hk hc]; exact ih _ _
    · rw [lostR_other hk]; exact ih _ _
theorem lostF_R (kind : Int) : ∀ (l : List Pk), (∀ p ∈ l, 0 ≤ p.c ∧ p.c ≤ 255) → ∀ (b : Bool) (c c' : Int) (acc : List Int), (b = true → 0 ≤ c ∧ c' = c) → (b = false → ¬ 0 ≤ c') → acc.length ≤ 256 →
    ((lostR kind l c' acc).length ≤ 256 → lostF kind l b c acc = lostR kind l c' acc) ∧ (256 < (lostR kind l c' acc).length → 256 < (lostF kind l b c acc).length) := by
  intro l
  induction l with
  | nil => intro _ b c c' acc _ _ h; exact ⟨fun _ => rfl, fun h2 => h2⟩
  | cons p l ih =>
    intro hp b c c' acc h1 h2 h
    have hpc := hp p (List.mem_cons_self ..)
    have hpl : ∀ q ∈ l, 0 ≤ q.c ∧ q.c ≤ 255 := fun q hq => hp q (List.mem_cons_of_mem _ hq)
    by_cases hk : p.k = kind
    · cases b with
      | false =>
        rw [lostF_first hk, lostR_first hk (h2 rfl)]
        exact ih hpl true p.c p.c acc (fun _ => ⟨hpc.1, rfl⟩) (fun h => by cases h) h
      | true =>
        obtain ⟨hc, rfl⟩ := h1 rfl
        rw [lostR_next hk hc]
        obtain ⟨a1, a2⟩ := dueF_R p.c 256 ((c' + 1) % 256) acc h
        by_cases hm : (acc ++ dueR 256 ((c' + 1) % 256) p.c).length ≤ 256
        · rw [lostF_next hk (a1 hm)]
          exact ih hpl true p.c p.c _ (fun _ => ⟨hpc.1, rfl⟩) (fun h => by cases h) hm
        · obtain ⟨r, hr, hr2⟩ := a2 (by omega)
          rw [lostF_many hk hr]
          exact ⟨fun h3 => absurd (Nat.le_trans (lostR_len kind l p.c _) h3) (by omega), fun _ => hr2⟩
    · rw [lostF_other hk, lostR_other hk]
      exact ih hpl b c c' acc h1 h2 h
theorem lost_agree {l : List Pk} (hl : firstPk l = 0) (kind : Int) : ((lostR kind l (-1) []).length ≤ 256 → lostF kind l false 0 [] = lostR kind l (-1) []) ∧ (256 < (lostR kind l (-1) []).length → 256 < (lostF kind l false 0 []).length) :=
  lostF_R kind l (pk_bounds hl) false 0 (-1) [] (fun h => by cases h) (fun _ => by decide) (by simp)
/-- What holds at the head of each round over the packets. -/
structure RO (w : World) (l : List Pk) (kind : Int) (i : Nat) (c : Int) (acc : List Int) (v : Value) (wx : World) : Prop where
  left : lostR kind l (-1) [] = lostR kind (l.drop i) c acc
  few : acc.length ≤ 255 * i
  lo : -1 ≤ c
  hi : c ≤ 255
  own : wx.ownsRow w.heap.size 3 1 v acc.length (acc.map (.int .i64))
  bel : Below w.heap.size w wx
/-- What holds at the head of each round over the counters. -/
structure RN (w : World) (d : Int) (acc0 acc1 : List Int) (m : Nat) (c : Int) (acc : List Int) (v : Value) (wy : World) : Prop where
  due : acc1 = acc ++ dueR m c d
  steps : stepsTo c d < m
  few : acc.length + stepsTo c d ≤ acc0.length + 255
  lo : 0 ≤ c
  hi : c ≤ 255
  own : wy.ownsRow w.heap.size 3 1 v acc.length (acc.map (.int .i64))
  bel : Below w.heap.size w wy
set_option maxRecDepth 100000 in
set_option maxHeartbeats 2000000 in
theorem lostRef_any (A : Option Addr) (cap : Nat) (l : List Pk) (kind : Int) (w : World) (hl : l.length ≤ 1024) (hr : Rd w A (pksC l)) (hf : firstPk l = 0) :
    Calls Tryz.prog 71 #[.slice A l.length cap, .int .i64 kind] w fun e w' => LostEnd w.heap.size (lostR kind l (-1) []) w e w' := by
  obtain ⟨i0, hi, hz0, hz1, hz2⟩ := info_parts info_int_
  have HR := Lib.hid hr; clear hr
  have HPB := Lib.hid (pk_bounds hf)
  clear hf
  obtain ⟨n, hn⟩ : ∃ n, l.length = n := ⟨_, rfl⟩
  have HN := Lib.hid hn
  rw [hn] at hl ⊢
  clear hn
  go_enter Tryz.func71, Tryz.ntmps71
  go_wp2
  go_loopg [6, 7, 8] n (fun g s6 s7 s8 wx => ∃ (i : Nat) (c : Int) (acc : List Int), i + g = n ∧ s8 = .int .i64 i ∧ s7 = .int .i64 c ∧ RowKit.Hid (RO w l kind i c acc s6 wx))
  case atStart => exact ⟨0, -1, [], by omega, rfl, rfl, Lib.hid ⟨rfl, by simp, by omega, by omega, World.ownsRow_nil _ _ _ _, Below.refl _ _⟩⟩
  case round =>
    obtain ⟨i, c, acc, hig, rfl, rfl, HRO⟩ := hrel
    cases gk with
    | zero =>
      have hin : ¬ ((i : Int) < (n : Int)) := by omega
      have hlt : l.length ≤ i := by rw [HN.out]; omega
      obtain ⟨A6, c6, rfl⟩ := own_shape HRO.out.own
      have hle := HRO.out.left
      rw [List.drop_of_length_le hlt] at hle
      have HLE : RowKit.Hid (lostR kind l (-1) [] = acc) := Lib.hid hle
      clear hle hlt
      by_cases h256 : 256 < acc.length
      · have hd : decide (256 < (acc.length : Int)) = true := by simp; omega
        go_wp2
        go_ret2
        rw [HLE.out]
        exact ⟨.inr ⟨h256, rfl⟩, HRO.out.bel⟩
      · have hd : decide (256 < (acc.length : Int)) = false := by simp; omega
        go_wp2
        go_ret2
        rw [HLE.out]
        exact ⟨.inl ⟨by omega, _, rfl, HRO.out.own⟩, HRO.out.bel⟩
    | succ g =>
      have hin : (i : Int) < (n : Int) := by omega
      have g1 : i < l.length := by rw [HN.out]; omega
      obtain ⟨p, hp⟩ : ∃ p, l[i] = p := ⟨_, rfl⟩
      have hpm : p ∈ l := by rw [← hp]; exact List.getElem_mem g1
      have hpb := HPB.out p hpm
      have Hdr := Lib.hid (show l.drop i = p :: l.drop (i + 1) by rw [List.drop_eq_getElem_cons g1, hp])
      have hat : ∀ j v, p.cells[j]? = some v → (pksC l)[i * 12 + j]? = some v := fun j v hv => pksC_at g1 j v (by rw [hp]; exact hv)
      obtain ⟨ad, rfl, hbl0, hcc0⟩ := HR.out (by rw [pksC_len]; omega)
      have QC : RowKit.Hid (∀ W, Below w.heap.size w W → W.cell? ⟨(ad.add (i * 12)).block, (ad.add (i * 12)).off + 1, none⟩ = some (.int .i64 p.c) ∧ ad.block < W.heap.size) := Lib.hid (fun W hb => by
        refine ⟨(hb.cell (p := ⟨(ad.add (i * 12)).block, (ad.add (i * 12)).off + 1, none⟩) (by dsimp only; rw [block_of_add]; exact hbl0)).trans ?_, Nat.lt_of_lt_of_le hbl0 hb.size⟩
        have h : w.cell? ((ad.add (i * 12)).add 1) = some (.int .i64 p.c) := by
          rw [Addr.add_add]; exact hcc0 _ _ (hat 1 _ rfl)
        exact h)
      clear hbl0 hcc0
      obtain ⟨ad', e', hbl, hcc⟩ := (HR.out.below HRO.out.bel) (by rw [pksC_len]; omega)
      obtain rfl : ad = ad' := Option.some.inj e'
      clear e'
      have q0 : wr.cell? (ad.add (i * 12)) = some (.int .i64 p.k) := hcc _ _ (hat 0 _ rfl)
      have hcx : wr.cell? ((ad.add (i * 12)).add 1) = some (.int .i64 p.c) := by
        rw [Addr.add_add]; exact hcc _ _ (hat 1 _ rfl)
      have q1 : wr.cell? ⟨(ad.add (i * 12)).block, (ad.add (i * 12)).off + 1, none⟩ = some (.int .i64 p.c) := hcx
      have z0 : ad.block < wr.heap.size := hbl
      have hlo := HRO.out.lo
      have hhi := HRO.out.hi
      have hfew := HRO.out.few
      clear hcc hcx hat hp hpm hbl
      by_cases hk : p.k = kind
      · have hk2 : (p.k != kind) = false := by simp [hk]
        have HK := Lib.hid hk
        clear hk
        by_cases hc0 : 0 ≤ c
        · obtain ⟨c1, hc1⟩ : ∃ c1, (c + 1) % 256 = c1 := ⟨_, rfl⟩
          have hc1b : 0 ≤ c1 ∧ c1 ≤ 255 := by omega
          have HC1 := Lib.hid hc1
          obtain ⟨acc1, ha1⟩ : ∃ acc1, acc ++ dueR 256 c1 p.c = acc1 := ⟨_, rfl⟩
          have hrn : RN w p.c acc acc1 256 c1 acc u6 wr := ⟨ha1.symm, stepsTo_lt _ _, by have := stepsTo_lt c1 p.c; omega, hc1b.1, hc1b.2, HRO.out.own, HRO.out.bel⟩
          have HRN := Lib.hid hrn
          have HA1 := Lib.hid ha1
          have HLF : RowKit.Hid (lostR kind l (-1) [] = lostR kind (l.drop (i + 1)) p.c acc1) := Lib.hid (by rw [HRO.out.left, Hdr.out, lostR_next HK.out hc0, HC1.out, HA1.out])
          clear hrn ha1 hc1 hc1b HRO
          go_wp2
          rw [HC1.out]
          go_loopg [6, 9] 256 (fun g2 s6 s9 wy => ∃ (c2 : Int) (acc2 : List Int), s9 = .int .i64 c2 ∧ RowKit.Hid (RN w p.c acc acc1 g2 c2 acc2 s6 wy))
          case atStart => exact ⟨c1, acc, rfl, HRN⟩
          case round =>
            clear HRN
            obtain ⟨c2, acc2, rfl, HRN⟩ := hrel
            have hst := HRN.out.steps
            have hfew2 := HRN.out.few
            have hlo2 := HRN.out.lo
            have hhi2 := HRN.out.hi
            have hsz := HRN.out.bel.size
            clear q0 q1 z0
            obtain ⟨q1, z0⟩ := QC.out wr HRN.out.bel
            cases gk with
            | zero => exact absurd hst (by omega)
            | succ m =>
              by_cases hce : c2 = p.c
              · have hcc : (c2 != p.c) = false := by simp [hce]
                have HFIN : RowKit.Hid (acc1 = acc2) := Lib.hid (by rw [HRN.out.due, hce, dueR_end, List.append_nil])
                have HCE := Lib.hid hce
                clear hce
                go_wp2
                go_roundg g
                case measure => omega
                case rel => exact ⟨i + 1, p.c, acc2, by omega, by go_num, rfl, Lib.hid ⟨by rw [HLF.out, HFIN.out], by omega, by omega, by omega, HRN.out.own, HRN.out.bel⟩⟩
              · have hcc : (c2 != p.c) = true := by simp [hce]
                have HNX : RowKit.Hid (acc1 = (acc2 ++ [c2]) ++ dueR m ((c2 + 1) % 256) p.c) := Lib.hid (by rw [HRN.out.due, dueR_next m hce]; simp)
                have hsn := stepsTo_next ⟨hlo2, hhi2⟩ hpb hce
                have HSN : RowKit.Hid (stepsTo ((c2 + 1) % 256) p.c < m ∧ (acc2 ++ [c2]).length + stepsTo ((c2 + 1) % 256) p.c ≤ acc.length + 255) := Lib.hid ⟨by omega, by rw [List.length_append, List.length_singleton]; omega⟩
                have HCE := Lib.hid hce
                have HNB := Lib.hid (heap_alloc_new wr (.cells #[.int .i64 c2] 3))
                have hmod : 0 ≤ (c2 + 1) % 256 ∧ (c2 + 1) % 256 ≤ 255 := by omega
                have HMOD := Lib.hid hmod
                clear hce hsn hmod
                go_wp2_with (at_builtin; go_must (refine wpList_append_own_at _ (by rfl) (.tmp 38) (.tmp 40) 25 (by rfl) w.heap.size 3 i0 (.int .i64 0) 1 8 Tryz.underlying25 hi hz0 hz1 hz2 (by rfl) (by decide) _ acc2.length (acc2.map (.int .i64)) (by rfl) (HRN.out.own.alloc _) ⟨wr.heap.size, 0, none⟩ 1 1 [.int .i64 c2] rfl rfl (World.news_of_block HNB.out) (by simp [Value.oneCell']) (by unfold maxLen; omega) (by omega) (by simp; omega) ?_); intro v' w4 hown1 hgrow hnil hat1)
                go_roundg m
                case measure => omega
                case rel =>
                  refine ⟨(c2 + 1) % 256, acc2 ++ [c2], rfl, Lib.hid ⟨HNX.out, HSN.out.1, HSN.out.2, HMOD.out.1, HMOD.out.2, by rw [List.map_append, List.length_append]; exact hown1, ?_⟩⟩
                  exact (HRN.out.bel.alloc HRN.out.bel.size (.cells #[.int .i64 c2] 3)).grown hgrow (by simp; omega) (fun r hr => (owns_block (HRN.out.own.alloc (.cells #[.int .i64 c2] 3)) r hr).1)
        · have HC0 := Lib.hid hc0
          have hc0' : decide (0 ≤ c) = false := by simpa using hc0
          clear hc0
          go_wp2
          go_roundg g
          case measure => omega
          case rel => exact ⟨i + 1, p.c, acc, by omega, by go_num, rfl, Lib.hid ⟨by rw [HRO.out.left, Hdr.out, lostR_first HK.out (by have := HC0.out; omega)], by omega, by omega, by omega, HRO.out.own, HRO.out.bel⟩⟩
      · have hk2 : (p.k != kind) = true := by simp [hk]
        have HK := Lib.hid hk
        clear hk
        go_wp2
        go_roundg g
        case measure => omega
        case rel => exact ⟨i + 1, c, acc, by omega, by go_num, rfl, Lib.hid ⟨by rw [HRO.out.left, Hdr.out, lostR_other HK.out], by omega, by omega, by omega, HRO.out.own, HRO.out.bel⟩⟩
end Go.Proofs.YtnbpcfakkphmcaaGreatDoor
namespace Go.Proofs.YtnbpcfakkphmcaaGreatDoor
open Go Go.RowKit
set_option linter.unusedVariables false
section
variable {P : Program} {ops : Array Oper} {rest : List Oper} {op : Oper} {a : Act} {w : World} {Q : Exit → Act → World → Prop}
theorem size_of_info {ty : TypeId} {n : Nat} (hi : (P.info? ty).map (·.size) = some n) : ∃ i, P.info? ty = some i ∧ i.size = n := by
  cases hq : P.info? ty with
  | none => rw [hq] at hi; simp at hi
  | some i => rw [hq] at hi; simp at hi; exact ⟨i, rfl, hi⟩
/-- The cells at any address are read at once. -/
theorem wpList_load_at (hgd : Region.wanted op (yielded ops a.tmps) = true) (ty : TypeId) (x : Operand) (ho : op.op = .load ty x) (ad : Addr) (hx : a.eval x = .pointer (some ad)) (cs : Array Value) (d : TypeDesc)
    (hc : ∀ j v, cs[j]? = some v → w.cell? (ad.add j) = some v) (hu : P.underlying ty = some d) (hd : d.isRow = true) (hi : (P.info? ty).map (·.size) = some cs.size)
    (h : wpList P ops Q rest (a.put op.dst (.agg cs)) w) : wpList P ops Q (op :: rest) a w := by
  refine wpList_step fun K hK => ?_
  rw [if_pos hgd]
  have hl : (loadCells ad cs.size).run P w = .ok cs w := by
    have h1 := run_loadCells_list (P := P) w ad cs.toList (fun j v hv => hc j v (by rw [← Array.getElem?_toList]; exact hv))
    simpa using h1
  obtain ⟨i, hq, hs⟩ := size_of_info hi
  have hagg : (isAgg ty).run P w = .ok true w := by
    unfold isAgg
    rw [Sem.run_bind, run_underlying hu w]
    cases d <;> simp_all
  have hv : (loadVar ty ad).run P w = .ok (.agg cs) w := by
    simp [loadVar, Sem.run_bind, hagg, sizeOf, typeInfo, hq, hs, hl]
  unfold Oper.wp execOp
  simp only [ho, hx, Instr.loadAt, Instr.sureAddr, Sem.run_bind, Sem.run_pure, Result.andThen_ok, hv]
  exact hK _ _ h
/-- A whole box is read. -/
theorem wpList_load_box (hgd : Region.wanted op (yielded ops a.tmps) = true) (ty : TypeId) (x : Operand) (ho : op.op = .load ty x) (g : Nat) (t : TypeId) (cs : Array Value) (hb : Blk w g t cs) (hx : a.eval x = .pointer (some ⟨g, 0, none⟩)) (d : TypeDesc)
    (hu : P.underlying ty = some d) (hd : d.isRow = true) (hi : (P.info? ty).map (·.size) = some cs.size)
    (h : wpList P ops Q rest (a.put op.dst (.agg cs)) w) : wpList P ops Q (op :: rest) a w :=
  wpList_load_at hgd ty x ho ⟨g, 0, none⟩ hx cs d (fun j v hv => by
    have e : (⟨g, 0, none⟩ : Addr).add j = ⟨g, j, none⟩ := by unfold Addr.add; split <;> simp_all
    rw [e, hb.cell j, hv]) hu hd hi h
/-- A whole box is written. -/
theorem wpList_store_box (hgd : op.guard = none) (ty : TypeId) (x y : Operand) (ho : op.op = .store ty x y) (g : Nat) (t : TypeId) (old cs : Array Value) (hb : Blk w g t old) (hx : a.eval x = .pointer (some ⟨g, 0, none⟩)) (hy : a.eval y = .agg cs)
    (hi : (P.info? ty).map (·.size) = some cs.size) (hz : old.size = cs.size) (h1 : cs.all (·.oneCell') = true)
    (h : ∀ w', Hid (Blk w' g t cs) → Only g w w' → wpList P ops Q rest (a.put op.dst undef) w') : wpList P ops Q (op :: rest) a w := by
  refine wpList_plain hgd fun K hK => ?_
  have hr := run_storeVar_row (P := P) w g t ty old cs hb hi hz h1
  unfold Oper.wp execOp
  simp only [ho, hx, hy, Instr.storeAt, Instr.sureAddr, Sem.run_bind, Sem.run_pure, Result.andThen_ok, hr]
  refine hK _ _ (h _ (Lib.hid ?_) (only_setRow w g cs))
  unfold Blk at hb ⊢
  simp [World.setRow, Array.getElem?_modify, hb]
/-- A box is made, and filled by the next operation. -/
theorem wpList_alloc_store {op2 : Oper} (hgd : op.guard = none) (hgd2 : op2.guard = none) (ty : TypeId) (d : Tmp) (y : Operand) (ho : op.op = .alloc ty) (hd : op.dst = some d) (ho2 : op2.op = .store ty (.tmp d) y) (hd2 : op2.dst = none)
    (z cs : Array Value) (hz : ∀ w, (zeroValue ty).run P w = .ok (.agg z) w) (hx : (a.put (some d) (.pointer (some ⟨w.heap.size, 0, none⟩))).eval (.tmp d) = .pointer (some ⟨w.heap.size, 0, none⟩)) (hy : (a.put (some d) (.pointer (some ⟨w.heap.size, 0, none⟩))).eval y = .agg cs)
    (hi : (P.info? ty).map (·.size) = some cs.size) (hs : z.size = cs.size) (h1 : cs.all (·.oneCell') = true)
    (h : wpList P ops Q rest (a.put (some d) (.pointer (some ⟨w.heap.size, 0, none⟩))) (w.alloc (.cells cs ty))) : wpList P ops Q (op :: op2 :: rest) a w := by
  refine wpList_plain hgd fun K hK => ?_
  have hrun : (execOp a.eval op).run P w = .ok (.value (.pointer (some ⟨w.heap.size, 0, none⟩))) (w.alloc (.cells z ty)) := by
    unfold execOp
    simp only [ho]
    simp [go_sem, Instr.alloc, hz, newVar]
  unfold Oper.wp
  rw [hrun]
  refine hK _ _ ?_
  rw [hd]
  refine wpList_plain hgd2 fun K2 hK2 => ?_
  have hr := run_storeAt_new (P := P) w ty z cs hi hs h1
  unfold Oper.wp execOp
  simp only [ho2, hx, hy, Sem.run_bind, hr, Result.andThen_ok]
  have h3 : K2 ((a.put (some d) (.pointer (some ⟨w.heap.size, 0, none⟩))).put op2.dst undef) (w.alloc (.cells cs ty)) := by
    rw [hd2]; exact hK2 _ _ h
  exact h3
end
end Go.Proofs.YtnbpcfakkphmcaaGreatDoor
namespace Go.Proofs.YtnbpcfakkphmcaaGreatDoor
open Go.RowKit
set_option linter.unusedVariables false
theorem blk_set16 {w : World} {g : Nat} {t : TypeId} {x0 x1 x2 x3 x4 x5 x6 x7 x8 x9 x10 x11 x12 x13 x14 x15 y0 y1 y2 y3 y4 y5 y6 y7 y8 y9 y10 y11 y12 y13 y14 y15 : Value} (h : Blk w g t #[x0, x1, x2, x3, x4, x5, x6, x7, x8, x9, x10, x11, x12, x13, x14, x15]) : Blk ((((((((((((((((w.setCell ⟨g, 0, none⟩ y0).setCell ⟨g, 1, none⟩ y1).setCell ⟨g, 2, none⟩ y2).setCell ⟨g, 3, none⟩ y3).setCell ⟨g, 4, none⟩ y4).setCell ⟨g, 5, none⟩ y5).setCell ⟨g, 6, none⟩ y6).setCell ⟨g, 7, none⟩ y7).setCell ⟨g, 8, none⟩ y8).setCell ⟨g, 9, none⟩ y9).setCell ⟨g, 10, none⟩ y10).setCell ⟨g, 11, none⟩ y11).setCell ⟨g, 12, none⟩ y12).setCell ⟨g, 13, none⟩ y13).setCell ⟨g, 14, none⟩ y14).setCell ⟨g, 15, none⟩ y15) g t #[y0, y1, y2, y3, y4, y5, y6, y7, y8, y9, y10, y11, y12, y13, y14, y15] := by
  have h1 := (((((((((((((((h.set_ 0 y0).set_ 1 y1).set_ 2 y2).set_ 3 y3).set_ 4 y4).set_ 5 y5).set_ 6 y6).set_ 7 y7).set_ 8 y8).set_ 9 y9).set_ 10 y10).set_ 11 y11).set_ 12 y12).set_ 13 y13).set_ 14 y14).set_ 15 y15
  simpa using h1
theorem below_set16 {w0 w : World} {g B : Nat} (h : Below B w0 w) (hg : B ≤ g) (y0 y1 y2 y3 y4 y5 y6 y7 y8 y9 y10 y11 y12 y13 y14 y15 : Value) : Below B w0 ((((((((((((((((w.setCell ⟨g, 0, none⟩ y0).setCell ⟨g, 1, none⟩ y1).setCell ⟨g, 2, none⟩ y2).setCell ⟨g, 3, none⟩ y3).setCell ⟨g, 4, none⟩ y4).setCell ⟨g, 5, none⟩ y5).setCell ⟨g, 6, none⟩ y6).setCell ⟨g, 7, none⟩ y7).setCell ⟨g, 8, none⟩ y8).setCell ⟨g, 9, none⟩ y9).setCell ⟨g, 10, none⟩ y10).setCell ⟨g, 11, none⟩ y11).setCell ⟨g, 12, none⟩ y12).setCell ⟨g, 13, none⟩ y13).setCell ⟨g, 14, none⟩ y14).setCell ⟨g, 15, none⟩ y15) :=
  (((((((((((((((h.setCell (p := ⟨g, 0, none⟩) hg y0).setCell (p := ⟨g, 1, none⟩) hg y1).setCell (p := ⟨g, 2, none⟩) hg y2).setCell (p := ⟨g, 3, none⟩) hg y3).setCell (p := ⟨g, 4, none⟩) hg y4).setCell (p := ⟨g, 5, none⟩) hg y5).setCell (p := ⟨g, 6, none⟩) hg y6).setCell (p := ⟨g, 7, none⟩) hg y7).setCell (p := ⟨g, 8, none⟩) hg y8).setCell (p := ⟨g, 9, none⟩) hg y9).setCell (p := ⟨g, 10, none⟩) hg y10).setCell (p := ⟨g, 11, none⟩) hg y11).setCell (p := ⟨g, 12, none⟩) hg y12).setCell (p := ⟨g, 13, none⟩) hg y13).setCell (p := ⟨g, 14, none⟩) hg y14).setCell (p := ⟨g, 15, none⟩) hg y15
theorem blk_far16 {w : World} {g k : Nat} {t : TypeId} {cs : Array Value} (h : Blk w k t cs) (hg : k ≠ g) (y0 y1 y2 y3 y4 y5 y6 y7 y8 y9 y10 y11 y12 y13 y14 y15 : Value) : Blk ((((((((((((((((w.setCell ⟨g, 0, none⟩ y0).setCell ⟨g, 1, none⟩ y1).setCell ⟨g, 2, none⟩ y2).setCell ⟨g, 3, none⟩ y3).setCell ⟨g, 4, none⟩ y4).setCell ⟨g, 5, none⟩ y5).setCell ⟨g, 6, none⟩ y6).setCell ⟨g, 7, none⟩ y7).setCell ⟨g, 8, none⟩ y8).setCell ⟨g, 9, none⟩ y9).setCell ⟨g, 10, none⟩ y10).setCell ⟨g, 11, none⟩ y11).setCell ⟨g, 12, none⟩ y12).setCell ⟨g, 13, none⟩ y13).setCell ⟨g, 14, none⟩ y14).setCell ⟨g, 15, none⟩ y15) k t cs :=
  (((((((((((((((h.far (p := ⟨g, 0, none⟩) hg y0).far (p := ⟨g, 1, none⟩) hg y1).far (p := ⟨g, 2, none⟩) hg y2).far (p := ⟨g, 3, none⟩) hg y3).far (p := ⟨g, 4, none⟩) hg y4).far (p := ⟨g, 5, none⟩) hg y5).far (p := ⟨g, 6, none⟩) hg y6).far (p := ⟨g, 7, none⟩) hg y7).far (p := ⟨g, 8, none⟩) hg y8).far (p := ⟨g, 9, none⟩) hg y9).far (p := ⟨g, 10, none⟩) hg y10).far (p := ⟨g, 11, none⟩) hg y11).far (p := ⟨g, 12, none⟩) hg y12).far (p := ⟨g, 13, none⟩) hg y13).far (p := ⟨g, 14, none⟩) hg y14).far (p := ⟨g, 15, none⟩) hg y15
/-- A list that lies below a bound. -/
def RdB (m : Nat) (w : World) (A : Option Addr) (xs : List Value) : Prop :=
  0 < xs.length → ∃ ad, A = some ad ∧ ad.block < m ∧ ∀ j u, xs[j]? = some u → w.cell? (ad.add j) = some u
theorem rdB_of {w : World} {A : Option Addr} {xs : List Value} (h : Rd w A xs) : RdB w.heap.size w A xs := h
theorem RdB.below {m : Nat} {w w' : World} {A : Option Addr} {xs : List Value} (h : RdB m w A xs) (hb : Below m w w') : RdB m w' A xs := fun h0 => by
  obtain ⟨ad, e, hl, hc⟩ := h h0
  exact ⟨ad, e, hl, fun j u hj => (hb.cell (by rw [block_of_add]; exact hl)).trans (hc j u hj)⟩
theorem RdB.rd {m : Nat} {w : World} {A : Option Addr} {xs : List Value} (h : RdB m w A xs) (hm : m ≤ w.heap.size) : Rd w A xs := fun h0 => by
  obtain ⟨ad, e, hl, hc⟩ := h h0
  exact ⟨ad, e, Nat.lt_of_lt_of_le hl hm, hc⟩
def Pk.Bytes (p : Pk) : Prop := ∀ x ∈ p.data, 0 ≤ x ∧ x ≤ 255
theorem Pk.u8 {p : Pk} (h : p.Bytes) (i : Nat) (x : Int) (hx : p.data[i]? = some x) : ∃ b : U8, x = b.1 := ⟨⟨x, h x (List.mem_of_getElem? hx)⟩, rfl⟩
theorem pkErr_zero {k c : Int} (h : pkErr k c = 0) : (0 ≤ k ∧ k ≤ 255) ∧ 0 ≤ c ∧ c ≤ 255 := by
  have h0 := firstE_zero h
  exact ⟨outs_zero (h0 _ (by simp)), outs_zero (h0 _ (by simp))⟩
/-- A frame beside an error. -/
def FrEnd (l : List Int) (E : Int) (w : World) (e : Ending) (w' : World) : Prop := e = .returned (.tuple #[.agg (l.map (Value.int .u8)).toArray, .int .i64 E]) ∧ Below w.heap.size w w'
def FrEndR (l : List Int) (w : World) (e : Ending) (w' : World) : Prop := e = .returned (.agg (l.map (Value.int .u8)).toArray) ∧ Below w.heap.size w w'
theorem encode_fit (p : Pk) (hb : p.Bytes) : ∃ F0 F1 F2 F3 F4 F5 F6 F7 F8 F9 F10 F11 F12 F13 F14 F15 : Int, (∀ w, Calls Tryz.prog 64 #[.agg #[.int .i64 p.k, .int .i64 p.c, .int .u8 p.d0, .int .u8 p.d1, .int .u8 p.d2, .int .u8 p.d3, .int .u8 p.d4, .int .u8 p.d5, .int .u8 p.d6, .int .u8 p.d7, .int .u8 p.d8, .int .u8 p.d9]] w (FrEnd [F0, F1, F2, F3, F4, F5, F6, F7, F8, F9, F10, F11, F12, F13, F14, F15] (pkErr p.k p.c) w)) ∧ (pkErr p.k p.c = 0 → ∀ w, Calls Tryz.prog 70 #[.agg #[.int .i64 p.k, .int .i64 p.c, .int .u8 p.d0, .int .u8 p.d1, .int .u8 p.d2, .int .u8 p.d3, .int .u8 p.d4, .int .u8 p.d5, .int .u8 p.d6, .int .u8 p.d7, .int .u8 p.d8, .int .u8 p.d9]] w (FrEndR [F0, F1, F2, F3, F4, F5, F6, F7, F8, F9, F10, F11, F12, F13, F14, F15] w)) ∧ (pkErr p.k p.c ≠ 0 → [F0, F1, F2, F3, F4, F5, F6, F7, F8, F9, F10, F11, F12, F13, F14, F15] = [0, 0, 0, 0, 0, 0, 0, 0, 0, 0, 0, 0, 0, 0, 0, 0]) := by
  by_cases he : pkErr p.k p.c = 0
  · obtain ⟨hk, hc⟩ := pkErr_zero he
    obtain ⟨k, ek⟩ : ∃ b : U8, p.k = b.1 := ⟨⟨p.k, hk⟩, rfl⟩
    obtain ⟨c, ec⟩ : ∃ b : U8, p.c = b.1 := ⟨⟨p.c, hc⟩, rfl⟩
    obtain ⟨d0, e0⟩ := Pk.u8 hb 0 p.d0 rfl
    obtain ⟨d1, e1⟩ := Pk.u8 hb 1 p.d1 rfl
    obtain ⟨d2, e2⟩ := Pk.u8 hb 2 p.d2 rfl
    obtain ⟨d3, e3⟩ := Pk.u8 hb 3 p.d3 rfl
    obtain ⟨d4, e4⟩ := Pk.u8 hb 4 p.d4 rfl
    obtain ⟨d5, e5⟩ := Pk.u8 hb 5 p.d5 rfl
    obtain ⟨d6, e6⟩ := Pk.u8 hb 6 p.d6 rfl
    obtain ⟨d7, e7⟩ := Pk.u8 hb 7 p.d7 rfl
    obtain ⟨d8, e8⟩ := Pk.u8 hb 8 p.d8 rfl
    obtain ⟨d9, e9⟩ := Pk.u8 hb 9 p.d9 rfl
    rw [he, ek, ec, e0, e1, e2, e3, e4, e5, e6, e7, e8, e9]
    obtain ⟨P, hP⟩ : ∃ P : U8, xorF [k, c, d0, d1, d2, d3, d4, d5, d6, d7, d8, d9] 0 = P.1 := ⟨⟨xorF [k, c, d0, d1, d2, d3, d4, d5, d6, d7, d8, d9] 0, xorF_bd _ 0 (by decide)⟩, rfl⟩
    obtain ⟨S, hS⟩ : ∃ S, rollF 251 65521 [u171, k, c, d0, d1, d2, d3, d4, d5, d6, d7, d8, d9, P] 1 = S := ⟨_, rfl⟩
    refine ⟨171, k.1, c.1, d0.1, d1.1, d2.1, d3.1, d4.1, d5.1, d6.1, d7.1, d8.1, d9.1, P.1, S / 256, S % 256, fun w => (encode_ok k c d0 d1 d2 d3 d4 d5 d6 d7 d8 d9 w).mono ?_, fun _ w => (encodeR_ok k c d0 d1 d2 d3 d4 d5 d6 d7 d8 d9 w).mono ?_, fun h => absurd rfl h⟩
    all_goals
      rintro e w' ⟨P', S', hP', hS', rfl, hbl⟩
      have e1 : P' = P := Subtype.ext (hP'.symm.trans hP)
      subst e1
      rw [hS] at hS'
      subst hS'
      exact ⟨rfl, hbl⟩
  · exact ⟨0, 0, 0, 0, 0, 0, 0, 0, 0, 0, 0, 0, 0, 0, 0, 0, fun w => (encode_bad p.k p.c p.d0 p.d1 p.d2 p.d3 p.d4 p.d5 p.d6 p.d7 p.d8 p.d9 w he).mono fun e w' ⟨h1, h2⟩ => ⟨h1, h2⟩, fun h => absurd h he, fun _ => rfl⟩
/-- A packet beside an error. -/
def PkEnd (p : Pk) (E : Int) (w : World) (e : Ending) (w' : World) : Prop := e = .returned (.tuple #[.agg p.cells.toArray, .int .i64 E]) ∧ Below w.heap.size w w'
theorem decode_fit (f0 f1 f2 f3 f4 f5 f6 f7 f8 f9 f10 f11 f12 f13 f14 f15 : U8) : ∃ (y : Pk) (E : Int), (∀ w, Calls Tryz.prog 65 #[.agg #[.int .u8 f0.1, .int .u8 f1.1, .int .u8 f2.1, .int .u8 f3.1, .int .u8 f4.1, .int .u8 f5.1, .int .u8 f6.1, .int .u8 f7.1, .int .u8 f8.1, .int .u8 f9.1, .int .u8 f10.1, .int .u8 f11.1, .int .u8 f12.1, .int .u8 f13.1, .int .u8 f14.1, .int .u8 f15.1]] w (PkEnd y E w)) ∧ (∀ w, Calls Tryz.prog 72 #[.agg #[.int .u8 f0.1, .int .u8 f1.1, .int .u8 f2.1, .int .u8 f3.1, .int .u8 f4.1, .int .u8 f5.1, .int .u8 f6.1, .int .u8 f7.1, .int .u8 f8.1, .int .u8 f9.1, .int .u8 f10.1, .int .u8 f11.1, .int .u8 f12.1, .int .u8 f13.1, .int .u8 f14.1, .int .u8 f15.1]] w (PkEnd y E w)) := by
  have hv : ∃ y : Pk, pkV (goodB [f0, f1, f2, f3, f4, f5, f6, f7, f8, f9, f10, f11, f12, f13, f14, f15]) [f0, f1, f2, f3, f4, f5, f6, f7, f8, f9, f10, f11, f12, f13, f14, f15] = .agg y.cells.toArray := by
    cases goodB [f0, f1, f2, f3, f4, f5, f6, f7, f8, f9, f10, f11, f12, f13, f14, f15] with
    | true => exact ⟨pkOf [f0, f1, f2, f3, f4, f5, f6, f7, f8, f9, f10, f11, f12, f13, f14, f15], rfl⟩
    | false => exact ⟨pk0, rfl⟩
  obtain ⟨y, hy⟩ := hv
  refine ⟨y, errD [f0, f1, f2, f3, f4, f5, f6, f7, f8, f9, f10, f11, f12, f13, f14, f15], fun w => (decode_any f0 f1 f2 f3 f4 f5 f6 f7 f8 f9 f10 f11 f12 f13 f14 f15 w).mono ?_, fun w => (decodeR_any f0 f1 f2 f3 f4 f5 f6 f7 f8 f9 f10 f11 f12 f13 f14 f15 w).mono ?_⟩
  all_goals
    rintro e w' ⟨rfl, hb⟩
    rw [hy]
    exact ⟨rfl, hb⟩
/-- Lost counters beside an error. -/
def LoEnd (R : List Int) (E : Int) (w : World) (e : Ending) (w' : World) : Prop := ∃ A c, e = .returned (.tuple #[.slice A R.length c, .int .i64 E]) ∧ Rd w' A (R.map (.int .i64)) ∧ Below w.heap.size w w'
theorem lost_fit (l : List Pk) (kind : Int) (hl : l.length ≤ 1025) : ∃ (R : List Int) (z : Int), R.length ≤ maxLen ∧ (∀ A c w, Rd w A (pksC l) → Calls Tryz.prog 66 #[.slice A l.length c, .int .i64 kind] w (LoEnd R z w)) ∧
    (firstE [pksErr l, outs kind 0 255] = 0 → ∀ A c w, Rd w A (pksC l) → Calls Tryz.prog 71 #[.slice A l.length c, .int .i64 kind] w (LoEnd R z w)) ∧ (firstE [pksErr l, outs kind 0 255] ≠ 0 → R = [] ∧ z = firstE [pksErr l, outs kind 0 255]) := by
  by_cases he : firstE [pksErr l, outs kind 0 255] = 0
  · have he2 : lostErr l kind = 0 := (lostErr_eq l kind).trans he
    obtain ⟨h1, h2⟩ := lostErr_zero he2
    obtain ⟨a1, a2⟩ := lost_agree h2 kind
    by_cases hb : (lostR kind l (-1) []).length ≤ 256
    · have e1 := a1 hb
      have key : ∀ (w : World) (e : Ending) (w' : World), LostEnd w.heap.size (lostR kind l (-1) []) w e w' → LoEnd (lostR kind l (-1) []) 0 w e w' := by
        rintro w e w' ⟨⟨_, v, rfl, hown⟩ | ⟨h3, _⟩, hbl⟩
        · obtain ⟨A', c', rfl⟩ := own_shape hown
          exact ⟨A', c', rfl, rd_own hown, hbl⟩
        · omega
      refine ⟨lostR kind l (-1) [], 0, by unfold maxLen; omega, fun A c w hr => (lost_good A c l kind w (by unfold maxLen; omega) hr he2).mono ?_, fun _ A c w hr => (lostRef_any A c l kind w h1 hr h2).mono ?_, fun h => absurd he h⟩
      · rintro e w' h
        rw [e1] at h
        exact key w e w' h
      · rintro e w' h
        exact key w e w' h
    · have e1 := a2 (by omega)
      have key : ∀ (R : List Int) (hR : 256 < R.length) (w : World) (e : Ending) (w' : World), LostEnd w.heap.size R w e w' → LoEnd [] 5 w e w' := by
        rintro R hR w e w' ⟨⟨h3, _⟩ | ⟨_, rfl⟩, hbl⟩
        · omega
        · exact ⟨none, 0, rfl, fun h => absurd h (by simp), hbl⟩
      exact ⟨[], 5, by simp, fun A c w hr => (lost_good A c l kind w (by unfold maxLen; omega) hr he2).mono (fun e w' h => key _ e1 w e w' h), fun _ A c w hr => (lostRef_any A c l kind w h1 hr h2).mono (fun e w' h => key _ (by omega) w e w' h), fun h => absurd he h⟩
  · have he2 : lostErr l kind ≠ 0 := fun h => he ((lostErr_eq l kind).symm.trans h)
    refine ⟨[], firstE [pksErr l, outs kind 0 255], by simp, fun A c w hr => (lost_bad A c l kind w (by unfold maxLen; omega) hr he2).mono ?_, fun h => absurd h he, fun _ => ⟨rfl, rfl⟩⟩
    rintro e w' ⟨rfl, hb⟩
    rw [lostErr_eq]
    exact ⟨none, 0, rfl, fun h => absurd h (by simp), hb⟩
theorem packetR_fields : (Tryz.prog.fieldsOf 89).toList = [{ name := "Kind", type := 3, offset := 0, embedded := false, tag := "", pkgPath := "", byteOffset := 0 }, { name := "Counter", type := 3, offset := 1, embedded := false, tag := "", pkgPath := "", byteOffset := 8 }, { name := "Data", type := 87, offset := 2, embedded := false, tag := "", pkgPath := "", byteOffset := 16 }] := by kernel_rfl
theorem run_equalIn_packetR (p q : Pk) (w : World) : (Op.equalIn 10000 89 (.agg #[.int .i64 p.k, .int .i64 p.c, .int .u8 p.d0, .int .u8 p.d1, .int .u8 p.d2, .int .u8 p.d3, .int .u8 p.d4, .int .u8 p.d5, .int .u8 p.d6, .int .u8 p.d7, .int .u8 p.d8, .int .u8 p.d9]) (.agg #[.int .i64 q.k, .int .i64 q.c, .int .u8 q.d0, .int .u8 q.d1, .int .u8 q.d2, .int .u8 q.d3, .int .u8 q.d4, .int .u8 q.d5, .int .u8 q.d6, .int .u8 q.d7, .int .u8 q.d8, .int .u8 q.d9])).run Tryz.prog w = .ok (pkEq p q) w := by
  have h87 := Tryz.isAgg87
  have hs := Tryz.sizeOf87
  have h3 := Tryz.isAgg3
  rw [show (10000 : Nat) = 9999 + 1 from rfl, run_equalIn_struct w 9999 89 _ _ (by kernel_rfl) (by kernel_rfl), packetR_fields]
  have hd := run_equalIn_data p q 9997 w
  simp only [Op.eqFields, Sem.run_bind, Sem.run_ite]
  unfold pkEq
  cases hk : p.k == q.k <;> cases hc : p.c == q.c
  all_goals simp [part, h3, h87, hs, run_equalIn_int w 9998 3 .i64 .i64 _ _ Tryz.underlying3, hk, hc, Result.andThen_ok]
  rw [hd]
  by_cases h : p.data = q.data <;> simp [h]
/-- The law answers true; nothing that was there has turned. -/
def YesEnd (w : World) (e : Ending) (w' : World) : Prop := e = .returned (.bool true) ∧ Below w.heap.size w w'
theorem yesEnd_mk {w w' : World} {e : Ending} (h : e = .returned (.bool true)) (hb : Below w.heap.size w w') : YesEnd w e w' := ⟨h, hb⟩
theorem eq_packetR (p : Pk) (w : World) : (Op.equalIn 10000 89 (.agg #[.int .i64 p.k, .int .i64 p.c, .int .u8 p.d0, .int .u8 p.d1, .int .u8 p.d2, .int .u8 p.d3, .int .u8 p.d4, .int .u8 p.d5, .int .u8 p.d6, .int .u8 p.d7, .int .u8 p.d8, .int .u8 p.d9]) (.agg #[.int .i64 p.k, .int .i64 p.c, .int .u8 p.d0, .int .u8 p.d1, .int .u8 p.d2, .int .u8 p.d3, .int .u8 p.d4, .int .u8 p.d5, .int .u8 p.d6, .int .u8 p.d7, .int .u8 p.d8, .int .u8 p.d9])).run Tryz.prog w = .ok true w := by
  rw [run_equalIn_packetR]; simp [pkEq]
theorem eq_frame (F0 F1 F2 F3 F4 F5 F6 F7 F8 F9 F10 F11 F12 F13 F14 F15 : Int) (w : World) : (Op.equalIn 10000 85 (.agg #[.int .u8 F0, .int .u8 F1, .int .u8 F2, .int .u8 F3, .int .u8 F4, .int .u8 F5, .int .u8 F6, .int .u8 F7, .int .u8 F8, .int .u8 F9, .int .u8 F10, .int .u8 F11, .int .u8 F12, .int .u8 F13, .int .u8 F14, .int .u8 F15]) (.agg #[.int .u8 F0, .int .u8 F1, .int .u8 F2, .int .u8 F3, .int .u8 F4, .int .u8 F5, .int .u8 F6, .int .u8 F7, .int .u8 F8, .int .u8 F9, .int .u8 F10, .int .u8 F11, .int .u8 F12, .int .u8 F13, .int .u8 F14, .int .u8 F15])).run Tryz.prog w = .ok true w := by
  rw [run_equalIn_frame, decide_eq_true rfl]
end Go.Proofs.YtnbpcfakkphmcaaGreatDoor
