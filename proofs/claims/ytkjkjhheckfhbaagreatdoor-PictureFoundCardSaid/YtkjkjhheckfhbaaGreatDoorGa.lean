/- The reference's errors of packets, the law's list of packets, the frame of a wrong packet. -/
import Derived.Test.YtkjkjhheckfhbaaGreatDoorAp
import Derived.Test.YtkjkjhheckfhbaaGreatDoorAm
import Derived.Test.YtkjkjhheckfhbaaGreatDoorAv
namespace Go.Proofs.YtkjkjhheckfhbaaGreatDoor
open Go.RowKit
set_option linter.unusedVariables false
def shortPk (n : Nat) : Bool := decide (n ≤ 24) || decide (n = 1025)
theorem shortPackets_any (A : Option Addr) (n c : Nat) (w : World) : Calls Tryz.prog 63 #[.slice A n c] w fun e w' => e = .returned (.bool (shortPk n)) ∧ w = w' := by
  by_cases h1 : n ≤ 24
  · have HE : RowKit.Hid (shortPk n = true) := Lib.hid (by simp [shortPk, h1])
    have h1' : (n : Int) ≤ 24 := by omega
    clear h1
    go_enter Tryz.func63, Tryz.ntmps63
    go_wp2
    go_ret
    exact ⟨ret_bool HE.out.symm, rfl⟩
  · have h1' : ¬ (n : Int) ≤ 24 := by omega
    by_cases h2 : n = 1025
    · subst h2
      go_enter Tryz.func63, Tryz.ntmps63
      go_wp2
      go_ret
      exact ⟨rfl, rfl⟩
    · have HE : RowKit.Hid (shortPk n = false) := Lib.hid (by simp [shortPk, h1, h2])
      have h2' : ((n : Int) == 1025) = false := by simp; omega
      clear h1 h2
      go_enter Tryz.func63, Tryz.ntmps63
      go_wp2
      go_ret
      exact ⟨ret_bool HE.out.symm, rfl⟩
set_option maxRecDepth 100000 in
theorem checkPacketR_any (ki co d0 d1 d2 d3 d4 d5 d6 d7 d8 d9 : Int) (w : World) : Calls Tryz.prog 68 #[.agg #[.int .i64 ki, .int .i64 co, .int .u8 d0, .int .u8 d1, .int .u8 d2, .int .u8 d3, .int .u8 d4, .int .u8 d5, .int .u8 d6, .int .u8 d7, .int .u8 d8, .int .u8 d9]] w fun e w' => e = .returned (.int .i64 (pkErr ki co)) ∧ Below w.heap.size w w' := by
  go_enter Tryz.func68, Tryz.ntmps68
  go_wp2_with fail
  have hx0 := (Blk.new w 89 #[.int .i64 ki, .int .i64 co, .int .u8 d0, .int .u8 d1, .int .u8 d2, .int .u8 d3, .int .u8 d4, .int .u8 d5, .int .u8 d6, .int .u8 d7, .int .u8 d8, .int .u8 d9])
  have hb0 := ((Below.refl w.heap.size w).alloc (Nat.le_refl _) (.cells #[.int .i64 ki, .int .i64 co, .int .u8 d0, .int .u8 d1, .int .u8 d2, .int .u8 d3, .int .u8 d4, .int .u8 d5, .int .u8 d6, .int .u8 d7, .int .u8 d8, .int .u8 d9] 89))
  generalize (w.alloc (.cells #[.int .i64 ki, .int .i64 co, .int .u8 d0, .int .u8 d1, .int .u8 d2, .int .u8 d3, .int .u8 d4, .int .u8 d5, .int .u8 d6, .int .u8 d7, .int .u8 d8, .int .u8 d9] 89)) = w0 at hx0 hb0 ⊢
  have HX0_0 := Lib.hid hx0
  have HB_0 := Lib.hid hb0
  clear hx0 hb0
  have k0_0 : w0.cell? ⟨w.heap.size, 0, none⟩ = some (.int .i64 ki) := HX0_0.out.cell 0
  have k0_1 : w0.cell? ⟨w.heap.size, 1, none⟩ = some (.int .i64 co) := HX0_0.out.cell 1
  go_region_held3 (fun w' => w'.cell? ⟨w.heap.size, 0, none⟩ = some (.int .i64 ki) ∧ w'.cell? ⟨w.heap.size, 1, none⟩ = some (.int .i64 co)) (go_keep)
    (first
      | (go_at_call 19; refine (checkRange_any _ _ _ _).mono ?_; rintro e w' ⟨rfl, rfl⟩)
      | (go_at_call 99; refine (firstR_n _ _ _ [outs ki 0 255, outs co 0 255] _ rfl (by simp [maxLen]) (by exact rd_of_blk (Blk.new w0 _ _) rfl)).mono ?_; rintro e w' ⟨rfl, rfl⟩))
  go_wp2
  go_ret
  exact ⟨rfl, (HB_0.out.alloc HB_0.out.size _).drew⟩
def pksErr (l : List Pk) : Int := if 1024 < l.length then 5 else firstPk l
theorem lostErr_eq (l : List Pk) (kind : Int) : lostErr l kind = firstE [pksErr l, outs kind 0 255] := by
  unfold lostErr pksErr
  by_cases h : 1024 < l.length
  · rw [if_pos h, decide_eq_true (by omega)]; rfl
  · rw [if_neg h, decide_eq_false (by omega)]; rfl
set_option maxRecDepth 100000 in
theorem checkPackets_any (A : Option Addr) (c : Nat) (l : List Pk) (w : World) (hl : l.length ≤ maxLen) (hr : Rd w A (pksC l)) :
    Calls Tryz.prog 69 #[.slice A l.length c] w fun e w' => e = .returned (.int .i64 (pksErr l)) ∧ Below w.heap.size w w' := by
  unfold maxLen at hl
  have HR := Lib.hid hr; clear hr
  have HE : RowKit.Hid (pksErr l = if 1024 < l.length then 5 else firstPk l) := Lib.hid rfl
  obtain ⟨E, hE⟩ : ∃ E, pksErr l = E := ⟨_, rfl⟩
  rw [hE] at HE ⊢
  clear hE
  obtain ⟨n, hn⟩ : ∃ n, l.length = n := ⟨_, rfl⟩
  have HN := Lib.hid hn
  rw [hn] at hl HE ⊢
  clear hn
  go_enter Tryz.func69, Tryz.ntmps69
  by_cases h4 : 1024 < n
  · have h4' : (1024 : Int) < n := by omega
    have HE2 := Lib.hid (HE.out.trans (if_pos h4))
    clear h4 HE
    go_wp2
    go_ret
    exact ⟨ret_int HE2.out.symm, Below.refl _ _⟩
  have h4' : ¬ (1024 : Int) < n := by omega
  have HE2 := Lib.hid (HE.out.trans (if_neg h4))
  clear h4 HE
  go_wp2
  go_loopw [3] (fun v wr => ∃ i : Nat, i ≤ n ∧ v = .int .i64 i ∧ RowKit.Hid (firstPk l = firstPk (l.drop i)) ∧ Below w.heap.size w wr) (fun v _ => n - (intOf v).toNat)
  case atStart => exact ⟨0, by omega, rfl, Lib.hid rfl, Below.refl _ _⟩
  case round =>
    obtain ⟨i, hi, rfl, Hf, hbel⟩ := hrel
    by_cases hlt : i < n
    · have g1 : i < l.length := by rw [HN.out]; exact hlt
      obtain ⟨p, hp⟩ : ∃ p, l[i] = p := ⟨_, rfl⟩
      have hat : ∀ j v, p.cells[j]? = some v → (pksC l)[i * 12 + j]? = some v := fun j v hv => pksC_at g1 j v (by rw [hp]; exact hv)
      obtain ⟨ad, rfl, hbl, hcc⟩ := (HR.out.below hbel) (by rw [pksC_len]; omega)
      have hcx : ∀ j v, p.cells[j]? = some v → wr.cell? ((ad.add (i * 12)).add j) = some v := fun j v hv => by
        rw [Addr.add_add]; exact hcc _ _ (hat j v hv)
      have q0 : wr.cell? (ad.add (i * 12)) = some (.int .i64 p.k) := by
        have h := hcx 0 _ rfl
        rwa [Addr.add_add] at h
      have q1 : wr.cell? ⟨(ad.add (i * 12)).block, (ad.add (i * 12)).off + 1, none⟩ = some (.int .i64 p.c) := hcx 1 _ rfl
      have q2 : wr.cell? ⟨(ad.add (i * 12)).block, (ad.add (i * 12)).off + 2, none⟩ = some (.int .u8 p.d0) := hcx 2 _ rfl
      have q3 : wr.cell? ⟨(ad.add (i * 12)).block, (ad.add (i * 12)).off + 3, none⟩ = some (.int .u8 p.d1) := hcx 3 _ rfl
      have q4 : wr.cell? ⟨(ad.add (i * 12)).block, (ad.add (i * 12)).off + 4, none⟩ = some (.int .u8 p.d2) := hcx 4 _ rfl
      have q5 : wr.cell? ⟨(ad.add (i * 12)).block, (ad.add (i * 12)).off + 5, none⟩ = some (.int .u8 p.d3) := hcx 5 _ rfl
      have q6 : wr.cell? ⟨(ad.add (i * 12)).block, (ad.add (i * 12)).off + 6, none⟩ = some (.int .u8 p.d4) := hcx 6 _ rfl
      have q7 : wr.cell? ⟨(ad.add (i * 12)).block, (ad.add (i * 12)).off + 7, none⟩ = some (.int .u8 p.d5) := hcx 7 _ rfl
      have q8 : wr.cell? ⟨(ad.add (i * 12)).block, (ad.add (i * 12)).off + 8, none⟩ = some (.int .u8 p.d6) := hcx 8 _ rfl
      have q9 : wr.cell? ⟨(ad.add (i * 12)).block, (ad.add (i * 12)).off + 9, none⟩ = some (.int .u8 p.d7) := hcx 9 _ rfl
      have q10 : wr.cell? ⟨(ad.add (i * 12)).block, (ad.add (i * 12)).off + 10, none⟩ = some (.int .u8 p.d8) := hcx 10 _ rfl
      have q11 : wr.cell? ⟨(ad.add (i * 12)).block, (ad.add (i * 12)).off + 11, none⟩ = some (.int .u8 p.d9) := hcx 11 _ rfl
      have Hd := Lib.hid (show firstPk (l.drop i) = if p.err = 0 then firstPk (l.drop (i + 1)) else p.err by
        rw [List.drop_eq_getElem_cons g1, hp]; rfl)
      have HBel := Lib.hid hbel
      have z0 : ad.block < wr.heap.size := hbl
      clear hbel hcc hcx hat hp
      go_wp2_with fail
      refine (checkPacketR_any _ _ _ _ _ _ _ _ _ _ _ _ _).mono ?_
      rintro e w1 ⟨rfl, hb1⟩
      have HB1 := Lib.hid (HBel.out.trans (hb1.mono HBel.out.size)); clear hb1
      obtain ⟨x, hx⟩ : ∃ x, pkErr p.k p.c = x := ⟨_, rfl⟩
      have hx' : p.err = x := hx
      rw [hx]
      rw [hx'] at Hd
      by_cases hz : x = 0
      · have hz' : (x != 0) = false := by simp [hz]
        have HZ := Lib.hid hz; clear hz hx hx'
        go_wp2
        go_roundw
        case rel => exact ⟨i + 1, by omega, by go_num, Lib.hid (by rw [Hf.out, Hd.out, if_pos HZ.out]), HB1.out⟩
        case measure => simp [intOf]; omega
      · have hz' : (x != 0) = true := by simp [hz]
        have HZ := Lib.hid hz; clear hz hx hx'
        go_wp2
        go_ret
        exact ⟨ret_int (by rw [HE2.out, Hf.out, Hd.out, if_neg HZ.out]), HB1.out⟩
    · have : i = n := by omega
      subst this
      go_wp2
      go_ret
      exact ⟨ret_int (by rw [HE2.out, Hf.out, List.drop_of_length_le (by rw [HN.out]; exact Nat.le_refl _)]; rfl), hbel⟩
theorem pksC_snoc {l : List Pk} {i : Nat} (h : i < l.length) : pksC (l.take (i + 1)) = pksC (l.take i) ++ pksC [l[i]] := by
  rw [← pksC_app]; congr 1; simp
set_option maxRecDepth 100000 in
/-- The law's copy of packets. -/
theorem packets_any (A : Option Addr) (c : Nat) (l : List Pk) (w : World) (hl : l.length ≤ 1000000) (hr : Rd w A (pksC l)) :
    Calls Tryz.prog 67 #[.slice A l.length c] w fun e w' => ∃ A' c', e = .returned (.slice A' l.length c') ∧ Rd w' A' (pksC l) ∧ Below w.heap.size w w' := by
  obtain ⟨i0, hi, hz0, hz1, hz2⟩ := info_parts info_packet
  have HR := Lib.hid hr; clear hr
  obtain ⟨n, hn⟩ : ∃ n, l.length = n := ⟨_, rfl⟩
  have HN := Lib.hid hn
  rw [hn] at hl ⊢
  clear hn
  go_enter Tryz.func67, Tryz.ntmps67
  go_wp2
  go_loopw [3, 8] (fun sv v wr => ∃ i : Nat, i ≤ n ∧ v = .int .i64 i ∧ wr.ownsRow w.heap.size 92 12 sv i (pksC (l.take i)) ∧ Below w.heap.size w wr) (fun _ v _ => n - (intOf v).toNat)
  case atStart => exact ⟨0, by omega, rfl, by exact World.ownsRow_nil _ _ _ _, Below.refl _ _⟩
  case round =>
    obtain ⟨i, hi2, rfl, hown, hbel⟩ := hrel
    by_cases hlt : i < n
    · have g1 : i < l.length := by rw [HN.out]; exact hlt
      obtain ⟨p, hp⟩ : ∃ p, l[i] = p := ⟨_, rfl⟩
      have HSN : RowKit.Hid (pksC (l.take (i + 1)) = pksC (l.take i) ++ pksC [p]) := Lib.hid (by rw [pksC_snoc g1, hp])
      have hat : ∀ j v, p.cells[j]? = some v → (pksC l)[i * 12 + j]? = some v := fun j v hv => pksC_at g1 j v (by rw [hp]; exact hv)
      obtain ⟨ad, rfl, hbl, hcc⟩ := (HR.out.below hbel) (by rw [pksC_len]; omega)
      have hcx : ∀ j v, p.cells[j]? = some v → wr.cell? ((ad.add (i * 12)).add j) = some v := fun j v hv => by
        rw [Addr.add_add]; exact hcc _ _ (hat j v hv)
      have q0 : wr.cell? (ad.add (i * 12)) = some (.int .i64 p.k) := by
        have h := hcx 0 _ rfl
        rwa [Addr.add_add] at h
      have q1 : wr.cell? ⟨(ad.add (i * 12)).block, (ad.add (i * 12)).off + 1, none⟩ = some (.int .i64 p.c) := hcx 1 _ rfl
      have q2 : wr.cell? ⟨(ad.add (i * 12)).block, (ad.add (i * 12)).off + 2, none⟩ = some (.int .u8 p.d0) := hcx 2 _ rfl
      have q3 : wr.cell? ⟨(ad.add (i * 12)).block, (ad.add (i * 12)).off + 3, none⟩ = some (.int .u8 p.d1) := hcx 3 _ rfl
      have q4 : wr.cell? ⟨(ad.add (i * 12)).block, (ad.add (i * 12)).off + 4, none⟩ = some (.int .u8 p.d2) := hcx 4 _ rfl
      have q5 : wr.cell? ⟨(ad.add (i * 12)).block, (ad.add (i * 12)).off + 5, none⟩ = some (.int .u8 p.d3) := hcx 5 _ rfl
      have q6 : wr.cell? ⟨(ad.add (i * 12)).block, (ad.add (i * 12)).off + 6, none⟩ = some (.int .u8 p.d4) := hcx 6 _ rfl
      have q7 : wr.cell? ⟨(ad.add (i * 12)).block, (ad.add (i * 12)).off + 7, none⟩ = some (.int .u8 p.d5) := hcx 7 _ rfl
      have q8 : wr.cell? ⟨(ad.add (i * 12)).block, (ad.add (i * 12)).off + 8, none⟩ = some (.int .u8 p.d6) := hcx 8 _ rfl
      have q9 : wr.cell? ⟨(ad.add (i * 12)).block, (ad.add (i * 12)).off + 9, none⟩ = some (.int .u8 p.d7) := hcx 9 _ rfl
      have q10 : wr.cell? ⟨(ad.add (i * 12)).block, (ad.add (i * 12)).off + 10, none⟩ = some (.int .u8 p.d8) := hcx 10 _ rfl
      have q11 : wr.cell? ⟨(ad.add (i * 12)).block, (ad.add (i * 12)).off + 11, none⟩ = some (.int .u8 p.d9) := hcx 11 _ rfl
      have HBel := Lib.hid hbel
      have z0 : ad.block < wr.heap.size := hbl
      have hsz := hbel.size
      have HO := Lib.hid hown
      have hnb := heap_alloc_new (wr.alloc (.cells #[.int .i64 p.k, .int .i64 p.c, .int .u8 p.d0, .int .u8 p.d1, .int .u8 p.d2, .int .u8 p.d3, .int .u8 p.d4, .int .u8 p.d5, .int .u8 p.d6, .int .u8 p.d7, .int .u8 p.d8, .int .u8 p.d9] 89)) (.cells #[.int .i64 p.k, .int .i64 p.c, .int .u8 p.d0, .int .u8 p.d1, .int .u8 p.d2, .int .u8 p.d3, .int .u8 p.d4, .int .u8 p.d5, .int .u8 p.d6, .int .u8 p.d7, .int .u8 p.d8, .int .u8 p.d9] 92)
      rw [World.size_alloc] at hnb
      have HNB := Lib.hid hnb
      clear hbel hcc hcx hat hp hown hnb
      go_wp2_with (at_builtin; go_must (refine wpList_append_own_at _ (by rfl) (.tmp 12) (.tmp 14) 96 (by rfl) w.heap.size 92 i0 pk0.val 12 32 Tryz.underlying96 hi hz0 hz1 hz2 (by rfl) (by decide) _ i (pksC (l.take i)) (by rfl) ((HO.out.alloc _).alloc _) ⟨wr.heap.size + 1, 0, none⟩ 1 1 (pksC [p]) rfl rfl (World.news_of_block HNB.out) (by simp [pksC, Pk.cells, Value.oneCell']) (by unfold maxLen; omega) (by omega) (by simp; omega) ?_); intro v' w4 hown1 hgrow hnil hat1)
      go_roundw
      case rel =>
        refine ⟨i + 1, by omega, by go_num, by rw [HSN.out]; exact hown1, ?_⟩
        exact ((HBel.out.alloc HBel.out.size (.cells #[.int .i64 p.k, .int .i64 p.c, .int .u8 p.d0, .int .u8 p.d1, .int .u8 p.d2, .int .u8 p.d3, .int .u8 p.d4, .int .u8 p.d5, .int .u8 p.d6, .int .u8 p.d7, .int .u8 p.d8, .int .u8 p.d9] 89)).alloc (by have := HBel.out.size; simp; omega) (.cells #[.int .i64 p.k, .int .i64 p.c, .int .u8 p.d0, .int .u8 p.d1, .int .u8 p.d2, .int .u8 p.d3, .int .u8 p.d4, .int .u8 p.d5, .int .u8 p.d6, .int .u8 p.d7, .int .u8 p.d8, .int .u8 p.d9] 92)).grown hgrow (by simp; omega) (fun r hr => (owns_block ((HO.out.alloc (.cells #[.int .i64 p.k, .int .i64 p.c, .int .u8 p.d0, .int .u8 p.d1, .int .u8 p.d2, .int .u8 p.d3, .int .u8 p.d4, .int .u8 p.d5, .int .u8 p.d6, .int .u8 p.d7, .int .u8 p.d8, .int .u8 p.d9] 89)).alloc (.cells #[.int .i64 p.k, .int .i64 p.c, .int .u8 p.d0, .int .u8 p.d1, .int .u8 p.d2, .int .u8 p.d3, .int .u8 p.d4, .int .u8 p.d5, .int .u8 p.d6, .int .u8 p.d7, .int .u8 p.d8, .int .u8 p.d9] 92)) r hr).1)
      case measure => simp [intOf]; omega
    · have : i = n := by omega
      subst this
      have ht : l.take i = l := List.take_of_length_le (by rw [HN.out]; exact Nat.le_refl _)
      rw [ht] at hown
      obtain ⟨A', c', rfl⟩ := own_shape hown
      have HRD := Lib.hid (rd_own hown)
      have HBel := Lib.hid hbel
      clear hown ht hbel
      go_wp2
      go_ret
      exact ⟨A', c', rfl, HRD.out, HBel.out⟩
set_option maxRecDepth 100000 in
set_option maxHeartbeats 1000000 in
theorem encode_bad (ki co d0 d1 d2 d3 d4 d5 d6 d7 d8 d9 : Int) (w : World) (he : pkErr ki co ≠ 0) : Calls Tryz.prog 64 #[.agg #[.int .i64 ki, .int .i64 co, .int .u8 d0, .int .u8 d1, .int .u8 d2, .int .u8 d3, .int .u8 d4, .int .u8 d5, .int .u8 d6, .int .u8 d7, .int .u8 d8, .int .u8 d9]] w fun e w' => e = .returned (.tuple #[.agg #[.int .u8 0, .int .u8 0, .int .u8 0, .int .u8 0, .int .u8 0, .int .u8 0, .int .u8 0, .int .u8 0, .int .u8 0, .int .u8 0, .int .u8 0, .int .u8 0, .int .u8 0, .int .u8 0, .int .u8 0, .int .u8 0], .int .i64 (pkErr ki co)]) ∧ Below w.heap.size w w' := by
  obtain ⟨E, hE⟩ : ∃ E, pkErr ki co = E := ⟨_, rfl⟩
  have HE := Lib.hid hE
  rw [hE] at he ⊢
  have hne : (E != 0) = true := by simpa using he
  clear hE he
  go_enter Tryz.func64, Tryz.ntmps64
  go_wp2_with fail
  have hx1 := (Blk.new (w.alloc (.cells #[.int .i64 ki, .int .i64 co, .int .u8 d0, .int .u8 d1, .int .u8 d2, .int .u8 d3, .int .u8 d4, .int .u8 d5, .int .u8 d6, .int .u8 d7, .int .u8 d8, .int .u8 d9] 92)) 85 #[.int .u8 0, .int .u8 0, .int .u8 0, .int .u8 0, .int .u8 0, .int .u8 0, .int .u8 0, .int .u8 0, .int .u8 0, .int .u8 0, .int .u8 0, .int .u8 0, .int .u8 0, .int .u8 0, .int .u8 0, .int .u8 0])
  simp only [World.size_alloc] at hx1
  have hb0 := (((Below.refl w.heap.size w).alloc (Nat.le_refl _) (.cells #[.int .i64 ki, .int .i64 co, .int .u8 d0, .int .u8 d1, .int .u8 d2, .int .u8 d3, .int .u8 d4, .int .u8 d5, .int .u8 d6, .int .u8 d7, .int .u8 d8, .int .u8 d9] 92)).alloc (by simp only [World.size_alloc]; omega) (.cells #[.int .u8 0, .int .u8 0, .int .u8 0, .int .u8 0, .int .u8 0, .int .u8 0, .int .u8 0, .int .u8 0, .int .u8 0, .int .u8 0, .int .u8 0, .int .u8 0, .int .u8 0, .int .u8 0, .int .u8 0, .int .u8 0] 85))
  generalize ((w.alloc (.cells #[.int .i64 ki, .int .i64 co, .int .u8 d0, .int .u8 d1, .int .u8 d2, .int .u8 d3, .int .u8 d4, .int .u8 d5, .int .u8 d6, .int .u8 d7, .int .u8 d8, .int .u8 d9] 92)).alloc (.cells #[.int .u8 0, .int .u8 0, .int .u8 0, .int .u8 0, .int .u8 0, .int .u8 0, .int .u8 0, .int .u8 0, .int .u8 0, .int .u8 0, .int .u8 0, .int .u8 0, .int .u8 0, .int .u8 0, .int .u8 0, .int .u8 0] 85)) = w0 at hx1 hb0 ⊢
  have HX1_0 := Lib.hid hx1
  have HB_0 := Lib.hid hb0
  clear hx1 hb0
  refine (packetError_any _ _ _ _ _ _ _ _ _ _ _ _ _).mono ?_
  rw [HE.out]
  rintro e wn ⟨rfl, hch⟩
  have hx1 := HX1_0.out.below hch
  have HB_1 := Lib.hid (HB_0.out.trans (hch.mono HB_0.out.size))
  have z1 : w.heap.size + 1 < wn.heap.size := hx1.lt
  clear hch HX1_0 HB_0
  have e0 := hx1.cell 0
  have e1 := hx1.cell 1
  have e2 := hx1.cell 2
  have e3 := hx1.cell 3
  have e4 := hx1.cell 4
  have e5 := hx1.cell 5
  have e6 := hx1.cell 6
  have e7 := hx1.cell 7
  have e8 := hx1.cell 8
  have e9 := hx1.cell 9
  have e10 := hx1.cell 10
  have e11 := hx1.cell 11
  have e12 := hx1.cell 12
  have e13 := hx1.cell 13
  have e14 := hx1.cell 14
  have e15 := hx1.cell 15
  simp only [List.getElem?_toArray, List.getElem?_cons_zero, List.getElem?_cons_succ] at e0 e1 e2 e3 e4 e5 e6 e7 e8 e9 e10 e11 e12 e13 e14 e15
  have ef0 := hx1.frozen 0
  have ef1 := hx1.frozen 1
  have ef2 := hx1.frozen 2
  have ef3 := hx1.frozen 3
  have ef4 := hx1.frozen 4
  have ef5 := hx1.frozen 5
  have ef6 := hx1.frozen 6
  have ef7 := hx1.frozen 7
  have ef8 := hx1.frozen 8
  have ef9 := hx1.frozen 9
  have ef10 := hx1.frozen 10
  have ef11 := hx1.frozen 11
  have ef12 := hx1.frozen 12
  have ef13 := hx1.frozen 13
  have ef14 := hx1.frozen 14
  have ef15 := hx1.frozen 15
  clear hx1
  go_wp2
  refine bodyPost_ret (v := .tuple #[.agg #[.int .u8 0, .int .u8 0, .int .u8 0, .int .u8 0, .int .u8 0, .int .u8 0, .int .u8 0, .int .u8 0, .int .u8 0, .int .u8 0, .int .u8 0, .int .u8 0, .int .u8 0, .int .u8 0, .int .u8 0, .int .u8 0], .int .i64 E]) (by simp [results, Tryz.results64, go_sem, e0, e1, e2, e3, e4, e5, e6, e7, e8, e9, e10, e11, e12, e13, e14, e15]) rfl ⟨rfl, ?_⟩
  exact ((((((((((((((((HB_1.out.setCell (p := ⟨w.heap.size + 1, 0, none⟩) (by simp) _).setCell (p := ⟨w.heap.size + 1, 1, none⟩) (by simp) _).setCell (p := ⟨w.heap.size + 1, 2, none⟩) (by simp) _).setCell (p := ⟨w.heap.size + 1, 3, none⟩) (by simp) _).setCell (p := ⟨w.heap.size + 1, 4, none⟩) (by simp) _).setCell (p := ⟨w.heap.size + 1, 5, none⟩) (by simp) _).setCell (p := ⟨w.heap.size + 1, 6, none⟩) (by simp) _).setCell (p := ⟨w.heap.size + 1, 7, none⟩) (by simp) _).setCell (p := ⟨w.heap.size + 1, 8, none⟩) (by simp) _).setCell (p := ⟨w.heap.size + 1, 9, none⟩) (by simp) _).setCell (p := ⟨w.heap.size + 1, 10, none⟩) (by simp) _).setCell (p := ⟨w.heap.size + 1, 11, none⟩) (by simp) _).setCell (p := ⟨w.heap.size + 1, 12, none⟩) (by simp) _).setCell (p := ⟨w.heap.size + 1, 13, none⟩) (by simp) _).setCell (p := ⟨w.heap.size + 1, 14, none⟩) (by simp) _).setCell (p := ⟨w.heap.size + 1, 15, none⟩) (by simp) _)
end Go.Proofs.YtkjkjhheckfhbaaGreatDoor
