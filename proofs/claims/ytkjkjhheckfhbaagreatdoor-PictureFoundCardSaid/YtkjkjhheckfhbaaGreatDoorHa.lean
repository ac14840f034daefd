/- The law's packets told back, packets compared, and what is received as lists. -/
import Derived.Test.YtkjkjhheckfhbaaGreatDoorGe
namespace Go.Proofs.YtkjkjhheckfhbaaGreatDoor
open Go.RowKit
set_option linter.unusedVariables false
theorem info_packetR : (Tryz.prog.info? 89).map (fun i => (i.zero, i.size, i.bytes)) = some (some pk0.val, 12, 32) := by kernel_rfl
set_option maxRecDepth 100000 in
/-- The law's packets, told the other way round. -/
theorem heard_any (A : Option Addr) (c : Nat) (l : List Pk) (w : World) (hl : l.length ≤ 1000000) (hr : Rd w A (pksC l)) :
    Calls Tryz.prog 76 #[.slice A l.length c] w fun e w' => ∃ A' c', e = .returned (.slice A' l.length c') ∧ Rd w' A' (pksC l) ∧ Below w.heap.size w w' := by
  obtain ⟨i0, hi, hz0, hz1, hz2⟩ := info_parts info_packetR
  have HR := Lib.hid hr; clear hr
  obtain ⟨n, hn⟩ : ∃ n, l.length = n := ⟨_, rfl⟩
  have HN := Lib.hid hn
  rw [hn] at hl ⊢
  clear hn
  go_enter Tryz.func76, Tryz.ntmps76
  go_wp2
  go_loopw [3, 8] (fun sv v wr => ∃ i : Nat, i ≤ n ∧ v = .int .i64 i ∧ wr.ownsRow w.heap.size 89 12 sv i (pksC (l.take i)) ∧ Below w.heap.size w wr) (fun _ v _ => n - (intOf v).toNat)
  case atStart => exact ⟨0, by omega, rfl, by exact World.ownsRow_nil _ _ _ _, Below.refl _ _⟩
  case round =>
    obtain ⟨i, hi2, rfl, hown, hbel⟩ := hrel
    by_cases hlt : i < n
    · have g1 : i < l.length := by rw [HN.out]; exact hlt
      obtain ⟨p, hp⟩ : ∃ p, l[i] = p := ⟨_, rfl⟩
      have HSN : RowKit.Hid (pksC (l.take (i + 1)) = pksC (l.take i) ++ pksC [p]) := Lib.hid (by rw [pksC_snoc g1, hp])
      have hat : ∀ j v, p.cells[j]? = some v → (pksC l)[i * 12 + j]? = some v := fun j v hv => pksC_at g1 j v (by rw [hp]; exact hv)
      obtain ⟨ad, rfl, hbl, hcc⟩ := (HR.out.below hbel) (by rw [pksC_len]; omega)
      have hcx : ∀ j v, p.cells[j]? = some v → wr.cell? ((ad.add (i * 12)).add j) = some v := fun j v hv => by
        rw [Addr.add_add]; exact hcc _ _ (hat j v hv)
      have q0 : wr.cell? (ad.add (i * 12)) = some (.int .i64 p.k) := by
        have h := hcx 0 _ rfl
        rwa [Addr.add_add] at h
      have q1 : wr.cell? ⟨(ad.add (i * 12)).block, (ad.add (i * 12)).off + 1, none⟩ = some (.int .i64 p.c) := hcx 1 _ rfl
      have q2 : wr.cell? ⟨(ad.add (i * 12)).block, (ad.add (i * 12)).off + 2, none⟩ = some (.int .u8 p.d0) := hcx 2 _ rfl
      have q3 : wr.cell? ⟨(ad.add (i * 12)).block, (ad.add (i * 12)).off + 3, none⟩ = some (.int .u8 p.d1) := hcx 3 _ rfl
      have q4 : wr.cell? ⟨(ad.add (i * 12)).block, (ad.add (i * 12)).off + 4, none⟩ = some (.int .u8 p.d2) := hcx 4 _ rfl
      have q5 : wr.cell? ⟨(ad.add (i * 12)).block, (ad.add (i * 12)).off + 5, none⟩ = some (.int .u8 p.d3) := hcx 5 _ rfl
      have q6 : wr.cell? ⟨(ad.add (i * 12)).block, (ad.add (i * 12)).off + 6, none⟩ = some (.int .u8 p.d4) := hcx 6 _ rfl
      have q7 : wr.cell? ⟨(ad.add (i * 12)).block, (ad.add (i * 12)).off + 7, none⟩ = some (.int .u8 p.d5) := hcx 7 _ rfl
      have q8 : wr.cell? ⟨(ad.add (i * 12)).block, (ad.add (i * 12)).off + 8, none⟩ = some (.int .u8 p.d6) := hcx 8 _ rfl
      have q9 : wr.cell? ⟨(ad.add (i * 12)).block, (ad.add (i * 12)).off + 9, none⟩ = some (.int .u8 p.d7) := hcx 9 _ rfl
      have q10 : wr.cell? ⟨(ad.add (i * 12)).block, (ad.add (i * 12)).off + 10, none⟩ = some (.int .u8 p.d8) := hcx 10 _ rfl
      have q11 : wr.cell? ⟨(ad.add (i * 12)).block, (ad.add (i * 12)).off + 11, none⟩ = some (.int .u8 p.d9) := hcx 11 _ rfl
      have HBel := Lib.hid hbel
      have z0 : ad.block < wr.heap.size := hbl
      have hsz := hbel.size
      have HO := Lib.hid hown
      have hnb := heap_alloc_new (wr.alloc (.cells #[.int .i64 p.k, .int .i64 p.c, .int .u8 p.d0, .int .u8 p.d1, .int .u8 p.d2, .int .u8 p.d3, .int .u8 p.d4, .int .u8 p.d5, .int .u8 p.d6, .int .u8 p.d7, .int .u8 p.d8, .int .u8 p.d9] 92)) (.cells #[.int .i64 p.k, .int .i64 p.c, .int .u8 p.d0, .int .u8 p.d1, .int .u8 p.d2, .int .u8 p.d3, .int .u8 p.d4, .int .u8 p.d5, .int .u8 p.d6, .int .u8 p.d7, .int .u8 p.d8, .int .u8 p.d9] 89)
      rw [World.size_alloc] at hnb
      have HNB := Lib.hid hnb
      clear hbel hcc hcx hat hp hown hnb
      go_wp2_with (at_builtin; go_must (refine wpList_append_own_at _ (by rfl) (.tmp 12) (.tmp 14) 84 (by rfl) w.heap.size 89 i0 pk0.val 12 32 Tryz.underlying84 hi hz0 hz1 hz2 (by rfl) (by decide) _ i (pksC (l.take i)) (by rfl) ((HO.out.alloc _).alloc _) ⟨wr.heap.size + 1, 0, none⟩ 1 1 (pksC [p]) rfl rfl (World.news_of_block HNB.out) (by simp [pksC, Pk.cells, Value.oneCell']) (by unfold maxLen; omega) (by omega) (by simp; omega) ?_); intro v' w4 hown1 hgrow hnil hat1)
      go_roundw
      case rel =>
        refine ⟨i + 1, by omega, by go_num, by rw [HSN.out]; exact hown1, ?_⟩
        exact ((HBel.out.alloc HBel.out.size (.cells #[.int .i64 p.k, .int .i64 p.c, .int .u8 p.d0, .int .u8 p.d1, .int .u8 p.d2, .int .u8 p.d3, .int .u8 p.d4, .int .u8 p.d5, .int .u8 p.d6, .int .u8 p.d7, .int .u8 p.d8, .int .u8 p.d9] 92)).alloc (by have := HBel.out.size; simp; omega) (.cells #[.int .i64 p.k, .int .i64 p.c, .int .u8 p.d0, .int .u8 p.d1, .int .u8 p.d2, .int .u8 p.d3, .int .u8 p.d4, .int .u8 p.d5, .int .u8 p.d6, .int .u8 p.d7, .int .u8 p.d8, .int .u8 p.d9] 89)).grown hgrow (by simp; omega) (fun r hr => (owns_block ((HO.out.alloc (.cells #[.int .i64 p.k, .int .i64 p.c, .int .u8 p.d0, .int .u8 p.d1, .int .u8 p.d2, .int .u8 p.d3, .int .u8 p.d4, .int .u8 p.d5, .int .u8 p.d6, .int .u8 p.d7, .int .u8 p.d8, .int .u8 p.d9] 92)).alloc (.cells #[.int .i64 p.k, .int .i64 p.c, .int .u8 p.d0, .int .u8 p.d1, .int .u8 p.d2, .int .u8 p.d3, .int .u8 p.d4, .int .u8 p.d5, .int .u8 p.d6, .int .u8 p.d7, .int .u8 p.d8, .int .u8 p.d9] 89)) r hr).1)
      case measure => simp [intOf]; omega
    · have : i = n := by omega
      subst this
      have ht : l.take i = l := List.take_of_length_le (by rw [HN.out]; exact Nat.le_refl _)
      rw [ht] at hown
      obtain ⟨A', c', rfl⟩ := own_shape hown
      have HRD := Lib.hid (rd_own hown)
      have HBel := Lib.hid hbel
      clear hown ht hbel
      go_wp2
      go_ret
      exact ⟨A', c', rfl, HRD.out, HBel.out⟩
set_option maxRecDepth 100000 in
/-- Two lists of the same packets. -/
theorem samePk_same (A A2 : Option Addr) (c c2 n : Nat) (l : List Pk) (w : World) (hl : l.length = n) (hn : n ≤ maxLen) (hr : Rd w A (pksC l)) (hr2 : Rd w A2 (pksC l)) :
    Calls Tryz.prog 75 #[.slice A n c, .slice A2 n c2] w fun e w' => e = .returned (.bool true) ∧ Below w.heap.size w w' := by
  unfold maxLen at hn
  have HR := Lib.hid hr; have HR2 := Lib.hid hr2; have HN := Lib.hid hl
  clear hr hr2 hl
  go_enter Tryz.func75, Tryz.ntmps75
  go_wp2
  go_loopw [5] (fun v wr => ∃ i : Nat, i ≤ n ∧ v = .int .i64 i ∧ Below w.heap.size w wr) (fun v _ => n - (intOf v).toNat)
  case atStart => exact ⟨0, by omega, rfl, Below.refl _ _⟩
  case round =>
    obtain ⟨i, hi, rfl, hbel⟩ := hrel
    by_cases hlt : i < n
    · have g1 : i < l.length := by rw [HN.out]; exact hlt
      obtain ⟨p, hp⟩ : ∃ p, l[i] = p := ⟨_, rfl⟩
      have hat : ∀ j v, p.cells[j]? = some v → (pksC l)[i * 12 + j]? = some v := fun j v hv => pksC_at g1 j v (by rw [hp]; exact hv)
      obtain ⟨ad, rfl, hb1, hc1⟩ := (HR.out.below hbel) (by rw [pksC_len]; omega)
      obtain ⟨ad2, rfl, hb2, hc2⟩ := (HR2.out.below hbel) (by rw [pksC_len]; omega)
      have hxq : ∀ (j : Nat) (v : Value), p.cells[j]? = some v → wr.cell? ((ad.add (i * 12)).add j) = some v := fun j v hv => by rw [Addr.add_add]; exact hc1 _ _ (hat j v hv)
      have hxr : ∀ (j : Nat) (v : Value), p.cells[j]? = some v → wr.cell? ((ad2.add (i * 12)).add j) = some v := fun j v hv => by rw [Addr.add_add]; exact hc2 _ _ (hat j v hv)
      have q0 : wr.cell? (ad.add (i * 12)) = some (.int .i64 p.k) := hc1 _ _ (hat 0 _ rfl)
      have r0 : wr.cell? (ad2.add (i * 12)) = some (.int .i64 p.k) := hc2 _ _ (hat 0 _ rfl)
      have q1 : wr.cell? ⟨(ad.add (i * 12)).block, (ad.add (i * 12)).off + 1, none⟩ = some (.int .i64 p.c) := hxq 1 _ rfl
      have q2 : wr.cell? ⟨(ad.add (i * 12)).block, (ad.add (i * 12)).off + 2, none⟩ = some (.int .u8 p.d0) := hxq 2 _ rfl
      have q3 : wr.cell? ⟨(ad.add (i * 12)).block, (ad.add (i * 12)).off + 3, none⟩ = some (.int .u8 p.d1) := hxq 3 _ rfl
      have q4 : wr.cell? ⟨(ad.add (i * 12)).block, (ad.add (i * 12)).off + 4, none⟩ = some (.int .u8 p.d2) := hxq 4 _ rfl
      have q5 : wr.cell? ⟨(ad.add (i * 12)).block, (ad.add (i * 12)).off + 5, none⟩ = some (.int .u8 p.d3) := hxq 5 _ rfl
      have q6 : wr.cell? ⟨(ad.add (i * 12)).block, (ad.add (i * 12)).off + 6, none⟩ = some (.int .u8 p.d4) := hxq 6 _ rfl
      have q7 : wr.cell? ⟨(ad.add (i * 12)).block, (ad.add (i * 12)).off + 7, none⟩ = some (.int .u8 p.d5) := hxq 7 _ rfl
      have q8 : wr.cell? ⟨(ad.add (i * 12)).block, (ad.add (i * 12)).off + 8, none⟩ = some (.int .u8 p.d6) := hxq 8 _ rfl
      have q9 : wr.cell? ⟨(ad.add (i * 12)).block, (ad.add (i * 12)).off + 9, none⟩ = some (.int .u8 p.d7) := hxq 9 _ rfl
      have q10 : wr.cell? ⟨(ad.add (i * 12)).block, (ad.add (i * 12)).off + 10, none⟩ = some (.int .u8 p.d8) := hxq 10 _ rfl
      have q11 : wr.cell? ⟨(ad.add (i * 12)).block, (ad.add (i * 12)).off + 11, none⟩ = some (.int .u8 p.d9) := hxq 11 _ rfl
      have r1 : wr.cell? ⟨(ad2.add (i * 12)).block, (ad2.add (i * 12)).off + 1, none⟩ = some (.int .i64 p.c) := hxr 1 _ rfl
      have r2 : wr.cell? ⟨(ad2.add (i * 12)).block, (ad2.add (i * 12)).off + 2, none⟩ = some (.int .u8 p.d0) := hxr 2 _ rfl
      have r3 : wr.cell? ⟨(ad2.add (i * 12)).block, (ad2.add (i * 12)).off + 3, none⟩ = some (.int .u8 p.d1) := hxr 3 _ rfl
      have r4 : wr.cell? ⟨(ad2.add (i * 12)).block, (ad2.add (i * 12)).off + 4, none⟩ = some (.int .u8 p.d2) := hxr 4 _ rfl
      have r5 : wr.cell? ⟨(ad2.add (i * 12)).block, (ad2.add (i * 12)).off + 5, none⟩ = some (.int .u8 p.d3) := hxr 5 _ rfl
      have r6 : wr.cell? ⟨(ad2.add (i * 12)).block, (ad2.add (i * 12)).off + 6, none⟩ = some (.int .u8 p.d4) := hxr 6 _ rfl
      have r7 : wr.cell? ⟨(ad2.add (i * 12)).block, (ad2.add (i * 12)).off + 7, none⟩ = some (.int .u8 p.d5) := hxr 7 _ rfl
      have r8 : wr.cell? ⟨(ad2.add (i * 12)).block, (ad2.add (i * 12)).off + 8, none⟩ = some (.int .u8 p.d6) := hxr 8 _ rfl
      have r9 : wr.cell? ⟨(ad2.add (i * 12)).block, (ad2.add (i * 12)).off + 9, none⟩ = some (.int .u8 p.d7) := hxr 9 _ rfl
      have r10 : wr.cell? ⟨(ad2.add (i * 12)).block, (ad2.add (i * 12)).off + 10, none⟩ = some (.int .u8 p.d8) := hxr 10 _ rfl
      have r11 : wr.cell? ⟨(ad2.add (i * 12)).block, (ad2.add (i * 12)).off + 11, none⟩ = some (.int .u8 p.d9) := hxr 11 _ rfl
      have heq := eq_packetR p
      have HBE := Lib.hid hbel
      clear hbel hb1 hb2 hc1 hc2 hxq hxr hat hp
      go_wp2_with fail
      go_region
      go_wp2
      go_roundw
      case rel => exact ⟨i + 1, by omega, by go_num, by exact HBE.out.drew⟩
      case measure => simp [intOf]; omega
    · have hie : i = n := by omega
      subst hie
      go_wp2
      go_ret
      exact ⟨rfl, hbel⟩
theorem rfold_skip {bs : List U8} {a : Nat} (h : (rfold bs (List.range a)).nx ≤ a) (ho : pkOk bs a = false) : rfold bs (List.range (a + 1)) = ⟨(rfold bs (List.range a)).pk, addSpan (rfold bs (List.range a)).sk a, (rfold bs (List.range a)).nx⟩ := by
  rw [List.range_succ, rfold_snoc, rstep_no (by omega) ho]
theorem rfold_take {bs : List U8} {a : Nat} (h : (rfold bs (List.range a)).nx ≤ a) (ho : pkOk bs a = true) : rfold bs (List.range (a + 16)) = ⟨(rfold bs (List.range a)).pk ++ [pkAt bs a], (rfold bs (List.range a)).sk, a + 16⟩ := by
  have key : ∀ j, j ≤ 15 → rfold bs (List.range (a + 1 + j)) = ⟨(rfold bs (List.range a)).pk ++ [pkAt bs a], (rfold bs (List.range a)).sk, a + 16⟩ := by
    intro j
    induction j with
    | zero => intro _; rw [Nat.add_zero, List.range_succ, rfold_snoc, rstep_ok (by omega) ho]
    | succ j ih =>
      intro hj
      rw [show a + 1 + (j + 1) = (a + 1 + j) + 1 by omega, List.range_succ, rfold_snoc, ih (by omega)]
      exact rstep_skip (show a + 1 + j < a + 16 by omega)
  exact key 15 (Nat.le_refl _)
theorem rfold_zero (bs : List U8) : rfold bs (List.range 0) = ⟨[], [], 0⟩ := rfl
/-- What is kept while the reference receives. -/
structure RW (B : Nat) (v1 v2 : Value) (pk : List Pk) (sk : List (Int × Int)) (W : World) : Prop where
  o1 : W.ownsRow B 89 12 v1 pk.length (pksC pk)
  o2 : W.ownsRow B 47 2 v2 sk.length (spansC sk)
  nil : sk = [] → v2 = .slice none 0 0
  ne : v1.ownBlock = none ∨ v1.ownBlock ≠ v2.ownBlock
section
variable {B : Nat} {v1 v2 : Value} {pk : List Pk} {sk : List (Int × Int)} {W W' : World}
theorem RW.below (h : RW B v1 v2 pk sk W) (hb : Below W.heap.size W W') : RW B v1 v2 pk sk W' := ⟨owns_below h.o1 hb, owns_below h.o2 hb, h.nil, h.ne⟩
theorem RW.app1 {pk' : List Pk} {v1' : Value} (h : RW B v1 v2 pk sk W) (ho : W'.ownsRow B 89 12 v1' pk'.length (pksC pk')) (hg : W.grownBy W' v1.ownBlock) (ha : v1'.ownBlock = v1.ownBlock ∨ ∃ h, W.heap.size ≤ h ∧ v1'.ownBlock = some h) : RW B v1' v2 pk' sk W' := by
  have hb2 := owns_block h.o2
  have hv2 : v2.ownBlock = none ∨ v2.ownBlock ≠ v1.ownBlock := by
    rcases h.ne with e | e
    · rw [e]; cases hv : v2.ownBlock <;> simp
    · exact .inr (Ne.symm e)
  refine ⟨ho, h.o2.kept hg hv2, h.nil, ?_⟩
  rcases ha with e | ⟨g, hge, e⟩
  · rw [e]; exact h.ne
  · right; rw [e]; intro e2
    have := (hb2 g e2.symm).2.1
    omega
theorem RW.app2 {sk' : List (Int × Int)} {v2' : Value} (h : RW B v1 v2 pk sk W) (ho : W'.ownsRow B 47 2 v2' sk'.length (spansC sk')) (hs : sk' ≠ []) (hg : W.grownBy W' v2.ownBlock) (ha : v2'.ownBlock = v2.ownBlock ∨ ∃ h, W.heap.size ≤ h ∧ v2'.ownBlock = some h) : RW B v1 v2' pk sk' W' := by
  have hb1 := owns_block h.o1
  refine ⟨h.o1.kept hg h.ne, ho, fun e => absurd e hs, ?_⟩
  rcases ha with e | ⟨g, hge, e⟩
  · rw [e]; exact h.ne
  · cases hv : v1.ownBlock with
    | none => exact .inl rfl
    | some k =>
      right; rw [e]; intro e2
      cases e2
      have := (hb1 g hv).2.1
      omega
end
theorem decode_at (bs : List U8) (a : Nat) (h : a + 16 ≤ bs.length) : ∃ (f0 f1 f2 f3 f4 f5 f6 f7 f8 f9 f10 f11 f12 f13 f14 f15 : U8) (y : Pk) (E : Int), (bs.drop a).take 16 = [f0, f1, f2, f3, f4, f5, f6, f7, f8, f9, f10, f11, f12, f13, f14, f15] ∧
    (∀ w, Calls Tryz.prog 72 #[.agg #[.int .u8 f0.1, .int .u8 f1.1, .int .u8 f2.1, .int .u8 f3.1, .int .u8 f4.1, .int .u8 f5.1, .int .u8 f6.1, .int .u8 f7.1, .int .u8 f8.1, .int .u8 f9.1, .int .u8 f10.1, .int .u8 f11.1, .int .u8 f12.1, .int .u8 f13.1, .int .u8 f14.1, .int .u8 f15.1]] w fun e w' => e = .returned (.tuple #[.agg #[.int .i64 y.k, .int .i64 y.c, .int .u8 y.d0, .int .u8 y.d1, .int .u8 y.d2, .int .u8 y.d3, .int .u8 y.d4, .int .u8 y.d5, .int .u8 y.d6, .int .u8 y.d7, .int .u8 y.d8, .int .u8 y.d9], .int .i64 E]) ∧ Below w.heap.size w w') ∧ ((pkOk bs a = true ∧ E = 0 ∧ pkAt bs a = y) ∨ (pkOk bs a = false ∧ E ≠ 0)) := by
  obtain ⟨f0, f1, f2, f3, f4, f5, f6, f7, f8, f9, f10, f11, f12, f13, f14, f15, hl⟩ := sixteen ((bs.drop a).take 16) (by simp; omega)
  have ho : pkOk bs a = goodB [f0, f1, f2, f3, f4, f5, f6, f7, f8, f9, f10, f11, f12, f13, f14, f15] := by unfold pkOk; rw [hl, decide_eq_true h, Bool.true_and]
  cases hg : goodB [f0, f1, f2, f3, f4, f5, f6, f7, f8, f9, f10, f11, f12, f13, f14, f15] with
  | true =>
    refine ⟨f0, f1, f2, f3, f4, f5, f6, f7, f8, f9, f10, f11, f12, f13, f14, f15, pkOf [f0, f1, f2, f3, f4, f5, f6, f7, f8, f9, f10, f11, f12, f13, f14, f15], 0, hl, fun w => (decodeR_any f0 f1 f2 f3 f4 f5 f6 f7 f8 f9 f10 f11 f12 f13 f14 f15 w).mono ?_, .inl ⟨ho.trans hg, rfl, ?_⟩⟩
    · rintro e w' ⟨rfl, hb⟩
      rw [hg, errD_good hg]
      exact ⟨rfl, hb⟩
    · unfold pkAt; rw [if_pos (ho.trans hg), hl]
  | false =>
    refine ⟨f0, f1, f2, f3, f4, f5, f6, f7, f8, f9, f10, f11, f12, f13, f14, f15, pk0, errD [f0, f1, f2, f3, f4, f5, f6, f7, f8, f9, f10, f11, f12, f13, f14, f15], hl, fun w => (decodeR_any f0 f1 f2 f3 f4 f5 f6 f7 f8 f9 f10 f11 f12 f13 f14 f15 w).mono ?_, .inr ⟨ho.trans hg, errD_bad hg⟩⟩
    rintro e w' ⟨rfl, hb⟩
    rw [hg]
    exact ⟨rfl, hb⟩
end Go.Proofs.YtkjkjhheckfhbaaGreatDoor
