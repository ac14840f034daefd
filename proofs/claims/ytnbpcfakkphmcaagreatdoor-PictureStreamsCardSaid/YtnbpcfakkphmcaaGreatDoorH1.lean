/- Parts of a proof: The law's packets told back, packets compared, and what is received as lists. What the reference receives. -/
import Derived.Test.YtnbpcfakkphmcaaGreatDoorK1
namespace Go.Proofs.YtnbpcfakkphmcaaGreatDoor
open Go.RowKit
set_option linter.unusedVariables false
theorem info_packetR : (Tryz.prog.info? 89).map (fun i => (i.zero, i.size, i.bytes)) = some (some pk0.val, 12, 32) := by kernel_rfl
set_option maxRecDepth 100000 in
/-- The law's packets, told the other way round. -/
theorem heard_any (A : Option Addr) (c : Nat) (l : List Pk) (w : World) (hl : l.length ≤ 1000000) (hr : Rd w A (pksC l)) :
    Calls Tryz.prog 76 #[.slice A l.length c] w fun e w' => ∃ A' c', e = .returned (.slice A' l.length c') ∧ Rd w' A' (pksC l) ∧ Below w.heap.size w w' := by
  obtain ⟨i0, hi, hz0, hz1, hz2⟩ := info_parts info_packetR
  have HR := Lib.hid hr; clear hr
  obtain ⟨n, hn⟩ : ∃ n, l.length = n := ⟨_, rfl⟩
  have HN := Lib.hid hn
  rw [hn] at hl ⊢
  clear hn
  go_enter Tryz.func76, Tryz.ntmps76
  go_wp2
  go_loopw [3, 8] (fun sv v wr => ∃ i : Nat, i ≤ n ∧ v = .int .i64 i ∧ wr.ownsRow w.heap.size 89 12 sv i (pksC (l.take i)) ∧ Below w.heap.size w wr) (fun _ v _ => n - (intOf v).toNat)
  case atStart => exact ⟨0, by omega, rfl, by exact World.ownsRow_nil _ _ _ _, Below.refl _ _⟩
  case round =>
    obtain ⟨i, hi2, rfl, hown, hbel⟩ := hrel
    by_cases hlt : i < n
    · have g1 : i < l.length := by rw [HN.out]; exact hlt
      obtain ⟨p, hp⟩ : ∃ p, l[i] = p := ⟨_, rfl⟩
      have HSN : RowKit.Hid (pksC (l.take (i + 1)) = pksC (l.take i) ++ pksC [p]) := Lib.hid (by rw [pksC_snoc g1, hp])
      have hat : ∀ j v, p.cells[j]? = some v → (pksC l)[i * 12 + j]? = some v := fun j v hv => pksC_at g1 j v (by rw [hp]; exact hv)
      obtain ⟨ad, rfl, hbl, hcc⟩ := (HR.out.below hbel) (by rw [pksC_len]; omega)
      have hcx : ∀ j v, p.cells[j]? = some v → wr.cell? ((ad.add (i * 12)).add j) = some v := fun j v hv => by
        rw [Addr.add_add]; exact hcc _ _ (hat j v hv)
      have q0 : wr.cell? (ad.add (i * 12)) = some (.int .i64 p.k) := by
        have h := hcx 0 _ rfl
        rwa [Addr.add_add] at h
      have q1 : wr.cell? ⟨(ad.add (i * 12)).block, (ad.add (i * 12)).off + 1, none⟩ = some (.int .i64 p.c) := hcx 1 _ rfl
      have q2 : wr.cell? ⟨(ad.add (i * 12)).block, (ad.add (i * 12)).off + 2, none⟩ = some (.int .u8 p.d0) := hcx 2 _ rfl
      have q3 : wr.cell? ⟨(ad.add (i * 12)).block, (ad.add (i * 12)).off + 3, none⟩ = some (.int .u8 p.d1) := hcx 3 _ rfl
      have q4 : wr.cell? ⟨(ad.add (i * 12)).block, (ad.add (i * 12)).off + 4, none⟩ = some (.int .u8 p.d2) := hcx 4 _ rfl
      have q5 : wr.cell? ⟨(ad.add (i * 12)).block, (ad.add (i * 12)).off + 5, none⟩ = some (.int .u8 p.d3) := hcx 5 _ rfl
      have q6 : wr.cell? ⟨(ad.add (i * 12)).block, (ad.add (i * 12)).off + 6, none⟩ = some (.int .u8 p.d4) := hcx 6 _ rfl
      have q7 : wr.cell? ⟨(ad.add (i * 12)).block, (ad.add (i * 12)).off + 7, none⟩ = some (.int .u8 p.d5) := hcx 7 _ rfl
      have q8 : wr.cell? ⟨(ad.add (i * 12)).block, (ad.add (i * 12)).off + 8, none⟩ = some (.int .u8 p.d6) := hcx 8 _ rfl
      have q9 : wr.cell? ⟨(ad.add (i * 12)).block, (ad.add (i * 12)).off + 9, none⟩ = some (.int .u8 p.d7) := hcx 9 _ rfl
      have q10 : wr.cell? ⟨(ad.add (i * 12)).block, (ad.add (i * 12)).off + 10, none⟩ = some (.int .u8 p.d8) := hcx 10 _ rfl
      have q11 : wr.cell? ⟨(ad.add (i * 12)).block, (ad.add (i * 12)).off + 11, none⟩ = some (.int .u8 p.d9) := hcx 11 _ rfl
      have HBel := Lib.hid hbel
      have z0 : ad.block < wr.heap.size := hbl
      have hsz := hbel.size
      have HO := Lib.hid hown
      have hnb := heap_alloc_new (wr.alloc (.cells #[.int .i64 p.k, .int .i64 p.c, .int .u8 p.d0, .int .u8 p.d1, .int .u8 p.d2, .int .u8 p.d3, .int .u8 p.d4, .int .u8 p.d5, .int .u8 p.d6, .int .u8 p.d7, .int .u8 p.d8, .int .u8 p.d9] 92)) (.cells #[.int .i64 p.k, .int .i64 p.c, .int .u8 p.d0, .int .u8 p.d1, .int .u8 p.d2, .int .u8 p.d3, .int .u8 p.d4, .int .u8 p.d5, .int .u8 p.d6, .int .u8 p.d7, .int .u8 p.d8, .int .u8 p.d9] 89)
      rw [World.size_alloc] at hnb
      have HNB := Lib.hid hnb
      clear hbel hcc hcx hat hp hown hnb
      go_wp2_with (at_builtin; go_must (refine wpList_append_own_at _ (by rfl) (.tmp 12) (.tmp 14) 84 (by rfl) w.heap.size 89 i0 pk0.val 12 32 Tryz.underlying84 hi hz0 hz1 hz2 (by rfl) (by decide) _ i (pksC (l.take i)) (by rfl) ((HO.out.alloc _).alloc _) ⟨wr.heap.size + 1, 0, none⟩ 1 1 (pksC [p]) rfl rfl (World.news_of_block HNB.out) (by simp [pksC, Pk.cells, Value.oneCell']) (by unfold maxLen; omega) (by omega) (by simp; omega) ?_); intro v' w4 hown1 hgrow hnil hat1)
      go_roundw
      case rel =>
        refine ⟨i + 1, by omega, by go_num, by rw [HSN.out]; exact hown1, ?_⟩
        exact ((HBel.out.alloc HBel.out.size (.cells #[.int .i64 p.k, .int .i64 p.c, .int .u8 p.d0, .int .u8 p.d1, .int .u8 p.d2, .int .u8 p.d3, .int .u8 p.d4, .int .u8 p.d5, .int .u8 p.d6, .int .u8 p.d7, .int .u8 p.d8, .int .u8 p.d9] 92)).alloc (by have := HBel.out.size; simp; omega) (.cells #[.int .i64 p.k, .int .i64 p.c, .int .u8 p.d0, .int .u8 p.d1, .int .u8 p.d2, .int .u8 p.d3, .int .u8 p.d4, .int .u8 p.d5, .int .u8 p.d6, .int .u8 p.d7, .int .u8 p.d8, .int .u8 p.d9] 89)).grown hgrow (by simp; omega) (fun r hr => (owns_block ((HO.out.alloc (.cells #[.int .i64 p.k, .int .i64 p.c, .int .u8 p.d0, .int .u8 p.d1, .int .u8 p.d2, .int .u8 p.d3, .int .u8 p.d4, .int .u8 p.d5, .int .u8 p.d6, .int .u8 p.d7, .int .u8 p.d8, .int .u8 p.d9] 92)).alloc (.cells #[.int .i64 p.k, .int .i64 p.c, .int .u8 p.d0, .int .u8 p.d1, .int .u8 p.d2, .int .u8 p.d3, .int .u8 p.d4, .int .u8 p.d5, .int .u8 p.d6, .int .u8 p.d7, .int .u8 p.d8, .int .u8 p.d9] 89)) r hr).1)
      case measure => simp [intOf]; omega
    · have : i = n := by omega
      subst this
      have ht : l.take i = l := List.take_of_length_le (by rw [HN.out]; exact Nat.le_refl _)
      rw [ht] at hown
      obtain ⟨A', c', rfl⟩ := own_shape hown
      have HRD := Lib.hid (rd_own hown)
      have HBel := Lib.hid hbel
      clear hown ht hbel
      go_wp2
      go_ret
      exact ⟨A', c', rfl, HRD.out, HBel.out⟩
set_option maxRecDepth 100000 in
/-- Two lists of the same packets. -/
theorem samePk_same (A A2 : Option Addr) (c c2 n : Nat) (l : List Pk) (w : World) (hl : l.length = n) (hn : n ≤ maxLen) (hr : Rd w A (pksC l)) (hr2 : Rd w A2 (pksC l)) :
    Calls Tryz.prog 75 #[.slice A n c, .slice A2 n c2] w fun e w' => e = .returned (.bool true) ∧ Below w.heap.size w w' := by
  unfold maxLen at hn
  have HR := Lib.hid hr; have HR2 := Lib.hid hr2; have HN := Lib.hid hl
  clear hr hr2 hl
  go_enter Tryz.func75, Tryz.ntmps75
  go_wp2
  go_loopw [5] (fun v wr => ∃ i : Nat, i ≤ n ∧ v = .int .i64 i ∧ Below w.heap.size w wr) (fun v _ => n - (intOf v).toNat)
  case atStart => exact ⟨0, by omega, rfl, Below.refl _ _⟩
  case round =>
    obtain ⟨i, hi, rfl, hbel⟩ := hrel
    by_cases hlt : i < n
    · have g1 : i < l.length := by rw [HN.out]; exact hlt
      obtain ⟨p, hp⟩ : ∃ p, l[i] = p := ⟨_, rfl⟩
      have hat : ∀ j v, p.cells[j]? = some v → (pksC l)[i * 12 + j]? = some v := fun j v hv => pksC_at g1 j v (by rw [hp]; exact hv)
      obtain ⟨ad, rfl, hb1, hc1⟩ := (HR.out.below hbel) (by rw [pksC_len]; omega)
      obtain ⟨ad2, rfl, hb2, hc2⟩ := (HR2.out.below hbel) (by rw [pksC_len]; omega)
      have hxq : ∀ (j : Nat) (v : Value), p.cells[j]? = some v → wr.cell? ((ad.add (i * 12)).add j) = some v := fun j v hv => by rw [Addr.add_add]; exact hc1 _ _ (hat j v hv)
      have hxr : ∀ (j : Nat) (v : Value), p.cells[j]? = some v → wr.cell? ((ad2.add (i * 12)).add j) = some v := fun j v hv => by rw [Addr.add_add]; exact hc2 _ _ (hat j v hv)
      have q0 : wr.cell? (ad.add (i * 12)) = some (.int .i64 p.k) := hc1 _ _ (hat 0 _ rfl)
      have r0 : wr.cell? (ad2.add (i * 12)) = some (.int .i64 p.k) := hc2 _ _ (hat 0 _ rfl)
      have q1 : wr.cell? ⟨(ad.add (i * 12)).block, (ad.add (i * 12)).off + 1, none⟩ = some (.int .i64 p.c) := hxq 1 _ rfl
      have q2 : wr.cell? ⟨(ad.add (i * 12)).block, (ad.add (i * 12)).off + 2, none⟩ = some (.int .u8 p.d0) := hxq 2 _ rfl
      have q3 : wr.cell? ⟨(ad.add (i * 12)).block, (ad.add (i * 12)).off + 3, none⟩ = some (.int .u8 p.d1) := hxq 3 _ rfl
      have q4 : wr.cell? ⟨(ad.add (i * 12)).block, (ad.add (i * 12)).off + 4, none⟩ = some (.int .u8 p.d2) := hxq 4 _ rfl
      have q5 : wr.cell? ⟨(ad.add (i * 12)).block, (ad.add (i * 12)).off + 5, none⟩ = some (.int .u8 p.d3) := hxq 5 _ rfl
      have q6 : wr.cell? ⟨(ad.add (i * 12)).block, (ad.add (i * 12)).off + 6, none⟩ = some (.int .u8 p.d4) := hxq 6 _ rfl
      have q7 : wr.cell? ⟨(ad.add (i * 12)).block, (ad.add (i * 12)).off + 7, none⟩ = some (.int .u8 p.d5) := hxq 7 _ rfl
      have q8 : wr.cell? ⟨(ad.add (i * 12)).block, (ad.add (i * 12)).off + 8, none⟩ = some (.int .u8 p.d6) := hxq 8 _ rfl
      have q9 : wr.cell? ⟨(ad.add (i * 12)).block, (ad.add (i * 12)).off + 9, none⟩ = some (.int .u8 p.d7) := hxq 9 _ rfl
      have q10 : wr.cell? ⟨(ad.add (i * 12)).block, (ad.add (i * 12)).off + 10, none⟩ = some (.int .u8 p.d8) := hxq 10 _ rfl
      have q11 : wr.cell? ⟨(ad.add (i * 12)).block, (ad.add (i * 12)).off + 11, none⟩ = some (.int .u8 p.d9) := hxq 11 _ rfl
      have r1 : wr.cell? ⟨(ad2.add (i * 12)).block, (ad2.add (i * 12)).off + 1, none⟩ = some (.int .i64 p.c) := hxr 1 _ rfl
      have r2 : wr.cell? ⟨(ad2.add (i * 12)).block, (ad2.add (i * 12)).off + 2, none⟩ = some (.int .u8 p.d0) := hxr 2 _ rfl
      have r3 : wr.cell? ⟨(ad2.add (i * 12)).block, (ad2.add (i * 12)).off + 3, none⟩ = some (.int .u8 p.d1) := hxr 3 _ rfl
      have r4 : wr.cell? ⟨(ad2.add (i * 12)).block, (ad2.add (i * 12)).off + 4, none⟩ = some (.int .u8 p.d2) := hxr 4 _ rfl
      have r5 : wr.cell? ⟨(ad2.add (i * 12)).block, (ad2.add (i * 12)).off + 5, none⟩ = some (.int .u8 p.d3) := hxr 5 _ rfl
      have r6 : wr.cell? ⟨(ad2.add (i * 12)).block, (ad2.add (i * 12)).off + 6, none⟩ = some (.int .u8 p.d4) := hxr 6 _ rfl
      have r7 : wr.cell? ⟨(ad2.add (i * 12)).block, (ad2.add (i * 12)).off + 7, none⟩ = some (.int .u8 p.d5) := hxr 7 _ rfl
      have r8 : wr.cell? ⟨(ad2.add (i * 12)).block, (ad2.add (i * 12)).off + 8, none⟩ = some (.int .u8 p.d6) := hxr 8 _ rfl
      have r9 : wr.cell? ⟨(ad2.add (i * 12)).block, (ad2.add (i * 12)).off + 9, none⟩ = some (.int .u8 p.d7) := hxr 9 _ rfl
      have r10 : wr.cell? ⟨(ad2.add (i * 12)).block, (ad2.add (i * 12)).off + 10, none⟩ = some (.int .u8 p.d8) := hxr 10 _ rfl
      have r11 : wr.cell? ⟨(ad2.add (i * 12)).block, (ad2.add (i * 12)).off + 11, none⟩ = some (.int .u8 p.d9) := hxr 11 _ rfl
      have heq := eq_packetR p
      have HBE := Lib.hid hbel
      clear hbel hb1 hb2 hc1 hc2 hxq hxr hat hp
      go_wp2_with fail
      go_region
      go_wp2
      go_roundw
      case rel => exact ⟨i + 1, by omega, by go_num, by exact HBE.out.drew⟩
      case measure => simp [intOf]; omega
    · have hie : i = n := by omega
      subst hie
      go_wp2
      go_ret
      exact ⟨rfl, hbel⟩
theorem rfold_skip {bs : List U8} {a : Nat} (h : (rfold bs (List.range a)).nx ≤ a) (ho : pkOk bs a = false) : rfold bs (List.range (a + 1)) = ⟨(rfold bs (List.range a)).pk, addSpan (rfold bs (List.range a)).sk a, (rfold bs (List.range a)).nx⟩ := by
  rw [List.range_succ, rfold_snoc, rstep_no (by omega) ho]
theorem rfold_take {bs : List U8} {a : Nat} (h : (rfold bs (List.range a)).nx ≤ a) (ho : pkOk bs a = true) : rfold bs (List.range (a + 16)) = ⟨(rfold bs (List.range a)).pk ++ [pkAt bs a], (rfold bs (List.range a)).sk, a + 16⟩ := by
  have key : ∀ j, j ≤ 15 → rfold bs (List.range (a + 1 + j)) = ⟨(rfold bs (List.range a)).pk ++ [pkAt bs a], (rfold bs (List.range a)).sk, a + 16⟩ := by
    intro j
    induction j with
    | zero => intro _; rw [Nat.add_zero, List.range_succ, rfold_snoc, rstep_ok (by omega) ho]
    | succ j ih =>
      intro hj
      rw [show a + 1 + (j + 1) = (a + 1 + j) + 1 by omega, List.range_succ, rfold_snoc, ih (by omega)]
      exact rstep_skip (show a + 1 + j < a + 16 by omega)
  exact key 15 (Nat.le_refl _)
theorem rfold_zero (bs : List U8) : rfold bs (List.range 0) = ⟨[], [], 0⟩ := rfl
/-- What is kept while the reference receives. -/
structure RW (B : Nat) (v1 v2 : Value) (pk : List Pk) (sk : List (Int × Int)) (W : World) : Prop where
  o1 : W.ownsRow B 89 12 v1 pk.length (pksC pk)
  o2 : W.ownsRow B 47 2 v2 sk.length (spansC sk)
  nil : sk = [] → v2 = .slice none 0 0
  ne : v1.ownBlock = none ∨ v1.ownBlock ≠ v2.ownBlock
section
variable {B : Nat} {v1 v2 : Value} {pk : List Pk} {sk : List (Int × Int)} {W W' : World}
theorem RW.below (h : RW B v1 v2 pk sk W) (hb : Below W.heap.size W W') : RW B v1 v2 pk sk W' := ⟨owns_below h.o1 hb, owns_below h.o2 hb, h.nil, h.ne⟩
theorem RW.app1 {pk' : List Pk} {v1' : Value} (h : RW B v1 v2 pk sk W) (ho : W'.ownsRow B 89 12 v1' pk'.length (pksC pk')) (hg : W.grownBy W' v1.ownBlock) (ha : v1'.ownBlock = v1.ownBlock ∨ ∃ h, W.heap.size ≤ h ∧ v1'.ownBlock = some h) : RW B v1' v2 pk' sk W' := by
  have hb2 := owns_block h.o2
  have hv2 : v2.ownBlock = none ∨ v2.ownBlock ≠ v1.ownBlock := by
    rcases h.ne with e | e
    · rw [e]; cases hv : v2.ownBlock <;> simp
    · exact .inr (Ne.symm e)
  refine ⟨ho, h.o2.kept hg hv2, h.nil, ?_⟩
  rcases ha with e | ⟨g, hge, e⟩
  · rw [e]; exact h.ne
  · right; rw [e]; intro e2
    have := (hb2 g e2.symm).2.1
    omega
theorem RW.app2 {sk' : List (Int × Int)} {v2' : Value} (h : RW B v1 v2 pk sk W) (ho : W'.ownsRow B 47 2 v2' sk'.length (spansC sk')) (hs : sk' ≠ []) (hg : W.grownBy W' v2.ownBlock) (ha : v2'.ownBlock = v2.ownBlock ∨ ∃ h, W.heap.size ≤ h ∧ v2'.ownBlock = some h) : RW B v1 v2' pk sk' W' := by
  have hb1 := owns_block h.o1
  refine ⟨h.o1.kept hg h.ne, ho, fun e => absurd e hs, ?_⟩
  rcases ha with e | ⟨g, hge, e⟩
  · rw [e]; exact h.ne
  · cases hv : v1.ownBlock with
    | none => exact .inl rfl
    | some k =>
      right; rw [e]; intro e2
      cases e2
      have := (hb1 g hv).2.1
      omega
end
theorem decode_at (bs : List U8) (a : Nat) (h : a + 16 ≤ bs.length) : ∃ (f0 f1 f2 f3 f4 f5 f6 f7 f8 f9 f10 f11 f12 f13 f14 f15 : U8) (y : Pk) (E : Int), (bs.drop a).take 16 = [f0, f1, f2, f3, f4, f5, f6, f7, f8, f9, f10, f11, f12, f13, f14, f15] ∧
    (∀ w, Calls Tryz.prog 72 #[.agg #[.int .u8 f0.1, .int .u8 f1.1, .int .u8 f2.1, .int .u8 f3.1, .int .u8 f4.1, .int .u8 f5.1, .int .u8 f6.1, .int .u8 f7.1, .int .u8 f8.1, .int .u8 f9.1, .int .u8 f10.1, .int .u8 f11.1, .int .u8 f12.1, .int .u8 f13.1, .int .u8 f14.1, .int .u8 f15.1]] w fun e w' => e = .returned (.tuple #[.agg #[.int .i64 y.k, .int .i64 y.c, .int .u8 y.d0, .int .u8 y.d1, .int .u8 y.d2, .int .u8 y.d3, .int .u8 y.d4, .int .u8 y.d5, .int .u8 y.d6, .int .u8 y.d7, .int .u8 y.d8, .int .u8 y.d9], .int .i64 E]) ∧ Below w.heap.size w w') ∧ ((pkOk bs a = true ∧ E = 0 ∧ pkAt bs a = y) ∨ (pkOk bs a = false ∧ E ≠ 0)) := by
  obtain ⟨f0, f1, f2, f3, f4, f5, f6, f7, f8, f9, f10, f11, f12, f13, f14, f15, hl⟩ := sixteen ((bs.drop a).take 16) (by simp; omega)
  have ho : pkOk bs a = goodB [f0, f1, f2, f3, f4, f5, f6, f7, f8, f9, f10, f11, f12, f13, f14, f15] := by unfold pkOk; rw [hl, decide_eq_true h, Bool.true_and]
  cases hg : goodB [f0, f1, f2, f3, f4, f5, f6, f7, f8, f9, f10, f11, f12, f13, f14, f15] with
  | true =>
    refine ⟨f0, f1, f2, f3, f4, f5, f6, f7, f8, f9, f10, f11, f12, f13, f14, f15, pkOf [f0, f1, f2, f3, f4, f5, f6, f7, f8, f9, f10, f11, f12, f13, f14, f15], 0, hl, fun w => (decodeR_any f0 f1 f2 f3 f4 f5 f6 f7 f8 f9 f10 f11 f12 f13 f14 f15 w).mono ?_, .inl ⟨ho.trans hg, rfl, ?_⟩⟩
    · rintro e w' ⟨rfl, hb⟩
      rw [hg, errD_good hg]
      exact ⟨rfl, hb⟩
    · unfold pkAt; rw [if_pos (ho.trans hg), hl]
  | false =>
    refine ⟨f0, f1, f2, f3, f4, f5, f6, f7, f8, f9, f10, f11, f12, f13, f14, f15, pk0, errD [f0, f1, f2, f3, f4, f5, f6, f7, f8, f9, f10, f11, f12, f13, f14, f15], hl, fun w => (decodeR_any f0 f1 f2 f3 f4 f5 f6 f7 f8 f9 f10 f11 f12 f13 f14 f15 w).mono ?_, .inr ⟨ho.trans hg, errD_bad hg⟩⟩
    rintro e w' ⟨rfl, hb⟩
    rw [hg]
    exact ⟨rfl, hb⟩
end Go.Proofs.YtnbpcfakkphmcaaGreatDoor
namespace Go.Proofs.YtnbpcfakkphmcaaGreatDoor
open Go.RowKit
set_option linter.unusedVariables false
set_option maxRecDepth 100000
/-- The bytes of a frame, the first k of them put in. -/
def putB (fs : List U8) : Nat → List Int → List Int
  | 0, l => l
  | k + 1, l => (putB fs k l).set k (fs.getD k u0).1
theorem putB_len (fs : List U8) (k : Nat) (l : List Int) : (putB fs k l).length = l.length := by
  induction k with
  | zero => rfl
  | succ k ih => unfold putB; rw [List.length_set, ih]
theorem getD_take {bs : List U8} {a k : Nat} {fs : List U8} (h : (bs.drop a).take 16 = fs) (hk : k < 16) : bs.getD (a + k) u0 = fs.getD k u0 := by
  rw [← h]
  simp [List.getD, hk]
theorem owns_setFar {w : World} {B : Nat} {e : TypeId} {size : Nat} {v : Value} {n : Nat} {xs : List Value} (h : w.ownsRow B e size v n xs) {p : Addr} (hp : v.ownBlock ≠ some p.block) (u : Value) : (w.setCell p u).ownsRow B e size v n xs := owns_far2 h hp u
theorem rw_set {B : Nat} {v1 v2 : Value} {pk : List Pk} {sk : List (Int × Int)} {W : World} (h : RW B v1 v2 pk sk W) {p : Addr} (h1 : v1.ownBlock ≠ some p.block) (h2 : v2.ownBlock ≠ some p.block) (u : Value) : RW B v1 v2 pk sk (W.setCell p u) :=
  ⟨owns_setFar h.o1 h1 u, owns_setFar h.o2 h2 u, h.nil, h.ne⟩
/-- The packets, the spans and the error of a stream. -/
def RcEnd (bs : List U8) (w : World) (e : Ending) (w' : World) : Prop :=
  ∃ v1 v2, e = .returned (.tuple #[v1, v2, .int .i64 0]) ∧ w'.ownsRow w.heap.size 89 12 v1 (rfold bs (List.range bs.length)).pk.length (pksC (rfold bs (List.range bs.length)).pk) ∧ w'.ownsRow w.heap.size 47 2 v2 (rfold bs (List.range bs.length)).sk.length (spansC (rfold bs (List.range bs.length)).sk) ∧ Below w.heap.size w w'
theorem receivedR_long (A : Option Addr) (cap n : Nat) (hlen : 16384 < n) (w : World) :
    Calls Tryz.prog 74 #[.slice A n cap] w fun e w' => e = .returned (.tuple #[.slice none 0 0, .slice none 0 0, .int .i64 26]) ∧ w = w' := by
  have h1 : (16384 : Int) < n := by omega
  go_enter Tryz.func74, Tryz.ntmps74
  go_wp2
  go_ret3
  exact ⟨rfl, rfl⟩
set_option maxHeartbeats 4000000 in
theorem receivedR_any (A : Option Addr) (cap : Nat) (bs : List U8) (hlen : bs.length ≤ 16384) (hcap : bs.length ≤ cap) (w : World) (hL : BRd w.heap.size w A bs) :
    Calls Tryz.prog 74 #[.slice A bs.length cap] w (RcEnd bs w) := by
  obtain ⟨i0, hi, hz0, hz1, hz2⟩ := info_parts info_packetR
  obtain ⟨j0, hj, hy0, hy1, hy2⟩ := info_parts info_span
  have HL := Lib.hid hL; clear hL
  obtain ⟨n, hn⟩ : ∃ n, bs.length = n := ⟨_, rfl⟩
  have HN := Lib.hid hn
  rw [hn] at hlen hcap ⊢
  clear hn
  go_enter Tryz.func74, Tryz.ntmps74
  go_wp2
  go_loopw [5, 6, 7] (fun v1 v2 s7 wr => ∃ a : Nat, a ≤ n ∧ s7 = .int .i64 a ∧ RW w.heap.size v1 v2 (rfold bs (List.range a)).pk (rfold bs (List.range a)).sk wr ∧ (rfold bs (List.range a)).nx ≤ a ∧ Below w.heap.size w wr) (fun _ _ v _ => n - (intOf v).toNat)
  case atStart => exact ⟨0, by omega, rfl, ⟨World.ownsRow_nil _ _ _ _, World.ownsRow_nil _ _ _ _, fun _ => rfl, .inl rfl⟩, Nat.le_refl _, Below.refl _ _⟩
  case round =>
    obtain ⟨a, ha, rfl, hrw, hnx, hbel⟩ := hrel
    have HRW := Lib.hid hrw; have HB := Lib.hid hbel
    have hsz := hbel.size
    obtain ⟨A1, c1, hs1⟩ := own_shape hrw.o1
    obtain ⟨A2, c2, hs2⟩ := own_shape hrw.o2
    obtain ⟨m1, hm1⟩ : ∃ m, (rfold bs (List.range a)).pk.length = m := ⟨_, rfl⟩
    obtain ⟨m2, hm2⟩ : ∃ m, (rfold bs (List.range a)).sk.length = m := ⟨_, rfl⟩
    rw [hm1] at hs1
    rw [hm2] at hs2
    subst hs1; subst hs2
    have HM1 := Lib.hid hm1; have HM2 := Lib.hid hm2
    clear hrw hbel hm1 hm2
    by_cases hlt : a < n
    · by_cases hfit : a + 16 ≤ n
      · obtain ⟨f0, f1, f2, f3, f4, f5, f6, f7, f8, f9, f10, f11, f12, f13, f14, f15, y, E, hfr, hdec, hok⟩ := decode_at bs a (by rw [HN.out]; exact hfit)
        have HFR := Lib.hid hfr; have HDEC := Lib.hid hdec; have HOK := Lib.hid hok
        have hfit' : (a : Int) + 16 ≤ n := by omega
        obtain ⟨fs, hfs⟩ : ∃ fs : List U8, fs = [f0, f1, f2, f3, f4, f5, f6, f7, f8, f9, f10, f11, f12, f13, f14, f15] := ⟨_, rfl⟩
        obtain ⟨Z, hZ⟩ : ∃ Z : List Int, Z = [0, 0, 0, 0, 0, 0, 0, 0, 0, 0, 0, 0, 0, 0, 0, 0] := ⟨_, rfl⟩
        have HEND : RowKit.Hid (putB fs 16 Z = [f0.1, f1.1, f2.1, f3.1, f4.1, f5.1, f6.1, f7.1, f8.1, f9.1, f10.1, f11.1, f12.1, f13.1, f14.1, f15.1]) := Lib.hid (by subst hfs; subst hZ; rfl)
        have HZ : RowKit.Hid (Z.length = 16) := Lib.hid (by rw [hZ]; rfl)
        rw [← hfs] at HFR
        obtain ⟨ad, hA, hbl, hcc⟩ := HL.out (by rw [HN.out]; omega)
        subst hA
        have HQ : RowKit.Hid (∀ W, Below w.heap.size w W → ∀ k, k < 16 → W.cell? (ad.add (a + k)) = some (.int .u8 (fs.getD k u0).1)) := Lib.hid (fun W hb k hk => by
          rw [hb.cell (p := ad.add (a + k)) (by rw [block_of_add]; exact hbl), hcc (a + k) (by rw [HN.out]; omega), getD_take HFR.out hk])
        clear hfr hdec hok hcc
        go_upto_region 9 with fail
        have hf := Blk.new wr 85 #[.int .u8 0, .int .u8 0, .int .u8 0, .int .u8 0, .int .u8 0, .int .u8 0, .int .u8 0, .int .u8 0, .int .u8 0, .int .u8 0, .int .u8 0, .int .u8 0, .int .u8 0, .int .u8 0, .int .u8 0, .int .u8 0]
        have hb := (Below.refl wr.heap.size wr).alloc (Nat.le_refl _) (.cells #[.int .u8 0, .int .u8 0, .int .u8 0, .int .u8 0, .int .u8 0, .int .u8 0, .int .u8 0, .int .u8 0, .int .u8 0, .int .u8 0, .int .u8 0, .int .u8 0, .int .u8 0, .int .u8 0, .int .u8 0, .int .u8 0] 85)
        obtain ⟨g, hg⟩ : ∃ g, wr.heap.size = g := ⟨_, rfl⟩
        generalize wr.alloc (.cells #[.int .u8 0, .int .u8 0, .int .u8 0, .int .u8 0, .int .u8 0, .int .u8 0, .int .u8 0, .int .u8 0, .int .u8 0, .int .u8 0, .int .u8 0, .int .u8 0, .int .u8 0, .int .u8 0, .int .u8 0, .int .u8 0] 85) = w1 at hf hb ⊢
        have HRW1 := Lib.hid (HRW.out.below hb); have HB1 := Lib.hid (HB.out.trans (hb.mono HB.out.size))
        rw [hg] at hf hsz ⊢
        have hf : Blk w1 g 85 (u8A Z) := by rw [hZ]; exact hf
        have HF := Lib.hid hf
        have HG1 : RowKit.Hid ((Value.slice A1 m1 c1).ownBlock ≠ some g) := Lib.hid (fun e => by have := (owns_block HRW.out.o1 g e).2.1; omega)
        have HG2 : RowKit.Hid ((Value.slice A2 m2 c2).ownBlock ≠ some g) := Lib.hid (fun e => by have := (owns_block HRW.out.o2 g e).2.1; omega)
        clear hf hb hg hfs hZ HRW HB
        go_wp2
        go_loopw [9] (fun v wy => ∃ k : Nat, k ≤ 16 ∧ v = .int .i64 k ∧ Blk wy g 85 (u8A (putB fs k Z)) ∧ RW w.heap.size (.slice A1 m1 c1) (.slice A2 m2 c2) (rfold bs (List.range a)).pk (rfold bs (List.range a)).sk wy ∧ Below w.heap.size w wy) (fun v _ => 16 - (intOf v).toNat)
        case atStart => exact ⟨0, by omega, rfl, HF.out, HRW1.out, HB1.out⟩
        case round =>
          clear HF HRW1 HB1
          obtain ⟨k, hk, rfl, hf, hrw, hb⟩ := hrel

          by_cases hlk : k < 16
          · have hlk' : (k : Int) < 16 := by omega
            have q := HQ.out wr hb k hlk
            have qz : (ad.add (a + k)).block < wr.heap.size := by rw [block_of_add]; exact Nat.lt_of_lt_of_le hbl hb.size
            have fo := hf.frozen k
            have cw := blk_u8_get hf (i := k) (by rw [putB_len, HZ.out]; omega)
            have z3 := hf.lt
            obtain ⟨m, hm⟩ : ∃ m : Nat, (a : Int) + k = m := ⟨a + k, by omega⟩
            have hmm : a + k = m := by omega
            rw [hmm] at q qz
            have hmn : (m : Int) < n := by omega
            have hf2 := Lib.hid (blk_u8_set hf k (fs.getD k u0).1)
            have hbl2 := (Below.refl g wr).setCell (p := ⟨g, k, none⟩) (Nat.le_refl _) (.int .u8 (fs.getD k u0).1)
            have hrw2 := Lib.hid (rw_set hrw (p := ⟨g, k, none⟩) HG1.out HG2.out (.int .u8 (fs.getD k u0).1))
            have hb2 := Lib.hid (hb.setCell (p := ⟨g, k, none⟩) hsz (.int .u8 (fs.getD k u0).1))
            clear hf hrw hb hmm hbl2
            obtain ⟨yy, hyy⟩ : ∃ yy, (fs.getD k u0).1 = yy := ⟨_, rfl⟩
            rw [hyy] at q hf2 hrw2 hb2
            have HYY := Lib.hid hyy
            clear hyy
            go_wp2
            go_roundw
            case rel => exact ⟨k + 1, by omega, by go_num, by (show Blk _ _ _ (u8A ((putB fs k Z).set k (fs.getD k u0).1))); rw [HYY.out]; exact hf2.out, hrw2.out, hb2.out⟩
            case measure => simp [intOf]; omega
          · have hk16 : k = 16 := by omega
            subst hk16
            rw [HEND.out] at hf
            have hf : Blk wr g 85 #[.int .u8 f0.1, .int .u8 f1.1, .int .u8 f2.1, .int .u8 f3.1, .int .u8 f4.1, .int .u8 f5.1, .int .u8 f6.1, .int .u8 f7.1, .int .u8 f8.1, .int .u8 f9.1, .int .u8 f10.1, .int .u8 f11.1, .int .u8 f12.1, .int .u8 f13.1, .int .u8 f14.1, .int .u8 f15.1] := hf
            have HF := Lib.hid hf; have HRW := Lib.hid hrw; have HB := Lib.hid hb
            have hiF : (Tryz.prog.info? 85).map (·.size) = some (#[.int .u8 f0.1, .int .u8 f1.1, .int .u8 f2.1, .int .u8 f3.1, .int .u8 f4.1, .int .u8 f5.1, .int .u8 f6.1, .int .u8 f7.1, .int .u8 f8.1, .int .u8 f9.1, .int .u8 f10.1, .int .u8 f11.1, .int .u8 f12.1, .int .u8 f13.1, .int .u8 f14.1, .int .u8 f15.1] : Array Value).size := by kernel_rfl
            have HIF := Lib.hid hiF
            have hiY : (Tryz.prog.info? 89).map (·.size) = some (#[.int .i64 y.k, .int .i64 y.c, .int .u8 y.d0, .int .u8 y.d1, .int .u8 y.d2, .int .u8 y.d3, .int .u8 y.d4, .int .u8 y.d5, .int .u8 y.d6, .int .u8 y.d7, .int .u8 y.d8, .int .u8 y.d9] : Array Value).size := by kernel_rfl
            have HIY := Lib.hid hiY
            clear hf hrw hb HEND HQ HZ hiF hiY
            go_wp2_with (refine wpList_load_box rfl 85 _ rfl g _ _ HF.out rfl _ Tryz.underlying85 rfl HIF.out ?_)
            refine (HDEC.out _).mono ?_
            rintro e w2 ⟨rfl, hb⟩
            replace HRW := Lib.hid (HRW.out.below hb); replace HB := Lib.hid (HB.out.trans (hb.mono HB.out.size))
            clear hb HF
            go_upto_region 14 with (refine wpList_alloc_store rfl rfl 89 10 _ rfl rfl rfl rfl #[.int .i64 0, .int .i64 0, .int .u8 0, .int .u8 0, .int .u8 0, .int .u8 0, .int .u8 0, .int .u8 0, .int .u8 0, .int .u8 0, .int .u8 0, .int .u8 0] #[.int .i64 y.k, .int .i64 y.c, .int .u8 y.d0, .int .u8 y.d1, .int .u8 y.d2, .int .u8 y.d3, .int .u8 y.d4, .int .u8 y.d5, .int .u8 y.d6, .int .u8 y.d7, .int .u8 y.d8, .int .u8 y.d9] Tryz.zeroValue89 rfl rfl HIY.out rfl (by simp [Value.oneCell']) ?_)
            have hn := Blk.new w2 89 #[.int .i64 y.k, .int .i64 y.c, .int .u8 y.d0, .int .u8 y.d1, .int .u8 y.d2, .int .u8 y.d3, .int .u8 y.d4, .int .u8 y.d5, .int .u8 y.d6, .int .u8 y.d7, .int .u8 y.d8, .int .u8 y.d9]
            have hb := (Below.refl w2.heap.size w2).alloc (Nat.le_refl _) (.cells #[.int .i64 y.k, .int .i64 y.c, .int .u8 y.d0, .int .u8 y.d1, .int .u8 y.d2, .int .u8 y.d3, .int .u8 y.d4, .int .u8 y.d5, .int .u8 y.d6, .int .u8 y.d7, .int .u8 y.d8, .int .u8 y.d9] 89)
            obtain ⟨gy, hgy⟩ : ∃ g, w2.heap.size = g := ⟨_, rfl⟩
            generalize w2.alloc (.cells #[.int .i64 y.k, .int .i64 y.c, .int .u8 y.d0, .int .u8 y.d1, .int .u8 y.d2, .int .u8 y.d3, .int .u8 y.d4, .int .u8 y.d5, .int .u8 y.d6, .int .u8 y.d7, .int .u8 y.d8, .int .u8 y.d9] 89) = w3 at hn hb ⊢
            replace HRW := Lib.hid (HRW.out.below hb); replace HB := Lib.hid (HB.out.trans (hb.mono HB.out.size))
            rw [hgy] at hn ⊢
            have HY := Lib.hid hn
            clear hn hb hgy
            have hsz := HB.out.size
            have HMM1 := (rfold_len bs (List.range a)).1
            rw [List.length_range, HM1.out] at HMM1
            rcases HOK.out with ⟨hok, hE, hpk⟩ | ⟨hok, hE⟩
            · subst hE
              have HSK := Lib.hid (rfold_take hnx hok)
              have HPK := Lib.hid hpk
              clear hok hpk HOK
              have hY := HY.out
              have cy0 := hY.cell 0
              have cy1 := hY.cell 1
              have cy2 := hY.cell 2
              have cy3 := hY.cell 3
              have cy4 := hY.cell 4
              have cy5 := hY.cell 5
              have cy6 := hY.cell 6
              have cy7 := hY.cell 7
              have cy8 := hY.cell 8
              have cy9 := hY.cell 9
              have cy10 := hY.cell 10
              have cy11 := hY.cell 11
              simp only [List.getElem?_toArray, List.getElem?_cons_zero, List.getElem?_cons_succ] at cy0 cy1 cy2 cy3 cy4 cy5 cy6 cy7 cy8 cy9 cy10 cy11
              have HNB := Lib.hid (heap_alloc_new w3 (.cells #[.int .i64 y.k, .int .i64 y.c, .int .u8 y.d0, .int .u8 y.d1, .int .u8 y.d2, .int .u8 y.d3, .int .u8 y.d4, .int .u8 y.d5, .int .u8 y.d6, .int .u8 y.d7, .int .u8 y.d8, .int .u8 y.d9] 89))
              have ho1 := HRW.out.o1
              rw [HM1.out] at ho1
              have HO1 := Lib.hid ho1
              clear hY ho1
              go_wp2_with (at_builtin; go_must (refine wpList_append_own_at _ (by rfl) (.tmp 44) (.tmp 46) 84 (by rfl) w.heap.size 89 i0 pk0.val 12 32 Tryz.underlying84 hi hz0 hz1 hz2 (by rfl) (by decide) (.slice A1 m1 c1) m1 (pksC (rfold bs (List.range a)).pk) (by rfl) (HO1.out.alloc _) ⟨w3.heap.size, 0, none⟩ 1 1 (pksC [y]) rfl rfl (World.news_of_block HNB.out) (by simp [pksC, Pk.cells, Value.oneCell']) (by unfold maxLen; omega) (by omega) (by simp; omega) ?_); intro v' w4 hown1 hgrow hnil4 hat1)
              go_roundw
              case rel =>
                refine ⟨a + 16, by omega, by go_num, ?_, by rw [HSK.out]; exact Nat.le_refl _, ?_⟩
                · rw [HSK.out]
                  refine (HRW.out.below ((Below.refl _ _).alloc (Nat.le_refl _) (.cells #[.int .i64 y.k, .int .i64 y.c, .int .u8 y.d0, .int .u8 y.d1, .int .u8 y.d2, .int .u8 y.d3, .int .u8 y.d4, .int .u8 y.d5, .int .u8 y.d6, .int .u8 y.d7, .int .u8 y.d8, .int .u8 y.d9] 89))).app1 ?_ hgrow (by rcases hat1 with h | h; exact .inl h; exact .inr ⟨_, by simp, h⟩)
                  rw [HPK.out, List.length_append, HM1.out, pksC_app]; exact hown1
                · exact (HB.out.alloc HB.out.size (.cells #[.int .i64 y.k, .int .i64 y.c, .int .u8 y.d0, .int .u8 y.d1, .int .u8 y.d2, .int .u8 y.d3, .int .u8 y.d4, .int .u8 y.d5, .int .u8 y.d6, .int .u8 y.d7, .int .u8 y.d8, .int .u8 y.d9] 89)).grown hgrow (by simp; omega) (fun k hk => by have h1 := owns_block HO1.out k hk; omega)
              case measure => simp [intOf]; omega
            · have HSK := Lib.hid (rfold_skip hnx hok)
              have hE' : (E == 0) = false := by simp [hE]
              clear hok hE HOK HY
              have hnil := HRW.out.nil
              have hnx2 : (rfold bs (List.range a)).nx ≤ a + 1 := by omega
              rcases hsk0 : (rfold bs (List.range a)).sk.reverse with _ | ⟨⟨x, b⟩, r⟩
              · have hz : (rfold bs (List.range a)).sk = [] := by simpa using hsk0
                have e := hnil hz
                injection e with e1 e2 e3
                subst e1; subst e2; subst e3
                have hadd : addSpan (rfold bs (List.range a)).sk a = [((a : Int), (a : Int) + 1)] := by rw [hz]; rfl
                have HNB := Lib.hid (heap_alloc_new w3 (.cells #[.int .i64 a, .int .i64 (a + 1)] 47))
                have HADD := Lib.hid hadd
                clear hz hnil hsk0 hadd
                go_wp2_with (at_builtin; go_must (refine wpList_append_own_at _ (by rfl) (.tmp 71) (.tmp 76) 107 (by rfl) w.heap.size 47 j0 (.agg #[.int .i64 0, .int .i64 0]) 2 16 Tryz.underlying107 hj hy0 hy1 hy2 (by rfl) (by decide) (.slice none 0 0) 0 [] (by rfl) (World.ownsRow_nil _ _ _ _) ⟨w3.heap.size, 0, none⟩ 1 1 (spansC [((a : Int), (a : Int) + 1)]) rfl rfl (World.news_of_block HNB.out) (by simp [spansC, Value.oneCell']) (by unfold maxLen; omega) (by omega) (by simp; omega) ?_); intro v' w4 hown1 hgrow hnil4 hat1)
                go_roundw
                case rel =>
                  refine ⟨a + 1, by omega, by go_num, ?_, by rw [HSK.out]; exact hnx2, ?_⟩
                  · rw [HSK.out]
                    exact (HRW.out.below ((Below.refl _ _).alloc (Nat.le_refl _) (.cells #[.int .i64 a, .int .i64 (a + 1)] 47))).app2 (by rw [HADD.out]; exact hown1) (addSpan_ne _ _) hgrow (by rcases hat1 with h | h; exact .inl h; exact .inr ⟨_, by simp, h⟩)
                  · exact (HB.out.alloc HB.out.size (.cells #[.int .i64 a, .int .i64 (a + 1)] 47)).grown hgrow (by simp; omega) (fun k hk => by cases hk)
                case measure => simp [intOf]; omega
              · have hl1 : (rfold bs (List.range a)).sk = r.reverse ++ [(x, b)] := by rw [← List.reverse_cons, ← hsk0, List.reverse_reverse]
                obtain ⟨l0, hl0⟩ : ∃ l0, r.reverse = l0 := ⟨_, rfl⟩
                rw [hl0] at hl1
                obtain ⟨n0, hn0⟩ : ∃ n, l0.length = n := ⟨_, rfl⟩
                have hlen : m2 = n0 + 1 := by rw [← HM2.out, hl1, ← hn0]; simp
                subst hlen
                have hbd := (rfold_len bs (List.range a)).2
                rw [List.length_range, HM2.out] at hbd
                have hadd : addSpan (rfold bs (List.range a)).sk a = if b = (a : Int) then l0 ++ [(x, (a : Int) + 1)] else (rfold bs (List.range a)).sk ++ [((a : Int), (a : Int) + 1)] := by unfold addSpan; rw [hsk0, addSpanR_cons, hl0]
                have ho2 := HRW.out.o2
                rw [HM2.out, hl1] at ho2
                obtain ⟨g2, hg2⟩ : ∃ g2, A2 = some ⟨g2, 0, none⟩ := by
                  rcases ho2.2 with ⟨_, h0⟩ | ⟨g2, cap2, cur, hv, _⟩
                  · omega
                  · injection hv with e1 e2 e3; exact ⟨g2, e1⟩
                subst hg2
                have hc := ho2.cellAt (n0 * 2 + 1) (by omega)
                have hcv : (spansC (l0 ++ [(x, b)]))[n0 * 2 + 1]? = some (.int .i64 b) := by
                  rw [← hn0, spansC_app, List.getElem?_append_right (by rw [spansC_len]; omega), spansC_len, Nat.add_sub_cancel_left]; rfl
                rw [hcv] at hc
                clear hcv hsk0 hnil hl0
                by_cases hb : b = (a : Int)
                · rw [if_pos hb] at hadd
                  subst hb
                  have hs : (spansC (l0 ++ [(x, (a : Int))])).set (n0 * 2 + 1) (.int .i64 ((a : Int) + 1)) = spansC (l0 ++ [(x, (a : Int) + 1)]) := by
                    rw [← hn0, spansC_app, spansC_app, List.set_append_right _ _ (by rw [spansC_len]; omega), spansC_len, Nat.add_sub_cancel_left]; rfl
                  have hfr := ho2.frozenAt (n0 * 2 + 1)
                  have hst := ho2.stored (n0 * 2 + 1) (.int .i64 ((a : Int) + 1))
                  rw [hs] at hst
                  have HST := Lib.hid hst; have HADD := Lib.hid hadd; have HRB := Lib.hid (owns_block HRW.out.o2); have HN0 := Lib.hid hn0
                  clear hst hs ho2 hadd hl1 hn0
                  go_wp2
                  go_roundw
                  case rel =>
                    refine ⟨a + 1, by omega, by go_num, ?_, by rw [HSK.out]; exact hnx2, ?_⟩
                    · rw [HSK.out]
                      refine HRW.out.app2 ?_ (addSpan_ne _ _) HST.out.2 (.inl rfl)
                      rw [HADD.out, List.length_append, HN0.out]; exact HST.out.1
                    · exact HB.out.grown HST.out.2 HB.out.size (fun k hk => by have h1 := HRB.out k hk; omega)
                  case measure => simp [intOf]; omega
                · rw [if_neg hb] at hadd
                  have hb1 : (b == (a : Int)) = false := by simpa using hb
                  have hb2 := decide_eq_false hb
                  have HNB := Lib.hid (heap_alloc_new w3 (.cells #[.int .i64 a, .int .i64 (a + 1)] 47))
                  have HADD := Lib.hid hadd; have HO2 := Lib.hid ho2; have HL1 := Lib.hid hl1; have HRB := Lib.hid (owns_block HRW.out.o2)
                  obtain ⟨xs, hxs⟩ : ∃ xs, spansC (l0 ++ [(x, b)]) = xs := ⟨_, rfl⟩
                  have HXS := Lib.hid hxs
                  rw [hxs] at HO2
                  clear hadd hl1 ho2 hb hxs hn0
                  go_wp2_with (at_builtin; go_must (refine wpList_append_own_at _ (by rfl) (.tmp 71) (.tmp 76) 107 (by rfl) w.heap.size 47 j0 (.agg #[.int .i64 0, .int .i64 0]) 2 16 Tryz.underlying107 hj hy0 hy1 hy2 (by rfl) (by decide) (.slice (some ⟨g2, 0, none⟩) (n0 + 1) c2) (n0 + 1) xs (by rfl) (HO2.out.alloc _) ⟨w3.heap.size, 0, none⟩ 1 1 (spansC [((a : Int), (a : Int) + 1)]) rfl rfl (World.news_of_block HNB.out) (by simp [spansC, Value.oneCell']) (by unfold maxLen; omega) (by omega) (by simp; omega) ?_); intro v' w4 hown1 hgrow hnil4 hat1)
                  go_roundw
                  case rel =>
                    refine ⟨a + 1, by omega, by go_num, ?_, by rw [HSK.out]; exact hnx2, ?_⟩
                    · rw [HSK.out]
                      refine (HRW.out.below ((Below.refl _ _).alloc (Nat.le_refl _) (.cells #[.int .i64 a, .int .i64 (a + 1)] 47))).app2 ?_ (addSpan_ne _ _) hgrow (by rcases hat1 with h | h; exact .inl h; exact .inr ⟨_, by simp, h⟩)
                      rw [HADD.out, List.length_append, HM2.out, HL1.out, spansC_app (l0 ++ [(x, b)]), HXS.out]; exact hown1
                    · exact (HB.out.alloc HB.out.size (.cells #[.int .i64 a, .int .i64 (a + 1)] 47)).grown hgrow (by simp; omega) (fun k hk => by have h1 := HRB.out k hk; omega)
                  case measure => simp [intOf]; omega
      · have hfit' : ¬ ((a : Int) + 16 ≤ n) := by omega
        have hok : pkOk bs a = false := by unfold pkOk; rw [HN.out, decide_eq_false hfit, Bool.false_and]
        have HSK := Lib.hid (rfold_skip hnx hok)
        clear hok
        have hnil := HRW.out.nil
        have hnx2 : (rfold bs (List.range a)).nx ≤ a + 1 := by omega
        rcases hsk0 : (rfold bs (List.range a)).sk.reverse with _ | ⟨⟨x, b⟩, r⟩
        · have hz : (rfold bs (List.range a)).sk = [] := by simpa using hsk0
          have e := hnil hz
          injection e with e1 e2 e3
          subst e1; subst e2; subst e3
          have hadd : addSpan (rfold bs (List.range a)).sk a = [((a : Int), (a : Int) + 1)] := by rw [hz]; rfl
          have HNB := Lib.hid (heap_alloc_new wr (.cells #[.int .i64 a, .int .i64 (a + 1)] 47))
          have HADD := Lib.hid hadd
          clear hz hnil hsk0 hadd
          go_wp2_with (at_builtin; go_must (refine wpList_append_own_at _ (by rfl) (.tmp 71) (.tmp 76) 107 (by rfl) w.heap.size 47 j0 (.agg #[.int .i64 0, .int .i64 0]) 2 16 Tryz.underlying107 hj hy0 hy1 hy2 (by rfl) (by decide) (.slice none 0 0) 0 [] (by rfl) (World.ownsRow_nil _ _ _ _) ⟨wr.heap.size, 0, none⟩ 1 1 (spansC [((a : Int), (a : Int) + 1)]) rfl rfl (World.news_of_block HNB.out) (by simp [spansC, Value.oneCell']) (by unfold maxLen; omega) (by omega) (by simp; omega) ?_); intro v' w4 hown1 hgrow hnil4 hat1)
          go_roundw
          case rel =>
            refine ⟨a + 1, by omega, by go_num, ?_, by rw [HSK.out]; exact hnx2, ?_⟩
            · rw [HSK.out]
              exact (HRW.out.below ((Below.refl _ _).alloc (Nat.le_refl _) (.cells #[.int .i64 a, .int .i64 (a + 1)] 47))).app2 (by rw [HADD.out]; exact hown1) (addSpan_ne _ _) hgrow (by rcases hat1 with h | h; exact .inl h; exact .inr ⟨_, by simp, h⟩)
            · exact (HB.out.alloc HB.out.size (.cells #[.int .i64 a, .int .i64 (a + 1)] 47)).grown hgrow (by simp; omega) (fun k hk => by cases hk)
          case measure => simp [intOf]; omega
        · have hl1 : (rfold bs (List.range a)).sk = r.reverse ++ [(x, b)] := by rw [← List.reverse_cons, ← hsk0, List.reverse_reverse]
          obtain ⟨l0, hl0⟩ : ∃ l0, r.reverse = l0 := ⟨_, rfl⟩
          rw [hl0] at hl1
          obtain ⟨n0, hn0⟩ : ∃ n, l0.length = n := ⟨_, rfl⟩
          have hlen : m2 = n0 + 1 := by rw [← HM2.out, hl1, ← hn0]; simp
          subst hlen
          have hbd := (rfold_len bs (List.range a)).2
          rw [List.length_range, HM2.out] at hbd
          have hadd : addSpan (rfold bs (List.range a)).sk a = if b = (a : Int) then l0 ++ [(x, (a : Int) + 1)] else (rfold bs (List.range a)).sk ++ [((a : Int), (a : Int) + 1)] := by unfold addSpan; rw [hsk0, addSpanR_cons, hl0]
          have ho2 := HRW.out.o2
          rw [HM2.out, hl1] at ho2
          obtain ⟨g2, hg2⟩ : ∃ g2, A2 = some ⟨g2, 0, none⟩ := by
            rcases ho2.2 with ⟨_, h0⟩ | ⟨g2, cap2, cur, hv, _⟩
            · omega
            · injection hv with e1 e2 e3; exact ⟨g2, e1⟩
          subst hg2
          have hc := ho2.cellAt (n0 * 2 + 1) (by omega)
          have hcv : (spansC (l0 ++ [(x, b)]))[n0 * 2 + 1]? = some (.int .i64 b) := by
            rw [← hn0, spansC_app, List.getElem?_append_right (by rw [spansC_len]; omega), spansC_len, Nat.add_sub_cancel_left]; rfl
          rw [hcv] at hc
          clear hcv hsk0 hnil hl0
          by_cases hb : b = (a : Int)
          · rw [if_pos hb] at hadd
            subst hb
            have hs : (spansC (l0 ++ [(x, (a : Int))])).set (n0 * 2 + 1) (.int .i64 ((a : Int) + 1)) = spansC (l0 ++ [(x, (a : Int) + 1)]) := by
              rw [← hn0, spansC_app, spansC_app, List.set_append_right _ _ (by rw [spansC_len]; omega), spansC_len, Nat.add_sub_cancel_left]; rfl
            have hfr := ho2.frozenAt (n0 * 2 + 1)
            have hst := ho2.stored (n0 * 2 + 1) (.int .i64 ((a : Int) + 1))
            rw [hs] at hst
            have HST := Lib.hid hst; have HADD := Lib.hid hadd; have HRB := Lib.hid (owns_block HRW.out.o2); have HN0 := Lib.hid hn0
            clear hst hs ho2 hadd hl1 hn0
            go_wp2
            go_roundw
            case rel =>
              refine ⟨a + 1, by omega, by go_num, ?_, by rw [HSK.out]; exact hnx2, ?_⟩
              · rw [HSK.out]
                refine HRW.out.app2 ?_ (addSpan_ne _ _) HST.out.2 (.inl rfl)
                rw [HADD.out, List.length_append, HN0.out]; exact HST.out.1
              · exact HB.out.grown HST.out.2 HB.out.size (fun k hk => by have h1 := HRB.out k hk; omega)
            case measure => simp [intOf]; omega
          · rw [if_neg hb] at hadd
            have hb1 : (b == (a : Int)) = false := by simpa using hb
            have hb2 := decide_eq_false hb
            have HNB := Lib.hid (heap_alloc_new wr (.cells #[.int .i64 a, .int .i64 (a + 1)] 47))
            have HADD := Lib.hid hadd; have HO2 := Lib.hid ho2; have HL1 := Lib.hid hl1; have HRB := Lib.hid (owns_block HRW.out.o2)
            obtain ⟨xs, hxs⟩ : ∃ xs, spansC (l0 ++ [(x, b)]) = xs := ⟨_, rfl⟩
            have HXS := Lib.hid hxs
            rw [hxs] at HO2
            clear hadd hl1 ho2 hb hxs hn0
            go_wp2_with (at_builtin; go_must (refine wpList_append_own_at _ (by rfl) (.tmp 71) (.tmp 76) 107 (by rfl) w.heap.size 47 j0 (.agg #[.int .i64 0, .int .i64 0]) 2 16 Tryz.underlying107 hj hy0 hy1 hy2 (by rfl) (by decide) (.slice (some ⟨g2, 0, none⟩) (n0 + 1) c2) (n0 + 1) xs (by rfl) (HO2.out.alloc _) ⟨wr.heap.size, 0, none⟩ 1 1 (spansC [((a : Int), (a : Int) + 1)]) rfl rfl (World.news_of_block HNB.out) (by simp [spansC, Value.oneCell']) (by unfold maxLen; omega) (by omega) (by simp; omega) ?_); intro v' w4 hown1 hgrow hnil4 hat1)
            go_roundw
            case rel =>
              refine ⟨a + 1, by omega, by go_num, ?_, by rw [HSK.out]; exact hnx2, ?_⟩
              · rw [HSK.out]
                refine (HRW.out.below ((Below.refl _ _).alloc (Nat.le_refl _) (.cells #[.int .i64 a, .int .i64 (a + 1)] 47))).app2 ?_ (addSpan_ne _ _) hgrow (by rcases hat1 with h | h; exact .inl h; exact .inr ⟨_, by simp, h⟩)
                rw [HADD.out, List.length_append, HM2.out, HL1.out, spansC_app (l0 ++ [(x, b)]), HXS.out]; exact hown1
              · exact (HB.out.alloc HB.out.size (.cells #[.int .i64 a, .int .i64 (a + 1)] 47)).grown hgrow (by simp; omega) (fun k hk => by have h1 := HRB.out k hk; omega)
            case measure => simp [intOf]; omega
    · have han : a = n := by omega
      subst han
      have HRW2 := Lib.hid HRW.out
      clear HRW
      go_wp2
      go_ret3
      refine ⟨_, _, rfl, ?_, ?_, HB.out⟩
      · rw [HN.out]; exact HRW2.out.o1
      · rw [HN.out]; exact HRW2.out.o2
end Go.Proofs.YtnbpcfakkphmcaaGreatDoor
