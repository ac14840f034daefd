/- The transform of four samples. -/
import Derived.Test.YtkjkjhheckfhbaaGreatDoorPL
namespace Go.Proofs.YtkjkjhheckfhbaaGreatDoor
open Go.RowKit
set_option linter.unusedVariables false
attribute [local go_sem] run_store_float run_store_complex
/-- '*' on complex64: by complex128, and back. -/
def c64Mul (a b c d : Nat) : Option (Nat × Nat) :=
  (floatToFloatBits .f32 a .f64).bind fun A => (floatToFloatBits .f32 b .f64).bind fun B => (floatToFloatBits .f32 c .f64).bind fun C => (floatToFloatBits .f32 d .f64).bind fun D =>
  (cMulBits A B C D).bind fun r => (floatToFloatBits .f64 r.1 .f32).bind fun re => (floatToFloatBits .f64 r.2 .f32).bind fun im => some (re, im)
theorem run_conv_bits {P : Program} (w : World) {s d : FloatKind} {x r : Nat} (hn : s ≠ d) (h : floatToFloatBits s x d = some r) : (Op.Complex.conv s x d).run P w = .ok r w := by
  simp [Op.Complex.conv, hn, run_floatToFloat w h]
theorem run_complex64_mul {P : Program} (w : World) (t : TypeId) (a b c d re im : Nat) (h : c64Mul a b c d = some (re, im)) :
    (binOp .mul t (.complex .f32 a b) (.complex .f32 c d)).run P w = .ok (.complex .f32 re im) w := by
  unfold c64Mul at h
  obtain ⟨A, hA, h⟩ := bind_some h
  obtain ⟨B, hB, h⟩ := bind_some h
  obtain ⟨C, hC, h⟩ := bind_some h
  obtain ⟨D, hD, h⟩ := bind_some h
  obtain ⟨r, hr, h⟩ := bind_some h
  obtain ⟨x, hx, h⟩ := bind_some h
  obtain ⟨y, hy, h⟩ := bind_some h
  cases h
  unfold cMulBits at hr
  obtain ⟨ac, h1, hr⟩ := bind_some hr
  obtain ⟨bd, h2, hr⟩ := bind_some hr
  obtain ⟨p, h3, hr⟩ := bind_some hr
  obtain ⟨ad, h4, hr⟩ := bind_some hr
  obtain ⟨bc, h5, hr⟩ := bind_some hr
  obtain ⟨q, h6, hr⟩ := bind_some hr
  cases hr
  have n1 : FloatKind.f32 ≠ FloatKind.f64 := by decide
  have n2 : FloatKind.f64 ≠ FloatKind.f32 := by decide
  simp [binOp, Op.complexOp, Op.Complex.product, Op.Complex.mul, Op.Complex.sub, Op.Complex.add, run_carith w h1, run_carith w h2, run_carith w h3, run_carith w h4, run_carith w h5, run_carith w h6, run_conv_bits w n1 hA, run_conv_bits w n1 hB, run_conv_bits w n1 hC, run_conv_bits w n1 hD, run_conv_bits w n2 hx, run_conv_bits w n2 hy]
/-- The bits of the powers of -i: real part, imaginary part. -/
def pwR : Nat → Int
  | 0 => 1
  | 2 => -1
  | _ => 0
def pwI : Nat → Int
  | 1 => -1
  | 3 => 1
  | _ => 0
def czV (S : Nat → Nat × Nat) (n : Nat) : Array Value := ((List.range n).map (fun k => Value.complex .f32 (S k).1 (S k).2)).toArray
/-- One step of a transform. -/
def StepOk (z : Nat → Nat × Nat) (step : Nat) (S : Nat → Nat → Nat × Nat) : Prop :=
  (∀ k, k < 4 → S k 0 = (0, 0)) ∧ ∀ k n, k < 4 → n < 4 → ∃ m, c64Mul (z n).1 (z n).2 (floatOfInt .f32 (pwR (step * k * n % 4))) (floatOfInt .f32 (pwI (step * k * n % 4))) = some m ∧ cSumBits .add .f32 (S k n).1 (S k n).2 m.1 m.2 = some (S k (n + 1))
theorem czV_get (S : Nat → Nat × Nat) (n k : Nat) (h : k < n) : (czV S n)[k]? = some (.complex .f32 (S k).1 (S k).2) := by simp [czV, h]
theorem czV_set (S S' : Nat → Nat × Nat) (n k : Nat) (h : k < n) (hs : ∀ j, j < n → j ≠ k → S' j = S j) : (czV S n).setIfInBounds k (.complex .f32 (S' k).1 (S' k).2) = czV S' n := by
  apply Array.ext_getElem?
  intro i
  rw [Array.getElem?_setIfInBounds]
  by_cases e : k = i
  · subst e; rw [if_pos rfl, czV_get S' n k h]; simp [czV, h]
  · rw [if_neg e]
    by_cases hi : i < n
    · rw [czV_get S n i hi, czV_get S' n i hi, hs i hi (fun h => e h.symm)]
    · simp [czV, hi]
theorem and3_int (n p : Nat) (hn : n ≤ 1000) (hp : n % 4 = p) : bits BinOp.and IntKind.i64 (n : Int) 3 = (p : Int) := by
  have key : ∀ m : Fin 1001, bits BinOp.and IntKind.i64 ((m.1 : Nat) : Int) 3 = ((m.1 % 4 : Nat) : Int) := by decide +kernel
  have h := key ⟨n, by omega⟩
  rw [← hp]; exact h
/-- The sums on the way: behind the rows before k, and n numbers of the row k. -/
def onWay (S : Nat → Nat → Nat × Nat) (k n : Nat) (j : Nat) : Nat × Nat := if j < k then S j 4 else if j = k then S k n else (0, 0)
set_option maxRecDepth 100000 in
/-- The power of -i, as the table has it. -/
theorem power_any (n p : Nat) (hn : n ≤ 1000) (hp : n % 4 = p) (w : World) (hP : ∀ i, i < 4 → w.cell? ⟨1, i * 2, none⟩ = some (.int .i64 (pwR i)) ∧ w.cell? ⟨1, i * 2 + 1, none⟩ = some (.int .i64 (pwI i))) (hP1 : 1 < w.heap.size) :
    Calls Tryz.prog 189 #[.int .i64 (n : Int)] w fun e w' => e = .returned (.agg #[.int .i64 (pwR p), .int .i64 (pwI p)]) ∧ Below w.heap.size w w' := by
  have hpb : p < 4 := by omega
  obtain ⟨q1, q2⟩ := hP p hpb
  have e1 := and3_int n p hn hp
  clear hP hp
  go_enter Tryz.func189, Tryz.ntmps189
  go_upto_region 1 with fail
  have hb0 : Below w.heap.size w (w.alloc (.cells #[.int .i64 0, .int .i64 0] 257)) := (Below.refl _ _).alloc (Nat.le_refl _) _
  have hbx := Blk.new w 257 #[.int .i64 0, .int .i64 0]
  have g1 := (hb0.cell (p := ⟨1, p * 2, none⟩) hP1).trans q1
  have g2 := (hb0.cell (p := ⟨1, p * 2 + 1, none⟩) hP1).trans q2
  generalize w.alloc (.cells #[.int .i64 0, .int .i64 0] 257) = w0 at hbx hb0 g1 g2 ⊢
  have d0 := hbx.cell 0; have d1 := hbx.cell 1; have f0 := hbx.frozen 0; have f1 := hbx.frozen 1
  have zb := hbx.lt
  simp only [List.getElem?_toArray, List.getElem?_cons_zero, List.getElem?_cons_succ] at d0 d1
  have hyy := Lib.hid (show Blk ((w0.setCell ⟨w.heap.size, 0, none⟩ (.int .i64 (pwR p))).setCell ⟨w.heap.size, 1, none⟩ (.int .i64 (pwI p))) w.heap.size 257 #[.int .i64 (pwR p), .int .i64 (pwI p)] from (hbx.set_ 0 _).set_ 1 _)
  have HB := Lib.hid hb0; clear hb0 hbx q1 q2
  go_wp2
  have r0 := hyy.out.cell 0; have r1 := hyy.out.cell 1
  simp only [List.getElem?_toArray, List.getElem?_cons_zero, List.getElem?_cons_succ] at r0 r1
  exact bodyPost_ret (v := .agg #[.int .i64 (pwR p), .int .i64 (pwI p)]) (by simp [results, Tryz.results189, go_sem, r0, r1]) rfl ⟨rfl, (HB.out.setCell (p := ⟨w.heap.size, 0, none⟩) (Nat.le_refl _) _).setCell (p := ⟨w.heap.size, 1, none⟩) (Nat.le_refl _) _⟩
set_option maxRecDepth 100000 in
set_option maxHeartbeats 1000000 in
theorem turned_any (z : Nat → Nat × Nat) (step : Nat) (hstep : step ≤ 3) (S : Nat → Nat → Nat × Nat) (hS : StepOk z step S) (w : World) (hP : ∀ i, i < 4 → w.cell? ⟨1, i * 2, none⟩ = some (.int .i64 (pwR i)) ∧ w.cell? ⟨1, i * 2 + 1, none⟩ = some (.int .i64 (pwI i))) (hP1 : 1 < w.heap.size) :
    Calls Tryz.prog 159 #[.agg (czV z 4), .int .i64 (step : Int)] w fun e w' => e = .returned (.agg (czV (fun k => S k 4) 4)) ∧ Below w.heap.size w w' := by
  have HS := Lib.hid hS; clear hS
  have HPP := Lib.hid hP; clear hP
  have hc4 : czV z 4 = #[.complex .f32 (z 0).1 (z 0).2, .complex .f32 (z 1).1 (z 1).2, .complex .f32 (z 2).1 (z 2).2, .complex .f32 (z 3).1 (z 3).2] := rfl
  rw [hc4]
  clear hc4
  go_enter Tryz.func159, Tryz.ntmps159
  go_wp2_with fail
  have hbx := ((Blk.new w 138 #[.complex .f32 (z 0).1 (z 0).2, .complex .f32 (z 1).1 (z 1).2, .complex .f32 (z 2).1 (z 2).2, .complex .f32 (z 3).1 (z 3).2]).alloc (.cells #[.complex .f32 0 0, .complex .f32 0 0, .complex .f32 0 0, .complex .f32 0 0] 138)).alloc (.cells #[.complex .f32 0 0, .complex .f32 0 0, .complex .f32 0 0, .complex .f32 0 0] 138)
  have hby := (Blk.new (w.alloc (.cells #[.complex .f32 (z 0).1 (z 0).2, .complex .f32 (z 1).1 (z 1).2, .complex .f32 (z 2).1 (z 2).2, .complex .f32 (z 3).1 (z 3).2] 138)) 138 #[.complex .f32 0 0, .complex .f32 0 0, .complex .f32 0 0, .complex .f32 0 0]).alloc (.cells #[.complex .f32 0 0, .complex .f32 0 0, .complex .f32 0 0, .complex .f32 0 0] 138)
  have hbz := Blk.new ((w.alloc (.cells #[.complex .f32 (z 0).1 (z 0).2, .complex .f32 (z 1).1 (z 1).2, .complex .f32 (z 2).1 (z 2).2, .complex .f32 (z 3).1 (z 3).2] 138)).alloc (.cells #[.complex .f32 0 0, .complex .f32 0 0, .complex .f32 0 0, .complex .f32 0 0] 138)) 138 #[.complex .f32 0 0, .complex .f32 0 0, .complex .f32 0 0, .complex .f32 0 0]
  simp only [World.size_alloc] at hby hbz
  have hb0 : Below w.heap.size w (((w.alloc (.cells #[.complex .f32 (z 0).1 (z 0).2, .complex .f32 (z 1).1 (z 1).2, .complex .f32 (z 2).1 (z 2).2, .complex .f32 (z 3).1 (z 3).2] 138)).alloc (.cells #[.complex .f32 0 0, .complex .f32 0 0, .complex .f32 0 0, .complex .f32 0 0] 138)).alloc (.cells #[.complex .f32 0 0, .complex .f32 0 0, .complex .f32 0 0, .complex .f32 0 0] 138)) := (((Below.refl _ _).alloc (Nat.le_refl _) _).alloc (by simp) _).alloc (by simp only [World.size_alloc]; omega) _
  generalize ((w.alloc (.cells #[.complex .f32 (z 0).1 (z 0).2, .complex .f32 (z 1).1 (z 1).2, .complex .f32 (z 2).1 (z 2).2, .complex .f32 (z 3).1 (z 3).2] 138)).alloc (.cells #[.complex .f32 0 0, .complex .f32 0 0, .complex .f32 0 0, .complex .f32 0 0] 138)).alloc (.cells #[.complex .f32 0 0, .complex .f32 0 0, .complex .f32 0 0, .complex .f32 0 0] 138) = w0 at hbx hby hbz hb0 ⊢
  have hbz' : Blk w0 (w.heap.size + 1 + 1) 138 (czV (onWay S 0 0) 4) := by
    have h0 : ∀ k, k < 4 → onWay S 0 0 k = (0, 0) := fun k hk => by
      unfold onWay
      rw [if_neg (by omega)]
      split
      · exact HS.out.1 0 (by omega)
      · rfl
    have : czV (onWay S 0 0) 4 = #[.complex .f32 0 0, .complex .f32 0 0, .complex .f32 0 0, .complex .f32 0 0] := by
      show (#[Value.complex .f32 (onWay S 0 0 0).1 (onWay S 0 0 0).2, .complex .f32 (onWay S 0 0 1).1 (onWay S 0 0 1).2, .complex .f32 (onWay S 0 0 2).1 (onWay S 0 0 2).2, .complex .f32 (onWay S 0 0 3).1 (onWay S 0 0 3).2] : Array Value) = _
      rw [h0 0 (by omega), h0 1 (by omega), h0 2 (by omega), h0 3 (by omega)]
    rw [this]; exact hbz
  have HX := Lib.hid hbx; have HY := Lib.hid hby; have HZ := Lib.hid hbz'; have HB := Lib.hid hb0
  clear hbx hby hbz hbz' hb0
  go_loopw [10] (fun i wr => ∃ k : Nat, k ≤ 4 ∧ i = .int .i64 k ∧ Blk wr w.heap.size 138 #[.complex .f32 (z 0).1 (z 0).2, .complex .f32 (z 1).1 (z 1).2, .complex .f32 (z 2).1 (z 2).2, .complex .f32 (z 3).1 (z 3).2] ∧ Blk wr (w.heap.size + 1) 138 #[.complex .f32 0 0, .complex .f32 0 0, .complex .f32 0 0, .complex .f32 0 0] ∧ Blk wr (w.heap.size + 1 + 1) 138 (czV (onWay S k 0) 4) ∧ Below w.heap.size w wr) (fun i _ => 4 - (intOf i).toNat)
  case atStart => exact ⟨0, by omega, rfl, HX.out, HY.out, HZ.out, HB.out⟩
  case round =>
    obtain ⟨k, hk, rfl, hx, hy, hz, hbel⟩ := hrel
    obtain ⟨wo, rfl⟩ : ∃ wo : World, wo = wr := ⟨_, rfl⟩
    by_cases hlt : k < 4
    · have x0 := hx.cell 0; have x1 := hx.cell 1; have x2 := hx.cell 2; have x3 := hx.cell 3
      simp only [List.getElem?_toArray, List.getElem?_cons_zero, List.getElem?_cons_succ] at x0 x1 x2 x3
      have HX1 := Lib.hid hx; have HY1 := Lib.hid hy; have HZ1 := Lib.hid hz; have HB1 := Lib.hid hbel
      clear hx hy hz hbel
      have hkd : decide ((k : Int) < 4) = true := by simp; omega
      go_wp2_with fail
      go_loopw [14] (fun i wr => ∃ n : Nat, n ≤ 4 ∧ i = .int .i64 n ∧ Blk wr w.heap.size 138 #[.complex .f32 (z 0).1 (z 0).2, .complex .f32 (z 1).1 (z 1).2, .complex .f32 (z 2).1 (z 2).2, .complex .f32 (z 3).1 (z 3).2] ∧ Blk wr (w.heap.size + 1) 138 #[.complex .f32 0 0, .complex .f32 0 0, .complex .f32 0 0, .complex .f32 0 0] ∧ Blk wr (w.heap.size + 1 + 1) 138 (czV (onWay S k n) 4) ∧ Below w.heap.size w wr) (fun i _ => 4 - (intOf i).toNat)
      case atStart => exact ⟨0, by omega, rfl, HX1.out, HY1.out, HZ1.out, HB1.out⟩
      case round =>
        obtain ⟨n, hn, rfl, hx, hy, hz, hbel⟩ := hrel
        by_cases hln : n < 4
        · obtain ⟨m, hm1, hm2⟩ := HS.out.2 k n hlt hln
          obtain ⟨a, ha⟩ : ∃ a, step * k = a := ⟨_, rfl⟩
          have hab : a ≤ 9 := by rw [← ha]; exact Nat.mul_le_mul hstep (by omega : k ≤ 3)
          obtain ⟨b, hb⟩ : ∃ b, a * n = b := ⟨_, rfl⟩
          have hbb : b ≤ 27 := by rw [← hb]; exact Nat.mul_le_mul hab (by omega : n ≤ 3)
          obtain ⟨p, hp⟩ : ∃ p, b % 4 = p := ⟨_, rfl⟩
          have hpb : p < 4 := by omega
          rw [ha, hb, hp] at hm1
          have e1 : (step : Int) * (k : Int) = (a : Int) := by rw [← ha]; simp
          have e2 : (a : Int) * (n : Int) = (b : Int) := by rw [← hb]; simp
          have hix : ∀ W, (Instr.index 138 (.agg #[.complex .f32 (z 0).1 (z 0).2, .complex .f32 (z 1).1 (z 1).2, .complex .f32 (z 2).1 (z 2).2, .complex .f32 (z 3).1 (z 3).2]) (.int .i64 (n : Int))).run Tryz.prog W = .ok (.complex .f32 (z n).1 (z n).2) W := fun W => by
            have : n = 0 ∨ n = 1 ∨ n = 2 ∨ n = 3 := by omega
            rcases this with rfl | rfl | rfl | rfl <;> rfl
          have hmul := fun W => run_complex64_mul (P := Tryz.prog) W 137 _ _ _ _ _ _ hm1
          have hadd := fun W => run_complex_sum (P := Tryz.prog) W .add (.inl rfl) 137 .f32 _ _ _ _ _ _ hm2
          have HOKK : RowKit.Hid (onWay S k n k = S k n) := Lib.hid (by unfold onWay; rw [if_neg (by omega), if_pos rfl])
          have HPM := Lib.hid hp
          clear ha hb hp
          have HX2 := Lib.hid hx; have HY2 := Lib.hid hy; have HZ2 := Lib.hid hz; have HB2 := Lib.hid hbel
          have HM := Lib.hid hm1; have HM2 := Lib.hid hm2
          clear hx hy hz hbel hm1 hm2
          go_wp2_with fail
          refine (power_any b p (by omega) HPM.out wr (fun i hi => ⟨(HB2.out.cell (p := ⟨1, i * 2, none⟩) hP1).trans (HPP.out i hi).1, (HB2.out.cell (p := ⟨1, i * 2 + 1, none⟩) hP1).trans (HPP.out i hi).2⟩) (Nat.lt_of_lt_of_le hP1 HB2.out.size)).mono ?_
          rintro e wq ⟨rfl, hbq⟩
          replace HX2 := Lib.hid (HX2.out.below hbq); replace HY2 := Lib.hid (HY2.out.below hbq); replace HZ2 := Lib.hid (HZ2.out.below hbq); replace HB2 := Lib.hid (HB2.out.trans (hbq.mono HB2.out.size))
          clear hbq
          have czk := (HZ2.out.cell k).trans (czV_get (onWay S k n) 4 k hlt)
          rw [HOKK.out] at czk
          have hfr := HZ2.out.frozen k
          have l0 := HX2.out.lt; have l1 := HY2.out.lt; have l2 := HZ2.out.lt
          go_wp2_with fail
          have hbP := Blk.new wq 257 #[.int .i64 (pwR p), .int .i64 (pwI p)]
          have czk' : (wq.alloc (.cells #[.int .i64 (pwR p), .int .i64 (pwI p)] 257)).cell? ⟨w.heap.size + 1 + 1, k, none⟩ = some (.complex .f32 (S k n).1 (S k n).2) := ((Below.refl _ wq).alloc (Nat.le_refl _) _ |>.cell (p := ⟨w.heap.size + 1 + 1, k, none⟩) l2).trans czk
          have hx3 := HX2.out.alloc (.cells #[.int .i64 (pwR p), .int .i64 (pwI p)] 257); have hy3 := HY2.out.alloc (.cells #[.int .i64 (pwR p), .int .i64 (pwI p)] 257); have hz3 := HZ2.out.alloc (.cells #[.int .i64 (pwR p), .int .i64 (pwI p)] 257)
          have hb3 := HB2.out.alloc HB2.out.size (.cells #[.int .i64 (pwR p), .int .i64 (pwI p)] 257)
          obtain ⟨bP, hbPe⟩ : ∃ b, wq.heap.size = b := ⟨_, rfl⟩
          rw [hbPe] at hbP l0 l1 l2 ⊢
          generalize wq.alloc (.cells #[.int .i64 (pwR p), .int .i64 (pwI p)] 257) = w3 at hbP czk' hx3 hy3 hz3 hb3 ⊢
          have p0 := hbP.cell 0; have p1 := hbP.cell 1
          simp only [List.getElem?_toArray, List.getElem?_cons_zero, List.getElem?_cons_succ] at p0 p1
          have fzk := hz3.frozen k
          have HX3 := Lib.hid hx3; have HY3 := Lib.hid hy3; have HZ3 := Lib.hid hz3; have HB3 := Lib.hid hb3
          clear hx3 hy3 hz3 hb3 hbPe czk hfr hbP
          go_region
          have HZ4 : RowKit.Hid (Blk (w3.setCell ⟨w.heap.size + 1 + 1, k, none⟩ (.complex .f32 (S k (n + 1)).1 (S k (n + 1)).2)) (w.heap.size + 1 + 1) 138 (czV (onWay S k (n + 1)) 4)) := Lib.hid (by
            have h := HZ3.out.set_ k (.complex .f32 (S k (n + 1)).1 (S k (n + 1)).2)
            have e : onWay S k (n + 1) k = S k (n + 1) := by unfold onWay; rw [if_neg (by omega), if_pos rfl]
            have h2 := czV_set (onWay S k n) (onWay S k (n + 1)) 4 k hlt (fun j _ hj => by unfold onWay; by_cases hjk : j < k <;> simp [hjk, hj])
            rw [e] at h2
            rw [h2] at h
            exact h)
          go_wp2
          go_roundw
          case rel => exact ⟨n + 1, by omega, by go_num, HX3.out.far (p := ⟨w.heap.size + 1 + 1, k, none⟩) (by simp; omega) _, HY3.out.far (p := ⟨w.heap.size + 1 + 1, k, none⟩) (by simp) _, HZ4.out, (HB3.out.setCell (p := ⟨w.heap.size + 1 + 1, k, none⟩) (by simp; omega) _).drew⟩
          case measure => simp [intOf]; omega
        · have hn4 : n = 4 := by omega
          subst hn4
          have HZ4 : RowKit.Hid (czV (onWay S k 4) 4 = czV (onWay S (k + 1) 0) 4) := Lib.hid (by
            unfold czV
            congr 1
            apply List.map_congr_left
            intro j hj
            have hj4 : j < 4 := by simpa using hj
            have : onWay S k 4 j = onWay S (k + 1) 0 j := by
              unfold onWay
              by_cases h1 : j < k
              · rw [if_pos h1, if_pos (by omega)]
              · by_cases h2 : j = k
                · subst h2; rw [if_neg (by omega), if_pos rfl, if_pos (by omega)]
                · rw [if_neg h1, if_neg h2, if_neg (by omega)]
                  split
                  · exact (HS.out.1 _ (by omega)).symm
                  · rfl
            rw [this])
          have HX3 := Lib.hid hx; have HY3 := Lib.hid hy; have HZ3 := Lib.hid hz; have HB3 := Lib.hid hbel
          clear hx hy hz hbel
          go_wp2
          go_roundw
          case rel => exact ⟨k + 1, by omega, by go_num, HX3.out, HY3.out, by rw [← HZ4.out]; exact HZ3.out, HB3.out⟩
          case measure => simp [intOf]; omega
    · have hk4 : k = 4 := by omega
      subst hk4
      have d0 := hy.cell 0; have d1 := hy.cell 1; have d2 := hy.cell 2; have d3 := hy.cell 3
      have e4 : czV (onWay S 4 0) 4 = czV (fun k => S k 4) 4 := rfl
      rw [e4] at hz
      have t0 := (hz.cell 0).trans (czV_get _ 4 0 (by omega)); have t1 := (hz.cell 1).trans (czV_get _ 4 1 (by omega)); have t2 := (hz.cell 2).trans (czV_get _ 4 2 (by omega)); have t3 := (hz.cell 3).trans (czV_get _ 4 3 (by omega))
      have fy := fun i => hy.frozen i
      simp only [List.getElem?_toArray, List.getElem?_cons_zero, List.getElem?_cons_succ] at d0 d1 d2 d3
      have HB3 := Lib.hid hbel
      clear hx hy hz hbel e4
      go_wp2
      exact bodyPost_ret (v := .agg (czV (fun k => S k 4) 4)) (by simp [results, Tryz.results159, go_sem, d0, d1, d2, d3, czV, List.range, List.range.loop]) rfl ⟨rfl, below_set4 HB3.out (by omega) _ _ _ _⟩
theorem firstOf_four (A : Option Addr) (l : List Nat) (F : FuncId) (g : Nat → Int) (w : World) (hl : l.length = 4) (hr : Rd w A (fl l)) (hcf : Enters Tryz.prog F)
    (hF : ∀ b ∈ l, ∀ w, Calls Tryz.prog F #[.float .f32 b] w fun e w' => e = .returned (.int .i64 (g b)) ∧ Below w.heap.size w w') :
    Calls Tryz.prog 116 #[.slice A 4 4, .func (.func F) #[] #[]] w fun e w' => e = .returned (.int .i64 (firstF g l)) ∧ Below w.heap.size w w' := by
  have h := firstOfF_any A 4 l F g w (by rw [hl]; decide) hr hcf hF
  rw [hl] at h
  exact h
set_option maxRecDepth 100000 in
set_option maxHeartbeats 1000000 in
theorem four_ok (l : Nat → Nat) (hl : firstF (chk 1024) [l 0, l 1, l 2, l 3] = 0) (S : Nat → Nat → Nat × Nat) (hS : StepOk (fun n => (l n, 0)) 1 S) (w : World) (hP : ∀ i, i < 4 → w.cell? ⟨1, i * 2, none⟩ = some (.int .i64 (pwR i)) ∧ w.cell? ⟨1, i * 2 + 1, none⟩ = some (.int .i64 (pwI i))) (hP1 : 1 < w.heap.size) :
    Calls Tryz.prog 91 #[.agg #[.float .f32 (l 0), .float .f32 (l 1), .float .f32 (l 2), .float .f32 (l 3)]] w fun e w' => e = .returned (.tuple #[.agg (czV (fun k => S k 4) 4), .int .i64 0]) ∧ Below w.heap.size w w' := by
  have HS := Lib.hid hS; have HPP := Lib.hid hP; have HL := Lib.hid hl
  clear hS hP hl
  go_enter Tryz.func91, Tryz.ntmps91
  go_wp2_with fail
  have hbx := (Blk.new w 135 #[.float .f32 (l 0), .float .f32 (l 1), .float .f32 (l 2), .float .f32 (l 3)]).alloc (.cells #[.complex .f32 0 0, .complex .f32 0 0, .complex .f32 0 0, .complex .f32 0 0] 138)
  have hby := Blk.new (w.alloc (.cells #[.float .f32 (l 0), .float .f32 (l 1), .float .f32 (l 2), .float .f32 (l 3)] 135)) 138 #[.complex .f32 0 0, .complex .f32 0 0, .complex .f32 0 0, .complex .f32 0 0]
  simp only [World.size_alloc] at hby
  have hb0 : Below w.heap.size w ((w.alloc (.cells #[.float .f32 (l 0), .float .f32 (l 1), .float .f32 (l 2), .float .f32 (l 3)] 135)).alloc (.cells #[.complex .f32 0 0, .complex .f32 0 0, .complex .f32 0 0, .complex .f32 0 0] 138)) := ((Below.refl _ _).alloc (Nat.le_refl _) _).alloc (by simp) _
  generalize (w.alloc (.cells #[.float .f32 (l 0), .float .f32 (l 1), .float .f32 (l 2), .float .f32 (l 3)] 135)).alloc (.cells #[.complex .f32 0 0, .complex .f32 0 0, .complex .f32 0 0, .complex .f32 0 0] 138) = w0 at hbx hby hb0 ⊢
  have hrd : Rd w0 (some ⟨w.heap.size, 0, none⟩) (fl [l 0, l 1, l 2, l 3]) := rd_of_blk hbx rfl
  have HX := Lib.hid hbx; have HY := Lib.hid hby; have HB := Lib.hid hb0
  clear hbx hby hb0
  go_wp2_with fail
  refine (firstOf_four _ [l 0, l 1, l 2, l 3] 26 (chk 1024) _ rfl hrd enters_CheckSample (fun b _ w => checkSample_any b w)).mono ?_
  rintro e w1 ⟨rfl, hb1⟩
  rw [HL.out]
  have hx := HX.out.below hb1; have hy := HY.out.below hb1; have hb2 := HB.out.trans (hb1.mono HB.out.size)
  have x0 := hx.cell 0; have x1 := hx.cell 1; have x2 := hx.cell 2; have x3 := hx.cell 3
  simp only [List.getElem?_toArray, List.getElem?_cons_zero, List.getElem?_cons_succ] at x0 x1 x2 x3
  have l0 := hx.lt; have l1 := hy.lt
  have HX1 := Lib.hid hx; have HY1 := Lib.hid hy; have HB1 := Lib.hid hb2
  clear hx hy hb2 hb1 hrd
  go_wp2_with fail
  have hn := Blk.new w1 138 #[.complex .f32 0 0, .complex .f32 0 0, .complex .f32 0 0, .complex .f32 0 0]
  have hx := HX1.out.alloc (.cells #[.complex .f32 0 0, .complex .f32 0 0, .complex .f32 0 0, .complex .f32 0 0] 138); have hy := HY1.out.alloc (.cells #[.complex .f32 0 0, .complex .f32 0 0, .complex .f32 0 0, .complex .f32 0 0] 138); have hb2 := HB1.out.alloc HB1.out.size (.cells #[.complex .f32 0 0, .complex .f32 0 0, .complex .f32 0 0, .complex .f32 0 0] 138)
  obtain ⟨b5, hb5⟩ : ∃ b, w1.heap.size = b := ⟨_, rfl⟩
  rw [hb5] at hn l0 l1 ⊢
  generalize w1.alloc (.cells #[.complex .f32 0 0, .complex .f32 0 0, .complex .f32 0 0, .complex .f32 0 0] 138) = w2 at hn hx hy hb2 ⊢
  have HN := Lib.hid (show Blk w2 b5 138 (czV (fun j => if j < 0 then (l j, 0) else (0, 0)) 4) from hn)
  have HX2 := Lib.hid hx; have HY2 := Lib.hid hy; have HB2 := Lib.hid hb2
  clear hn hx hy hb2 hb5 x0 x1 x2 x3
  go_loopw [15] (fun i wr => ∃ n : Nat, n ≤ 4 ∧ i = .int .i64 n ∧ Blk wr (w.heap.size + 1) 138 #[.complex .f32 0 0, .complex .f32 0 0, .complex .f32 0 0, .complex .f32 0 0] ∧ Blk wr b5 138 (czV (fun j => if j < n then (l j, 0) else (0, 0)) 4) ∧ Below w.heap.size w wr) (fun i _ => 4 - (intOf i).toNat)
  case atStart => exact ⟨0, by omega, rfl, HY2.out, HN.out, HB2.out⟩
  case round =>
    obtain ⟨n, hn, rfl, hy, hz, hbel⟩ := hrel
    by_cases hlt : n < 4
    · have hix : ∀ W, (Instr.index 135 (.agg #[.float .f32 (l 0), .float .f32 (l 1), .float .f32 (l 2), .float .f32 (l 3)]) (.int .i64 (n : Int))).run Tryz.prog W = .ok (.float .f32 (l n)) W := fun W => by
        have : n = 0 ∨ n = 1 ∨ n = 2 ∨ n = 3 := by omega
        rcases this with rfl | rfl | rfl | rfl <;> rfl
      have czn := (hz.cell n).trans (czV_get _ 4 n hlt)
      have hfr := hz.frozen n
      have HZ4 : RowKit.Hid (Blk (wr.setCell ⟨b5, n, none⟩ (.complex .f32 (l n) 0)) b5 138 (czV (fun j => if j < n + 1 then (l j, 0) else (0, 0)) 4)) := Lib.hid (by
        have h := hz.set_ n (.complex .f32 (l n) 0)
        have h2 := czV_set (fun j => if j < n then (l j, 0) else (0, 0)) (fun j => if j < n + 1 then (l j, 0) else (0, 0)) 4 n hlt (fun j _ hj => by
          by_cases h1 : j < n
          · rw [if_pos h1, if_pos (by omega)]
          · rw [if_neg h1, if_neg (by omega)])
        simp only [if_pos (Nat.lt_succ_self n)] at h2
        rw [h2] at h
        exact h)
      have HY3 := Lib.hid hy; have HB3 := Lib.hid hbel
      clear hy hz hbel
      go_wp2
      go_roundw
      case rel => exact ⟨n + 1, by omega, by go_num, HY3.out.far (p := ⟨b5, n, none⟩) (by simp; omega) _, HZ4.out, HB3.out.setCell (p := ⟨b5, n, none⟩) (by simp; omega) _⟩
      case measure => simp [intOf]; omega
    · have hn4 : n = 4 := by omega
      subst hn4
      have hz' : Blk wr b5 138 (czV (fun j => (l j, 0)) 4) := hz
      have t0 := (hz'.cell 0).trans (czV_get _ 4 0 (by omega)); have t1 := (hz'.cell 1).trans (czV_get _ 4 1 (by omega)); have t2 := (hz'.cell 2).trans (czV_get _ 4 2 (by omega)); have t3 := (hz'.cell 3).trans (czV_get _ 4 3 (by omega))
      have HY3 := Lib.hid hy; have HB3 := Lib.hid hbel
      clear hy hz hz' hbel
      go_wp2_with fail
      have hp' : ∀ i, i < 4 → wr.cell? ⟨1, i * 2, none⟩ = some (.int .i64 (pwR i)) ∧ wr.cell? ⟨1, i * 2 + 1, none⟩ = some (.int .i64 (pwI i)) := fun i hi =>
        ⟨(HB3.out.cell (p := ⟨1, i * 2, none⟩) hP1).trans (HPP.out i hi).1, (HB3.out.cell (p := ⟨1, i * 2 + 1, none⟩) hP1).trans (HPP.out i hi).2⟩
      refine (turned_any (fun n => (l n, 0)) 1 (by omega) S HS.out _ hp' (Nat.lt_of_lt_of_le hP1 HB3.out.size)).mono ?_
      rintro e w4 ⟨rfl, hb4⟩
      have hy4 := HY3.out.below hb4
      have d0 := hy4.cell 0; have d1 := hy4.cell 1; have d2 := hy4.cell 2; have d3 := hy4.cell 3
      have fy := fun i => hy4.frozen i
      simp only [List.getElem?_toArray, List.getElem?_cons_zero, List.getElem?_cons_succ] at d0 d1 d2 d3
      have HB4 := Lib.hid (HB3.out.trans (hb4.mono HB3.out.size))
      rw [show czV (fun k => S k 4) 4 = #[.complex .f32 (S 0 4).1 (S 0 4).2, .complex .f32 (S 1 4).1 (S 1 4).2, .complex .f32 (S 2 4).1 (S 2 4).2, .complex .f32 (S 3 4).1 (S 3 4).2] from rfl]
      clear hy4 hb4
      go_wp2
      exact bodyPost_ret (v := .tuple #[.agg #[.complex .f32 (S 0 4).1 (S 0 4).2, .complex .f32 (S 1 4).1 (S 1 4).2, .complex .f32 (S 2 4).1 (S 2 4).2, .complex .f32 (S 3 4).1 (S 3 4).2], .int .i64 0]) (by simp [results, Tryz.results91, go_sem, d0, d1, d2, d3]) rfl ⟨rfl, below_set4 HB4.out (by omega) _ _ _ _⟩
/-- The sums as they are computed. -/
def sumS (z : Nat → Nat × Nat) (step k : Nat) : Nat → Nat × Nat
  | 0 => (0, 0)
  | n + 1 => (((c64Mul (z n).1 (z n).2 (floatOfInt .f32 (pwR (step * k * n % 4))) (floatOfInt .f32 (pwI (step * k * n % 4)))).bind fun m => cSumBits .add .f32 (sumS z step k n).1 (sumS z step k n).2 m.1 m.2)).getD (0, 0)
def stepB (z : Nat → Nat × Nat) (step : Nat) : Bool :=
  (List.range 4).all fun k => (List.range 4).all fun n => ((c64Mul (z n).1 (z n).2 (floatOfInt .f32 (pwR (step * k * n % 4))) (floatOfInt .f32 (pwI (step * k * n % 4)))).bind fun m => cSumBits .add .f32 (sumS z step k n).1 (sumS z step k n).2 m.1 m.2).isSome
theorem stepOk_of {z : Nat → Nat × Nat} {step : Nat} (h : stepB z step = true) : StepOk z step (sumS z step) :=
  ⟨fun _ _ => rfl, fun k n hk hn => by
    unfold stepB at h
    rw [List.all_eq_true] at h
    have h1 := h k (by simpa using hk)
    rw [List.all_eq_true] at h1
    have h2 := h1 n (by simpa using hn)
    obtain ⟨v, hv⟩ := Option.isSome_iff_exists.1 h2
    obtain ⟨m, hm, hm2⟩ := Option.bind_eq_some_iff.1 hv
    refine ⟨m, hm, ?_⟩
    rw [hm2]
    show some v = some (sumS z step k (n + 1))
    rw [sumS, hv]; rfl⟩
def oneToFour (n : Nat) : Nat := [1065353216, 1073741824, 1077936128, 1082130432].getD n 0
theorem awake_step : StepOk (fun n => (oneToFour n, 0)) 1 (sumS (fun n => (oneToFour n, 0)) 1) := stepOk_of (by decide +kernel)

end Go.Proofs.YtkjkjhheckfhbaaGreatDoor
