/- Parts of a proof: The transform of four samples. The stream of a picture. Two frames compared. -/
import Derived.Test.YthbdiifinkbcnaaGreatDoorT6
import Derived.Maps.AppendAt
import Derived.Lib.AppendStr
import Derived.Lib.SlBytesConst
import Derived.ArgAppend
import Derived.Laws.StructEq
namespace Go.Proofs.YthbdiifinkbcnaaGreatDoor
open Go.RowKit
set_option linter.unusedVariables false
attribute [local go_sem] run_store_float run_store_complex
/-- '*' on complex64: by complex128, and back. -/
def c64Mul (a b c d : Nat) : Option (Nat × Nat) :=
  (floatToFloatBits .f32 a .f64).bind fun A => (floatToFloatBits .f32 b .f64).bind fun B => (floatToFloatBits .f32 c .f64).bind fun C => (floatToFloatBits .f32 d .f64).bind fun D =>
  (cMulBits A B C D).bind fun r => (floatToFloatBits .f64 r.1 .f32).bind fun re => (floatToFloatBits .f64 r.2 .f32).bind fun im => some (re, im)
theorem run_conv_bits {P : Program} (w : World) {s d : FloatKind} {x r : Nat} (hn : s ≠ d) (h : floatToFloatBits s x d = some r) : (Op.Complex.conv s x d).run P w = .ok r w := by
  simp [Op.Complex.conv, hn, run_floatToFloat w h]
theorem run_complex64_mul {P : Program} (w : World) (t : TypeId) (a b c d re im : Nat) (h : c64Mul a b c d = some (re, im)) :
    (binOp .mul t (.complex .f32 a b) (.complex .f32 c d)).run P w = .ok (.complex .f32 re im) w := by
  unfold c64Mul at h
  obtain ⟨A, hA, h⟩ := bind_some h
  obtain ⟨B, hB, h⟩ := bind_some h
  obtain ⟨C, hC, h⟩ := bind_some h
  obtain ⟨D, hD, h⟩ := bind_some h
  obtain ⟨r, hr, h⟩ := bind_some h
  obtain ⟨x, hx, h⟩ := bind_some h
  obtain ⟨y, hy, h⟩ := bind_some h
  cases h
  unfold cMulBits at hr
  obtain ⟨ac, h1, hr⟩ := bind_some hr
  obtain ⟨bd, h2, hr⟩ := bind_some hr
  obtain ⟨p, h3, hr⟩ := bind_some hr
  obtain ⟨ad, h4, hr⟩ := bind_some hr
  obtain ⟨bc, h5, hr⟩ := bind_some hr
  obtain ⟨q, h6, hr⟩ := bind_some hr
  cases hr
  have n1 : FloatKind.f32 ≠ FloatKind.f64 := by decide
  have n2 : FloatKind.f64 ≠ FloatKind.f32 := by decide
  simp [binOp, Op.complexOp, Op.Complex.product, Op.Complex.mul, Op.Complex.sub, Op.Complex.add, run_carith w h1, run_carith w h2, run_carith w h3, run_carith w h4, run_carith w h5, run_carith w h6, run_conv_bits w n1 hA, run_conv_bits w n1 hB, run_conv_bits w n1 hC, run_conv_bits w n1 hD, run_conv_bits w n2 hx, run_conv_bits w n2 hy]
/-- The bits of the powers of -i: real part, imaginary part. -/
def pwR : Nat → Int
  | 0 => 1
  | 2 => -1
  | _ => 0
def pwI : Nat → Int
  | 1 => -1
  | 3 => 1
  | _ => 0
def czV (S : Nat → Nat × Nat) (n : Nat) : Array Value := ((List.range n).map (fun k => Value.complex .f32 (S k).1 (S k).2)).toArray
/-- One step of a transform. -/
def StepOk (z : Nat → Nat × Nat) (step : Nat) (S : Nat → Nat → Nat × Nat) : Prop :=
  (∀ k, k < 4 → S k 0 = (0, 0)) ∧ ∀ k n, k < 4 → n < 4 → ∃ m, c64Mul (z n).1 (z n).2 (floatOfInt .f32 (pwR (step * k * n % 4))) (floatOfInt .f32 (pwI (step * k * n % 4))) = some m ∧ cSumBits .add .f32 (S k n).1 (S k n).2 m.1 m.2 = some (S k (n + 1))
theorem czV_get (S : Nat → Nat × Nat) (n k : Nat) (h : k < n) : (czV S n)[k]? = some (.complex .f32 (S k).1 (S k).2) := by simp [czV, h]
theorem czV_set (S S' : Nat → Nat × Nat) (n k : Nat) (h : k < n) (hs : ∀ j, j < n → j ≠ k → S' j = S j) : (czV S n).setIfInBounds k (.complex .f32 (S' k).1 (S' k).2) = czV S' n := by
  apply Array.ext_getElem?
  intro i
  rw [Array.getElem?_setIfInBounds]
  by_cases e : k = i
  · subst e; rw [if_pos rfl, czV_get S' n k h]; simp [czV, h]
  · rw [if_neg e]
    by_cases hi : i < n
    · rw [czV_get S n i hi, czV_get S' n i hi, hs i hi (fun h => e h.symm)]
    · simp [czV, hi]
/-- The sums on the way: behind the rows before k, and n numbers of the row k. -/
def onWay (S : Nat → Nat → Nat × Nat) (k n : Nat) (j : Nat) : Nat × Nat := if j < k then S j 4 else if j = k then S k n else (0, 0)
set_option maxRecDepth 100000 in
set_option maxHeartbeats 1000000 in
theorem turned_any (z : Nat → Nat × Nat) (step : Nat) (hstep : step ≤ 3) (S : Nat → Nat → Nat × Nat) (hS : StepOk z step S) (w : World) (hP : ∀ i, i < 4 → w.cell? ⟨1, i * 2, none⟩ = some (.int .i64 (pwR i)) ∧ w.cell? ⟨1, i * 2 + 1, none⟩ = some (.int .i64 (pwI i))) (hP1 : 1 < w.heap.size) :
    Calls Tryz.prog 157 #[.agg (czV z 4), .int .i64 (step : Int)] w fun e w' => e = .returned (.agg (czV (fun k => S k 4) 4)) ∧ Below w.heap.size w w' := by
  have HS := Lib.hid hS; clear hS
  have HPP := Lib.hid hP; clear hP
  have hc4 : czV z 4 = #[.complex .f32 (z 0).1 (z 0).2, .complex .f32 (z 1).1 (z 1).2, .complex .f32 (z 2).1 (z 2).2, .complex .f32 (z 3).1 (z 3).2] := rfl
  rw [hc4]
  clear hc4
  go_enter Tryz.func157, Tryz.ntmps157
  go_wp2_with fail
  have hbx := ((Blk.new w 138 #[.complex .f32 (z 0).1 (z 0).2, .complex .f32 (z 1).1 (z 1).2, .complex .f32 (z 2).1 (z 2).2, .complex .f32 (z 3).1 (z 3).2]).alloc (.cells #[.complex .f32 0 0, .complex .f32 0 0, .complex .f32 0 0, .complex .f32 0 0] 138)).alloc (.cells #[.complex .f32 0 0, .complex .f32 0 0, .complex .f32 0 0, .complex .f32 0 0] 138)
  have hby := (Blk.new (w.alloc (.cells #[.complex .f32 (z 0).1 (z 0).2, .complex .f32 (z 1).1 (z 1).2, .complex .f32 (z 2).1 (z 2).2, .complex .f32 (z 3).1 (z 3).2] 138)) 138 #[.complex .f32 0 0, .complex .f32 0 0, .complex .f32 0 0, .complex .f32 0 0]).alloc (.cells #[.complex .f32 0 0, .complex .f32 0 0, .complex .f32 0 0, .complex .f32 0 0] 138)
  have hbz := Blk.new ((w.alloc (.cells #[.complex .f32 (z 0).1 (z 0).2, .complex .f32 (z 1).1 (z 1).2, .complex .f32 (z 2).1 (z 2).2, .complex .f32 (z 3).1 (z 3).2] 138)).alloc (.cells #[.complex .f32 0 0, .complex .f32 0 0, .complex .f32 0 0, .complex .f32 0 0] 138)) 138 #[.complex .f32 0 0, .complex .f32 0 0, .complex .f32 0 0, .complex .f32 0 0]
  simp only [World.size_alloc] at hby hbz
  have hb0 : Below w.heap.size w (((w.alloc (.cells #[.complex .f32 (z 0).1 (z 0).2, .complex .f32 (z 1).1 (z 1).2, .complex .f32 (z 2).1 (z 2).2, .complex .f32 (z 3).1 (z 3).2] 138)).alloc (.cells #[.complex .f32 0 0, .complex .f32 0 0, .complex .f32 0 0, .complex .f32 0 0] 138)).alloc (.cells #[.complex .f32 0 0, .complex .f32 0 0, .complex .f32 0 0, .complex .f32 0 0] 138)) := (((Below.refl _ _).alloc (Nat.le_refl _) _).alloc (by simp) _).alloc (by simp only [World.size_alloc]; omega) _
  generalize ((w.alloc (.cells #[.complex .f32 (z 0).1 (z 0).2, .complex .f32 (z 1).1 (z 1).2, .complex .f32 (z 2).1 (z 2).2, .complex .f32 (z 3).1 (z 3).2] 138)).alloc (.cells #[.complex .f32 0 0, .complex .f32 0 0, .complex .f32 0 0, .complex .f32 0 0] 138)).alloc (.cells #[.complex .f32 0 0, .complex .f32 0 0, .complex .f32 0 0, .complex .f32 0 0] 138) = w0 at hbx hby hbz hb0 ⊢
  have hbz' : Blk w0 (w.heap.size + 1 + 1) 138 (czV (onWay S 0 0) 4) := by
    have h0 : ∀ k, k < 4 → onWay S 0 0 k = (0, 0) := fun k hk => by
      unfold onWay
      rw [if_neg (by omega)]
      split
      · exact HS.out.1 0 (by omega)
      · rfl
    have : czV (onWay S 0 0) 4 = #[.complex .f32 0 0, .complex .f32 0 0, .complex .f32 0 0, .complex .f32 0 0] := by
      show (#[Value.complex .f32 (onWay S 0 0 0).1 (onWay S 0 0 0).2, .complex .f32 (onWay S 0 0 1).1 (onWay S 0 0 1).2, .complex .f32 (onWay S 0 0 2).1 (onWay S 0 0 2).2, .complex .f32 (onWay S 0 0 3).1 (onWay S 0 0 3).2] : Array Value) = _
      rw [h0 0 (by omega), h0 1 (by omega), h0 2 (by omega), h0 3 (by omega)]
    rw [this]; exact hbz
  have HX := Lib.hid hbx; have HY := Lib.hid hby; have HZ := Lib.hid hbz'; have HB := Lib.hid hb0
  clear hbx hby hbz hbz' hb0
  go_loopw [10] (fun i wr => ∃ k : Nat, k ≤ 4 ∧ i = .int .i64 k ∧ Blk wr w.heap.size 138 #[.complex .f32 (z 0).1 (z 0).2, .complex .f32 (z 1).1 (z 1).2, .complex .f32 (z 2).1 (z 2).2, .complex .f32 (z 3).1 (z 3).2] ∧ Blk wr (w.heap.size + 1) 138 #[.complex .f32 0 0, .complex .f32 0 0, .complex .f32 0 0, .complex .f32 0 0] ∧ Blk wr (w.heap.size + 1 + 1) 138 (czV (onWay S k 0) 4) ∧ Below w.heap.size w wr) (fun i _ => 4 - (intOf i).toNat)
  case atStart => exact ⟨0, by omega, rfl, HX.out, HY.out, HZ.out, HB.out⟩
  case round =>
    obtain ⟨k, hk, rfl, hx, hy, hz, hbel⟩ := hrel
    obtain ⟨wo, rfl⟩ : ∃ wo : World, wo = wr := ⟨_, rfl⟩
    by_cases hlt : k < 4
    · have x0 := hx.cell 0; have x1 := hx.cell 1; have x2 := hx.cell 2; have x3 := hx.cell 3
      simp only [List.getElem?_toArray, List.getElem?_cons_zero, List.getElem?_cons_succ] at x0 x1 x2 x3
      have HX1 := Lib.hid hx; have HY1 := Lib.hid hy; have HZ1 := Lib.hid hz; have HB1 := Lib.hid hbel
      clear hx hy hz hbel
      go_wp2_with fail
      go_loopw [14] (fun i wr => ∃ n : Nat, n ≤ 4 ∧ i = .int .i64 n ∧ Blk wr w.heap.size 138 #[.complex .f32 (z 0).1 (z 0).2, .complex .f32 (z 1).1 (z 1).2, .complex .f32 (z 2).1 (z 2).2, .complex .f32 (z 3).1 (z 3).2] ∧ Blk wr (w.heap.size + 1) 138 #[.complex .f32 0 0, .complex .f32 0 0, .complex .f32 0 0, .complex .f32 0 0] ∧ Blk wr (w.heap.size + 1 + 1) 138 (czV (onWay S k n) 4) ∧ Below w.heap.size w wr) (fun i _ => 4 - (intOf i).toNat)
      case atStart => exact ⟨0, by omega, rfl, HX1.out, HY1.out, HZ1.out, HB1.out⟩
      case round =>
        obtain ⟨n, hn, rfl, hx, hy, hz, hbel⟩ := hrel
        by_cases hln : n < 4
        · obtain ⟨m, hm1, hm2⟩ := HS.out.2 k n hlt hln
          obtain ⟨a, ha⟩ : ∃ a, step * k = a := ⟨_, rfl⟩
          have hab : a ≤ 9 := by rw [← ha]; exact Nat.mul_le_mul hstep (by omega : k ≤ 3)
          obtain ⟨b, hb⟩ : ∃ b, a * n = b := ⟨_, rfl⟩
          have hbb : b ≤ 27 := by rw [← hb]; exact Nat.mul_le_mul hab (by omega : n ≤ 3)
          obtain ⟨p, hp⟩ : ∃ p, b % 4 = p := ⟨_, rfl⟩
          have hpb : p < 4 := by omega
          rw [ha, hb, hp] at hm1
          have e1 : (step : Int) * (k : Int) = (a : Int) := by rw [← ha]; simp
          have e2 : (a : Int) * (n : Int) = (b : Int) := by rw [← hb]; simp
          have e3 : (b : Int) % 4 = (p : Int) := by omega
          have hix : ∀ W, (Instr.index 138 (.agg #[.complex .f32 (z 0).1 (z 0).2, .complex .f32 (z 1).1 (z 1).2, .complex .f32 (z 2).1 (z 2).2, .complex .f32 (z 3).1 (z 3).2]) (.int .i64 (n : Int))).run Tryz.prog W = .ok (.complex .f32 (z n).1 (z n).2) W := fun W => by
            have : n = 0 ∨ n = 1 ∨ n = 2 ∨ n = 3 := by omega
            rcases this with rfl | rfl | rfl | rfl <;> rfl
          obtain ⟨q1, q2⟩ := HPP.out p hpb
          have g1 := (hbel.cell (p := ⟨1, p * 2, none⟩) hP1).trans q1
          have g2 := (hbel.cell (p := ⟨1, p * 2 + 1, none⟩) hP1).trans q2
          have hmul := fun W => run_complex64_mul (P := Tryz.prog) W 137 _ _ _ _ _ _ hm1
          have hadd := fun W => run_complex_sum (P := Tryz.prog) W .add (.inl rfl) 137 .f32 _ _ _ _ _ _ hm2
          have czk := (hz.cell k).trans (czV_get (onWay S k n) 4 k hlt)
          have hok : onWay S k n k = S k n := by unfold onWay; rw [if_neg (by omega), if_pos rfl]
          rw [hok] at czk
          have hfr := hz.frozen k
          clear ha hb hp q1 q2 hok
          have l0 := hx.lt; have l1 := hy.lt; have l2 := hz.lt
          have HX2 := Lib.hid hx; have HY2 := Lib.hid hy; have HZ2 := Lib.hid hz; have HB2 := Lib.hid hbel
          have HM := Lib.hid hm1; have HM2 := Lib.hid hm2
          clear hx hy hz hbel hm1 hm2
          go_wp2_with fail
          have hbP := Blk.new wr 250 #[.int .i64 (pwR p), .int .i64 (pwI p)]
          have czk' : (wr.alloc (.cells #[.int .i64 (pwR p), .int .i64 (pwI p)] 250)).cell? ⟨w.heap.size + 1 + 1, k, none⟩ = some (.complex .f32 (S k n).1 (S k n).2) := ((Below.refl _ wr).alloc (Nat.le_refl _) _ |>.cell (p := ⟨w.heap.size + 1 + 1, k, none⟩) l2).trans czk
          have hx3 := HX2.out.alloc (.cells #[.int .i64 (pwR p), .int .i64 (pwI p)] 250); have hy3 := HY2.out.alloc (.cells #[.int .i64 (pwR p), .int .i64 (pwI p)] 250); have hz3 := HZ2.out.alloc (.cells #[.int .i64 (pwR p), .int .i64 (pwI p)] 250)
          have hb3 := HB2.out.alloc HB2.out.size (.cells #[.int .i64 (pwR p), .int .i64 (pwI p)] 250)
          obtain ⟨bP, hbPe⟩ : ∃ b, wr.heap.size = b := ⟨_, rfl⟩
          rw [hbPe] at hbP l0 l1 l2 ⊢
          generalize wr.alloc (.cells #[.int .i64 (pwR p), .int .i64 (pwI p)] 250) = w3 at hbP czk' hx3 hy3 hz3 hb3 ⊢
          have p0 := hbP.cell 0; have p1 := hbP.cell 1
          simp only [List.getElem?_toArray, List.getElem?_cons_zero, List.getElem?_cons_succ] at p0 p1
          have fzk := hz3.frozen k
          have HX3 := Lib.hid hx3; have HY3 := Lib.hid hy3; have HZ3 := Lib.hid hz3; have HB3 := Lib.hid hb3
          clear hx3 hy3 hz3 hb3 hbPe g1 g2 czk hfr hbP
          go_region
          have HZ4 : RowKit.Hid (Blk (w3.setCell ⟨w.heap.size + 1 + 1, k, none⟩ (.complex .f32 (S k (n + 1)).1 (S k (n + 1)).2)) (w.heap.size + 1 + 1) 138 (czV (onWay S k (n + 1)) 4)) := Lib.hid (by
            have h := HZ3.out.set_ k (.complex .f32 (S k (n + 1)).1 (S k (n + 1)).2)
            have e : onWay S k (n + 1) k = S k (n + 1) := by unfold onWay; rw [if_neg (by omega), if_pos rfl]
            have h2 := czV_set (onWay S k n) (onWay S k (n + 1)) 4 k hlt (fun j _ hj => by unfold onWay; by_cases hjk : j < k <;> simp [hjk, hj])
            rw [e] at h2
            rw [h2] at h
            exact h)
          go_wp2
          go_roundw
          case rel => exact ⟨n + 1, by omega, by go_num, HX3.out.far (p := ⟨w.heap.size + 1 + 1, k, none⟩) (by simp; omega) _, HY3.out.far (p := ⟨w.heap.size + 1 + 1, k, none⟩) (by simp) _, HZ4.out, (HB3.out.setCell (p := ⟨w.heap.size + 1 + 1, k, none⟩) (by simp; omega) _).drew⟩
          case measure => simp [intOf]; omega
        · have hn4 : n = 4 := by omega
          subst hn4
          have HZ4 : RowKit.Hid (czV (onWay S k 4) 4 = czV (onWay S (k + 1) 0) 4) := Lib.hid (by
            unfold czV
            congr 1
            apply List.map_congr_left
            intro j hj
            have hj4 : j < 4 := by simpa using hj
            have : onWay S k 4 j = onWay S (k + 1) 0 j := by
              unfold onWay
              by_cases h1 : j < k
              · rw [if_pos h1, if_pos (by omega)]
              · by_cases h2 : j = k
                · subst h2; rw [if_neg (by omega), if_pos rfl, if_pos (by omega)]
                · rw [if_neg h1, if_neg h2, if_neg (by omega)]
                  split
                  · exact (HS.out.1 _ (by omega)).symm
                  · rfl
            rw [this])
          have HX3 := Lib.hid hx; have HY3 := Lib.hid hy; have HZ3 := Lib.hid hz; have HB3 := Lib.hid hbel
          clear hx hy hz hbel
          go_wp2
          go_roundw
          case rel => exact ⟨k + 1, by omega, by go_num, HX3.out, HY3.out, by rw [← HZ4.out]; exact HZ3.out, HB3.out⟩
          case measure => simp [intOf]; omega
    · have hk4 : k = 4 := by omega
      subst hk4
      have d0 := hy.cell 0; have d1 := hy.cell 1; have d2 := hy.cell 2; have d3 := hy.cell 3
      have e4 : czV (onWay S 4 0) 4 = czV (fun k => S k 4) 4 := rfl
      rw [e4] at hz
      have t0 := (hz.cell 0).trans (czV_get _ 4 0 (by omega)); have t1 := (hz.cell 1).trans (czV_get _ 4 1 (by omega)); have t2 := (hz.cell 2).trans (czV_get _ 4 2 (by omega)); have t3 := (hz.cell 3).trans (czV_get _ 4 3 (by omega))
      have fy := fun i => hy.frozen i
      simp only [List.getElem?_toArray, List.getElem?_cons_zero, List.getElem?_cons_succ] at d0 d1 d2 d3
      have HB3 := Lib.hid hbel
      clear hx hy hz hbel e4
      go_wp2
      exact bodyPost_ret (v := .agg (czV (fun k => S k 4) 4)) (by simp [results, Tryz.results157, go_sem, d0, d1, d2, d3, czV, List.range, List.range.loop]) rfl ⟨rfl, below_set4 HB3.out (by omega) _ _ _ _⟩
theorem firstOf_four (A : Option Addr) (l : List Nat) (F : FuncId) (g : Nat → Int) (w : World) (hl : l.length = 4) (hr : Rd w A (fl l)) (hcf : Enters Tryz.prog F)
    (hF : ∀ b ∈ l, ∀ w, Calls Tryz.prog F #[.float .f32 b] w fun e w' => e = .returned (.int .i64 (g b)) ∧ Below w.heap.size w w') :
    Calls Tryz.prog 113 #[.slice A 4 4, .func (.func F) #[] #[]] w fun e w' => e = .returned (.int .i64 (firstF g l)) ∧ Below w.heap.size w w' := by
  have h := firstOfF_any A 4 l F g w (by rw [hl]; decide) hr hcf hF
  rw [hl] at h
  exact h
set_option maxRecDepth 100000 in
set_option maxHeartbeats 1000000 in
theorem four_ok (l : Nat → Nat) (hl : firstF (chk 1024) [l 0, l 1, l 2, l 3] = 0) (S : Nat → Nat → Nat × Nat) (hS : StepOk (fun n => (l n, 0)) 1 S) (w : World) (hP : ∀ i, i < 4 → w.cell? ⟨1, i * 2, none⟩ = some (.int .i64 (pwR i)) ∧ w.cell? ⟨1, i * 2 + 1, none⟩ = some (.int .i64 (pwI i))) (hP1 : 1 < w.heap.size) :
    Calls Tryz.prog 89 #[.agg #[.float .f32 (l 0), .float .f32 (l 1), .float .f32 (l 2), .float .f32 (l 3)]] w fun e w' => e = .returned (.tuple #[.agg (czV (fun k => S k 4) 4), .int .i64 0]) ∧ Below w.heap.size w w' := by
  have HS := Lib.hid hS; have HPP := Lib.hid hP; have HL := Lib.hid hl
  clear hS hP hl
  go_enter Tryz.func89, Tryz.ntmps89
  go_wp2_with fail
  have hbx := (Blk.new w 135 #[.float .f32 (l 0), .float .f32 (l 1), .float .f32 (l 2), .float .f32 (l 3)]).alloc (.cells #[.complex .f32 0 0, .complex .f32 0 0, .complex .f32 0 0, .complex .f32 0 0] 138)
  have hby := Blk.new (w.alloc (.cells #[.float .f32 (l 0), .float .f32 (l 1), .float .f32 (l 2), .float .f32 (l 3)] 135)) 138 #[.complex .f32 0 0, .complex .f32 0 0, .complex .f32 0 0, .complex .f32 0 0]
  simp only [World.size_alloc] at hby
  have hb0 : Below w.heap.size w ((w.alloc (.cells #[.float .f32 (l 0), .float .f32 (l 1), .float .f32 (l 2), .float .f32 (l 3)] 135)).alloc (.cells #[.complex .f32 0 0, .complex .f32 0 0, .complex .f32 0 0, .complex .f32 0 0] 138)) := ((Below.refl _ _).alloc (Nat.le_refl _) _).alloc (by simp) _
  generalize (w.alloc (.cells #[.float .f32 (l 0), .float .f32 (l 1), .float .f32 (l 2), .float .f32 (l 3)] 135)).alloc (.cells #[.complex .f32 0 0, .complex .f32 0 0, .complex .f32 0 0, .complex .f32 0 0] 138) = w0 at hbx hby hb0 ⊢
  have hrd : Rd w0 (some ⟨w.heap.size, 0, none⟩) (fl [l 0, l 1, l 2, l 3]) := rd_of_blk hbx rfl
  have HX := Lib.hid hbx; have HY := Lib.hid hby; have HB := Lib.hid hb0
  clear hbx hby hb0
  go_wp2_with fail
  refine (firstOf_four _ [l 0, l 1, l 2, l 3] 24 (chk 1024) _ rfl hrd enters_CheckSample (fun b _ w => checkSample_any b w)).mono ?_
  rintro e w1 ⟨rfl, hb1⟩
  rw [HL.out]
  have hx := HX.out.below hb1; have hy := HY.out.below hb1; have hb2 := HB.out.trans (hb1.mono HB.out.size)
  have x0 := hx.cell 0; have x1 := hx.cell 1; have x2 := hx.cell 2; have x3 := hx.cell 3
  simp only [List.getElem?_toArray, List.getElem?_cons_zero, List.getElem?_cons_succ] at x0 x1 x2 x3
  have l0 := hx.lt; have l1 := hy.lt
  have HX1 := Lib.hid hx; have HY1 := Lib.hid hy; have HB1 := Lib.hid hb2
  clear hx hy hb2 hb1 hrd
  go_wp2_with fail
  have hn := Blk.new w1 138 #[.complex .f32 0 0, .complex .f32 0 0, .complex .f32 0 0, .complex .f32 0 0]
  have hx := HX1.out.alloc (.cells #[.complex .f32 0 0, .complex .f32 0 0, .complex .f32 0 0, .complex .f32 0 0] 138); have hy := HY1.out.alloc (.cells #[.complex .f32 0 0, .complex .f32 0 0, .complex .f32 0 0, .complex .f32 0 0] 138); have hb2 := HB1.out.alloc HB1.out.size (.cells #[.complex .f32 0 0, .complex .f32 0 0, .complex .f32 0 0, .complex .f32 0 0] 138)
  obtain ⟨b5, hb5⟩ : ∃ b, w1.heap.size = b := ⟨_, rfl⟩
  rw [hb5] at hn l0 l1 ⊢
  generalize w1.alloc (.cells #[.complex .f32 0 0, .complex .f32 0 0, .complex .f32 0 0, .complex .f32 0 0] 138) = w2 at hn hx hy hb2 ⊢
  have HN := Lib.hid (show Blk w2 b5 138 (czV (fun j => if j < 0 then (l j, 0) else (0, 0)) 4) from hn)
  have HX2 := Lib.hid hx; have HY2 := Lib.hid hy; have HB2 := Lib.hid hb2
  clear hn hx hy hb2 hb5 x0 x1 x2 x3
  go_loopw [15] (fun i wr => ∃ n : Nat, n ≤ 4 ∧ i = .int .i64 n ∧ Blk wr (w.heap.size + 1) 138 #[.complex .f32 0 0, .complex .f32 0 0, .complex .f32 0 0, .complex .f32 0 0] ∧ Blk wr b5 138 (czV (fun j => if j < n then (l j, 0) else (0, 0)) 4) ∧ Below w.heap.size w wr) (fun i _ => 4 - (intOf i).toNat)
  case atStart => exact ⟨0, by omega, rfl, HY2.out, HN.out, HB2.out⟩
  case round =>
    obtain ⟨n, hn, rfl, hy, hz, hbel⟩ := hrel
    by_cases hlt : n < 4
    · have hix : ∀ W, (Instr.index 135 (.agg #[.float .f32 (l 0), .float .f32 (l 1), .float .f32 (l 2), .float .f32 (l 3)]) (.int .i64 (n : Int))).run Tryz.prog W = .ok (.float .f32 (l n)) W := fun W => by
        have : n = 0 ∨ n = 1 ∨ n = 2 ∨ n = 3 := by omega
        rcases this with rfl | rfl | rfl | rfl <;> rfl
      have czn := (hz.cell n).trans (czV_get _ 4 n hlt)
      have hfr := hz.frozen n
      have HZ4 : RowKit.Hid (Blk (wr.setCell ⟨b5, n, none⟩ (.complex .f32 (l n) 0)) b5 138 (czV (fun j => if j < n + 1 then (l j, 0) else (0, 0)) 4)) := Lib.hid (by
        have h := hz.set_ n (.complex .f32 (l n) 0)
        have h2 := czV_set (fun j => if j < n then (l j, 0) else (0, 0)) (fun j => if j < n + 1 then (l j, 0) else (0, 0)) 4 n hlt (fun j _ hj => by
          by_cases h1 : j < n
          · rw [if_pos h1, if_pos (by omega)]
          · rw [if_neg h1, if_neg (by omega)])
        simp only [if_pos (Nat.lt_succ_self n)] at h2
        rw [h2] at h
        exact h)
      have HY3 := Lib.hid hy; have HB3 := Lib.hid hbel
      clear hy hz hbel
      go_wp2
      go_roundw
      case rel => exact ⟨n + 1, by omega, by go_num, HY3.out.far (p := ⟨b5, n, none⟩) (by simp; omega) _, HZ4.out, HB3.out.setCell (p := ⟨b5, n, none⟩) (by simp; omega) _⟩
      case measure => simp [intOf]; omega
    · have hn4 : n = 4 := by omega
      subst hn4
      have hz' : Blk wr b5 138 (czV (fun j => (l j, 0)) 4) := hz
      have t0 := (hz'.cell 0).trans (czV_get _ 4 0 (by omega)); have t1 := (hz'.cell 1).trans (czV_get _ 4 1 (by omega)); have t2 := (hz'.cell 2).trans (czV_get _ 4 2 (by omega)); have t3 := (hz'.cell 3).trans (czV_get _ 4 3 (by omega))
      have HY3 := Lib.hid hy; have HB3 := Lib.hid hbel
      clear hy hz hz' hbel
      go_wp2_with fail
      have hp' : ∀ i, i < 4 → wr.cell? ⟨1, i * 2, none⟩ = some (.int .i64 (pwR i)) ∧ wr.cell? ⟨1, i * 2 + 1, none⟩ = some (.int .i64 (pwI i)) := fun i hi =>
        ⟨(HB3.out.cell (p := ⟨1, i * 2, none⟩) hP1).trans (HPP.out i hi).1, (HB3.out.cell (p := ⟨1, i * 2 + 1, none⟩) hP1).trans (HPP.out i hi).2⟩
      refine (turned_any (fun n => (l n, 0)) 1 (by omega) S HS.out _ hp' (Nat.lt_of_lt_of_le hP1 HB3.out.size)).mono ?_
      rintro e w4 ⟨rfl, hb4⟩
      have hy4 := HY3.out.below hb4
      have d0 := hy4.cell 0; have d1 := hy4.cell 1; have d2 := hy4.cell 2; have d3 := hy4.cell 3
      have fy := fun i => hy4.frozen i
      simp only [List.getElem?_toArray, List.getElem?_cons_zero, List.getElem?_cons_succ] at d0 d1 d2 d3
      have HB4 := Lib.hid (HB3.out.trans (hb4.mono HB3.out.size))
      rw [show czV (fun k => S k 4) 4 = #[.complex .f32 (S 0 4).1 (S 0 4).2, .complex .f32 (S 1 4).1 (S 1 4).2, .complex .f32 (S 2 4).1 (S 2 4).2, .complex .f32 (S 3 4).1 (S 3 4).2] from rfl]
      clear hy4 hb4
      go_wp2
      exact bodyPost_ret (v := .tuple #[.agg #[.complex .f32 (S 0 4).1 (S 0 4).2, .complex .f32 (S 1 4).1 (S 1 4).2, .complex .f32 (S 2 4).1 (S 2 4).2, .complex .f32 (S 3 4).1 (S 3 4).2], .int .i64 0]) (by simp [results, Tryz.results89, go_sem, d0, d1, d2, d3]) rfl ⟨rfl, below_set4 HB4.out (by omega) _ _ _ _⟩
/-- The sums as they are computed. -/
def sumS (z : Nat → Nat × Nat) (step k : Nat) : Nat → Nat × Nat
  | 0 => (0, 0)
  | n + 1 => (((c64Mul (z n).1 (z n).2 (floatOfInt .f32 (pwR (step * k * n % 4))) (floatOfInt .f32 (pwI (step * k * n % 4)))).bind fun m => cSumBits .add .f32 (sumS z step k n).1 (sumS z step k n).2 m.1 m.2)).getD (0, 0)
def stepB (z : Nat → Nat × Nat) (step : Nat) : Bool :=
  (List.range 4).all fun k => (List.range 4).all fun n => ((c64Mul (z n).1 (z n).2 (floatOfInt .f32 (pwR (step * k * n % 4))) (floatOfInt .f32 (pwI (step * k * n % 4)))).bind fun m => cSumBits .add .f32 (sumS z step k n).1 (sumS z step k n).2 m.1 m.2).isSome
theorem stepOk_of {z : Nat → Nat × Nat} {step : Nat} (h : stepB z step = true) : StepOk z step (sumS z step) :=
  ⟨fun _ _ => rfl, fun k n hk hn => by
    unfold stepB at h
    rw [List.all_eq_true] at h
    have h1 := h k (by simpa using hk)
    rw [List.all_eq_true] at h1
    have h2 := h1 n (by simpa using hn)
    obtain ⟨v, hv⟩ := Option.isSome_iff_exists.1 h2
    obtain ⟨m, hm, hm2⟩ := Option.bind_eq_some_iff.1 hv
    refine ⟨m, hm, ?_⟩
    rw [hm2]
    show some v = some (sumS z step k (n + 1))
    rw [sumS, hv]; rfl⟩
def oneToFour (n : Nat) : Nat := [1065353216, 1073741824, 1077936128, 1082130432].getD n 0
theorem awake_step : StepOk (fun n => (oneToFour n, 0)) 1 (sumS (fun n => (oneToFour n, 0)) 1) := stepOk_of (by decide +kernel)

end Go.Proofs.YthbdiifinkbcnaaGreatDoor
namespace Go.Proofs.YthbdiifinkbcnaaGreatDoor
open Go.RowKit
set_option linter.unusedVariables false
theorem info_u8 : (Tryz.prog.info? 5).map (fun i => (i.zero, i.size, i.bytes)) = some (some (.int .u8 0), 1, 1) := by kernel_rfl
/-- The four bytes of a word. -/
def word4 (n : Int) : List Value := [.int .u8 (n / 16777216), .int .u8 (n / 65536 % 256), .int .u8 (n / 256 % 256), .int .u8 (n % 256)]
set_option maxRecDepth 100000 in
theorem appendWord_own (B : Nat) (v : Value) (n : Nat) (xs : List Value) (x : Int) (hx : 0 ≤ x ∧ x < 4294967296) (w : World) (hown : w.ownsRow B 5 1 v n xs) (hn : n ≤ 1000000) (hB : B ≤ w.heap.size) :
    Calls Tryz.prog 141 #[v, .int .u32 x] w fun e w' => ∃ v', e = .returned v' ∧ w'.ownsRow B 5 1 v' (n + 4) (xs ++ word4 x) ∧ w.grownBy w' v.ownBlock ∧ (v'.ownBlock = v.ownBlock ∨ ∃ h, w.heap.size ≤ h ∧ v'.ownBlock = some h) := by
  obtain ⟨i0, hi, hz0, hz1, hz2⟩ := info_parts info_u8
  go_enter Tryz.func141, Tryz.ntmps141
  go_wp2_with (at_builtin; go_must (refine wpList_append_own_at _ (by rfl) (.tmp 5) (.tmp 17) 106 (by rfl) B 5 i0 (.int .u8 0) 1 1 Tryz.underlying106 hi hz0 hz1 hz2 rfl (by decide) v n xs (by rfl) (hown.alloc _) ⟨w.heap.size, 0, none⟩ 4 4 (word4 x) rfl rfl (World.news_of_block (heap_alloc_new w _)) (by simp [word4, Value.oneCell']) (by unfold maxLen; omega) (by omega) (by simp; omega) ?_); intro v' w1 hown1 hgrow hnil hat)
  have hg : w.grownBy w1 v.ownBlock := ⟨hgrow.os, hgrow.tape, hgrow.output, Nat.le_trans (by simp) hgrow.size, fun i hi hne => (hgrow.block i (by simp; omega) hne).trans (Below.heap_alloc w _ i hi)⟩
  go_ret
  refine ⟨v', rfl, hown1, hg, ?_⟩
  rcases hat with h | h
  · exact .inl h
  · exact .inr ⟨_, by simp, h⟩
def u8 (x : Int) : U8 := ⟨x % 256, by omega⟩
def word4U (n : Int) : List U8 := [u8 (n / 16777216), u8 (n / 65536), u8 (n / 256), u8 n]
def u8V (b : U8) : Value := .int .u8 b.1
theorem word4_eq (n : Int) (h : 0 ≤ n ∧ n < 4294967296) : word4 n = (word4U n).map u8V := by
  have : n / 16777216 % 256 = n / 16777216 := by omega
  simp [word4, word4U, u8V, u8, this]
theorem brd_of_own {w : World} {B g n cap : Nat} {bs : List U8} (h : w.ownsRow B 5 1 (.slice (some ⟨g, 0, none⟩) n cap) n (bs.map u8V)) (hn : bs.length = n) : BRd w.heap.size w (some ⟨g, 0, none⟩) bs := fun _ => by
  have hg := h.lt g rfl
  refine ⟨_, rfl, hg.2, fun j hj => ?_⟩
  exact h.cells (g := g) rfl j (.int .u8 (bs.getD j u0).1) (by simp [u8V, List.getD, hj])
theorem checksum_any (A : Option Addr) (cap : Nat) (bs : List U8) (hlen : bs.length ≤ 1000000) (w : World) (hL : BRd w.heap.size w A bs) :
    Calls Tryz.prog 144 #[.slice A bs.length cap] w fun e w' => e = .returned (.int .u32 (rollF 263 16777183 bs 1)) ∧ Below w.heap.size w w' := by
  have hb := rollF_bd 263 16777183 (by omega) bs 1 (by omega)
  have HL := Lib.hid hL; clear hL
  obtain ⟨x, hx⟩ : ∃ x, rollF 263 16777183 bs 1 = x := ⟨_, rfl⟩
  rw [hx] at hb ⊢
  have HX := Lib.hid hx; clear hx
  go_enter Tryz.func144, Tryz.ntmps144
  go_wp2_with fail
  refine (check_any A cap bs 263 16777183 (by omega) (by omega) (by omega) w HL.out).mono ?_
  rintro e w1 ⟨rfl, hb1⟩
  rw [HX.out]
  go_wp2
  go_ret
  exact ⟨rfl, hb1⟩
theorem f32bits (x : Nat) (w : World) : (callFunc 142 #[.float .f32 x]).run Tryz.prog w = .ok (.value (.int .u32 x)) w := by kernel_rfl
theorem smp_lt (n : Int) (h : n.natAbs ≤ 1000000) : smp n < 4294967296 := by
  have := floatBits_wf (smp_facts n h).1
  simpa [Lit.wf] using this
def bytesU (s : ByteArray) : List U8 := s.data.toList.map (fun b => ⟨b.toNat, by have := b.toNat_lt; omega⟩)
theorem strCells_eq (s : ByteArray) : Lib.strCells s = (bytesU s).map u8V := by simp [Lib.strCells, bytesU, u8V]
theorem bytesU_length (s : ByteArray) : (bytesU s).length = s.size := by simp [bytesU]
def magicU : List U8 := [u8 80, u8 73, u8 67, u8 84]
def headU (nm : ByteArray) (W H : Nat) : List U8 := magicU ++ [u8 nm.size] ++ bytesU nm ++ [u8 W, u8 H]
def bodyU (l : List Nat) : List U8 := l.flatMap (fun b => word4U (smp (lvl b)))
theorem bodyU_snoc (l : List Nat) (k : Nat) (h : k < l.length) : bodyU (l.take (k + 1)) = bodyU (l.take k) ++ word4U (smp (lvl (l.getD k 0))) := by
  have : l.take (k + 1) = l.take k ++ [l.getD k 0] := by rw [List.take_succ_eq_append_getElem h]; simp [List.getD, h]
  rw [this, bodyU, List.flatMap_append]; simp [bodyU]
theorem bodyU_length (l : List Nat) : (bodyU l).length = 4 * l.length := by
  induction l with
  | nil => rfl
  | cons a l ih => simp only [bodyU, List.flatMap_cons, List.length_append, List.length_cons] at ih ⊢; rw [ih]; simp [word4U]; omega
def packU (nm : ByteArray) (W H : Nat) (l : List Nat) : List U8 := headU nm W H ++ bodyU l ++ word4U (rollF 263 16777183 (headU nm W H ++ bodyU l) 1)
set_option maxRecDepth 100000 in
theorem mapFI_new (A : Option Addr) (c : Nat) (l : List (Nat)) (F : FuncId) (g : Nat → Int) (w : World) (hl : l.length ≤ 4096) (hr : Rd w A (l.map (Value.float .f32))) (hcf : Enters Tryz.prog F)
    (hF : ∀ x ∈ l, ∀ w, Calls Tryz.prog F #[(Value.float .f32) x] w fun e w' => e = .returned (Value.int .i64 (g x)) ∧ Below w.heap.size w w') :
    Calls Tryz.prog 166 #[.slice A l.length c, .func (.func F) #[] #[]] w fun e w' => e = .returned (.slice (some ⟨w.heap.size, 0, none⟩) l.length l.length) ∧ Rd w' (some ⟨w.heap.size, 0, none⟩) (l.map (fun x => Value.int .i64 (g x))) ∧ Below w.heap.size w w' := by
  have HF := Lib.hid hF; clear hF
  have HR := Lib.hid hr; clear hr
  unfold Enters at hcf
  have hmk := fun W => Go.run_make_row' (P := Tryz.prog) 25 3 (.int .i64 0) 8 Tryz.underlying25 info_mapFI rfl .i64 .i64 l.length (by omega) (by omega) W
  go_enter Tryz.func166, Tryz.ntmps166
  go_wp2
  go_loopw [13] (fun i wr => ∃ k : Nat, k ≤ l.length ∧ i = .int .i64 k ∧ Blk wr w.heap.size 3 (fillN (fun j => Value.int .i64 (g (l.getD j 0))) (.int .i64 0) l.length k) ∧ Below w.heap.size w wr) (fun i _ => l.length - (intOf i).toNat)
  case atStart => exact ⟨0, by omega, rfl, by rw [← fill_zero]; exact Blk.new _ _ _, (Below.refl _ _).alloc (Nat.le_refl _) _⟩
  case round =>
    obtain ⟨k, hk, rfl, hb, hbel⟩ := hrel
    by_cases hlt : k < l.length
    · obtain ⟨x, hx⟩ : ∃ x, l.getD k 0 = x := ⟨_, rfl⟩
      have hxm : x ∈ l := by rw [← hx]; simp [List.getD, hlt]
      obtain ⟨ad, rfl, hbl, hc⟩ := HR.out.get (k := k) (u := (Value.float .f32) x) (by rw [← hx]; simp [List.getD, hlt])
      have hc' := (hbel.cell (by rw [block_of_add]; exact hbl)).trans hc
      have hs := hbel.size
      have HB := Lib.hid hb; clear hb
      have HBel := Lib.hid hbel; clear hbel
      have HX := Lib.hid hx; clear hx
      clear hc hmk
      go_wp2_with fail
      refine (HF.out x hxm _).mono ?_
      rintro e w1 ⟨rfl, hb1⟩
      have hblk := HB.out.below hb1
      have hcell := hblk.cell k
      rw [fill_get, if_pos hlt, if_neg (by omega)] at hcell
      have hfr := hblk.frozen k
      have hset := hblk.set_ k (Value.int .i64 (g x))
      have hfs := fill_set (fun j => Value.int .i64 (g (l.getD j 0))) (.int .i64 0) l.length k
      simp only [HX.out] at hfs
      rw [hfs] at hset
      have hbel1 := (HBel.out.trans (hb1.mono HBel.out.size)).setCell (p := ⟨w.heap.size, k, none⟩) (Nat.le_refl _) (Value.int .i64 (g x))
      have HS := Lib.hid hset; have HB1 := Lib.hid hbel1
      clear hset hbel1 hblk hb1 hfs
      go_wp2
      go_roundw
      case rel => exact ⟨k + 1, by omega, by go_num, HS.out, HB1.out⟩
      case measure => simp [intOf]; omega
    · have : k = l.length := by omega
      subst this
      go_wp2
      go_ret
      refine ⟨rfl, fun _ => ⟨_, rfl, hb.lt, fun j u hj => ?_⟩, hbel⟩
      have hjl : j < l.length := by simpa using (List.getElem?_eq_some_iff.1 hj).1
      have h2 := hb.cell j
      rw [fill_get, if_pos hjl, if_pos hjl] at h2
      simp [hjl] at hj
      subst hj
      simp [hjl] at h2
      unfold Addr.add
      split
      · rename_i h0; subst h0; exact h2
      · simpa using h2

set_option maxRecDepth 100000 in
theorem levels_new (l : List Nat) (hb : l.length ≤ 4096) (hok : ∀ b ∈ l, chk 1024 b = 0) (A : Option Addr) (c : Nat) (w : World) (hr : Rd w A (fl l)) :
    Calls Tryz.prog 115 #[.slice A l.length c] w fun e w' => e = .returned (.slice (some ⟨w.heap.size, 0, none⟩) l.length l.length) ∧ Rd w' (some ⟨w.heap.size, 0, none⟩) (l.map (fun b => .int .i64 (lvl b))) ∧ Below w.heap.size w w' := by
  have HOK := Lib.hid hok
  have HR := Lib.hid hr
  clear hok hr
  go_enter Tryz.func115, Tryz.ntmps115
  go_wp2_with fail
  refine (mapFI_new A c l 167 lvl _ hb HR.out enters_level (fun b hb w => level_v b (HOK.out b hb) w)).mono ?_
  rintro e w3 ⟨rfl, hrd, hb3⟩
  go_wp2
  go_ret
  exact ⟨rfl, hrd, hb3⟩
theorem own_below {w w' : World} {base : Nat} {e : TypeId} {size : Nat} {v : Value} {n : Nat} {xs : List Value} (h : w.ownsRow base e size v n xs) (hb : Below w.heap.size w w') : w'.ownsRow base e size v n xs :=
  h.kept (row := none) ⟨hb.os, hb.tape, hb.output, hb.size, fun i hi _ => hb.block i hi⟩ (by cases hv : v.ownBlock <;> simp)
theorem u8V_small (x : Int) (h : 0 ≤ x ∧ x < 256) : u8V (u8 x) = .int .u8 x := by
  have e : x % 256 = x := by omega
  show Value.int .u8 (x % 256) = Value.int .u8 x
  rw [e]
theorem rd_grown {w w' : World} {row : Option Nat} {g : Nat} {xs : List Value} (h : Rd w (some ⟨g, 0, none⟩) xs) (hg : w.grownBy w' row) (hne : some g ≠ row) : Rd w' (some ⟨g, 0, none⟩) xs := fun hp => by
  obtain ⟨ad, e, hbl, hc⟩ := h hp
  cases e
  exact ⟨_, rfl, Nat.lt_of_lt_of_le hbl hg.size, fun j u hu => (hg.cell_far _ (by rw [block_of_add]; exact hbl) (by rw [block_of_add]; exact hne)).trans (hc j u hu)⟩
set_option maxRecDepth 100000 in
set_option maxHeartbeats 1000000 in
theorem pack_ok (nm : ByteArray) (W H : Nat) (l : List Nat) (hp : (Pic.mk nm W H l).Ok) (he : (Pic.mk nm W H l).err = 0) (A : Option Addr) (c : Nat) (w : World) (hr : Rd w A (fl l)) :
    Calls Tryz.prog 78 #[.agg #[.string nm, .int .i64 (W : Int), .int .i64 (H : Int), .slice A l.length c]] w fun e w' => ∃ v n B, e = .returned (.tuple #[v, .int .i64 0]) ∧ n = (packU nm W H l).length ∧ w.heap.size ≤ B ∧ w'.ownsRow B 5 1 v n ((packU nm W H l).map u8V) ∧ Below w.heap.size w w' := by
  obtain ⟨i0, hi, hz0, hz1, hz2⟩ := info_parts info_u8
  have hW : 1 ≤ W ∧ W ≤ 64 := by have h1 := hp.w1; have h2 := hp.w2; simp at h1 h2; omega
  have hH : 1 ≤ H ∧ H ≤ 64 := by have h1 := hp.h1; have h2 := hp.h2; simp at h1 h2; omega
  have hs : 1 ≤ nm.size ∧ nm.size ≤ 24 := by have h1 := hp.name; unfold nameOk at h1; simp at h1; exact h1.1
  have hbig : l.length ≤ 4096 := hp.big
  have hcp := fun w hr => checkPicture_any (Pic.mk nm W H l) A c w (Nat.le_trans hs.2 (by decide)) (Nat.le_trans hbig (by decide)) hr
  rw [he] at hcp
  simp only [Pic.val] at hcp
  have HCP := Lib.hid hcp; have HR := Lib.hid hr; have HP := Lib.hid hp
  clear hcp hr hp he
  have hcv := fun (w : World) (C : Array Value) (n c : Nat) => Lib.run_convert_bytes_const (P := Tryz.prog) w 106 5 C n c Tryz.underlying106 Tryz.underlying5
  go_enter Tryz.func78, Tryz.ntmps78
  go_wp2_with fail
  have hbx := Blk.new w 50 #[.string nm, .int .i64 (W : Int), .int .i64 (H : Int), .slice A l.length c]
  have hb0 : Below w.heap.size w (w.alloc (.cells #[.string nm, .int .i64 (W : Int), .int .i64 (H : Int), .slice A l.length c] 50)) := (Below.refl _ _).alloc (Nat.le_refl _) _
  generalize w.alloc (.cells #[.string nm, .int .i64 (W : Int), .int .i64 (H : Int), .slice A l.length c] 50) = w0 at hbx hb0 ⊢
  have HX0 := Lib.hid hbx; have HB0 := Lib.hid hb0; clear hbx hb0
  refine (HCP.out _ (HR.out.below HB0.out)).mono ?_
  rintro e w1 ⟨rfl, hb1⟩
  have hx := HX0.out.below hb1
  have l0 := hx.lt
  obtain ⟨c0, c1, c2, c3⟩ := box4 hx
  have HX1 := Lib.hid hx; have HB1 := Lib.hid (HB0.out.trans (hb1.mono HB0.out.size)); clear hx hb1
  have hold : ∀ (j : Nat) (u : Value), (magicU.map u8V)[j]? = some u → ((w1.alloc (.cells #[.int .u8 80, .int .u8 73, .int .u8 67, .int .u8 84] 5 (4, 5))).alloc (.cells #[.int .u8 (nm.size : Int)] 5)).cell? ⟨w1.heap.size, 0 + j, none⟩ = some u := fun j u hu => by
    rw [Nat.zero_add]
    have h := Lib.cell_of_heap (w := (w1.alloc (.cells #[.int .u8 80, .int .u8 73, .int .u8 67, .int .u8 84] 5 (4, 5))).alloc (.cells #[.int .u8 (nm.size : Int)] 5)) (b := w1.heap.size) ((Below.heap_alloc (w1.alloc (.cells #[.int .u8 80, .int .u8 73, .int .u8 67, .int .u8 84] 5 (4, 5))) (.cells #[.int .u8 (nm.size : Int)] 5) w1.heap.size (by simp)).trans (heap_alloc_new w1 _)) j
    rw [h]
    have e : magicU.map u8V = [.int .u8 80, .int .u8 73, .int .u8 67, .int .u8 84] := rfl
    rw [e] at hu
    simpa using hu
  have HOLD := Lib.hid hold
  have HBA := Lib.hid (show Below w1.heap.size w1 ((w1.alloc (.cells #[.int .u8 80, .int .u8 73, .int .u8 67, .int .u8 84] 5 (4, 5))).alloc (.cells #[.int .u8 (nm.size : Int)] 5)) from ((Below.refl _ _).alloc (Nat.le_refl _) _).alloc (by simp) _)
  clear hold
  go_wp2_with (first
    | (at_builtin; refine wpList_append_arg _ (by rfl) (.tmp 15) (.tmp 20) 106 (by rfl) 5 i0 (.int .u8 0) 1 1 Tryz.underlying106 hi hz0 hz1 hz2 rfl (by decide) w1.heap.size 0 4 4 (magicU.map u8V) (by rfl) (by rfl) HOLD.out ⟨w1.heap.size + 1, 0, none⟩ 1 1 [.int .u8 (nm.size : Int)] (by rfl) (by rfl) (by have h := World.news_of_block (heap_alloc_new (w1.alloc (.cells #[.int .u8 80, .int .u8 73, .int .u8 67, .int .u8 84] 5 (4, 5))) (.cells #[.int .u8 (nm.size : Int)] 5)); simpa using h) (by simp [Value.oneCell']) (fun h => by omega) (by decide) (by decide) (fun h => by omega) (fun _ v1 w2 hown1 hgrow1 => ?_); have hown1 : w2.ownsRow (w1.heap.size + 1 + 1) 5 1 v1 (4 + 1) (magicU.map u8V ++ [.int .u8 (nm.size : Int)]) := (by simpa using hown1); have hbB := HBA.out.grown hgrow1 (by simp; omega) (fun k e => by cases e); have hsB := hgrow1.size; obtain ⟨hcB, hfB⟩ := bcell hbB; have HOWN1 := Lib.hid hown1; have HBB := Lib.hid hbB; have HSB := Lib.hid (show w1.heap.size + 1 + 1 ≤ w2.heap.size by simpa using hsB); clear hown1 hbB hfB hgrow1 hsB)
    | (at_builtin; refine Lib.wpList_append_own_string _ (by rfl) (.tmp 22) (.tmp 24) 106 9 (by rfl) (w1.heap.size + 1 + 1) 5 i0 Tryz.underlying106 Tryz.underlying9 hi hz0 hz1 hz2 _ _ _ (by rfl) HOWN1.out nm (by rfl) (by unfold maxLen; omega) (by omega) HSB.out ?_; intro v2 w3 hown2 hgrow2 hnil2; clear hnil2; have HSC := Lib.hid (Nat.le_trans HSB.out hgrow2.size); have hbC := HBB.out.grown hgrow2 HBB.out.size (fun k e => by have := (HOWN1.out.lt k e).1; omega); obtain ⟨hcC, hfC⟩ := bcell hbC; have HOWN2 := Lib.hid hown2; have HBC := Lib.hid hbC; clear hown2 hbC hfC hgrow2)
    | (at_builtin; refine wpList_append_own_at _ (by rfl) (.tmp 26) (.tmp 33) 106 (by rfl) (w1.heap.size + 1 + 1) 5 i0 (.int .u8 0) 1 1 Tryz.underlying106 hi hz0 hz1 hz2 rfl (by decide) _ _ _ (by rfl) (HOWN2.out.alloc _) ⟨_, 0, none⟩ 2 2 [.int .u8 (W : Int), .int .u8 (H : Int)] (by rfl) (by rfl) (World.news_of_block (heap_alloc_new w3 _)) (by simp [Value.oneCell']) (by unfold maxLen; omega) (by omega) (by have := HSC.out; simp; omega) ?_; intro v3 w4 hown3 hgrow3 hnil3 hat3; clear hnil3; have hbD := (HBC.out.alloc HBC.out.size (.cells #[.int .u8 (W : Int), .int .u8 (H : Int)] 5)).grown hgrow3 (by have := HBC.out.size; simp; omega) (fun k e => by have := ((HOWN2.out.alloc (.cells #[.int .u8 (W : Int), .int .u8 (H : Int)] 5)).lt k e).1; omega); obtain ⟨hcD, hfD⟩ := bcell hbD; have HOWN3 := Lib.hid hown3; have HBD := Lib.hid hbD; clear hown3 hbD hfD hgrow3 hat3))
  have HR4 := Lib.hid (HR.out.below (HB1.out.trans (HBD.out.mono HB1.out.size)))
  have hsz4 := HBD.out.size
  refine (levels_new l HP.out.big HP.out.ok A c _ HR4.out).mono ?_
  rintro e w5 ⟨rfl, hrd, hb5⟩
  obtain ⟨L, hL⟩ : ∃ L, w4.heap.size = L := ⟨_, rfl⟩
  have hneL : v3.ownBlock ≠ some L := fun e => by have := (HOWN3.out.lt L e).2; omega
  rw [hL] at hrd ⊢
  have hown5 := own_below HOWN3.out hb5
  have hb5' := HBD.out.trans (hb5.mono HBD.out.size)
  have hxs : List.map u8V magicU ++ [Value.int IntKind.u8 ↑nm.size] ++ Lib.strCells nm ++ [Value.int IntKind.u8 ↑W, Value.int IntKind.u8 ↑H] = (headU nm W H ++ bodyU (l.take 0)).map u8V := by
    simp only [headU, bodyU, List.take_zero, List.flatMap_nil, List.append_nil, List.map_append, strCells_eq, List.map_cons, List.map_nil]
    rw [u8V_small (nm.size : Int) (by omega), u8V_small (W : Int) (by omega), u8V_small (H : Int) (by omega)]
  have hnn : 4 + 1 + nm.size + 2 = (headU nm W H ++ bodyU (l.take 0)).length := by simp [headU, bodyU, bytesU_length, magicU]; omega
  rw [hxs, hnn] at hown5
  have HOWN5 := Lib.hid hown5; have HRD5 := Lib.hid hrd; have HB5 := Lib.hid hb5'; have HNL := Lib.hid hneL
  have hLl : L < w5.heap.size ∨ l.length = 0 := by
    by_cases h0 : l.length = 0
    · exact .inr h0
    · obtain ⟨ad, e, hbl, _⟩ := hrd (by simp; omega)
      cases e; exact .inl hbl
  clear hown5 hrd hb5' hneL hxs hnn hb5 hL hsz4 hcB hcC hcD c0 c1 c2 c3 hLl
  have hb142 := fun (x : Nat) W => f32bits x W
  go_wp2_with fail
  go_loopw [5, 39] (fun sv i wr => ∃ (k n : Nat), k ≤ l.length ∧ i = .int .i64 k ∧ n = (headU nm W H ++ bodyU (l.take k)).length ∧ wr.ownsRow (w1.heap.size + 1 + 1) 5 1 sv n ((headU nm W H ++ bodyU (l.take k)).map u8V) ∧ sv.ownBlock ≠ some L ∧ Rd wr (some ⟨L, 0, none⟩) (l.map (fun b => .int .i64 (lvl b))) ∧ Below w1.heap.size w1 wr) (fun _ i _ => l.length - (intOf i).toNat)
  case atStart => exact ⟨0, _, by omega, rfl, rfl, HOWN5.out, HNL.out, HRD5.out, HB5.out⟩
  case round =>
    obtain ⟨k, n, hk, rfl, hn, hown, hne, hrd, hbel⟩ := hrel
    have hnb : n ≤ 20000 := by
      rw [hn, List.length_append, bodyU_length]
      have : (headU nm W H).length ≤ 31 := by simp [headU, bytesU_length, magicU]; omega
      have := List.length_take_le k l
      simp at *; omega
    by_cases hlt : k < l.length
    · obtain ⟨x, hx⟩ : ∃ x, lvl (l.getD k 0) = x := ⟨_, rfl⟩
      have hxb := HP.out.lv (getD_mem hlt)
      obtain ⟨ad', had, hbl, hc⟩ := hrd.get (k := k) (u := .int .i64 x) (by rw [← hx]; simp [List.getD, hlt])
      obtain rfl := Option.some.inj had
      rw [add_blk] at hc
      rw [hx] at hxb
      have hsm := smp_lt x (by omega)
      have hst := bodyU_snoc l k hlt
      rw [hx] at hst
      have hB2 : w1.heap.size + 1 + 1 ≤ wr.heap.size := by
        have hpos : 0 < n := by rw [hn]; simp [headU, magicU]
        obtain ⟨g, cap, _, hg1, hg2⟩ := hown.form hpos
        omega
      have HST := Lib.hid hst; have HN := Lib.hid hn; have HRD := Lib.hid hrd; have HNE := Lib.hid hne; have HBE := Lib.hid hbel; have HOWN := Lib.hid hown; have HX := Lib.hid hx
      clear hst hn hrd hne hbel hown hx had
      go_wp2_with (first
        | (go_at_call 143; refine (sample_any x (smp x) (smp_facts x (by omega)).1 _).mono ?_; rintro e wn ⟨rfl, rfl⟩)
        | (go_at_call 141; refine (appendWord_own _ _ n _ (smp x : Int) (by omega) _ HOWN.out (by omega) hB2).mono ?_; rintro e w6 ⟨v', rfl, hown6, hgr, hat⟩; have hblk := (HOWN.out.lt); have HO6 := Lib.hid hown6; have HGR := Lib.hid hgr; have HAT := Lib.hid hat; have HBK := Lib.hid hblk; clear hown6 hgr hat hblk))
      go_roundw
      case rel =>
        have hw4 := word4_eq (smp x : Int) (by omega)
        refine ⟨k + 1, n + 4, by omega, by go_num, ?_, ?_, ?_, rd_grown HRD.out HGR.out (fun e => HNE.out e.symm), HBE.out.grown HGR.out HBE.out.size (fun b e => by have := (HBK.out b e).1; omega)⟩
        · rw [HST.out, HN.out]; simp [word4U]; omega
        · have h := HO6.out
          rw [hw4, ← List.map_append] at h
          rw [HST.out, ← List.append_assoc]
          exact h
        · rcases HAT.out with e | ⟨b, hb, e⟩
          · rw [e]; exact HNE.out
          · rw [e]; intro e2; cases e2; omega
      case measure => simp [intOf]; omega
    · have hkl : k = l.length := by omega
      subst hkl
      rw [List.take_length] at hn hown
      have hpos : 0 < n := by rw [hn]; simp [headU, magicU]
      obtain ⟨g, cap, hv, hg1, hg2⟩ := hown.form hpos
      subst hv
      obtain ⟨bs, hbs⟩ : ∃ bs, headU nm W H ++ bodyU l = bs := ⟨_, rfl⟩
      rw [hbs] at hn hown
      subst hn
      have HBRD := Lib.hid (brd_of_own hown rfl)
      have hck := rollF_bd 263 16777183 (by omega) bs 1 (by omega)
      have HOWN := Lib.hid hown; have HBS := Lib.hid hbs; have HBE := Lib.hid hbel
      clear hown hbs hbel hrd hne
      go_wp2_with fail
      refine (checksum_any _ cap bs (by omega) _ HBRD.out).mono ?_
      rintro e w6 ⟨rfl, hb6⟩
      have HO6 := Lib.hid (own_below HOWN.out hb6)
      have HB6 := Lib.hid (HBE.out.trans (hb6.mono HBE.out.size))
      have hs6 := hb6.size
      obtain ⟨q, hq⟩ : ∃ q, rollF 263 16777183 bs 1 = q := ⟨_, rfl⟩
      rw [hq] at hck ⊢
      have HQ := Lib.hid hq
      clear hb6 hq
      go_wp2_with fail
      refine (appendWord_own _ _ bs.length _ q (by omega) _ HO6.out (by omega) (by omega)).mono ?_
      rintro e w7 ⟨v', rfl, hown7, hgr, hat⟩
      have hw4 := word4_eq q (by omega)
      rw [hw4, ← List.map_append] at hown7
      have hfin : packU nm W H l = bs ++ word4U q := by unfold packU; rw [HBS.out, HQ.out]
      have hlen : bs.length + 4 = (packU nm W H l).length := by rw [hfin]; simp [word4U]
      rw [← hfin, hlen] at hown7
      have hb7 := HB6.out.grown hgr HB6.out.size (fun b e => by have := (HO6.out.lt b e).1; omega)
      have HO7 := Lib.hid hown7; have HB7 := Lib.hid (HB1.out.trans (hb7.mono HB1.out.size))
      clear hown7 hgr hat hw4 hfin hlen hb7
      go_wp2
      go_ret2
      exact ⟨v', _, _, rfl, rfl, Nat.le_of_lt (Nat.lt_of_lt_of_le l0 (by omega)), HO7.out, HB7.out⟩

end Go.Proofs.YthbdiifinkbcnaaGreatDoor
namespace Go.Proofs.YthbdiifinkbcnaaGreatDoor
open Go.RowKit
set_option linter.unusedVariables false
def eqElems (d : Nat) (elem : TypeId) (n : Nat) (xs ys : Array Value) : List Nat → Sem Bool
  | [] => pure true
  | i :: is => do
    let a ← part elem xs (i * n)
    let b ← part elem ys (i * n)
    let r ← Op.equalIn d elem a b
    if (!r) = true then pure false else eqElems d elem n xs ys is
theorem run_equalIn_array {P : Program} (w : World) (d : Nat) (t elem : TypeId) (len n : Nat) (xs ys : Array Value) (ht : P.underlying t = some (.array len elem)) (hn : ∀ w, (sizeOf elem).run P w = .ok n w) :
    (Op.equalIn (d + 1) t (.agg xs) (.agg ys)).run P w = (eqElems d elem n xs ys (List.range' 0 len)).run P w := by
  simp only [Op.equalIn, Sem.run_bind, run_underlying ht, Result.andThen_ok, hn, Std.Legacy.Range.forIn_eq_forIn_range', Std.Legacy.Range.size, Nat.sub_zero, Nat.add_sub_cancel, Nat.div_one]
  generalize List.range' 0 len = is
  clear ht
  induction is generalizing w with
  | nil => simp [eqElems]
  | cons i is ih =>
    simp only [List.forIn_cons, eqElems, Sem.run_bind]
    generalize (part elem xs (i * n)).run P w = r1
    cases r1 with
    | ok a w1 =>
      simp only [Result.andThen_ok]
      generalize (part elem ys (i * n)).run P w1 = r2
      cases r2 with
      | ok b w2 =>
        simp only [Result.andThen_ok]
        generalize (Op.equalIn d elem a b).run P w2 = r3
        cases r3 with
        | ok r w3 =>
          cases r
          · simp only [Result.andThen_ok, Bool.not_false, if_true, Sem.run_pure]
          · simp only [Result.andThen_ok, Bool.not_true, Bool.false_eq_true, if_false, Sem.run_pure]
            exact ih w3
        | halt x w3 => simp [Result.andThen]
      | halt x w2 => simp [Result.andThen]
    | halt x w1 => simp [Result.andThen]
theorem run_part_u8 (cs : Array Value) (i : Nat) (v : Value) (w : World) (h : cs[i]? = some v) : (part 5 cs (i * 1)).run Tryz.prog w = .ok v w := by
  have h1 := Tryz.isAgg5 w
  simp [part, h1, h]
theorem eqElems_u8 (d : Nat) (xs ys : List Int) (len : Nat) (hx : xs.length = len) (hy : ys.length = len) (m i : Nat) (hi : i + m = len) (w : World) :
    (eqElems (d + 1) 5 1 (xs.map (Value.int .u8)).toArray (ys.map (Value.int .u8)).toArray (List.range' i m)).run Tryz.prog w = .ok (decide (xs.drop i = ys.drop i)) w := by
  induction m generalizing i with
  | zero =>
    have : i = len := by omega
    subst this
    simp [eqElems, ← hx, hy]
  | succ m ih =>
    have h1 : i < xs.length := by omega
    have h2 : i < ys.length := by omega
    rw [List.range'_succ, eqElems, Sem.run_bind, run_part_u8 _ i (.int .u8 xs[i]) w (by simp [h1])]
    simp only [Result.andThen_ok, Sem.run_bind]
    rw [run_part_u8 _ i (.int .u8 ys[i]) w (by simp [h2])]
    simp only [Result.andThen_ok, run_equalIn_int w d 5 .u8 .u8 _ _ Tryz.underlying5]
    have hd : (xs.drop i = ys.drop i) ↔ (xs[i] = ys[i] ∧ xs.drop (i + 1) = ys.drop (i + 1)) := by
      rw [List.drop_eq_getElem_cons h1, List.drop_eq_getElem_cons h2]
      exact ⟨fun h => List.cons.inj h, fun ⟨a, b⟩ => by rw [a, b]⟩
    have hdd : decide (xs.drop i = ys.drop i) = (decide (xs[i] = ys[i]) && decide (xs.drop (i + 1) = ys.drop (i + 1))) := by
      rw [← Bool.decide_and]; exact decide_eq_decide.2 hd
    rw [hdd]
    by_cases he : xs[i] = ys[i]
    · simp only [he, beq_self_eq_true, Bool.not_true, Bool.false_eq_true, if_false, decide_true, Bool.true_and]
      exact ih (i + 1) (by omega)
    · have : (xs[i] == ys[i]) = false := by simpa using he
      simp [this, he]
theorem run_neq_frame (xs ys : List Int) (hx : xs.length = 16) (hy : ys.length = 16) (w : World) :
    (binOp .neq 85 (.agg (xs.map (Value.int .u8)).toArray) (.agg (ys.map (Value.int .u8)).toArray)).run Tryz.prog w = .ok (.bool (!decide (xs = ys))) w := by
  have hn := Tryz.sizeOf5
  rw [run_neq_struct, show (10000 : Nat) = 9998 + 1 + 1 from rfl, run_equalIn_array w (9998 + 1) 85 5 16 1 _ _ Tryz.underlying85 hn, eqElems_u8 9998 xs ys 16 hx hy 16 0 rfl w]
  simp

end Go.Proofs.YthbdiifinkbcnaaGreatDoor
