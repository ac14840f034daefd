/- The checks of a sample, by the program and by the reference: one plain function of the bits. -/
import Derived.Test.YtkjkjhheckfhbaaGreatDoorB
import Derived.Test.YtkjkjhheckfhbaaGreatDoorF
import Derived.Laws.FloatArith
import Derived.Laws.ComplexArith
namespace Go.Proofs.YtkjkjhheckfhbaaGreatDoor
open Go.RowKit
set_option linter.unusedVariables false
theorem andNot_top (y : Nat) (hy : y < 18446744073709551616) : (bits BinOp.andNot IntKind.u64 (y : Int) 9223372036854775808).toNat = y % 2 ^ 63 := by
  have h : bits BinOp.andNot IntKind.u64 (y : Int) 9223372036854775808 = IntKind.u64.wrap ((BitVec.ofInt 64 (y : Int) &&& ~~~ BitVec.ofInt 64 9223372036854775808).toNat : Int) := rfl
  rw [h]
  have h2 : (~~~ BitVec.ofInt 64 9223372036854775808 : BitVec 64).toNat = 2 ^ 63 - 1 := by decide
  rw [BitVec.toNat_and, h2, BitVec.ofInt_natCast, BitVec.toNat_ofNat, Nat.mod_eq_of_lt hy, Nat.and_two_pow_sub_one_eq_mod]
  have : y % 2 ^ 63 < 2 ^ 63 := Nat.mod_lt _ (by omega)
  rw [IntKind.wrap_u64]
  omega
theorem f64bits (x : Nat) (w : World) : (callFunc 191 #[.float .f64 x]).run Tryz.prog w = .ok (.value (.int .u64 x)) w := by kernel_rfl
theorem f64frombits (n : Int) (w : World) : (callFunc 190 #[.int .u64 n]).run Tryz.prog w = .ok (.value (.float .f64 n.toNat)) w := by kernel_rfl
set_option maxRecDepth 100000 in
theorem abs_any (y : Nat) (hy : y < 18446744073709551616) (w : World) : Calls Tryz.prog 165 #[.float .f64 y] w fun e w' => e = .returned (.float .f64 (y % 2^63)) ∧ w = w' := by
  have h1 := f64bits y
  have h2 := f64frombits
  go_enter Tryz.func165, Tryz.ntmps165
  go_wp2
  go_ret
  refine ⟨?_, rfl⟩
  rw [← andNot_top y hy]
  rfl
theorem isNaN_any (y : Nat) (w : World) : Calls Tryz.prog 163 #[.float .f64 y] w fun e w' => e = .returned (.bool (FloatKind.f64.format.order y y != some .eq)) ∧ w = w' := by
  go_enter Tryz.func163, Tryz.ntmps163
  go_wp2
  go_ret
  exact ⟨rfl, rfl⟩
set_option maxRecDepth 100000 in
theorem isInf_any (y : Nat) (hy : y < 18446744073709551616) (b : Bool) (hb : (FloatKind.f64.format.order (y % 2^63) 0x7fefffffffffffff == some .gt) = b) (w : World) : Calls Tryz.prog 164 #[.float .f64 y, .int .i64 0] w fun e w' => e = .returned (.bool b) ∧ w = w' := by
  go_enter Tryz.func164, Tryz.ntmps164
  go_wp2_with (go_at_call 165; refine (abs_any _ hy _).mono ?_; rintro e w' ⟨rfl, rfl⟩)
  go_ret
  exact ⟨rfl, rfl⟩


theorem toIntegral_num (n : String) (way : Ieee.Toward) (z : Nat) (s : Bool) (k : Nat) (p : Int) (hz : FloatKind.f64.decode z = .number s k p) :
    Extern.MathFloor.toIntegral n way #[.float .f64 z] = pure (.float .f64 (FloatKind.f64.encode ((FloatKind.f64.decode z).integral way))) := by
  have h : Extern.MathFloor.toIntegral n way #[.float .f64 z] = Extern.MathFloor.toIntegral.match_1 (motive := fun _ => Sem Value) (FloatKind.f64.decode z) _ _ := rfl
  rw [h, hz]
theorem trunc_any (z t : Nat) (s : Bool) (k : Nat) (p : Int) (hz : FloatKind.f64.decode z = .number s k p) (ht : FloatKind.f64.encode ((FloatKind.f64.decode z).integral .zero) = t) (w : World) :
    Calls Tryz.prog 166 #[.float .f64 z] w fun e w' => e = .returned (.float .f64 t) ∧ w = w' := by
  have h1 : ∀ w, (callFunc 192 #[.float .f64 z]).run Tryz.prog w = .ok (.value (.float .f64 t)) w := fun w => by
    have h : (callFunc 192 #[.float .f64 z]).run Tryz.prog w = (Next.value <$> Extern.MathFloor.toIntegral "math.archTrunc" .zero #[.float .f64 z]).run Tryz.prog w := by kernel_rfl
    rw [h, toIntegral_num _ _ z s k p hz, ht]
    simp
  clear hz ht
  go_enter Tryz.func166, Tryz.ntmps166
  go_wp2
  go_ret
  exact ⟨rfl, rfl⟩
theorem floor_any (z t : Nat) (s : Bool) (k : Nat) (p : Int) (hz : FloatKind.f64.decode z = .number s k p) (ht : FloatKind.f64.encode ((FloatKind.f64.decode z).integral .down) = t) (w : World) :
    Calls Tryz.prog 167 #[.float .f64 z] w fun e w' => e = .returned (.float .f64 t) ∧ w = w' := by
  have h1 : ∀ w, (callFunc 194 #[.float .f64 z]).run Tryz.prog w = .ok (.value (.float .f64 t)) w := fun w => by
    have h : (callFunc 194 #[.float .f64 z]).run Tryz.prog w = (Next.value <$> Extern.MathFloor.toIntegral "math.archFloor" .down #[.float .f64 z]).run Tryz.prog w := by kernel_rfl
    rw [h, toIntegral_num _ _ z s k p hz, ht]
    simp
  clear hz ht
  go_enter Tryz.func167, Tryz.ntmps167
  go_wp2
  go_ret
  exact ⟨rfl, rfl⟩
theorem rd_of_blk {w : World} {g : Nat} {t : TypeId} {cs : Array Value} {xs : List Value} (h : Blk w g t cs) (hx : cs.toList = xs) : Rd w (some ⟨g, 0, none⟩) xs := fun _ =>
  ⟨_, rfl, h.lt, fun j u hu => by
    have h1 := h.cell j
    have h2 : cs[j]? = some u := by rw [← Array.getElem?_toList, hx]; exact hu
    rw [h2] at h1
    unfold Addr.add
    split
    · rename_i h0; subst h0; exact h1
    · simpa using h1⟩
def numE (nan frac : Bool) : Int := if nan then 1 else if frac then 3 else 0
set_option maxRecDepth 100000 in
theorem checkNumber_small (b mb y a z t : Nat) (frac : Bool) (w : World) (hcv : floatToFloatBits .f32 b .f64 = some y) (hy : y < 18446744073709551616) (ha : y % 2 ^ 63 = a)
    (ho1 : FloatKind.f64.format.order y y = some .eq) (ho2 : (FloatKind.f64.format.order a 0x7fefffffffffffff == some .gt) = false) (ho3 : (FloatKind.f64.format.order a mb == some .gt) = false)
    (hmul : floatBits .mul .f64 y 0x4030000000000000 = some z) (s : Bool) (k : Nat) (p : Int) (hz : FloatKind.f64.decode z = .number s k p) (ht : FloatKind.f64.encode ((FloatKind.f64.decode z).integral .zero) = t) (hfr : (FloatKind.f64.format.order z t != some .eq) = frac) :
    Calls Tryz.prog 107 #[.float .f32 b, .float .f64 mb] w fun e w' => e = .returned (.int .i64 (numE false frac)) ∧ Below w.heap.size w w' := by
  have hcv' := fun w => run_convert_float_float (P := Tryz.prog) w 23 163 .f32 .f64 b y (by kernel_rfl) (by kernel_rfl) hcv
  have hmul' := fun w => run_float_arith (P := Tryz.prog) w .mul 163 .f64 y 0x4030000000000000 z hmul
  have HT := Lib.hid (trunc_any z t s k p hz ht)
  clear hmul hz ht hcv
  go_enter Tryz.func107, Tryz.ntmps107
  go_wp2_with (first
    | (go_at_call 163; refine (isNaN_any _ _).mono ?_; rintro e w' ⟨rfl, rfl⟩)
    | (go_at_call 164; refine (isInf_any _ hy false (by rw [ha]; exact ho2) _).mono ?_; rintro e w' ⟨rfl, rfl⟩)
    | (go_at_call 165; refine (abs_any _ hy _).mono ?_; rintro e w' ⟨rfl, rfl⟩)
    | (go_at_call 166; refine (HT.out _).mono ?_; rintro e w' ⟨rfl, rfl⟩)
    | (go_at_call 104; refine (errorIf_any _ _ _).mono ?_; rintro e w' ⟨rfl, rfl⟩))
  refine (first_any _ _ [errIf false 1, errIf frac 3] _ (by simp [maxLen]) (by exact rd_of_blk (Blk.new _ _ _) rfl)).mono ?_
  rintro e w' ⟨rfl, rfl⟩
  go_wp2
  go_ret
  exact ⟨ret_int (by cases frac <;> simp [firstE, errIf, numE]), by go_grown⟩
set_option maxRecDepth 100000 in
theorem checkNumber_big (b mb y a : Nat) (inf : Bool) (w : World) (hcv : floatToFloatBits .f32 b .f64 = some y) (hy : y < 18446744073709551616) (ha : y % 2 ^ 63 = a)
    (ho1 : FloatKind.f64.format.order y y = some .eq) (ho2 : (FloatKind.f64.format.order a 0x7fefffffffffffff == some .gt) = inf) (ho3 : (FloatKind.f64.format.order a mb == some .gt) = true) :
    Calls Tryz.prog 107 #[.float .f32 b, .float .f64 mb] w fun e w' => e = .returned (.int .i64 (numE inf true)) ∧ Below w.heap.size w w' := by
  have hcv' := fun w => run_convert_float_float (P := Tryz.prog) w 23 163 .f32 .f64 b y (by kernel_rfl) (by kernel_rfl) hcv
  clear hcv
  go_enter Tryz.func107, Tryz.ntmps107
  go_wp2_with (first
    | (go_at_call 163; refine (isNaN_any _ _).mono ?_; rintro e w' ⟨rfl, rfl⟩)
    | (go_at_call 164; refine (isInf_any _ hy inf (by rw [ha]; exact ho2) _).mono ?_; rintro e w' ⟨rfl, rfl⟩)
    | (go_at_call 165; refine (abs_any _ hy _).mono ?_; rintro e w' ⟨rfl, rfl⟩)
    | (go_at_call 104; refine (errorIf_any _ _ _).mono ?_; rintro e w' ⟨rfl, rfl⟩))
  refine (first_any _ _ [errIf inf 1, errIf true 3] _ (by simp [maxLen]) (by exact rd_of_blk (Blk.new _ _ _) rfl)).mono ?_
  rintro e w' ⟨rfl, rfl⟩
  go_wp2
  go_ret
  exact ⟨ret_int (by cases inf <;> simp [firstE, errIf, numE]), by go_grown⟩
theorem nanword (q : Question) (k : Nat) (h : q.cut k = (k % 2) * 2 ^ 63 + 0x7ff0000000000000 + 1 + (k / 2) % (2 ^ 52 - 1)) : (∃ s t, FloatKind.f64.decode (q.cut k) = .nan s t) ∧ q.cut k < 18446744073709551616 := by
  rw [h]
  have h1 : k % 2 < 2 := Nat.mod_lt _ (by omega)
  have h2 : k / 2 % (2 ^ 52 - 1) < 2 ^ 52 - 1 := Nat.mod_lt _ (by omega)
  refine ⟨?_, by omega⟩
  generalize k % 2 = x at *
  generalize k / 2 % (2 ^ 52 - 1) = v at *
  have e : FloatKind.f64.decode (x * 2 ^ 63 + 9218868437227405312 + 1 + v) = Ieee.double.read (x * 2 ^ 63 + 9218868437227405312 + 1 + v) := rfl
  rw [e]
  have hs : Ieee.double.signWeight = 9223372036854775808 := by decide +kernel
  have hb : Ieee.double.binade = 4503599627370496 := by decide +kernel
  have hi : Ieee.double.infRung = 9218868437227405312 := by decide +kernel
  unfold Ieee.Format.read
  simp only [hs, hb, hi]
  have hm : (x * 2 ^ 63 + 9218868437227405312 + 1 + v) % 9223372036854775808 = 9218868437227405312 + 1 + v := by omega
  rw [hm, if_neg (by omega), if_neg (by omega), if_neg (by omega)]
  exact ⟨_, _, rfl⟩
theorem order_nan (r x : Nat) (s : Bool) (t : Nat) (h : FloatKind.f64.decode r = .nan s t) : FloatKind.f64.format.order r x = none := by
  have h' : FloatKind.f64.format.read r = .nan s t := h
  unfold Ieee.Format.order
  rw [h']
  rfl
theorem conv_nan (b : Nat) (s : Bool) (t : Nat) (h : FloatKind.f32.decode b = .nan s t) (w : World) : ∃ r, (∃ s t, FloatKind.f64.decode r = .nan s t) ∧ r < 18446744073709551616 ∧ (convert 23 163 (.float .f32 b)).run Tryz.prog w = .ok (.float .f64 r) w.drew := by
  have hn := nanword (.nanConv .f64 b) (w.tape w.drawn (.nanConv .f64 b)) rfl
  refine ⟨_, hn.1, hn.2, ?_⟩
  simp [convert, run_underlying Tryz.underlying23, run_underlying Tryz.underlying163, Conv.floatToFloat, h, Question.forced]
theorem mul_nan (r c : Nat) (s : Bool) (t : Nat) (h : FloatKind.f64.decode r = .nan s t) (w : World) : ∃ z, (binOp .mul 163 (.float .f64 r) (.float .f64 c)).run Tryz.prog w = .ok (.float .f64 z) w.drew := by
  have h' : FloatKind.f64.format.read r = .nan s t := h
  have hm : FloatKind.f64.format.mul r c = none := by unfold Ieee.Format.mul; rw [h']; rfl
  refine ⟨(Question.nanBits .f64 r c).cut (w.tape w.drawn (.nanBits .f64 r c)), ?_⟩
  simp [binOp, Op.floatArith, hm, Question.forced]
set_option maxRecDepth 100000 in
theorem trunc_gen (z : Nat) (w : World) : Calls Tryz.prog 166 #[.float .f64 z] w fun e w' => ∃ t, e = .returned (.float .f64 t) ∧ Below w.heap.size w w' := by
  have h1 : ∃ t n, (callFunc 192 #[.float .f64 z]).run Tryz.prog w = .ok (.value (.float .f64 t)) (w.drewN n) := by
    have h : (callFunc 192 #[.float .f64 z]).run Tryz.prog w = (Next.value <$> Extern.MathFloor.toIntegral "math.archTrunc" .zero #[.float .f64 z]).run Tryz.prog w := by kernel_rfl
    rw [h]
    have hh : Extern.MathFloor.toIntegral "math.archTrunc" .zero #[.float .f64 z] = Extern.MathFloor.toIntegral.match_1 (motive := fun _ => Sem Value) (FloatKind.f64.decode z) _ _ := rfl
    rw [hh]
    cases hd : FloatKind.f64.decode z with
    | number s m e => exact ⟨_, 0, rfl⟩
    | infinity s => exact ⟨_, 0, rfl⟩
    | nan s t =>
      dsimp only
      by_cases hq : FloatKind.f64.format.quiet t = t
      · rw [if_pos hq]; exact ⟨_, 0, rfl⟩
      · rw [if_neg hq]; exact ⟨_, 1, rfl⟩
  obtain ⟨t, n, h1⟩ := h1
  go_enter Tryz.func166, Tryz.ntmps166
  go_wp2
  go_ret
  exact ⟨t, rfl, ⟨rfl, rfl, rfl, Nat.le_refl _, fun _ _ => rfl⟩⟩

set_option maxRecDepth 100000 in
theorem checkNumber_nan (b mb : Nat) (s : Bool) (t : Nat) (h : FloatKind.f32.decode b = .nan s t) (w : World) :
    Calls Tryz.prog 107 #[.float .f32 b, .float .f64 mb] w fun e w' => e = .returned (.int .i64 1) ∧ Below w.heap.size w w' := by
  obtain ⟨r, ⟨s', t', hr⟩, hy, hcv⟩ := conv_nan b s t h w
  have ho := order_nan r r s' t' hr
  have hmul := mul_nan r 0x4030000000000000 s' t' hr
  have HM := Lib.hid hmul
  clear h hmul hr
  generalize hbig : (FloatKind.f64.format.order (r % 2 ^ 63) mb == some .gt) = big
  cases big
  · obtain ⟨z, hz⟩ := HM.out w.drew
    obtain ⟨z2, hz2⟩ := HM.out w.drew.drew
    go_enter Tryz.func107, Tryz.ntmps107
    go_wp2_with (first
      | (go_at_call 163; refine (isNaN_any _ _).mono ?_; rintro e w' ⟨rfl, rfl⟩)
      | (go_at_call 165; refine (abs_any _ hy _).mono ?_; rintro e w' ⟨rfl, rfl⟩)
      | (go_at_call 104; refine (errorIf_any _ _ _).mono ?_; rintro e w' ⟨rfl, rfl⟩))
    refine (trunc_gen _ _).mono ?_
    rintro e w1 ⟨t1, rfl, hb1⟩
    generalize hfr : (FloatKind.f64.format.order z t1 != some .eq) = frac
    go_wp2_with (go_at_call 104; refine (errorIf_any _ _ _).mono ?_; rintro e w' ⟨rfl, rfl⟩)
    refine (first_any _ _ [errIf true 1, errIf frac 3] _ (by simp [maxLen]) (by exact rd_of_blk (Blk.new _ _ _) rfl)).mono ?_
    rintro e w' ⟨rfl, rfl⟩
    go_wp2
    go_ret
    exact ⟨rfl, (((((Below.refl w.heap.size w).drew).drew).drew).trans hb1).alloc hb1.size _⟩
  · go_enter Tryz.func107, Tryz.ntmps107
    go_wp2_with (first
      | (go_at_call 163; refine (isNaN_any _ _).mono ?_; rintro e w' ⟨rfl, rfl⟩)
      | (go_at_call 165; refine (abs_any _ hy _).mono ?_; rintro e w' ⟨rfl, rfl⟩)
      | (go_at_call 104; refine (errorIf_any _ _ _).mono ?_; rintro e w' ⟨rfl, rfl⟩))
    refine (first_any _ _ [errIf true 1, errIf true 3] _ (by simp [maxLen]) (by exact rd_of_blk (Blk.new w _ _) rfl)).mono ?_
    rintro e w' ⟨rfl, rfl⟩
    go_wp2
    go_ret
    exact ⟨rfl, by go_grown⟩
open Ieee (P2)
open Ieee in
theorem NumS.abs {b : Nat} {s : Bool} {M : Nat} (h : NumS double b s M) : NumS double (b % 2 ^ 63) false M := by
  obtain ⟨k, q, hr, hk⟩ := h
  refine ⟨k, q, ?_, hk⟩
  have hs : double.signWeight = 2 ^ 63 := by decide +kernel
  unfold Format.read at hr ⊢
  simp only [hs] at hr ⊢
  have h1 : b % 2 ^ 63 / 2 ^ 63 % 2 = 0 := by omega
  rw [h1, Nat.mod_mod]
  split at hr
  · rename_i h; rw [if_pos h]; simp only [Datum.number.injEq] at hr ⊢; exact ⟨by decide, hr.2⟩
  · rename_i h; rw [if_neg h]
    split at hr
    · rename_i h; rw [if_pos h]; simp only [Datum.number.injEq] at hr ⊢; exact ⟨by decide, hr.2⟩
    · split at hr <;> cases hr
def chk (most b : Nat) : Int :=
  match Ieee.single.read b with
  | .number _ k p => if most * 2 ^ 149 < k * 2 ^ (p + 149).toNat ∨ (k * 2 ^ (p + 149).toNat) % 2 ^ 145 ≠ 0 then 3 else 0
  | _ => 1
theorem chk_num {most b : Nat} {s : Bool} {M : Nat} (h : Ieee.NumS Ieee.single b s M) : chk most b = if most * 2 ^ 149 < M ∨ M % 2 ^ 145 ≠ 0 then 3 else 0 := by
  obtain ⟨k, q, hr, hk⟩ := h
  unfold chk
  rw [hr]
  dsimp only
  have hL : Ieee.single.leastPlace = -149 := by decide +kernel
  have : (Ieee.single.leastPlace + (q : Int) + 149).toNat = q := by rw [hL]; omega
  rw [this, hk]
theorem single_least : Ieee.single.leastPlace = -(149 : Nat) := by decide +kernel
theorem double_least : Ieee.double.leastPlace = -(1074 : Nat) := by decide +kernel
theorem num_max : Ieee.NumS Ieee.double 0x7fefffffffffffff false ((2 ^ 53 - 1) * P2 2045) := ⟨2 ^ 53 - 1, 2045, by decide +kernel, by unfold P2; rfl⟩
theorem num_16 : Ieee.NumS Ieee.double 0x4030000000000000 false (16 * P2 1074) := ⟨2 ^ 52, 1026, by decide +kernel, by decide +kernel⟩
open Ieee in
theorem conv_num {b : Nat} {s : Bool} {M : Nat} (h : NumS single b s M) : ∃ y, floatToFloatBits .f32 b .f64 = some y ∧ NumS double y s (M * P2 925) ∧ y < 18446744073709551616 := by
  have hc := h.convP 149 925 single_least double_least (by decide) (by decide +kernel) (by decide +kernel)
  refine ⟨_, ?_, hc, double.write_lt _⟩
  obtain ⟨k, q, hr, hk⟩ := h
  obtain ⟨k', q', hr', _⟩ := hc
  have e1 : FloatKind.f32.decode b = .number s k (single.leastPlace + q) := hr
  unfold floatToFloatBits
  rw [if_neg (by decide), e1]
  dsimp only
  rw [hr] at hr'
  have e2 : FloatKind.f64.decode (FloatKind.f64.encode (.number s k (single.leastPlace + q))) = .number s k' (double.leastPlace + q') := hr'
  rw [e2]
  simp [Datum.isInfinity]
  rw [hr]; rfl
theorem cmp_self (a : Int) : compare a a = .eq := Int.compare_eq_eq.2 rfl
theorem cmp_gt (a b : Int) : (some (compare a b) == some Ordering.gt) = decide (b < a) := by
  rcases Int.lt_trichotomy a b with h | h | h
  · rw [Int.compare_eq_lt.2 h, decide_eq_false (by omega)]; rfl
  · rw [Int.compare_eq_eq.2 h, decide_eq_false (by omega)]; rfl
  · rw [Int.compare_eq_gt.2 h, decide_eq_true (by omega)]; rfl
theorem cmp_lt (a b : Int) : (some (compare a b) == some Ordering.lt) = decide (a < b) := by
  rcases Int.lt_trichotomy a b with h | h | h
  · rw [Int.compare_eq_lt.2 h, decide_eq_true (by omega)]; rfl
  · rw [Int.compare_eq_eq.2 h, decide_eq_false (by omega)]; rfl
  · rw [Int.compare_eq_gt.2 h, decide_eq_false (by omega)]; rfl
theorem cmp_ne (a b : Int) : (some (compare a b) != some Ordering.eq) = decide (a ≠ b) := by
  rcases Int.lt_trichotomy a b with h | h | h
  · rw [Int.compare_eq_lt.2 h, decide_eq_true (by omega)]; rfl
  · rw [Int.compare_eq_eq.2 h, decide_eq_false (by omega)]; rfl
  · rw [Int.compare_eq_gt.2 h, decide_eq_true (by omega)]; rfl
theorem cmp_eq (a b : Int) : (some (compare a b) == some Ordering.eq) = decide (a = b) := by
  rcases Int.lt_trichotomy a b with h | h | h
  · rw [Int.compare_eq_lt.2 h, decide_eq_false (by omega)]; rfl
  · rw [Int.compare_eq_eq.2 h, decide_eq_true (by omega)]; rfl
  · rw [Int.compare_eq_gt.2 h, decide_eq_false (by omega)]; rfl
theorem sgn_inj (s : Bool) (M N : Nat) : Ieee.sgn s M = Ieee.sgn s N ↔ M = N := by unfold Ieee.sgn; cases s <;> simp <;> omega
theorem pow_split_1074 : P2 1074 = 2 ^ 149 * P2 925 := by decide +kernel
theorem small_929 (x most : Nat) (h : x ≤ most * 2 ^ 149) (hm : most ≤ 4096) : x * P2 929 < P2 (1074 + Ieee.double.fractionBits) := by
  have h1 : x ≤ 4096 * 2 ^ 149 := Nat.le_trans h (Nat.mul_le_mul_right (2 ^ 149) hm)
  have h2 : 4096 * 2 ^ 149 * P2 929 < P2 (1074 + Ieee.double.fractionBits) := by decide +kernel
  generalize P2 929 = a at *
  exact Nat.lt_of_le_of_lt (Nat.mul_le_mul_right a h1) h2
theorem cancel_929 (a b : Nat) (h : a * P2 929 = b * P2 929) : a = b := by
  have hp : 0 < P2 929 := by decide +kernel
  generalize P2 929 = c at hp h
  exact Nat.mul_right_cancel hp h
theorem split_1074 (m : Nat) : m * P2 1074 = m * 2 ^ 149 * P2 925 := by rw [pow_split_1074, Nat.mul_assoc]
theorem frac_a (x c a b e : Nat) (he : e = b * a) (ha : 0 < a) (h : x * a = c * e) : x % b = 0 := by
  rw [he, ← Nat.mul_assoc] at h
  rw [Nat.mul_right_cancel ha h, Nat.mul_mod_left]
theorem frac_b (x a b e : Nat) (he : e = b * a) (h : x % b = 0) : x * a % e = 0 := by
  rw [he, Nat.mul_mod_mul_right, h, Nat.zero_mul]
theorem lt_of_pieces (x a b c : Nat) (h : x < c) (h2 : c * a ≤ b) (ha : 0 < a) : x * a < b := Nat.lt_of_lt_of_le (Nat.mul_lt_mul_of_pos_right h ha) h2
theorem f32_lt_max (k q : Nat) (hk : k < 2 ^ 24) (hq : q ≤ 253) : k * 2 ^ q * P2 925 < (2 ^ 53 - 1) * P2 2045 := by
  have h0 : 2 ^ q ≤ 2 ^ 253 := Nat.pow_le_pow_right (by decide) hq
  have h1 : k * 2 ^ q < 2 ^ 24 * 2 ^ 253 := Nat.mul_lt_mul_of_lt_of_le hk h0 (Nat.two_pow_pos 253)
  exact lt_of_pieces _ _ _ (2 ^ 24 * 2 ^ 253) h1 (by decide +kernel) (by decide +kernel)
theorem mul16g (k x A B C : Nat) (h : C = A * 16) : k * x * A * (16 * B) = k * x * C * B := by rw [h]; ac_rfl
theorem mul16g' (k x A B C : Nat) (h : C = A * 16) : 16 * B * (k * x * A) = k * x * C * B := by rw [h]; ac_rfl
open Ieee in
theorem checkNumber_any (b mb most : Nat) (hmb : NumS double mb false (most * P2 1074)) (hmost : most ≤ 4096) (w : World) :
    Calls Tryz.prog 107 #[.float .f32 b, .float .f64 mb] w fun e w' => e = .returned (.int .i64 (chk most b)) ∧ Below w.heap.size w w' := by
  cases hd : single.read b with
  | nan s t =>
    have : chk most b = 1 := by unfold chk; rw [hd]
    rw [this]
    exact checkNumber_nan b mb s t hd w
  | infinity s =>
    have hc : chk most b = 1 := by unfold chk; rw [hd]
    rw [hc]
    have hcv : floatToFloatBits .f32 b .f64 = some (FloatKind.f64.encode (.infinity s)) := by
      unfold floatToFloatBits
      have e1 : FloatKind.f32.decode b = .infinity s := hd
      rw [if_neg (by decide), e1]
    have ho3 : (FloatKind.f64.format.order 0x7ff0000000000000 mb == some .gt) = true := by
      obtain ⟨k, q, hr, _⟩ := hmb
      have h1 : double.read 0x7ff0000000000000 = .infinity false := by decide +kernel
      show (double.order 0x7ff0000000000000 mb == some .gt) = true
      unfold Format.order
      rw [h1, hr]
      rfl
    refine (checkNumber_big b mb _ 0x7ff0000000000000 true w hcv ?_ ?_ ?_ (by decide +kernel) ho3).mono fun e w' h => h
    · cases s <;> decide +kernel
    · cases s <;> decide +kernel
    · cases s <;> decide +kernel
  | number s k p =>
    obtain ⟨q, rfl⟩ := NumS.of_read hd
    obtain ⟨hk1, hq1⟩ := Format.read_small (by decide) hd
    have hk2 : k < 2 ^ 24 := by have : 2 * single.binade = 2 ^ 24 := by decide +kernel
                                omega
    have hq2 : q ≤ 253 := by have : 2 ^ single.exponentBits = 256 := by decide +kernel
                             omega
    have hb : NumS single b s (k * 2 ^ q) := ⟨k, q, hd, rfl⟩
    rw [chk_num hb]
    obtain ⟨y, hcv, hy, hyl⟩ := conv_num hb
    have ha := NumS.abs hy
    have o1 : double.order y y = some .eq := by rw [hy.order hy, cmp_self]
    have o2 : (double.order (y % 2 ^ 63) 0x7fefffffffffffff == some .gt) = false := by
      rw [ha.order num_max, cmp_gt]
      apply decide_eq_false
      have h3 := f32_lt_max k q hk2 hq2
      generalize k * 2 ^ q * P2 925 = X at h3 ⊢
      generalize (2 ^ 53 - 1) * P2 2045 = Y at h3 ⊢
      unfold sgn
      simp
      omega
    have o3 : (double.order (y % 2 ^ 63) mb == some .gt) = decide (most * 2 ^ 149 < k * 2 ^ q) := by
      rw [ha.order hmb, cmp_gt]
      unfold sgn
      have e : most * P2 1074 = most * 2 ^ 149 * P2 925 := by rw [pow_split_1074, Nat.mul_assoc]
      rw [e]
      have hp : 0 < P2 925 := (by decide +kernel)
      generalize P2 925 = Z at *
      generalize k * 2 ^ q = X at *
      generalize most * 2 ^ 149 = Y at *
      rw [decide_eq_decide]
      simp
      constructor
      · intro h
        have h' : Y * Z < X * Z := by exact_mod_cast h
        exact Nat.lt_of_mul_lt_mul_right h'
      · intro h
        have h' : Y * Z < X * Z := Nat.mul_lt_mul_of_pos_right h hp
        exact_mod_cast h'
    by_cases hbig : most * 2 ^ 149 < k * 2 ^ q
    · rw [if_pos (Or.inl hbig)]
      exact checkNumber_big b mb y _ false w hcv hyl rfl o1 o2 (by rw [decide_eq_true hbig] at o3; exact o3)
    · have o3' : (double.order (y % 2 ^ 63) mb == some .gt) = false := by rw [decide_eq_false hbig] at o3; exact o3
      have hd1 : k < 2 * double.binade := by
        have : 2 ^ 24 ≤ 2 * double.binade := by decide +kernel
        exact Nat.lt_of_lt_of_le hk2 this
      have hd2 : q + 929 + 3 ≤ 2 ^ double.exponentBits := Nat.le_trans (Nat.add_le_add_right (Nat.add_le_add_right hq2 929) 3) (by decide +kernel)
      have hd3 : k * 2 ^ q * P2 925 * (16 * P2 1074) = k * 2 ^ q * P2 929 * P2 1074 := by
        exact mul16g k (2 ^ q) (P2 925) (P2 1074) (P2 929) (by decide +kernel)
      obtain ⟨z, hz, hzn⟩ := hy.mulP num_16 1074 double_least (k * 2 ^ q * P2 929) k (q + 929) hd3 (by rw [Ieee.P2_add, Nat.mul_assoc]; rfl) hd1 hd2
      have hlt : k * 2 ^ q * P2 929 < P2 (1074 + double.fractionBits) := by
        exact small_929 _ _ (Nat.le_of_not_lt hbig) hmost
      obtain ⟨c, hc, hce⟩ := hzn.integralP 1074 double_least .zero hlt (by decide +kernel)
      have hbs : (s ^^ false) = s := by cases s <;> rfl
      rw [hbs] at hzn hc
      have hfr := hzn.order hc
      have o4 : (double.order z (double.write ((double.read z).integral .zero)) != some .eq) = decide ((k * 2 ^ q) % 2 ^ 145 ≠ 0) := by
        rw [hfr, cmp_ne, decide_eq_decide, Ne, sgn_inj]
        apply not_congr
        have e : P2 1074 = 2 ^ 145 * P2 929 := by decide +kernel
        constructor
        · intro h
          exact frac_a _ c (P2 929) (2 ^ 145) (P2 1074) e (by decide +kernel) h
        · intro h
          refine (hce ?_).symm
          exact frac_b _ (P2 929) (2 ^ 145) (P2 1074) e h
      obtain ⟨k', q', hz', _⟩ := hzn
      have := checkNumber_small b mb y _ z _ _ w hcv hyl rfl o1 o2 o3' hz s k' _ hz' rfl o4
      refine this.mono fun e w' h => ⟨h.1.trans (ret_int ?_), h.2⟩
      by_cases hm : (k * 2 ^ q) % 2 ^ 145 = 0
      · rw [decide_eq_false (by simpa using hm), if_neg (by rintro (h | h); exact hbig h; exact h hm)]; rfl
      · rw [decide_eq_true hm, if_pos (Or.inr hm)]; rfl

theorem num_1024 : Ieee.NumS Ieee.double 0x4090000000000000 false (1024 * P2 1074) := ⟨2 ^ 52, 1032, by decide +kernel, by decide +kernel⟩
theorem checkSample_any (b : Nat) (w : World) : Calls Tryz.prog 26 #[.float .f32 b] w fun e w' => e = .returned (.int .i64 (chk 1024 b)) ∧ Below w.heap.size w w' := by
  go_enter Tryz.func26, Tryz.ntmps26
  go_wp2_with fail
  refine (checkNumber_any b _ 1024 num_1024 (by omega) _).mono ?_
  rintro e w1 ⟨rfl, hb1⟩
  go_wp2
  go_ret
  exact ⟨rfl, hb1⟩
theorem when_any (b : Bool) (e : Int) (w : World) : Calls Tryz.prog 33 #[.bool b, .int .i64 e] w fun e' w' => e' = .returned (.int .i64 (errIf b e)) ∧ w = w' := by
  cases b
  all_goals
    go_enter Tryz.func33, Tryz.ntmps33
    go_wp2
    go_ret
    exact ⟨rfl, rfl⟩
set_option maxRecDepth 100000 in
theorem checkPart_num (b y a z t : Nat) (most : Int) (h0 : 0 ≤ most) (h1 : most ≤ 4096) (f1 f2 : Nat) (hf1 : floatOfInt .f64 most = f1) (hf2 : floatOfInt .f64 (-most) = f2) (B1 B2 frac : Bool) (w : World)
    (hcv : floatToFloatBits .f32 b .f64 = some y) (hy : y < 18446744073709551616) (ha : y % 2 ^ 63 = a)
    (ho1 : FloatKind.f64.format.order y y = some .eq) (ho2 : (FloatKind.f64.format.order a 0x7fefffffffffffff == some .gt) = false)
    (ho3 : (FloatKind.f64.format.order y f1 == some .gt) = B1) (ho4 : (FloatKind.f64.format.order y f2 == some .lt) = B2)
    (hmul : floatBits .mul .f64 0x4030000000000000 y = some z) (s : Bool) (k : Nat) (p : Int) (hz : FloatKind.f64.decode z = .number s k p) (ht : FloatKind.f64.encode ((FloatKind.f64.decode z).integral .down) = t) (hfr : (FloatKind.f64.format.order z t != some .eq) = frac) :
    Calls Tryz.prog 108 #[.float .f32 b, .int .i64 most] w fun e w' => e = .returned (.int .i64 (errIf (B1 || B2 || frac) 3)) ∧ w = w' := by
  have hcv' := fun w => run_convert_float_float (P := Tryz.prog) w 23 163 .f32 .f64 b y (by kernel_rfl) (by kernel_rfl) hcv
  have hmul' := fun w => run_float_arith (P := Tryz.prog) w .mul 163 .f64 0x4030000000000000 y z hmul
  have HT := Lib.hid (floor_any z t s k p hz ht)
  clear hmul hz ht hcv
  cases B1 <;> cases B2
  all_goals
    go_enter Tryz.func108, Tryz.ntmps108
    go_wp2_with (first
      | (go_at_call 163; refine (isNaN_any _ _).mono ?_; rintro e w' ⟨rfl, rfl⟩)
      | (go_at_call 164; refine (isInf_any _ hy false (by rw [ha]; exact ho2) _).mono ?_; rintro e w' ⟨rfl, rfl⟩)
      | (go_at_call 167; refine (HT.out _).mono ?_; rintro e w' ⟨rfl, rfl⟩)
      | (go_at_call 33; refine (when_any _ _ _).mono ?_; rintro e w' ⟨rfl, rfl⟩))
    go_ret
    exact ⟨by cases frac <;> rfl, rfl⟩

set_option maxRecDepth 100000 in
theorem checkPart_nan (b : Nat) (most : Int) (s : Bool) (t : Nat) (h : FloatKind.f32.decode b = .nan s t) (w : World) :
    Calls Tryz.prog 108 #[.float .f32 b, .int .i64 most] w fun e w' => e = .returned (.int .i64 1) ∧ Below w.heap.size w w' := by
  obtain ⟨r, ⟨s', t', hr⟩, hy, hcv⟩ := conv_nan b s t h w
  have ho := order_nan r r s' t' hr
  clear h hr
  go_enter Tryz.func108, Tryz.ntmps108
  go_wp2_with (go_at_call 163; refine (isNaN_any _ _).mono ?_; rintro e w' ⟨rfl, rfl⟩)
  go_ret
  exact ⟨rfl, by go_grown⟩
set_option maxRecDepth 100000 in
theorem checkPart_inf (b y a : Nat) (most : Int) (w : World) (hcv : floatToFloatBits .f32 b .f64 = some y) (hy : y < 18446744073709551616) (ha : y % 2 ^ 63 = a)
    (ho1 : FloatKind.f64.format.order y y = some .eq) (ho2 : (FloatKind.f64.format.order a 0x7fefffffffffffff == some .gt) = true) :
    Calls Tryz.prog 108 #[.float .f32 b, .int .i64 most] w fun e w' => e = .returned (.int .i64 1) ∧ Below w.heap.size w w' := by
  have hcv' := fun w => run_convert_float_float (P := Tryz.prog) w 23 163 .f32 .f64 b y (by kernel_rfl) (by kernel_rfl) hcv
  clear hcv
  go_enter Tryz.func108, Tryz.ntmps108
  go_wp2_with (first
      | (go_at_call 163; refine (isNaN_any _ _).mono ?_; rintro e w' ⟨rfl, rfl⟩)
      | (go_at_call 164; refine (isInf_any _ hy true (by rw [ha]; exact ho2) _).mono ?_; rintro e w' ⟨rfl, rfl⟩))
  go_ret
  exact ⟨rfl, Below.refl _ _⟩

open Ieee in
theorem num_int64 (n : Int) (h : n.natAbs ≤ 4096) : NumS double (floatOfInt .f64 n) (decide (n < 0)) (n.natAbs * P2 1074) := by
  have e : floatOfInt .f64 n = double.nearest (decide (n < 0)) n.natAbs 0 := rfl
  rw [e]
  refine NumS.writeP _ _ _ _ n.natAbs 1074 rfl ?_ (by decide +kernel) ?_
  · exact Nat.lt_of_le_of_lt h (by decide +kernel)
  · rw [double_least]
    have e1 : ((0 : Int) - -((1074 : Nat) : Int)).toNat = 1074 := by decide
    have e2 : (-((1074 : Nat) : Int) - 0).toNat = 0 := by decide
    rw [e1, e2]; exact (Nat.mul_one _).symm
theorem sgn_gt (s : Bool) (X Y : Nat) : (decide ((Y : Int) < Ieee.sgn s X) || decide (Ieee.sgn s X < -(Y : Int))) = decide (Y < X) := by
  unfold Ieee.sgn
  rw [← Bool.decide_or, decide_eq_decide]
  cases s <;> simp <;> omega
theorem sgn_neg (n : Int) (h : 0 ≤ n) (c : Nat) : Ieee.sgn (decide (-n < 0)) ((-n).natAbs * c) = -((n.natAbs * c : Nat) : Int) := by
  unfold Ieee.sgn
  rw [Int.natAbs_neg]
  by_cases h0 : n = 0
  · subst h0; simp
  · rw [if_pos (by simp; omega)]
theorem mul_lt_iff (a b c : Nat) (hc : 0 < c) : a * c < b * c ↔ a < b := ⟨Nat.lt_of_mul_lt_mul_right, fun h => Nat.mul_lt_mul_of_pos_right h hc⟩
open Ieee in
theorem checkPart_any (b most : Nat) (hmost : most ≤ 4096) (w : World) :
    Calls Tryz.prog 108 #[.float .f32 b, .int .i64 most] w fun e w' => e = .returned (.int .i64 (chk most b)) ∧ Below w.heap.size w w' := by
  cases hd : single.read b with
  | nan s t =>
    have : chk most b = 1 := by unfold chk; rw [hd]
    rw [this]
    exact checkPart_nan b most s t hd w
  | infinity s =>
    have hc : chk most b = 1 := by unfold chk; rw [hd]
    rw [hc]
    have hcv : floatToFloatBits .f32 b .f64 = some (FloatKind.f64.encode (.infinity s)) := by
      unfold floatToFloatBits
      have e1 : FloatKind.f32.decode b = .infinity s := hd
      rw [if_neg (by decide), e1]
    refine checkPart_inf b _ 0x7ff0000000000000 most w hcv ?_ ?_ ?_ (by decide +kernel)
    · cases s <;> decide +kernel
    · cases s <;> decide +kernel
    · cases s <;> decide +kernel
  | number s k p =>
    obtain ⟨q, rfl⟩ := NumS.of_read hd
    obtain ⟨hk1, hq1⟩ := Format.read_small (by decide) hd
    have hk2 : k < 2 ^ 24 := by have : 2 * single.binade = 2 ^ 24 := by decide +kernel
                                omega
    have hq2 : q ≤ 253 := by have : 2 ^ single.exponentBits = 256 := by decide +kernel
                             omega
    have hb : NumS single b s (k * 2 ^ q) := ⟨k, q, hd, rfl⟩
    rw [chk_num hb]
    obtain ⟨y, hcv, hy, hyl⟩ := conv_num hb
    have ha := NumS.abs hy
    have o1 : double.order y y = some .eq := by rw [hy.order hy, cmp_self]
    have o2 : (double.order (y % 2 ^ 63) 0x7fefffffffffffff == some .gt) = false := by
      rw [ha.order num_max, cmp_gt]
      apply decide_eq_false
      have h3 := f32_lt_max k q hk2 hq2
      generalize k * 2 ^ q * P2 925 = X at h3 ⊢
      generalize (2 ^ 53 - 1) * P2 2045 = Y at h3 ⊢
      unfold sgn
      simp
      omega
    have n1 := num_int64 (most : Int) (by simpa using hmost)
    have n2 := num_int64 (-(most : Int)) (by simpa using hmost)
    have hbig : ((double.order y (floatOfInt .f64 most) == some .gt) || (double.order y (floatOfInt .f64 (-(most : Int))) == some .lt)) = decide (most * 2 ^ 149 < k * 2 ^ q) := by
      rw [hy.order n1, hy.order n2, cmp_gt, cmp_lt, sgn_neg _ (by omega)]
      have e0 : sgn (decide ((most : Int) < 0)) ((most : Int).natAbs * P2 1074) = ((most * P2 1074 : Nat) : Int) := by
        rw [decide_eq_false (by omega)]; rfl
      rw [e0, Int.natAbs_natCast, sgn_gt, split_1074, decide_eq_decide]
      have hp : 0 < P2 925 := by decide +kernel
      generalize P2 925 = c at hp ⊢
      exact mul_lt_iff _ _ c hp
    have hd1 : k < 2 * double.binade := by
      have : 2 ^ 24 ≤ 2 * double.binade := by decide +kernel
      exact Nat.lt_of_lt_of_le hk2 this
    have hd2 : q + 929 + 3 ≤ 2 ^ double.exponentBits := Nat.le_trans (Nat.add_le_add_right (Nat.add_le_add_right hq2 929) 3) (by decide +kernel)
    have hd3 : 16 * P2 1074 * (k * 2 ^ q * P2 925) = k * 2 ^ q * P2 929 * P2 1074 := by
      exact mul16g' k (2 ^ q) (P2 925) (P2 1074) (P2 929) (by decide +kernel)
    obtain ⟨z, hz, hzn⟩ := num_16.mulP hy 1074 double_least (k * 2 ^ q * P2 929) k (q + 929) hd3 (by rw [Ieee.P2_add, Nat.mul_assoc]; rfl) hd1 hd2
    have hbs : (false ^^ s) = s := by cases s <;> rfl
    rw [hbs] at hzn
    have hzn' := hzn
    obtain ⟨k', q', hz', _⟩ := hzn'
    have hw := checkPart_num b y _ z _ most (by omega) (by omega) _ _ rfl rfl _ _ _ w hcv hyl rfl o1 o2 rfl rfl hz s k' _ hz' rfl rfl
    refine hw.mono fun e w' h => ⟨h.1.trans (ret_int ?_), by rw [← h.2]; exact Below.refl _ _⟩
    have hbig' := hbig
    change ((FloatKind.f64.format.order y (floatOfInt .f64 most) == some .gt) || (FloatKind.f64.format.order y (floatOfInt .f64 (-(most : Int))) == some .lt)) = _ at hbig'
    rw [hbig']
    by_cases hb1 : most * 2 ^ 149 < k * 2 ^ q
    · rw [if_pos (Or.inl hb1), decide_eq_true hb1]; rfl
    · rw [decide_eq_false hb1]
      have hlt := small_929 _ _ (Nat.le_of_not_lt hb1) hmost
      obtain ⟨c, hc, hce⟩ := hzn.integralP 1074 double_least .down hlt (by decide +kernel)
      have hfr := hzn.order hc
      have o4 : (double.order z (double.write ((double.read z).integral .down)) != some .eq) = decide ((k * 2 ^ q) % 2 ^ 145 ≠ 0) := by
        rw [hfr, cmp_ne, decide_eq_decide, Ne, sgn_inj]
        apply not_congr
        have e : P2 1074 = 2 ^ 145 * P2 929 := by decide +kernel
        constructor
        · intro h
          exact frac_a _ c (P2 929) (2 ^ 145) (P2 1074) e (by decide +kernel) h
        · intro h
          refine (hce ?_).symm
          exact frac_b _ (P2 929) (2 ^ 145) (P2 1074) e h
      change (FloatKind.f64.format.order z (FloatKind.f64.encode ((FloatKind.f64.decode z).integral .down)) != some .eq) = _ at o4
      rw [o4]
      by_cases hm : (k * 2 ^ q) % 2 ^ 145 = 0
      · rw [decide_eq_false (by simpa using hm), if_neg (by rintro (h | h); exact hb1 h; exact h hm)]; rfl
      · rw [decide_eq_true hm, if_pos (Or.inr hm)]; rfl

end Go.Proofs.YtkjkjhheckfhbaaGreatDoor
