/- The integer of a sample, and the sample with an integer. -/
import Derived.Test.YtlicgblagkkcfaaGreatDoorG
namespace Go.Proofs.YtlicgblagkkcfaaGreatDoor
open Go.RowKit
set_option linter.unusedVariables false
open Ieee (P2)
attribute [local go_sem] run_store_float run_store_complex
open Ieee in
theorem NumS.toInt {f : Format} {b : Nat} {s : Bool} {n D : Nat} (hb : NumS f b s (n * P2 D)) (hL : f.leastPlace = -(D : Int)) (way : Toward) : (f.read b).toInt way = some (sgn s n) := by
  obtain ⟨k, q, hr, hk⟩ := hb
  rw [hr]
  unfold Datum.toInt Datum.integral
  dsimp only
  rw [hL, signed_eq, Nat.shiftLeft_eq]
  unfold P2 at hk
  congr 2
  rw [Nat.pow_zero, Nat.mul_one]
  rcases Nat.lt_or_ge q D with h | h
  · have e1 : (-(D : Int) + q).toNat = 0 := by omega
    have e2 : (-(-(D : Int) + q)).toNat = D - q := by omega
    rw [e1, e2, Nat.pow_zero, Nat.mul_one]
    rw [two_pow_split q D (by omega)] at hk
    have hk' : k * 2 ^ q = n * 2 ^ (D - q) * 2 ^ q := by rw [hk]; ac_rfl
    have hk2 := Nat.mul_right_cancel (Nat.two_pow_pos q) hk'
    rw [hk2]
    by_cases h0 : n = 0
    · subst h0; simp [Toward.cut]; cases way <;> simp
    · exact cut_exact way s n (D - q) h0
  · have e1 : (-(D : Int) + q).toNat = q - D := by omega
    have e2 : (-(-(D : Int) + q)).toNat = 0 := by omega
    rw [e1, e2, cut_zero]
    rw [two_pow_split D q h] at hk
    have hk' : k * 2 ^ (q - D) * 2 ^ D = n * 2 ^ D := by rw [← hk]; ac_rfl
    exact Nat.mul_right_cancel (Nat.two_pow_pos D) hk'
/-- The integer of a sample. -/
def lvl (b : Nat) : Int := match Ieee.single.read b with | .number s k p => Ieee.sgn s (k * 2 ^ (p + 149).toNat / 2 ^ 145) | _ => 0
open Ieee in
theorem chk_zero {b : Nat} (h : chk 1024 b = 0) : ∃ s n, NumS single b s (n * 2 ^ 145) ∧ n ≤ 16384 ∧ lvl b = sgn s n := by
  unfold chk at h
  unfold lvl
  cases hd : single.read b with
  | nan s t => rw [hd] at h; cases h
  | infinity s => rw [hd] at h; cases h
  | number s k p =>
    obtain ⟨q, rfl⟩ := NumS.of_read hd
    rw [hd] at h
    dsimp only at h ⊢
    have hL : single.leastPlace = -149 := by decide +kernel
    have e : (single.leastPlace + (q : Int) + 149).toNat = q := by rw [hL]; omega
    rw [e] at h ⊢
    split at h
    · cases h
    · rename_i hc
      have h1 : k * 2 ^ q ≤ 1024 * 2 ^ 149 := Nat.le_of_not_lt fun hh => hc (Or.inl hh)
      have h2 : k * 2 ^ q % 2 ^ 145 = 0 := Decidable.byContradiction fun hh => hc (Or.inr hh)
      have h3 : k * 2 ^ q / 2 ^ 145 * 2 ^ 145 = k * 2 ^ q := Nat.div_mul_cancel (Nat.dvd_of_mod_eq_zero h2)
      refine ⟨s, k * 2 ^ q / 2 ^ 145, ⟨k, q, hd, h3.symm⟩, ?_, rfl⟩
      generalize k * 2 ^ q / 2 ^ 145 = n at h3
      omega
theorem num16s : Ieee.NumS Ieee.single 0x41800000 false (16 * P2 149) := ⟨2 ^ 23, 130, by decide +kernel, by decide +kernel⟩
theorem single_leastP : Ieee.single.leastPlace = -((149 : Nat) : Int) := by decide +kernel
open Ieee in
theorem level_facts {b : Nat} (h : chk 1024 b = 0) : ∃ z, floatBits .mul .f32 b 0x41800000 = some z ∧ floatToIntVal .f32 z .i64 = some (lvl b) ∧ -16384 ≤ lvl b ∧ lvl b ≤ 16384 := by
  obtain ⟨s, n, hn, hle, hl⟩ := chk_zero h
  obtain ⟨z, hz, hzn⟩ := hn.mulP num16s 149 single_leastP (n * P2 149) n 149 (by
    have e : P2 149 = 2 ^ 145 * 16 := by decide +kernel
    generalize P2 149 = a at e ⊢
    generalize (2 : Nat) ^ 145 = c at e ⊢
    subst e
    ac_rfl) rfl (Nat.lt_of_le_of_lt hle (by decide +kernel)) (by decide +kernel)
  have hbs : (s ^^ false) = s := by cases s <;> rfl
  rw [hbs] at hzn
  have ht := NumS.toInt hzn single_leastP .zero
  have hb : -16384 ≤ sgn s n ∧ sgn s n ≤ 16384 := by unfold sgn; cases s <;> simp <;> omega
  refine ⟨z, hz, ?_, by rw [hl]; exact hb⟩
  unfold floatToIntVal
  have e : (FloatKind.f32.decode z).toInt .zero = some (sgn s n) := ht
  rw [e]
  have h1 : IntKind.i64.min ≤ sgn s n ∧ sgn s n ≤ IntKind.i64.max := by
    have e1 : IntKind.i64.min = -9223372036854775808 := by decide
    have e2 : IntKind.i64.max = 9223372036854775807 := by decide
    rw [e1, e2]; omega
  simp only []
  rw [if_pos h1, hl]
open Ieee in
theorem num_int32 (n : Int) (h : n.natAbs ≤ 1000000) : NumS single (floatOfInt .f32 n) (decide (n < 0)) (n.natAbs * P2 149) := by
  have e : floatOfInt .f32 n = single.nearest (decide (n < 0)) n.natAbs 0 := rfl
  rw [e]
  refine NumS.writeP _ _ _ _ n.natAbs 149 rfl ?_ (by decide +kernel) ?_
  · exact Nat.lt_of_le_of_lt h (by decide +kernel)
  · rw [single_leastP]
    have e1 : ((0 : Int) - -((149 : Nat) : Int)).toNat = 149 := by decide
    have e2 : (-((149 : Nat) : Int) - 0).toNat = 0 := by decide
    rw [e1, e2]; exact (Nat.mul_one _).symm
open Ieee in
/-- a quotient by 16 -/
theorem div16 {x : Nat} {s : Bool} {n : Nat} (hx : NumS single x s (n * P2 149)) (hn : n ≤ 1000000) : ∃ r, single.div x 0x41800000 = some r ∧ NumS single r s (n * 2 ^ 145) := by
  obtain ⟨k, q, hr, hk⟩ := hx
  obtain ⟨hk1, hq1⟩ := Format.read_small (by decide) hr
  have hk2 : k < 2 ^ 24 := by have : 2 * single.binade = 2 ^ 24 := by decide +kernel
                              omega
  have h16 : single.read 0x41800000 = .number false (2 ^ 23) (-19) := by decide +kernel
  have hlog : k.log2 ≤ 23 := by
    by_cases h0 : k = 0
    · subst h0; decide
    · have := (Nat.log2_lt h0).2 hk2; omega
  have l23 : (2 ^ 23 : Nat).log2 = 23 := by decide +kernel
  refine ⟨single.write (.number s (2 * (k * 2 ^ (25 - k.log2))) (single.leastPlace + q - (-19) - ((25 + 23 - k.log2 : Nat) : Int) - 1)), ?_, ?_⟩
  · unfold Format.div
    rw [hr, h16]
    unfold Datum.quotient
    dsimp only
    rw [if_neg (by decide), l23]
    have e1 : single.fractionBits + 2 = 25 := by decide
    rw [e1, Nat.shiftLeft_eq]
    have e2 : k * 2 ^ (25 + 23 - k.log2) = k * 2 ^ (25 - k.log2) * 2 ^ 23 := by rw [Nat.mul_assoc, ← Nat.pow_add]; congr 2; omega
    rw [e2, Nat.mul_div_cancel _ (by decide), Nat.mul_mod_left]
    cases s <;> simp
  · refine NumS.write s _ _ (n * 2 ^ 145) n 145 rfl (Nat.lt_of_le_of_lt hn (by decide +kernel)) (by decide +kernel) ?_
    rw [single_leastP]
    unfold P2 at hk
    have hmore : (25 + 23 - k.log2 : Nat) = (25 - k.log2) + 23 := by omega
    rw [hmore]
    generalize 25 - k.log2 = t at *
    rcases Int.lt_or_le ((q : Int) - 4 - t - 1) 0 with h | h
    · have e1 : (-((149 : Nat) : Int) + q - (-19) - ((t + 23 : Nat) : Int) - 1 - -((149 : Nat) : Int)).toNat = 0 := by omega
      have e2 : (-((149 : Nat) : Int) - (-((149 : Nat) : Int) + q - (-19) - ((t + 23 : Nat) : Int) - 1)).toNat = t + 5 - q := by omega
      rw [e1, e2, Nat.pow_zero, Nat.mul_one]
      have : 2 * (k * 2 ^ t) * 2 ^ q = n * 2 ^ 145 * 2 ^ (t + 5 - q) * 2 ^ q := by
        rw [Nat.mul_assoc (n * 2 ^ 145), ← Nat.pow_add, show t + 5 - q + q = t + 5 by omega]
        have h1 : 2 * (k * 2 ^ t) * 2 ^ q = 2 * 2 ^ t * (k * 2 ^ q) := by ac_rfl
        rw [h1, hk, Nat.pow_add, show (2 : Nat) ^ 149 = 2 ^ 145 * 2 ^ 4 by decide +kernel]
        have : (2 : Nat) ^ 5 = 2 ^ 4 * 2 := by decide
        rw [this]; ac_rfl
      exact Nat.mul_right_cancel (Nat.two_pow_pos q) this
    · have e1 : (-((149 : Nat) : Int) + q - (-19) - ((t + 23 : Nat) : Int) - 1 - -((149 : Nat) : Int)).toNat = q - (t + 5) := by omega
      have e2 : (-((149 : Nat) : Int) - (-((149 : Nat) : Int) + q - (-19) - ((t + 23 : Nat) : Int) - 1)).toNat = 0 := by omega
      rw [e1, e2, Nat.pow_zero, Nat.mul_one]
      have : 2 * (k * 2 ^ t) * 2 ^ (q - (t + 5)) * 2 ^ 4 = n * 2 ^ 145 * 2 ^ 4 := by
        have h1 : 2 * (k * 2 ^ t) * 2 ^ (q - (t + 5)) * 2 ^ 4 = k * (2 ^ t * 2 ^ 5 * 2 ^ (q - (t + 5))) := by
          rw [show (2 : Nat) ^ 5 = 2 * 2 ^ 4 by decide]; ac_rfl
        rw [h1, ← Nat.pow_add, ← Nat.pow_add, show t + 5 + (q - (t + 5)) = q by omega, hk, show (2 : Nat) ^ 149 = 2 ^ 145 * 2 ^ 4 by decide +kernel]
        ac_rfl
      exact Nat.mul_right_cancel (by decide) this
/-- The sample with an integer. -/
def smp (n : Int) : Nat := (Ieee.single.div (floatOfInt .f32 n) 0x41800000).getD 0
open Ieee in
theorem smp_facts (n : Int) (h : n.natAbs ≤ 1000000) : floatBits .quo .f32 (floatOfInt .f32 n) 0x41800000 = some (smp n) ∧ NumS single (smp n) (decide (n < 0)) (n.natAbs * 2 ^ 145) := by
  obtain ⟨r, hr, hn⟩ := div16 (num_int32 n h) h
  have : smp n = r := by unfold smp; rw [hr]; rfl
  rw [this]
  exact ⟨hr, hn⟩
theorem sgn_abs (n : Int) : Ieee.sgn (decide (n < 0)) n.natAbs = n := by
  unfold Ieee.sgn
  by_cases h : n < 0
  · rw [if_pos (by simpa using h)]; omega
  · rw [if_neg (by simpa using h)]; omega
open Ieee in
theorem smp_valid (n : Int) (h : -16384 ≤ n ∧ n ≤ 16384) : chk 1024 (smp n) = 0 ∧ lvl (smp n) = n := by
  obtain ⟨_, hn⟩ := smp_facts n (by omega)
  have hc : chk 1024 (smp n) = 0 := by
    rw [chk_num hn, if_neg]
    rintro (h1 | h1)
    · have : n.natAbs ≤ 16384 := by omega
      have h2 : n.natAbs * 2 ^ 145 ≤ 16384 * 2 ^ 145 := Nat.mul_le_mul_right _ this
      have h3 : 16384 * 2 ^ 145 = 1024 * 2 ^ 149 := by decide +kernel
      omega
    · exact h1 (Nat.mul_mod_left _ _)
  refine ⟨hc, ?_⟩
  obtain ⟨k, q, hr, hk⟩ := hn
  unfold lvl
  rw [hr]
  dsimp only
  have e : (single.leastPlace + (q : Int) + 149).toNat = q := by rw [single_leastP]; omega
  rw [e, hk, Nat.mul_div_cancel _ (by decide), sgn_abs]

end Go.Proofs.YtlicgblagkkcfaaGreatDoor
