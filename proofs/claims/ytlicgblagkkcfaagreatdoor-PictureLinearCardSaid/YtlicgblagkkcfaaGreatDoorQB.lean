/- Parts of a proof: Sums and products of float32 and complex64 numbers that are multiples of 1/16: exact. The transform of numbers that are multiples of 1/16, and back: exact. The samples of a panel, by the code. Sums, multiples and means of pictures, by their levels. Samples doubled, their panel, and the panel back: what the law PictureLinear compares. PictureLinear, where it asks nothing, or the pictures have different shapes. -/
import Derived.Test.YtlicgblagkkcfaaGreatDoorZ
import Derived.Test.YtlicgblagkkcfaaGreatDoorP3
import Derived.Test.YtlicgblagkkcfaaGreatDoorLa
import Derived.Test.YtlicgblagkkcfaaGreatDoorQH
namespace Go.Proofs.YtlicgblagkkcfaaGreatDoor
open Go.RowKit
set_option linter.unusedVariables false
theorem double_leastP : Ieee.double.leastPlace = -((1074 : Nat) : Int) := by decide +kernel
open Ieee in
/-- A word that stands for z units of 2 to the power of e above the least one. -/
def Stands (f : Format) (e : Nat) (b : Nat) (z : Int) : Prop := ∃ (s : Bool) (n : Nat), NumS f b s (n * P2 e) ∧ sgn s n = z
/-- z sixteenths, as a float32; as a float64. -/
def V32 (b : Nat) (z : Int) : Prop := Stands Ieee.single 145 b z
def V64 (b : Nat) (z : Int) : Prop := Stands Ieee.double 1070 b z
theorem sgn_natAbs (s : Bool) (n : Nat) : (Ieee.sgn s n).natAbs = n := by unfold Ieee.sgn; cases s <;> simp
theorem sgn_mulP (s : Bool) (n c : Nat) : Ieee.sgn s (n * c) = Ieee.sgn s n * c := by unfold Ieee.sgn; cases s <;> simp [Int.neg_mul]
open Ieee in
theorem sum_raw {f : Format} {e : Nat} (s : Bool) (n k q : Nat) (s' : Bool) (n' k' q' : Nat) (h2 : k * 2 ^ q = n * P2 e) (h4 : k' * 2 ^ q' = n' * P2 e) (h5 : (sgn s n + sgn s' n').natAbs < 2 * f.binade) (he : e + 3 ≤ 2 ^ f.exponentBits) :
    ∃ d, (Datum.number s k (f.leastPlace + (q : Int))).sum (.number s' k' (f.leastPlace + (q' : Int))) = some d ∧ Stands f e (f.write d) (sgn s n + sgn s' n') := by
  refine ⟨_, rfl, ?_⟩
  obtain ⟨base, hbase⟩ : ∃ b : Nat, min q q' = b := ⟨_, rfl⟩
  have e0 : min (f.leastPlace + (q : Int)) (f.leastPlace + (q' : Int)) = f.leastPlace + (base : Int) := by omega
  have e1 : (f.leastPlace + (q : Int) - (f.leastPlace + (base : Int))).toNat = q - base := by omega
  have e2 : (f.leastPlace + (q' : Int) - (f.leastPlace + (base : Int))).toNat = q' - base := by omega
  rw [e0, e1, e2, signed_eq, signed_eq]
  have hq : sgn s (k * 2 ^ (q - base)) * ((2 ^ base : Nat) : Int) = sgn s n * (P2 e : Int) := by
    rw [← sgn_mulP, ← sgn_mulP, ← h2, Nat.mul_assoc, ← Nat.pow_add, show q - base + base = q by omega]
  have hq' : sgn s' (k' * 2 ^ (q' - base)) * ((2 ^ base : Nat) : Int) = sgn s' n' * (P2 e : Int) := by
    rw [← sgn_mulP, ← sgn_mulP, ← h4, Nat.mul_assoc, ← Nat.pow_add, show q' - base + base = q' by omega]
  obtain ⟨T, hT⟩ : ∃ T, sgn s (k * 2 ^ (q - base)) + sgn s' (k' * 2 ^ (q' - base)) = T := ⟨_, rfl⟩
  obtain ⟨Z, hZ⟩ : ∃ Z, sgn s n + sgn s' n' = Z := ⟨_, rfl⟩
  have hTZ : T * ((2 ^ base : Nat) : Int) = Z * (P2 e : Int) := by rw [← hT, ← hZ, Int.add_mul, Int.add_mul, hq, hq']
  rw [hZ] at h5 ⊢
  rw [hT]
  have hTn : T.natAbs * 2 ^ base = Z.natAbs * P2 e := by
    have := congrArg Int.natAbs hTZ
    rw [Int.natAbs_mul, Int.natAbs_mul] at this
    simpa using this
  obtain ⟨S, hS⟩ : ∃ S, (if T = 0 then (s && s') else decide (T < 0)) = S := ⟨_, rfl⟩
  have hw : NumS f (f.nearest S T.natAbs (f.leastPlace + (base : Int))) S (Z.natAbs * P2 e) := by
    refine NumS.writeP S T.natAbs _ (Z.natAbs * P2 e) Z.natAbs e rfl h5 he ?_
    have e3 : (f.leastPlace + (base : Int) - f.leastPlace).toNat = base := by omega
    have e4 : (f.leastPlace - (f.leastPlace + (base : Int))).toNat = 0 := by omega
    rw [e3, e4]
    show T.natAbs * 2 ^ base = Z.natAbs * P2 e * 2 ^ 0
    rw [hTn, Nat.pow_zero, Nat.mul_one]
  have hsg : sgn S Z.natAbs = Z := by
    by_cases h0 : T = 0
    · have hz0 : Z = 0 := by
        rw [h0, Int.zero_mul] at hTZ
        have hp : (0 : Int) < (P2 e : Int) := by exact_mod_cast P2_pos e
        rcases Int.mul_eq_zero.1 hTZ.symm with h | h
        · exact h
        · omega
      rw [hz0]; unfold sgn; cases S <;> simp
    · rw [if_neg h0] at hS
      have hp2 : (0 : Int) < ((2 ^ base : Nat) : Int) := by exact_mod_cast Nat.two_pow_pos base
      have hpe : (0 : Int) < (P2 e : Int) := by exact_mod_cast P2_pos e
      have hneg : T < 0 ↔ Z < 0 := by
        constructor
        · intro h
          have := Int.mul_neg_of_neg_of_pos h hp2
          rw [hTZ] at this
          rcases Int.lt_or_le Z 0 with h6 | h6
          · exact h6
          · have := Int.mul_nonneg h6 (Int.le_of_lt hpe); omega
        · intro h
          have := Int.mul_neg_of_neg_of_pos h hpe
          rw [← hTZ] at this
          rcases Int.lt_or_le T 0 with h6 | h6
          · exact h6
          · have := Int.mul_nonneg h6 (Int.le_of_lt hp2); omega
      rw [← hS]
      by_cases h6 : Z < 0
      · rw [decide_eq_true (hneg.2 h6)]; unfold sgn; simp; omega
      · rw [decide_eq_false (fun h => h6 (hneg.1 h))]; unfold sgn; simp; omega
  exact ⟨S, Z.natAbs, by rw [← hS] at hw ⊢; exact hw, hsg⟩
open Ieee in
theorem Stands.add {f : Format} {e x y : Nat} {z u : Int} (hx : Stands f e x z) (hy : Stands f e y u) (hm : (z + u).natAbs < 2 * f.binade) (he : e + 3 ≤ 2 ^ f.exponentBits) : ∃ r, f.add x y = some r ∧ Stands f e r (z + u) := by
  obtain ⟨s, n, ⟨k, q, h1, h2⟩, hz⟩ := hx
  obtain ⟨s', n', ⟨k', q', h3, h4⟩, hu⟩ := hy
  subst hz; subst hu
  obtain ⟨d, hd, hst⟩ := sum_raw s n k q s' n' k' q' h2 h4 hm he
  exact ⟨f.write d, by unfold Format.add; rw [h1, h3, hd]; rfl, hst⟩
open Ieee in
theorem Stands.sub {f : Format} {e x y : Nat} {z u : Int} (hx : Stands f e x z) (hy : Stands f e y u) (hm : (z - u).natAbs < 2 * f.binade) (he : e + 3 ≤ 2 ^ f.exponentBits) : ∃ r, f.sub x y = some r ∧ Stands f e r (z - u) := by
  obtain ⟨s, n, ⟨k, q, h1, h2⟩, hz⟩ := hx
  obtain ⟨s', n', ⟨k', q', h3, h4⟩, hu⟩ := hy
  have hneg : sgn (!s') n' = -u := by rw [← hu]; unfold sgn; cases s' <;> simp
  obtain ⟨d, hd, hst⟩ := sum_raw s n k q (!s') n' k' q' h2 h4 (by rw [hneg, hz]; exact hm) he
  rw [hneg, hz] at hst
  exact ⟨f.write d, by unfold Format.sub; rw [h1, h3]; show ((Datum.number s k _).sum (.number (!s') k' _)).map f.write = _; rw [hd]; rfl, hst⟩
theorem add64 {x y : Nat} {z u : Int} (hx : V64 x z) (hy : V64 y u) (hm : (z + u).natAbs ≤ 1000000000) : ∃ r, floatBits .add .f64 x y = some r ∧ V64 r (z + u) :=
  Stands.add hx hy (Nat.lt_of_le_of_lt hm (by decide +kernel)) (by decide +kernel)
theorem sub64 {x y : Nat} {z u : Int} (hx : V64 x z) (hy : V64 y u) (hm : (z - u).natAbs ≤ 1000000000) : ∃ r, floatBits .sub .f64 x y = some r ∧ V64 r (z - u) :=
  Stands.sub hx hy (Nat.lt_of_le_of_lt hm (by decide +kernel)) (by decide +kernel)
theorem add32 {x y : Nat} {z u : Int} (hx : V32 x z) (hy : V32 y u) (hm : (z + u).natAbs ≤ 10000000) : ∃ r, floatBits .add .f32 x y = some r ∧ V32 r (z + u) :=
  Stands.add hx hy (Nat.lt_of_le_of_lt hm (by decide +kernel)) (by decide +kernel)
open Ieee in
/-- A product with a small whole number. -/
theorem mul64 {x y : Nat} {z p : Int} (hx : V64 x z) (hy : V64 y (16 * p)) (hm : (z * p).natAbs ≤ 1000000000) : ∃ r, floatBits .mul .f64 x y = some r ∧ V64 r (z * p) := by
  obtain ⟨s, n, h1, hz⟩ := hx
  obtain ⟨s', n', h2, hp⟩ := hy
  have hn' : n' = 16 * p.natAbs := by have := congrArg Int.natAbs hp; rw [sgn_natAbs, Int.natAbs_mul] at this; simpa using this
  have hpr : (z * p).natAbs = n * p.natAbs := by rw [Int.natAbs_mul, ← hz, sgn_natAbs]
  obtain ⟨r, hr, hn⟩ := h1.mulP h2 1074 double_leastP (n * p.natAbs * P2 1070) (n * p.natAbs) 1070 (by
    rw [hn', show P2 1074 = P2 1070 * 16 by rw [← show P2 4 = 16 from rfl, ← P2_add]]
    generalize P2 1070 = a
    ac_rfl) rfl (Nat.lt_of_le_of_lt (by rw [← hpr]; exact hm) (by decide +kernel)) (by decide +kernel)
  refine ⟨r, hr, s ^^ s', n * p.natAbs, hn, ?_⟩
  rw [← hz]
  have h16 : sgn s' p.natAbs = p := by
    rw [hn'] at hp
    unfold sgn at hp ⊢
    cases s' <;> simp at hp ⊢ <;> omega
  conv => rhs; rw [← h16]
  unfold sgn
  cases s <;> cases s' <;> simp [Int.neg_mul, Int.mul_neg]
open Ieee in
/-- To 64 bits. -/
theorem widen {x : Nat} {z : Int} (hx : V32 x z) : ∃ r, floatToFloatBits .f32 x .f64 = some r ∧ V64 r z := by
  obtain ⟨s, n, h1, hz⟩ := hx
  have h2 := h1.convP (g := double) 149 925 single_leastP double_leastP (by decide) (by decide +kernel) (by decide +kernel)
  rw [Nat.mul_assoc, ← P2_add] at h2
  obtain ⟨k, q, hr, hk⟩ := h1
  obtain ⟨k2, q2, hr2, hk2⟩ := h2
  refine ⟨double.write (single.read x), ?_, s, n, ⟨k2, q2, hr2, hk2⟩, hz⟩
  rw [hr] at hr2 ⊢
  have h3 : FloatKind.f32.decode x = .number s k (single.leastPlace + (q : Int)) := hr
  have h4 : FloatKind.f64.decode (FloatKind.f64.encode (.number s k (single.leastPlace + (q : Int)))) = .number s k2 (double.leastPlace + (q2 : Int)) := hr2
  unfold floatToFloatBits
  rw [if_neg (by decide), h3]
  simp only []
  rw [h4]
  rfl
open Ieee in
/-- Back to 32 bits. -/
theorem narrow {x : Nat} {z : Int} (hx : V64 x z) (hm : z.natAbs ≤ 10000000) : ∃ r, floatToFloatBits .f64 x .f32 = some r ∧ V32 r z := by
  obtain ⟨s, n, ⟨k, q, hr, hk⟩, hz⟩ := hx
  have hn : n = z.natAbs := by rw [← hz, sgn_natAbs]
  have h2 : NumS single (single.nearest s k (double.leastPlace + (q : Int))) s (n * P2 145) := by
    refine NumS.writeP s k _ (n * P2 145) n 145 rfl (Nat.lt_of_le_of_lt (by rw [hn]; exact hm) (by decide +kernel)) (by decide +kernel) ?_
    rw [double_leastP, single_leastP]
    have hk2 : k * P2 q = n * P2 145 * P2 925 := by rw [Nat.mul_assoc, ← P2_add]; exact hk
    rcases Nat.lt_or_ge q 925 with h | h
    · have e1 : (-((1074 : Nat) : Int) + (q : Int) - -((149 : Nat) : Int)).toNat = 0 := by omega
      have e2 : (-((149 : Nat) : Int) - (-((1074 : Nat) : Int) + (q : Int))).toNat = 925 - q := by omega
      rw [e1, e2]
      rw [show (925 : Nat) = (925 - q) + q by omega, P2_add, ← Nat.mul_assoc] at hk2
      have h6 := Nat.mul_right_cancel (P2_pos q) hk2
      rw [show P2 0 = 1 from rfl, Nat.mul_one]; exact h6
    · have e1 : (-((1074 : Nat) : Int) + (q : Int) - -((149 : Nat) : Int)).toNat = q - 925 := by omega
      have e2 : (-((149 : Nat) : Int) - (-((1074 : Nat) : Int) + (q : Int))).toNat = 0 := by omega
      rw [e1, e2, show P2 0 = 1 from rfl, Nat.mul_one]
      rw [show q = (q - 925) + 925 by omega, P2_add, ← Nat.mul_assoc] at hk2
      have h6 := Nat.mul_right_cancel (P2_pos 925) hk2
      exact h6
  obtain ⟨k2, q2, hr2, hk2⟩ := h2
  refine ⟨single.nearest s k (double.leastPlace + (q : Int)), ?_, s, n, ⟨k2, q2, hr2, hk2⟩, hz⟩
  have h3 : FloatKind.f64.decode x = .number s k (double.leastPlace + (q : Int)) := hr
  have h4 : FloatKind.f32.decode (FloatKind.f32.encode (.number s k (double.leastPlace + (q : Int)))) = .number s k2 (single.leastPlace + (q2 : Int)) := hr2
  unfold floatToFloatBits
  rw [if_neg (by decide), h3]
  simp only []
  rw [h4]
  rfl
/-- A product of complex numbers, one of them of small whole numbers. -/
theorem c64_mul {a b c d : Nat} {x y p q : Int} (ha : V32 a x) (hb : V32 b y) (hc : V32 c (16 * p)) (hd : V32 d (16 * q)) (hx : x.natAbs ≤ 1000000) (hy : y.natAbs ≤ 1000000) (hp : p.natAbs ≤ 2) (hq : q.natAbs ≤ 2) :
    ∃ m, c64Mul a b c d = some m ∧ V32 m.1 (x * p - y * q) ∧ V32 m.2 (x * q + y * p) := by
  have bd : ∀ u v : Int, u.natAbs ≤ 1000000 → v.natAbs ≤ 2 → (u * v).natAbs ≤ 2000000 := fun u v hu hv => by rw [Int.natAbs_mul]; exact Nat.le_trans (Nat.mul_le_mul hu hv) (by decide)
  have b1 := bd x p hx hp; have b2 := bd y q hy hq; have b3 := bd x q hx hq; have b4 := bd y p hy hp
  obtain ⟨A, hA, vA⟩ := widen ha
  obtain ⟨B, hB, vB⟩ := widen hb
  obtain ⟨C, hC, vC⟩ := widen hc
  obtain ⟨E, hE, vE⟩ := widen hd
  obtain ⟨r1, e1, v1⟩ := mul64 vA vC (by omega)
  obtain ⟨r2, e2, v2⟩ := mul64 vB vE (by omega)
  obtain ⟨r3, e3, v3⟩ := sub64 v1 v2 (by omega)
  obtain ⟨r4, e4, v4⟩ := mul64 vA vE (by omega)
  obtain ⟨r5, e5, v5⟩ := mul64 vB vC (by omega)
  obtain ⟨r6, e6, v6⟩ := add64 v4 v5 (by omega)
  obtain ⟨r7, e7, v7⟩ := narrow v3 (by omega)
  obtain ⟨r8, e8, v8⟩ := narrow v6 (by omega)
  refine ⟨(r7, r8), ?_, v7, v8⟩
  unfold c64Mul cMulBits
  rw [hA, hB, hC, hE]
  simp only [Option.bind_some]
  rw [e1, e2]
  simp only [Option.bind_some]
  rw [e3, e4, e5]
  simp only [Option.bind_some]
  rw [e6]
  simp only [Option.bind_some]
  rw [e7, e8]
  rfl
theorem c64_add {a b c d : Nat} {x y u v : Int} (ha : V32 a x) (hb : V32 b y) (hc : V32 c u) (hd : V32 d v) (hx : (x + u).natAbs ≤ 10000000) (hy : (y + v).natAbs ≤ 10000000) : ∃ r, cSumBits .add .f32 a b c d = some r ∧ V32 r.1 (x + u) ∧ V32 r.2 (y + v) := by
  obtain ⟨r1, e1, v1⟩ := add32 ha hc hx
  obtain ⟨r2, e2, v2⟩ := add32 hb hd hy
  exact ⟨(r1, r2), by unfold cSumBits; rw [e1, e2]; rfl, v1, v2⟩
theorem v32_int (n : Int) (h : n.natAbs ≤ 1000000) : V32 (floatOfInt .f32 n) (16 * n) := by
  have h1 := num_int32 n h
  refine ⟨decide (n < 0), 16 * n.natAbs, ?_, ?_⟩
  · rw [show Ieee.P2 149 = Ieee.P2 145 * 16 by rw [← show Ieee.P2 4 = 16 from rfl, ← Ieee.P2_add]] at h1
    rw [show 16 * n.natAbs * Ieee.P2 145 = n.natAbs * (Ieee.P2 145 * 16) by generalize Ieee.P2 145 = a; ac_rfl]
    exact h1
  · unfold Ieee.sgn
    by_cases h0 : n < 0
    · rw [if_pos (by simpa using h0)]; omega
    · rw [if_neg (by simpa using h0)]; omega
theorem v32_zero : V32 0 0 := ⟨false, 0, ⟨0, 0, by decide +kernel, by simp⟩, rfl⟩
open Ieee in
theorem v32_lvl {b : Nat} (h : chk 1024 b = 0) : V32 b (lvl b) := by
  obtain ⟨s, n, hn, _, hl⟩ := chk_zero h
  exact ⟨s, n, hn, hl.symm⟩
open Ieee in
/-- Two of them compared. -/
theorem v32_order {a b : Nat} {x y : Int} (ha : V32 a x) (hb : V32 b y) : FloatKind.f32.format.order a b = some (compare x y) := by
  obtain ⟨s, n, h1, hz⟩ := ha
  obtain ⟨s', n', h2, hu⟩ := hb
  have h := h1.order h2
  rw [sgn_mulP, sgn_mulP, hz, hu, compare_mul _ _ _ (P2_pos 145)] at h
  exact h
end Go.Proofs.YtlicgblagkkcfaaGreatDoor
namespace Go.Proofs.YtlicgblagkkcfaaGreatDoor
open Go.RowKit
set_option linter.unusedVariables false
/-- The real and the imaginary part of a sum on the way. -/
def tR (X Y : Nat → Int) (step k : Nat) : Nat → Int
  | 0 => 0
  | n + 1 => tR X Y step k n + (X n * pwR (step * k * n % 4) - Y n * pwI (step * k * n % 4))
def tI (X Y : Nat → Int) (step k : Nat) : Nat → Int
  | 0 => 0
  | n + 1 => tI X Y step k n + (X n * pwI (step * k * n % 4) + Y n * pwR (step * k * n % 4))
theorem pw_bd (n : Nat) : (pwR n).natAbs ≤ 1 ∧ (pwI n).natAbs ≤ 1 := by
  match n with
  | 0 => decide
  | 1 => decide
  | 2 => decide
  | 3 => decide
  | n + 4 => exact ⟨by show (0 : Int).natAbs ≤ 1; decide, by show (0 : Int).natAbs ≤ 1; decide⟩
section
variable {z : Nat → Nat × Nat} {X Y : Nat → Int} (hz : ∀ n, n < 4 → V32 (z n).1 (X n) ∧ V32 (z n).2 (Y n)) (hb : ∀ n, n < 4 → (X n).natAbs ≤ 300000 ∧ (Y n).natAbs ≤ 300000) (step : Nat)
include hz hb
set_option maxHeartbeats 2000000 in
theorem sum_one (k : Nat) : ∀ n, n ≤ 4 → V32 (sumS z step k n).1 (tR X Y step k n) ∧ V32 (sumS z step k n).2 (tI X Y step k n) ∧ (tR X Y step k n).natAbs ≤ 600000 * n ∧ (tI X Y step k n).natAbs ≤ 600000 * n ∧
    (∀ j, j < n → ∃ m, c64Mul (z j).1 (z j).2 (floatOfInt .f32 (pwR (step * k * j % 4))) (floatOfInt .f32 (pwI (step * k * j % 4))) = some m ∧ cSumBits .add .f32 (sumS z step k j).1 (sumS z step k j).2 m.1 m.2 = some (sumS z step k (j + 1))) := by
  intro n
  induction n with
  | zero => intro _; exact ⟨v32_zero, v32_zero, by simp [tR], by simp [tI], fun j hj => absurd hj (Nat.not_lt_zero j)⟩
  | succ n ih =>
    intro hn
    obtain ⟨i1, i2, i3, i4, i5⟩ := ih (by omega)
    obtain ⟨z1, z2⟩ := hz n (by omega)
    obtain ⟨b1, b2⟩ := hb n (by omega)
    obtain ⟨p1, p2⟩ := pw_bd (step * k * n % 4)
    have c1 := v32_int (pwR (step * k * n % 4)) (by omega)
    have c2 := v32_int (pwI (step * k * n % 4)) (by omega)
    obtain ⟨m, hm, v1, v2⟩ := c64_mul z1 z2 c1 c2 (by omega) (by omega) (by omega) (by omega)
    have bd : ∀ u v : Int, u.natAbs ≤ 300000 → v.natAbs ≤ 1 → (u * v).natAbs ≤ 300000 := fun u v hu hv => by rw [Int.natAbs_mul]; exact Nat.le_trans (Nat.mul_le_mul hu hv) (by decide)
    have q1 := bd _ _ b1 p1; have q2 := bd _ _ b1 p2; have q3 := bd _ _ b2 p1; have q4 := bd _ _ b2 p2
    clear hz hb ih bd
    have eR : tR X Y step k (n + 1) = tR X Y step k n + (X n * pwR (step * k * n % 4) - Y n * pwI (step * k * n % 4)) := rfl
    have eI : tI X Y step k (n + 1) = tI X Y step k n + (X n * pwI (step * k * n % 4) + Y n * pwR (step * k * n % 4)) := rfl
    have eS : sumS z step k (n + 1) = (((c64Mul (z n).1 (z n).2 (floatOfInt .f32 (pwR (step * k * n % 4))) (floatOfInt .f32 (pwI (step * k * n % 4)))).bind fun m => cSumBits .add .f32 (sumS z step k n).1 (sumS z step k n).2 m.1 m.2)).getD (0, 0) := rfl
    obtain ⟨r, hr, w1, w2⟩ := c64_add i1 i2 v1 v2 (by omega) (by omega)
    have hs : sumS z step k (n + 1) = r := by rw [eS, hm, Option.bind_some, hr]; rfl
    refine ⟨by rw [hs, eR]; exact w1, by rw [hs, eI]; exact w2, by rw [eR]; clear eR eI eS hs w1 w2 v1 v2; omega, by rw [eI]; clear eR eI eS hs w1 w2 v1 v2; omega, fun j hj => ?_⟩
    by_cases e : j = n
    · subst e; exact ⟨m, hm, by rw [hr, hs]⟩
    · exact i5 j (by omega)
theorem step_ok : StepOk z step (sumS z step) :=
  ⟨fun _ _ => rfl, fun k n _ hn => (sum_one hz hb step k 4 (by omega)).2.2.2.2 n hn⟩
theorem sums_v (k : Nat) : V32 (sumS z step k 4).1 (tR X Y step k 4) ∧ V32 (sumS z step k 4).2 (tI X Y step k 4) :=
  ⟨(sum_one hz hb step k 4 (by omega)).1, (sum_one hz hb step k 4 (by omega)).2.1⟩
end
/-- The panel of four numbers. -/
def pR (X : Nat → Int) (k : Nat) : Int := tR X (fun _ => 0) 1 k 4
def pI (X : Nat → Int) (k : Nat) : Int := tI X (fun _ => 0) 1 k 4
theorem panel (X : Nat → Int) : (pR X 0 = X 0 + X 1 + X 2 + X 3 ∧ pI X 0 = 0) ∧ (pR X 1 = X 0 - X 2 ∧ pI X 1 = X 3 - X 1) ∧ (pR X 2 = X 0 - X 1 + X 2 - X 3 ∧ pI X 2 = 0) ∧ (pR X 3 = X 0 - X 2 ∧ pI X 3 = X 1 - X 3) := by
  simp only [pR, pI, tR, tI, pwR, pwI, Nat.reduceMul, Nat.reduceMod]
  refine ⟨⟨?_, ?_⟩, ⟨?_, ?_⟩, ⟨?_, ?_⟩, ?_, ?_⟩ <;> omega
/-- The transform of the panel is four times the numbers. -/
theorem panel_back (X : Nat → Int) (k : Nat) (hk : k < 4) : tR (pR X) (pI X) 3 k 4 = 4 * X k ∧ tI (pR X) (pI X) 3 k 4 = 0 := by
  obtain ⟨⟨a0, b0⟩, ⟨a1, b1⟩, ⟨a2, b2⟩, a3, b3⟩ := panel X
  match k, hk with
  | 0, _ => simp only [tR, tI, pwR, pwI, Nat.reduceMul, Nat.reduceMod, a0, a1, a2, a3, b0, b1, b2, b3]; constructor <;> omega
  | 1, _ => simp only [tR, tI, pwR, pwI, Nat.reduceMul, Nat.reduceMod, a0, a1, a2, a3, b0, b1, b2, b3]; constructor <;> omega
  | 2, _ => simp only [tR, tI, pwR, pwI, Nat.reduceMul, Nat.reduceMod, a0, a1, a2, a3, b0, b1, b2, b3]; constructor <;> omega
  | 3, _ => simp only [tR, tI, pwR, pwI, Nat.reduceMul, Nat.reduceMod, a0, a1, a2, a3, b0, b1, b2, b3]; constructor <;> omega
/-- Twice the numbers: twice the panel. -/
theorem panel_twice (X : Nat → Int) (k : Nat) (hk : k < 4) : pR (fun n => 2 * X n) k = 2 * pR X k ∧ pI (fun n => 2 * X n) k = 2 * pI X k := by
  obtain ⟨⟨a0, b0⟩, ⟨a1, b1⟩, ⟨a2, b2⟩, a3, b3⟩ := panel X
  obtain ⟨⟨c0, d0⟩, ⟨c1, d1⟩, ⟨c2, d2⟩, c3, d3⟩ := panel (fun n => 2 * X n)
  match k, hk with
  | 0, _ => constructor <;> omega
  | 1, _ => constructor <;> omega
  | 2, _ => constructor <;> omega
  | 3, _ => constructor <;> omega
theorem panel_bd (X : Nat → Int) (h : ∀ n, n < 4 → (X n).natAbs ≤ 16384) (k : Nat) (hk : k < 4) : (pR X k).natAbs ≤ 65536 ∧ (pI X k).natAbs ≤ 65536 := by
  obtain ⟨⟨a0, b0⟩, ⟨a1, b1⟩, ⟨a2, b2⟩, a3, b3⟩ := panel X
  have h0 := h 0 (by omega); have h1 := h 1 (by omega); have h2 := h 2 (by omega); have h3 := h 3 (by omega)
  match k, hk with
  | 0, _ => omega
  | 1, _ => omega
  | 2, _ => omega
  | 3, _ => omega
end Go.Proofs.YtlicgblagkkcfaaGreatDoor
namespace Go.Proofs.YtlicgblagkkcfaaGreatDoor
open Go.RowKit
set_option linter.unusedVariables false
attribute [local go_sem] run_store_float run_store_complex
open Ieee in
/-- A quotient by 4. -/
theorem div4 {x : Nat} {z : Int} (hx : V32 x (4 * z)) (hm : z.natAbs ≤ 1000000) : ∃ r, floatBits .quo .f32 x 1082130432 = some r ∧ V32 r z := by
  obtain ⟨s, n, ⟨k, q, hr, hk⟩, hz⟩ := hx
  have hn : n = 4 * z.natAbs := by have := congrArg Int.natAbs hz; rw [sgn_natAbs, Int.natAbs_mul] at this; simpa using this
  obtain ⟨N, hN⟩ : ∃ N, z.natAbs = N := ⟨_, rfl⟩
  rw [hN] at hn hm
  subst hn
  have hsz : sgn s N = z := by
    unfold sgn at hz ⊢
    cases s <;> simp at hz ⊢ <;> omega
  obtain ⟨hk1, hq1⟩ := Format.read_small (by decide) hr
  have hk2 : k < 2 ^ 24 := by have : 2 * single.binade = 2 ^ 24 := by decide +kernel
                              omega
  have h4 : single.read 1082130432 = .number false (2 ^ 23) (-21) := by decide +kernel
  have hlog : k.log2 ≤ 23 := by
    by_cases h0 : k = 0
    · subst h0; decide
    · have := (Nat.log2_lt h0).2 hk2; omega
  have l23 : (2 ^ 23 : Nat).log2 = 23 := by decide +kernel
  refine ⟨single.write (.number s (2 * (k * 2 ^ (25 - k.log2))) (single.leastPlace + q - (-21) - ((25 + 23 - k.log2 : Nat) : Int) - 1)), ?_, s, N, ?_, hsz⟩
  · show single.div x 1082130432 = _
    unfold Format.div
    rw [hr, h4]
    unfold Datum.quotient
    dsimp only
    rw [if_neg (by decide), l23]
    have e1 : single.fractionBits + 2 = 25 := by decide
    rw [e1, Nat.shiftLeft_eq]
    have e2 : k * 2 ^ (25 + 23 - k.log2) = k * 2 ^ (25 - k.log2) * 2 ^ 23 := by rw [Nat.mul_assoc, ← Nat.pow_add]; congr 2; omega
    rw [e2, Nat.mul_div_cancel _ (by decide), Nat.mul_mod_left]
    cases s <;> simp
  · refine NumS.writeP s _ _ (N * P2 145) N 145 rfl (Nat.lt_of_le_of_lt hm (by decide +kernel)) (by decide +kernel) ?_
    rw [single_leastP]
    have hmore : (25 + 23 - k.log2 : Nat) = (25 - k.log2) + 23 := by omega
    rw [hmore]
    generalize 25 - k.log2 = t at *
    rcases Int.lt_or_le ((q : Int) - 2 - t - 1) 0 with h | h
    · have e1 : (-((149 : Nat) : Int) + q - (-21) - ((t + 23 : Nat) : Int) - 1 - -((149 : Nat) : Int)).toNat = 0 := by omega
      have e2 : (-((149 : Nat) : Int) - (-((149 : Nat) : Int) + q - (-21) - ((t + 23 : Nat) : Int) - 1)).toNat = t + 3 - q := by omega
      rw [e1, e2, show P2 0 = 1 from rfl, Nat.mul_one]
      have : 2 * (k * 2 ^ t) * 2 ^ q = N * P2 145 * P2 (t + 3 - q) * 2 ^ q := by
        have h3 : P2 (t + 3 - q) * 2 ^ q = P2 (t + 3) := by show P2 (t + 3 - q) * P2 q = _; rw [← P2_add]; congr 1; omega
        rw [Nat.mul_assoc (N * P2 145), h3, P2_add t 3]
        have h1 : 2 * (k * 2 ^ t) * 2 ^ q = 2 * 2 ^ t * (k * 2 ^ q) := by ac_rfl
        rw [h1, hk, show P2 3 = 2 * 4 from rfl]
        show 2 * P2 t * (4 * N * P2 145) = _
        generalize P2 t = a; generalize P2 145 = b
        ac_rfl
      exact Nat.mul_right_cancel (Nat.two_pow_pos q) this
    · have e1 : (-((149 : Nat) : Int) + q - (-21) - ((t + 23 : Nat) : Int) - 1 - -((149 : Nat) : Int)).toNat = q - (t + 3) := by omega
      have e2 : (-((149 : Nat) : Int) - (-((149 : Nat) : Int) + q - (-21) - ((t + 23 : Nat) : Int) - 1)).toNat = 0 := by omega
      rw [e1, e2, show P2 0 = 1 from rfl, Nat.mul_one]
      have : 2 * (k * 2 ^ t) * P2 (q - (t + 3)) * 4 = N * P2 145 * 4 := by
        have h1 : 2 * (k * 2 ^ t) * P2 (q - (t + 3)) * 4 = k * (P2 t * (2 * 4) * P2 (q - (t + 3))) := by
          show 2 * (k * P2 t) * P2 (q - (t + 3)) * 4 = _
          generalize P2 t = a; generalize P2 (q - (t + 3)) = b
          ac_rfl
        rw [h1, show (2 * 4 : Nat) = P2 3 from rfl, ← P2_add, ← P2_add, show t + 3 + (q - (t + 3)) = q by omega]
        show k * 2 ^ q = _
        rw [hk]; generalize P2 145 = b; ac_rfl
      exact Nat.mul_right_cancel (by decide) this
theorem v32_chk {b : Nat} {z : Int} (h : V32 b z) (most : Nat) (hm : z.natAbs ≤ most * 16) : chk most b = 0 := by
  obtain ⟨s, n, hn, hz⟩ := h
  have hnz : n = z.natAbs := by rw [← hz, sgn_natAbs]
  rw [chk_num hn, if_neg]
  have e145 : Ieee.P2 145 = 2 ^ 145 := rfl
  rw [e145]
  rintro (h1 | h1)
  · have h2 : n * 2 ^ 145 ≤ most * 16 * 2 ^ 145 := Nat.mul_le_mul_right _ (by omega)
    rw [Nat.mul_assoc most, show 16 * 2 ^ 145 = 2 ^ 149 by decide +kernel] at h2
    omega
  · exact h1 (Nat.mul_mod_left _ _)
theorem num_4096 : Ieee.NumS Ieee.double 4661225614328463360 false (4096 * Ieee.P2 1074) := ⟨2 ^ 52, 1034, by decide +kernel, by decide +kernel⟩
set_option maxRecDepth 100000 in
/-- A number of a panel that is right. -/
theorem checkPoint_ok (a b : Nat) (ha : chk 4096 a = 0) (hb : chk 4096 b = 0) (w : World) : Calls Tryz.prog 161 #[.complex .f32 a b] w fun e w' => e = .returned (.int .i64 0) ∧ Below w.heap.size w w' := by
  have HA := Lib.hid ha; have HB := Lib.hid hb; clear ha hb
  have HBl := Lib.hid (Below.refl w.heap.size w)
  go_enter Tryz.func161, Tryz.ntmps161
  go_wp2_with fail
  refine (checkNumber_any a _ 4096 num_4096 (by omega) _).mono ?_
  rintro e w1 ⟨rfl, hb1⟩
  rw [HA.out]
  replace HBl := Lib.hid (HBl.out.trans (hb1.mono HBl.out.size)); clear hb1
  go_wp2_with fail
  refine (checkNumber_any b _ 4096 num_4096 (by omega) _).mono ?_
  rintro e w2 ⟨rfl, hb1⟩
  rw [HB.out]
  replace HBl := Lib.hid (HBl.out.trans (hb1.mono HBl.out.size)); clear hb1
  go_wp2_with fail
  refine (errorIf_any _ _ _).mono ?_
  rintro e w3 ⟨rfl, rfl⟩
  go_wp2_with fail
  refine (first_n _ _ _ [errIf false 1, 0, 0] _ rfl (by simp [maxLen]) (by exact rd_of_blk (Blk.new _ _ _) rfl)).mono ?_
  rintro e w4 ⟨rfl, rfl⟩
  go_wp2
  go_ret
  exact ⟨rfl, HBl.out.alloc HBl.out.size _⟩
def cl (z : Nat → Nat × Nat) : List Value := [.complex .f32 (z 0).1 (z 0).2, .complex .f32 (z 1).1 (z 1).2, .complex .f32 (z 2).1 (z 2).2, .complex .f32 (z 3).1 (z 3).2]
theorem cl_get (z : Nat → Nat × Nat) {k : Nat} (h : k < 4) : (cl z)[k]? = some (.complex .f32 (z k).1 (z k).2) := by
  have : k = 0 ∨ k = 1 ∨ k = 2 ∨ k = 3 := by omega
  rcases this with rfl | rfl | rfl | rfl <;> rfl
theorem enters_checkPoint : Enters Tryz.prog 161 := fun a w => by kernel_rfl
set_option maxRecDepth 100000 in
/-- The numbers of a panel that are all right. -/
theorem firstOfC_ok (A : Option Addr) (z : Nat → Nat × Nat) (w : World) (hr : Rd w A (cl z)) (hck : ∀ n, n < 4 → chk 4096 (z n).1 = 0 ∧ chk 4096 (z n).2 = 0) :
    Calls Tryz.prog 160 #[.slice A 4 4, .func (.func 161) #[] #[]] w fun e w' => e = .returned (.int .i64 0) ∧ Below w.heap.size w w' := by
  have HR := Lib.hid hr; clear hr
  have HF := Lib.hid (fun k (h : k < 4) w => checkPoint_ok (z k).1 (z k).2 (hck k h).1 (hck k h).2 w); clear hck
  have hcf := enters_checkPoint
  unfold Enters at hcf
  go_enter Tryz.func160, Tryz.ntmps160
  go_wp2
  go_loopw [10] (fun i wr => ∃ k : Nat, k ≤ 4 ∧ i = .int .i64 k ∧ Below w.heap.size w wr) (fun i _ => 4 - (intOf i).toNat)
  case atStart => exact ⟨0, by omega, rfl, Below.refl _ _⟩
  case round =>
    obtain ⟨k, hk, rfl, hbel⟩ := hrel
    by_cases hlt : k < 4
    · obtain ⟨ad, rfl, hbl, hc⟩ := HR.out.get (k := k) (cl_get z hlt)
      have hc' := (hbel.cell (by rw [block_of_add]; exact hbl)).trans hc
      have HBel := Lib.hid hbel; clear hbel hc
      go_wp2_with fail
      refine (HF.out k hlt _).mono ?_
      rintro e w1 ⟨rfl, hb1⟩
      have HB1 := Lib.hid (HBel.out.trans (hb1.mono HBel.out.size)); clear hb1
      go_wp2
      go_roundw
      case rel => exact ⟨k + 1, by omega, by go_num, HB1.out⟩
      case measure => simp [intOf]; omega
    · have : k = 4 := by omega
      subst this
      go_wp2
      go_ret
      exact ⟨rfl, hbel⟩
def flA (L : Nat → Nat) (n : Nat) : Array Value := #[.float .f32 (if 0 < n then L 0 else 0), .float .f32 (if 1 < n then L 1 else 0), .float .f32 (if 2 < n then L 2 else 0), .float .f32 (if 3 < n then L 3 else 0)]
theorem flA_at (L : Nat → Nat) (n k : Nat) (h : k < 4) : (flA L n)[k]? = some (.float .f32 (if k < n then L k else 0)) := by
  have : k = 0 ∨ k = 1 ∨ k = 2 ∨ k = 3 := by omega
  rcases this with rfl | rfl | rfl | rfl <;> rfl
theorem flA_set (L : Nat → Nat) (n : Nat) (h : n < 4) : (flA L n).setIfInBounds n (.float .f32 (L n)) = flA L (n + 1) := by
  have : n = 0 ∨ n = 1 ∨ n = 2 ∨ n = 3 := by omega
  rcases this with rfl | rfl | rfl | rfl <;> rfl
set_option maxRecDepth 100000 in
set_option maxHeartbeats 2000000 in
/-- The samples of a panel whose transform is four times samples. -/
theorem unfour_ok (z : Nat → Nat × Nat) (L : Nat → Nat) (S : Nat → Nat → Nat × Nat) (hS : StepOk z 3 S) (hck : ∀ n, n < 4 → chk 4096 (z n).1 = 0 ∧ chk 4096 (z n).2 = 0)
    (hq : ∀ n, n < 4 → floatBits .quo .f32 (S n 4).1 1082130432 = some (L n)) (him : ∀ n, n < 4 → (FloatKind.f32.format.order (S n 4).2 0 != some .eq) = false) (hL : ∀ n, n < 4 → chk 1024 (L n) = 0)
    (w : World) (hP : ∀ i, i < 4 → w.cell? ⟨1, i * 2, none⟩ = some (.int .i64 (pwR i)) ∧ w.cell? ⟨1, i * 2 + 1, none⟩ = some (.int .i64 (pwI i))) (hP1 : 1 < w.heap.size) :
    Calls Tryz.prog 92 #[.agg (czV z 4)] w fun e w' => e = .returned (.tuple #[.agg #[.float .f32 (L 0), .float .f32 (L 1), .float .f32 (L 2), .float .f32 (L 3)], .int .i64 0]) ∧ Below w.heap.size w w' := by
  have HS := Lib.hid hS; have HPP := Lib.hid hP; have HCK := Lib.hid hck; have HQ := Lib.hid hq; have HIM := Lib.hid him; have HL := Lib.hid hL
  clear hS hP hck hq him hL
  rw [show czV z 4 = #[.complex .f32 (z 0).1 (z 0).2, .complex .f32 (z 1).1 (z 1).2, .complex .f32 (z 2).1 (z 2).2, .complex .f32 (z 3).1 (z 3).2] from rfl]
  go_enter Tryz.func92, Tryz.ntmps92
  go_upto_region 1 with fail
  have hbx := (Blk.new w 138 #[.complex .f32 (z 0).1 (z 0).2, .complex .f32 (z 1).1 (z 1).2, .complex .f32 (z 2).1 (z 2).2, .complex .f32 (z 3).1 (z 3).2]).alloc (.cells #[.float .f32 0, .float .f32 0, .float .f32 0, .float .f32 0] 135)
  have hby := Blk.new (w.alloc (.cells #[.complex .f32 (z 0).1 (z 0).2, .complex .f32 (z 1).1 (z 1).2, .complex .f32 (z 2).1 (z 2).2, .complex .f32 (z 3).1 (z 3).2] 138)) 135 #[.float .f32 0, .float .f32 0, .float .f32 0, .float .f32 0]
  simp only [World.size_alloc] at hby
  have hb0 : Below w.heap.size w ((w.alloc (.cells #[.complex .f32 (z 0).1 (z 0).2, .complex .f32 (z 1).1 (z 1).2, .complex .f32 (z 2).1 (z 2).2, .complex .f32 (z 3).1 (z 3).2] 138)).alloc (.cells #[.float .f32 0, .float .f32 0, .float .f32 0, .float .f32 0] 135)) := ((Below.refl _ _).alloc (Nat.le_refl _) _).alloc (by simp) _
  generalize (w.alloc (.cells #[.complex .f32 (z 0).1 (z 0).2, .complex .f32 (z 1).1 (z 1).2, .complex .f32 (z 2).1 (z 2).2, .complex .f32 (z 3).1 (z 3).2] 138)).alloc (.cells #[.float .f32 0, .float .f32 0, .float .f32 0, .float .f32 0] 135) = w0 at hbx hby hb0 ⊢
  have hrd : Rd w0 (some ⟨w.heap.size, 0, none⟩) (cl z) := rd_of_blk hbx rfl
  have HX := Lib.hid hbx; have HY := Lib.hid hby; have HB := Lib.hid hb0
  clear hbx hby hb0
  go_wp2_with fail
  refine (firstOfC_ok _ z _ hrd HCK.out).mono ?_
  rintro e w1 ⟨rfl, hb1⟩
  have hx := HX.out.below hb1; have hy := HY.out.below hb1; have hb2 := HB.out.trans (hb1.mono HB.out.size)
  have HX1 := Lib.hid hx; have HY1 := Lib.hid hy; have HB1 := Lib.hid hb2
  clear hx hy hb2 hb1 hrd HX HY HB
  go_upto_region 5 with fail
  have hn := Blk.new w1 135 #[.float .f32 0, .float .f32 0, .float .f32 0, .float .f32 0]
  have hx := HX1.out.alloc (.cells #[.float .f32 0, .float .f32 0, .float .f32 0, .float .f32 0] 135); have hy := HY1.out.alloc (.cells #[.float .f32 0, .float .f32 0, .float .f32 0, .float .f32 0] 135); have hb2 := HB1.out.alloc HB1.out.size (.cells #[.float .f32 0, .float .f32 0, .float .f32 0, .float .f32 0] 135)
  have hyl := HY1.out.lt
  obtain ⟨b5, hb5⟩ : ∃ b, w1.heap.size = b := ⟨_, rfl⟩
  rw [hb5] at hn hyl
  try rw [hb5]
  generalize w1.alloc (.cells #[.float .f32 0, .float .f32 0, .float .f32 0, .float .f32 0] 135) = w2 at hn hx hy hb2 ⊢
  have HN := Lib.hid (show Blk w2 b5 135 (flA L 0) from hn)
  have HX2 := Lib.hid hx; have HY2 := Lib.hid hy; have HB2 := Lib.hid hb2
  clear hn hx hy hb2 hb5 HX1 HY1 HB1
  have x0 := HX2.out.cell 0; have x1 := HX2.out.cell 1; have x2 := HX2.out.cell 2; have x3 := HX2.out.cell 3
  simp only [List.getElem?_toArray, List.getElem?_cons_zero, List.getElem?_cons_succ] at x0 x1 x2 x3
  go_wp2_with fail
  have hp2 : ∀ i, i < 4 → w2.cell? ⟨1, i * 2, none⟩ = some (.int .i64 (pwR i)) ∧ w2.cell? ⟨1, i * 2 + 1, none⟩ = some (.int .i64 (pwI i)) := fun i hi =>
    ⟨(HB2.out.cell (p := ⟨1, i * 2, none⟩) hP1).trans (HPP.out i hi).1, (HB2.out.cell (p := ⟨1, i * 2 + 1, none⟩) hP1).trans (HPP.out i hi).2⟩
  refine (turned_any z 3 (by omega) S HS.out _ hp2 (Nat.lt_of_lt_of_le hP1 HB2.out.size)).mono ?_
  rintro e w3 ⟨rfl, hb4⟩
  clear x0 x1 x2 x3 hp2
  have HY3 := Lib.hid (HY2.out.below hb4); have HN3 := Lib.hid (HN.out.below hb4); have HB3 := Lib.hid (HB2.out.trans (hb4.mono HB2.out.size))
  clear hb4 HX2 HY2 HN HB2
  obtain ⟨cs, hcs⟩ : ∃ c : Array Value, czV (fun k => S k 4) 4 = c := ⟨_, rfl⟩
  have HCS := Lib.hid hcs
  rw [hcs]
  clear hcs
  go_wp2
  go_loopw [16] (fun i wr => ∃ n : Nat, n ≤ 4 ∧ i = .int .i64 n ∧ Blk wr (w.heap.size + 1) 135 #[.float .f32 0, .float .f32 0, .float .f32 0, .float .f32 0] ∧ Blk wr b5 135 (flA L n) ∧ Below w.heap.size w wr) (fun i _ => 4 - (intOf i).toNat)
  case atStart => exact ⟨0, by omega, rfl, HY3.out, HN3.out, HB3.out⟩
  case round =>
    clear HY3 HN3 HB3
    obtain ⟨n, hn, rfl, hy, hz, hbel⟩ := hrel
    by_cases hlt : n < 4
    · have hix : ∀ W, (Instr.index 138 (.agg cs) (.int .i64 (n : Int))).run Tryz.prog W = .ok (.complex .f32 (S n 4).1 (S n 4).2) W := fun W => by
        rw [← HCS.out]
        have : n = 0 ∨ n = 1 ∨ n = 2 ∨ n = 3 := by omega
        rcases this with rfl | rfl | rfl | rfl <;> rfl
      have czn := (hz.cell n).trans (flA_at L n n hlt)
      have hfr := hz.frozen n
      have hqn := HQ.out n hlt
      have hqn2 : ∀ W, (binOp .quo 23 (.float .f32 (S n 4).1) (.float .f32 1082130432)).run Tryz.prog W = .ok (.float .f32 (L n)) W := fun W => run_float_arith W .quo _ .f32 _ _ _ hqn
      have hio := HIM.out n hlt
      have HZ4 : RowKit.Hid (Blk (wr.setCell ⟨b5, n, none⟩ (.float .f32 (L n))) b5 135 (flA L (n + 1))) := Lib.hid (by
        have h := hz.set_ n (.float .f32 (L n))
        rw [flA_set L n hlt] at h
        exact h)
      have HY3 := Lib.hid hy; have HB3 := Lib.hid hbel
      clear hy hz hbel
      go_wp2_with fail
      have hyf := HY3.out.far (p := ⟨b5, n, none⟩) (by simp; omega) (.float .f32 (L n))
      have hbf := HB3.out.setCell (p := ⟨b5, n, none⟩) (by simp; omega) (.float .f32 (L n))
      have hlv := HL.out n hlt
      generalize wr.setCell ⟨b5, n, none⟩ (.float .f32 (L n)) = ws at HZ4 hyf hbf ⊢
      have HY4 := Lib.hid hyf; have HB4 := Lib.hid hbf
      clear hyf hbf HY3 HB3 czn hfr
      refine (checkSample_any (L n) _).mono ?_
      rintro e w4 ⟨rfl, hb4⟩
      rw [hlv]
      have HZ5 := Lib.hid (HZ4.out.below hb4); have HY5 := Lib.hid (HY4.out.below hb4); have HB5 := Lib.hid (HB4.out.trans (hb4.mono HB4.out.size))
      clear hb4 HZ4 HY4 HB4
      go_wp2
      go_roundw
      case rel => exact ⟨n + 1, by omega, by go_num, HY5.out, HZ5.out, HB5.out⟩
      case measure => simp [intOf]; omega
    · have hn4 : n = 4 := by omega
      subst hn4
      have hz' : Blk wr b5 135 #[.float .f32 (L 0), .float .f32 (L 1), .float .f32 (L 2), .float .f32 (L 3)] := hz
      have t0 := hz'.cell 0; have t1 := hz'.cell 1; have t2 := hz'.cell 2; have t3 := hz'.cell 3
      have d0 := hy.cell 0; have d1 := hy.cell 1; have d2 := hy.cell 2; have d3 := hy.cell 3
      have f0 := hy.frozen 0; have f1 := hy.frozen 1; have f2 := hy.frozen 2; have f3 := hy.frozen 3
      simp only [List.getElem?_toArray, List.getElem?_cons_zero, List.getElem?_cons_succ] at t0 t1 t2 t3 d0 d1 d2 d3
      have hl2 := hy.lt
      have HB3 := Lib.hid hbel
      clear hy hz hz' hbel
      go_wp2
      exact bodyPost_ret (v := .tuple #[.agg #[.float .f32 (L 0), .float .f32 (L 1), .float .f32 (L 2), .float .f32 (L 3)], .int .i64 0]) (by simp [results, Tryz.results92, go_sem, d0, d1, d2, d3]) rfl ⟨rfl, below_set4 HB3.out (by omega) _ _ _ _⟩
end Go.Proofs.YtlicgblagkkcfaaGreatDoor
namespace Go.Proofs.YtlicgblagkkcfaaGreatDoor
open Go.RowKit
set_option linter.unusedVariables false
set_option maxRecDepth 100000
theorem box2t {w : World} {g : Nat} {t : TypeId} {a b : Value} (h : Blk w g t #[a, b]) : w.cell? ⟨g, 0, none⟩ = some a ∧ w.cell? ⟨g, 1, none⟩ = some b := ⟨h.cell 0, h.cell 1⟩
/-- A mean's numbers: s over b, cut down by their greatest common divisor. -/
theorem mean_parts (s : Int) (n : Nat) (h1 : 1 ≤ n) (hb : -(16384 * (n : Int)) ≤ s ∧ s ≤ 16384 * (n : Int)) : ∃ g a b : Int, 1 ≤ g ∧ 1 ≤ b ∧ (Int.gcd s (16 * n) : Nat) = g ∧ s / (Int.gcd s (16 * n) : Nat) = a ∧ 16 * (n : Int) / (Int.gcd s (16 * n) : Nat) = b ∧ s = g * a ∧ 16 * (n : Int) = g * b ∧ a ≤ 1024 * b ∧ -1024 * b ≤ a := by
  have hpos : 0 < (16 * (n : Int)) := by omega
  have hg0 : 0 < Int.gcd s (16 * n) := Int.gcd_pos_of_ne_zero_right _ (by omega)
  obtain ⟨a, ha⟩ := Int.gcd_dvd_left (a := s) (b := 16 * n)
  obtain ⟨b, hb2⟩ := Int.gcd_dvd_right (a := s) (b := 16 * n)
  obtain ⟨g, hg⟩ : ∃ g : Int, ((Int.gcd s (16 * n) : Nat) : Int) = g := ⟨_, rfl⟩
  have hg1 : 1 ≤ g := by omega
  rw [hg] at ha hb2 ⊢
  have hbp : 1 ≤ b := by
    have : 0 < g * b := by rw [← hb2]; exact hpos
    exact Int.pos_of_mul_pos_right this (by omega) |> fun h => by omega
  refine ⟨g, a, b, hg1, hbp, rfl, ?_, ?_, ha, hb2, ?_, ?_⟩
  · rw [ha]; exact Int.mul_ediv_cancel_left _ (by omega)
  · rw [hb2]; exact Int.mul_ediv_cancel_left _ (by omega)
  · have e : g * a ≤ g * (1024 * b) := by
      rw [← ha, show g * (1024 * b) = 1024 * (g * b) by rw [Int.mul_left_comm], ← hb2]; omega
    exact Int.le_of_mul_le_mul_left e (by omega)
  · have e : g * (-1024 * b) ≤ g * a := by
      rw [← ha, show g * (-1024 * b) = -1024 * (g * b) by rw [Int.mul_left_comm], ← hb2]; omega
    exact Int.le_of_mul_le_mul_left e (by omega)
theorem sumL_comm (l k : List Nat) : sumL l k = sumL k l := by
  unfold sumL
  induction l generalizing k with
  | nil => cases k <;> rfl
  | cons a l ih =>
    cases k with
    | nil => rfl
    | cons b k => simp only [List.zipWith_cons_cons, ih, Int.add_comm]
theorem sumF_map {f : Nat → Int} {g : Int → Nat} {G : List Int} (h : ∀ x ∈ G, f (g x) = x) : sumF f (G.map g) = G.foldr (· + ·) 0 := by
  induction G with
  | nil => rfl
  | cons a G ih => simp only [List.map_cons, sumF, List.foldr_cons, h a (by simp), ih fun x hx => h x (by simp [hx])]
theorem sumF_sum (l k : List Nat) (h : l.length = k.length) : (sumL l k).foldr (· + ·) 0 = sumF lvl l + sumF lvl k := by
  induction l generalizing k with
  | nil => cases k with
    | nil => rfl
    | cons b k => simp at h
  | cons a l ih =>
    cases k with
    | nil => simp at h
    | cons b k =>
      have h3 := ih k (by simpa using h)
      unfold sumL at h3 ⊢
      simp only [List.zipWith_cons_cons, List.foldr_cons, sumF]
      rw [h3]; omega
theorem not_large {G : List Int} (h : G.any largeB = false) : ∀ x ∈ G, -16384 ≤ x ∧ x ≤ 16384 := fun x hx => by
  have h1 : largeB x = false := by
    cases e : largeB x with
    | false => rfl
    | true => exact absurd (List.any_eq_true.2 ⟨x, hx, e⟩) (by rw [h]; decide)
  unfold largeB at h1
  simp at h1
  omega
theorem smp_ok {nm : ByteArray} {W H : Nat} {l : List Nat} (hp : (Pic.mk nm W H l).Ok) {G : List Int} (hn : G.length = l.length) (hg : G.any largeB = false) : (Pic.mk nm W H (G.map smp)).Ok := by
  obtain ⟨hW, hH, hlen, _, _⟩ := ok_sizes hp
  exact ok_mk hp.name hW hH (by simp [hn, hlen]) fun b hb => by
    obtain ⟨x, hx, rfl⟩ := List.mem_map.1 hb
    exact (smp_valid x (not_large hg x hx)).1
theorem smp_sum {G : List Int} (hg : G.any largeB = false) : sumF lvl (G.map smp) = G.foldr (· + ·) 0 := sumF_map fun x hx => (smp_valid x (not_large hg x hx)).2
theorem small_lv {G : List Int} (h : ∀ x ∈ G, -16384 ≤ x ∧ x ≤ 16384) : G.any largeB = false := by
  cases e : G.any largeB with
  | false => rfl
  | true =>
    obtain ⟨x, hx, h1⟩ := List.any_eq_true.1 e
    have h2 := h x hx
    unfold largeB at h1
    simp at h1
    omega
theorem scaled_minus (l : List Nat) : scaledL l (-1) 1 = l.map (fun b => -lvl b) := by
  unfold scaledL nearestN
  exact List.map_congr_left fun b _ => by omega
theorem scaled_twice (l : List Nat) : scaledL l 2 1 = sumL l l := by
  unfold scaledL nearestN sumL
  induction l with
  | nil => rfl
  | cons a l ih => simp only [List.map_cons, List.zipWith_cons_cons, ih]; congr 1; omega
theorem scaled_half {l : List Nat} (hg : (sumL l l).any largeB = false) : scaledL ((sumL l l).map smp) 1 2 = l.map lvl := by
  have key : ∀ b ∈ l, lvl (smp (lvl b + lvl b)) = lvl b + lvl b := fun b hb => by
    have h : lvl b + lvl b ∈ sumL l l := by
      unfold sumL
      obtain ⟨i, hi, rfl⟩ := List.getElem_of_mem hb
      have : (List.zipWith (fun a b => lvl a + lvl b) l l)[i]'(by simpa using hi) = lvl l[i] + lvl l[i] := by simp
      rw [← this]
      exact List.getElem_mem _
    exact (smp_valid _ (not_large hg _ h)).2
  clear hg
  unfold scaledL nearestN sumL
  induction l with
  | nil => rfl
  | cons a l ih =>
    simp only [List.map_cons, List.zipWith_cons_cons]
    rw [ih fun b hb => key b (by simp [hb]), key a (by simp)]
    congr 1
    omega
theorem minus_sum {l : List Nat} (h : ∀ b ∈ l, -16384 ≤ lvl b ∧ lvl b ≤ 16384) : sumL l ((l.map (fun b => -lvl b)).map smp) = List.replicate l.length 0 := by
  unfold sumL
  induction l with
  | nil => rfl
  | cons a l ih =>
    simp only [List.map_cons, List.zipWith_cons_cons, List.length_cons, List.replicate_succ]
    rw [ih fun b hb => h b (by simp [hb])]
    have := h a (by simp)
    rw [(smp_valid (-lvl a) (by omega)).2]
    congr 1
    omega
theorem peak_zero (n : Nat) : peakF ((List.replicate n (0 : Int)).map smp) 0 = 0 := by
  have h0 : lvl (smp 0) = 0 := (smp_valid 0 (by omega)).2
  induction n with
  | zero => rfl
  | succ n ih =>
    simp only [List.replicate_succ, List.map_cons, peakF, h0]
    exact ih
/-- A picture with the levels of another one is the same. -/
theorem same_lvl {l : List Nat} (h : ∀ b ∈ l, chk 1024 b = 0) : sameF ((l.map lvl).map smp) l = true := by
  induction l with
  | nil => rfl
  | cons a l ih =>
    simp only [List.map_cons, sameF]
    rw [ih fun b hb => h b (by simp [hb]), Bool.and_true]
    have ha := h a (by simp)
    have hb : -16384 ≤ lvl a ∧ lvl a ≤ 16384 := by obtain ⟨_, _, _, h3⟩ := level_facts ha; exact h3
    have hv := smp_valid (lvl a) hb
    have h1 := v32_lvl hv.1
    rw [hv.2] at h1
    have h2 := v32_order h1 (v32_lvl ha)
    unfold eqF
    rw [h2, cmp_self]
    rfl
/-- The mean of a sum is the sum of the means. -/
theorem mean_sum {n S T ga a1 b1 gb a2 b2 gc a3 b3 : Int} (h1 : S = ga * a1) (h2 : n = ga * b1) (h3 : T = gb * a2) (h4 : n = gb * b2) (h5 : S + T = gc * a3) (h6 : n = gc * b3) (p1 : 1 ≤ ga) (p2 : 1 ≤ gb) (p3 : 1 ≤ gc) :
    a3 * b1 * b2 = (a1 * b2 + a2 * b1) * b3 := by
  have hne : ga * gb * gc ≠ 0 := by
    have := Int.mul_pos (Int.mul_pos (show 0 < ga by omega) (show 0 < gb by omega)) (show 0 < gc by omega)
    omega
  apply Int.eq_of_mul_eq_mul_left hne
  have e1 : ga * gb * gc * (a3 * b1 * b2) = (gc * a3) * (ga * b1) * (gb * b2) := by ac_rfl
  have e2 : ga * gb * gc * ((a1 * b2 + a2 * b1) * b3) = ((ga * a1) * (gb * b2) + (gb * a2) * (ga * b1)) * (gc * b3) := by
    rw [show ga * gb * gc * ((a1 * b2 + a2 * b1) * b3) = (ga * gb * (a1 * b2 + a2 * b1)) * (gc * b3) by ac_rfl, Int.mul_add]
    congr 1
    congr 1 <;> ac_rfl
  rw [e1, e2, ← h1, ← h2, ← h3, ← h4, ← h5, ← h6, ← Int.add_mul]
theorem ratio_low {s : Int} {n : Nat} (h1 : 1 ≤ n) {g a b : Int} (hg1 : 1 ≤ g) (hb1 : 1 ≤ b) (eg : (Int.gcd s (16 * n) : Nat) = g) (es : s = g * a) (en : 16 * (n : Int) = g * b) (hn : n ≤ 4096) (hle : a ≤ 1024 * b) (hge : -1024 * b ≤ a) : ratioE a b = 0 := by
  have hbN : b ≤ 16 * (n : Int) := by have h3 := Int.mul_le_mul_of_nonneg_right hg1 (show 0 ≤ b by omega); rw [Int.one_mul] at h3; rw [en]; exact h3
  have hgcd : Int.gcd a b = 1 := by
    have h2 : Int.gcd (g * a) (g * b) = g.natAbs * Int.gcd a b := Int.gcd_mul_left ..
    rw [← es, ← en] at h2
    have h3 : (Int.gcd s (16 * n) : Nat) = g.natAbs := by omega
    rw [h3] at h2
    have hp : 0 < g.natAbs := by omega
    exact Nat.eq_of_mul_eq_mul_left hp (by rw [Nat.mul_one]; exact h2.symm)
  rw [ratioE_good, hgcd]
  · decide +kernel
  · have o1 : outs a (-999999999) 999999999 = 0 := outs_none (by omega) (by omega)
    have o2 : outs b 1 999999999 = 0 := outs_none (by omega) (by omega)
    rw [o1, o2]; rfl
end Go.Proofs.YtlicgblagkkcfaaGreatDoor
namespace Go.Proofs.YtlicgblagkkcfaaGreatDoor
open Go.RowKit
set_option linter.unusedVariables false
set_option maxRecDepth 100000
open Ieee in
/-- A product of a small whole number with a number. -/
theorem mul64' {x y : Nat} {z p : Int} (hx : V64 x (16 * p)) (hy : V64 y z) (hm : (z * p).natAbs ≤ 1000000000) : ∃ r, floatBits .mul .f64 x y = some r ∧ V64 r (z * p) := by
  obtain ⟨s', n', h2, hp⟩ := hx
  obtain ⟨s, n, h1, hz⟩ := hy
  have hn' : n' = 16 * p.natAbs := by have := congrArg Int.natAbs hp; rw [sgn_natAbs, Int.natAbs_mul] at this; simpa using this
  have hpr : (z * p).natAbs = n * p.natAbs := by rw [Int.natAbs_mul, ← hz, sgn_natAbs]
  obtain ⟨r, hr, hn⟩ := h2.mulP h1 1074 double_leastP (n * p.natAbs * P2 1070) (n * p.natAbs) 1070 (by
    rw [hn', show P2 1074 = P2 1070 * 16 by rw [← show P2 4 = 16 from rfl, ← P2_add]]
    generalize P2 1070 = a
    ac_rfl) rfl (Nat.lt_of_le_of_lt (by rw [← hpr]; exact hm) (by decide +kernel)) (by decide +kernel)
  refine ⟨r, hr, s' ^^ s, n * p.natAbs, hn, ?_⟩
  rw [← hz]
  have h16 : sgn s' p.natAbs = p := by
    rw [hn'] at hp
    unfold sgn at hp ⊢
    cases s' <;> simp at hp ⊢ <;> omega
  conv => rhs; rw [← h16]
  unfold sgn
  cases s <;> cases s' <;> simp [Int.neg_mul, Int.mul_neg]
open Ieee in
theorem mul32' {x y : Nat} {z p : Int} (hx : V32 x (16 * p)) (hy : V32 y z) (hm : (z * p).natAbs ≤ 10000000) : ∃ r, floatBits .mul .f32 x y = some r ∧ V32 r (z * p) := by
  obtain ⟨s', n', h2, hp⟩ := hx
  obtain ⟨s, n, h1, hz⟩ := hy
  have hn' : n' = 16 * p.natAbs := by have := congrArg Int.natAbs hp; rw [sgn_natAbs, Int.natAbs_mul] at this; simpa using this
  have hpr : (z * p).natAbs = n * p.natAbs := by rw [Int.natAbs_mul, ← hz, sgn_natAbs]
  obtain ⟨r, hr, hn⟩ := h2.mulP h1 149 single_leastP (n * p.natAbs * P2 145) (n * p.natAbs) 145 (by
    rw [hn', show P2 149 = P2 145 * 16 by rw [← show P2 4 = 16 from rfl, ← P2_add]]
    generalize P2 145 = a
    ac_rfl) rfl (Nat.lt_of_le_of_lt (by rw [← hpr]; exact hm) (by decide +kernel)) (by decide +kernel)
  refine ⟨r, hr, s' ^^ s, n * p.natAbs, hn, ?_⟩
  rw [← hz]
  have h16 : sgn s' p.natAbs = p := by
    rw [hn'] at hp
    unfold sgn at hp ⊢
    cases s' <;> simp at hp ⊢ <;> omega
  conv => rhs; rw [← h16]
  unfold sgn
  cases s <;> cases s' <;> simp [Int.neg_mul, Int.mul_neg]
theorem v32_two : V32 1073741824 (16 * 2) := ⟨false, 32, ⟨2 ^ 23, 127, by decide +kernel, by decide +kernel⟩, rfl⟩
/-- Twice a complex number. -/
theorem c64_twice {c d : Nat} {p q : Int} (hc : V32 c p) (hd : V32 d q) (hp : p.natAbs ≤ 1000000) (hq : q.natAbs ≤ 1000000) :
    ∃ m, c64Mul 1073741824 0 c d = some m ∧ V32 m.1 (2 * p) ∧ V32 m.2 (2 * q) := by
  obtain ⟨A, hA, vA⟩ := widen v32_two
  obtain ⟨B, hB, vB⟩ := widen v32_zero
  obtain ⟨C, hC, vC⟩ := widen hc
  obtain ⟨E, hE, vE⟩ := widen hd
  have vB' : V64 B (16 * 0) := vB
  obtain ⟨r1, e1, v1⟩ := mul64' vA vC (by omega)
  obtain ⟨r2, e2, v2⟩ := mul64' vB' vE (by omega)
  obtain ⟨r3, e3, v3⟩ := sub64 v1 v2 (by omega)
  obtain ⟨r4, e4, v4⟩ := mul64' vA vE (by omega)
  obtain ⟨r5, e5, v5⟩ := mul64' vB' vC (by omega)
  obtain ⟨r6, e6, v6⟩ := add64 v4 v5 (by omega)
  obtain ⟨r7, e7, v7⟩ := narrow v3 (by omega)
  obtain ⟨r8, e8, v8⟩ := narrow v6 (by omega)
  refine ⟨(r7, r8), ?_, by rw [show 2 * p = p * 2 - q * 0 by omega]; exact v7, by rw [show 2 * q = q * 2 + p * 0 by omega]; exact v8⟩
  unfold c64Mul cMulBits
  rw [hA, hB, hC, hE]
  simp only [Option.bind_some]
  rw [e1, e2]
  simp only [Option.bind_some]
  rw [e3, e4, e5]
  simp only [Option.bind_some]
  rw [e6]
  simp only [Option.bind_some]
  rw [e7, e8]
  rfl
theorem order_eq {a b : Nat} {z : Int} (ha : V32 a z) (hb : V32 b z) : (FloatKind.f32.format.order a b == some .eq) = true := by
  rw [v32_order ha hb, cmp_self]; rfl
theorem order_neq {a b : Nat} {z : Int} (ha : V32 a z) (hb : V32 b z) : (FloatKind.f32.format.order a b != some .eq) = false := by
  rw [v32_order ha hb, cmp_self]; rfl
theorem xor_top (b : Nat) : (b ^^^ 2 ^ 31) % 2 ^ 31 = b % 2 ^ 31 ∧ ((b ^^^ 2 ^ 31) / 2 ^ 31 % 2 == 1) = !(b / 2 ^ 31 % 2 == 1) := by
  constructor
  · rw [Nat.xor_mod_two_pow, Nat.mod_self, Nat.xor_zero]
  · rw [Nat.xor_div_two_pow, Nat.div_self (by decide)]
    generalize b / 2 ^ 31 = k
    have h : (k ^^^ 1) % 2 ^ 1 = (k % 2 ^ 1) ^^^ (1 % 2 ^ 1) := Nat.xor_mod_two_pow
    rw [Nat.pow_one] at h
    rw [h]
    rcases Nat.mod_two_eq_zero_or_one k with h0 | h0 <;> rw [h0] <;> rfl
open Ieee in
theorem read_neg (b : Nat) : single.read (Op.negFloat .f32 b) = (single.read b).opposite := by
  obtain ⟨h1, h2⟩ := xor_top b
  show single.read (b ^^^ 2 ^ 31) = _
  unfold Format.read
  rw [show single.signWeight = 2 ^ 31 by decide +kernel, h1, h2]
  dsimp only
  split
  · rfl
  · split
    · rfl
    · split <;> rfl
open Ieee in
/-- A number with the opposite sign. -/
theorem v32_neg {b : Nat} {z : Int} (h : V32 b z) : V32 (Op.negFloat .f32 b) (-z) := by
  obtain ⟨s, n, ⟨k, q, hr, hk⟩, hz⟩ := h
  refine ⟨!s, n, ⟨k, q, ?_, hk⟩, ?_⟩
  · rw [read_neg, hr]; rfl
  · rw [← hz]; unfold sgn; cases s <;> simp
/-- Four samples that are the same are equal arrays. -/
theorem neq_floats (V L : Nat → Nat) (h : ∀ i, i < 4 → (FloatKind.f32.format.order (V i) (L i) == some .eq) = true) (w : World) :
    (binOp .neq 135 (.agg #[.float .f32 (V 0), .float .f32 (V 1), .float .f32 (V 2), .float .f32 (V 3)]) (.agg #[.float .f32 (L 0), .float .f32 (L 1), .float .f32 (L 2), .float .f32 (L 3)])).run Tryz.prog w = .ok (.bool false) w := by
  have hn := Tryz.sizeOf23
  have h0 := h 0 (by omega); have h1 := h 1 (by omega); have h2 := h 2 (by omega); have h3 := h 3 (by omega)
  have key : ∀ a b : Nat, (FloatKind.f32.format.order a b == some .eq) = true → ∀ w, (Op.equalIn 9999 23 (.float .f32 a) (.float .f32 b)).run Tryz.prog w = .ok true w := fun a b hab w => by
    have hu := run_underlying (P := Tryz.prog) Tryz.underlying23 w
    rw [show (9999 : Nat) = 9998 + 1 from rfl]
    unfold Op.equalIn
    rw [Sem.run_bind, hu]
    simp
    exact hab
  rw [run_neq_struct, show (10000 : Nat) = 9999 + 1 from rfl, run_equalIn_array w 9999 135 23 4 1 _ _ Tryz.underlying135 hn]
  have k0 := key _ _ h0; have k1 := key _ _ h1; have k2 := key _ _ h2; have k3 := key _ _ h3
  have hag : ∀ w, (isAgg 23).run Tryz.prog w = .ok false w := fun w => by rfl
  simp [List.range', eqElems, Sem.run_bind, part, hag, k0, k1, k2, k3, Result.andThen_ok]
section
variable (L : Nat → Nat) (hL : ∀ i, i < 4 → chk 1024 (L i) = 0)
def zL (L : Nat → Nat) (n : Nat) : Nat × Nat := (L n, 0)
def xL (L : Nat → Nat) (n : Nat) : Int := lvl (L n)
def PL (L : Nat → Nat) (k : Nat) : Nat × Nat := sumS (zL L) 1 k 4
def SL (L : Nat → Nat) (k n : Nat) : Nat × Nat := sumS (PL L) 3 k n
def VL (L : Nat → Nat) (n : Nat) : Nat := (floatBits .quo .f32 (SL L n 4).1 1082130432).getD 0
def dL (L : Nat → Nat) (n : Nat) : Nat := (floatBits .mul .f32 1073741824 (L n)).getD 0
include hL
theorem x_bd (i : Nat) (h : i < 4) : (xL L i).natAbs ≤ 16384 := by obtain ⟨_, _, _, h1⟩ := level_facts (hL i h); unfold xL; omega
theorem zL_v (n : Nat) (h : n < 4) : V32 (zL L n).1 (xL L n) ∧ V32 (zL L n).2 ((fun _ => 0) n : Int) := ⟨v32_lvl (hL n h), v32_zero⟩
theorem stepL : StepOk (zL L) 1 (sumS (zL L) 1) := step_ok (X := xL L) (Y := fun _ => 0) (zL_v L hL) (fun n h => ⟨by have := x_bd L hL n h; omega, by simp⟩) 1
theorem PL_v (k : Nat) : V32 (PL L k).1 (pR (xL L) k) ∧ V32 (PL L k).2 (pI (xL L) k) := sums_v (X := xL L) (Y := fun _ => 0) (zL_v L hL) (fun n h => ⟨by have := x_bd L hL n h; omega, by simp⟩) 1 k
theorem PL_bd (k : Nat) (hk : k < 4) : (pR (xL L) k).natAbs ≤ 65536 ∧ (pI (xL L) k).natAbs ≤ 65536 := panel_bd (xL L) (x_bd L hL) k hk
theorem stepS : StepOk (PL L) 3 (SL L) := step_ok (X := pR (xL L)) (Y := pI (xL L)) (fun n h => PL_v L hL n) (fun n h => by have := PL_bd L hL n h; omega) 3
theorem SL_v (k : Nat) (hk : k < 4) : V32 (SL L k 4).1 (4 * xL L k) ∧ V32 (SL L k 4).2 0 := by
  have h := sums_v (z := PL L) (X := pR (xL L)) (Y := pI (xL L)) (fun n h => PL_v L hL n) (fun n h => by have := PL_bd L hL n h; omega) 3 k
  rw [(panel_back (xL L) k hk).1, (panel_back (xL L) k hk).2] at h
  exact h
theorem VL_v (k : Nat) (hk : k < 4) : floatBits .quo .f32 (SL L k 4).1 1082130432 = some (VL L k) ∧ V32 (VL L k) (xL L k) := by
  obtain ⟨r, hr, hv⟩ := div4 (SL_v L hL k hk).1 (by have := x_bd L hL k hk; omega)
  have : VL L k = r := by unfold VL; rw [hr]; rfl
  rw [this]; exact ⟨hr, hv⟩
theorem dL_v (k : Nat) (hk : k < 4) : floatBits .mul .f32 1073741824 (L k) = some (dL L k) ∧ V32 (dL L k) (2 * xL L k) := by
  have hb := x_bd L hL k hk
  obtain ⟨r, hr, hv⟩ := mul32' v32_two (v32_lvl (hL k hk)) (by unfold xL at hb; omega)
  have : dL L k = r := by unfold dL; rw [hr]; rfl
  rw [this]; exact ⟨hr, by rw [show 2 * xL L k = lvl (L k) * 2 by unfold xL; omega]; exact hv⟩
theorem RL_v (k : Nat) (hk : k < 4) : V32 (PL (dL L) k).1 (2 * pR (xL L) k) ∧ V32 (PL (dL L) k).2 (2 * pI (xL L) k) := by
  have h := sums_v (z := zL (dL L)) (X := fun n => 2 * xL L n) (Y := fun _ => 0) (fun n h => ⟨(dL_v L hL n h).2, v32_zero⟩) (fun n h => ⟨by have := x_bd L hL n h; omega, by simp⟩) 1 k
  have h2 := panel_twice (xL L) k hk
  unfold pR pI at h2
  rw [h2.1, h2.2] at h
  exact h
theorem stepD : StepOk (zL (dL L)) 1 (sumS (zL (dL L)) 1) := step_ok (X := fun n => 2 * xL L n) (Y := fun _ => 0) (fun n h => ⟨(dL_v L hL n h).2, v32_zero⟩) (fun n h => ⟨by have := x_bd L hL n h; omega, by simp⟩) 1
end
end Go.Proofs.YtlicgblagkkcfaaGreatDoor
namespace Go.Proofs.YtlicgblagkkcfaaGreatDoor
open Go.RowKit
set_option linter.unusedVariables false
set_option maxRecDepth 100000
/-- The reference's check of samples. -/
theorem checkSamplesR_any (A : Option Addr) (c : Nat) (l : List Nat) (w : World) (hl : l.length ≤ 4096) (hr : Rd w A (fl l)) : Calls Tryz.prog 90 #[.slice A l.length c] w fun e w' => e = .returned (.int .i64 (firstF (chk 1024) l)) ∧ Below w.heap.size w w' := by
  have HR := Lib.hid hr; clear hr
  go_enter Tryz.func90, Tryz.ntmps90
  go_wp2
  go_loopw [3] (fun i wr => ∃ k : Nat, k ≤ l.length ∧ i = .int .i64 k ∧ firstF (chk 1024) l = firstF (chk 1024) (l.drop k) ∧ Below w.heap.size w wr) (fun i _ => l.length - (intOf i).toNat)
  case atStart => exact ⟨0, by omega, rfl, rfl, Below.refl _ _⟩
  case round =>
    obtain ⟨k, hk, rfl, hf, hbel⟩ := hrel
    have Hf := Lib.hid hf; clear hf
    by_cases hlt : k < l.length
    · obtain ⟨x, hx⟩ : ∃ x, l.getD k 0 = x := ⟨_, rfl⟩
      obtain ⟨ad, rfl, hbl, hc⟩ := HR.out.get (k := k) (u := .float .f32 x) (by rw [← hx]; simp [fl, List.getD, hlt])
      have hc' := (hbel.cell (by rw [block_of_add]; exact hbl)).trans hc
      have Hd := Lib.hid (show firstF (chk 1024) (l.drop k) = if chk 1024 x = 0 then firstF (chk 1024) (l.drop (k + 1)) else chk 1024 x by
        rw [List.drop_eq_getElem_cons hlt, ← hx]; simp [firstF, List.getD, hlt])
      have HBel := Lib.hid hbel; clear hbel
      have HX := Lib.hid hx; clear hx hc
      go_wp2_with fail
      refine (checkSampleR_any x _).mono ?_
      rintro e w1 ⟨rfl, hb1⟩
      have HB1 := Lib.hid (HBel.out.trans (hb1.mono HBel.out.size)); clear hb1
      by_cases hz : chk 1024 x = 0
      · have hz' : (chk 1024 x != 0) = false := by simp [hz]
        have HZ := Lib.hid hz; clear hz
        go_wp2
        go_roundw
        case rel => exact ⟨k + 1, by omega, by go_num, by rw [Hf.out, Hd.out, if_pos HZ.out], HB1.out⟩
        case measure => simp [intOf]; omega
      · have hz' : (chk 1024 x != 0) = true := by simp [hz]
        have HZ := Lib.hid hz; clear hz
        go_wp2
        go_ret
        exact ⟨ret_int (by rw [Hf.out, Hd.out, if_neg HZ.out]), HB1.out⟩
    · have : k = l.length := by omega
      subst this
      go_wp2
      go_ret
      exact ⟨ret_int (by rw [Hf.out]; simp [firstF]), hbel⟩

set_option maxHeartbeats 8000000 in
theorem linear_long1 (p q : Pic) (L : Nat → Nat) (A B : Option Addr) (c c2 : Nat) (w : World) (hlaid : Laid w) (hra : Rd w A (fl p.l)) (hrb : Rd w B (fl q.l)) (h1 : (shortB p && (p.err == 0)) = false) : Calls Tryz.prog 13 #[p.val A c, q.val B c2, .agg #[.float .f32 (L 0), .float .f32 (L 1), .float .f32 (L 2), .float .f32 (L 3)]] w (TrueEnd w) := by
  have HS : RowKit.Hid (∀ w, Rd w A (fl p.l) → Calls Tryz.prog 86 #[p.val A c] w (BoolEnd false w)) := Lib.hid (fun w hr => by have h := valid_any p A c w hr; rw [h1] at h; exact h)
  unfold Pic.val at HS ⊢
  have HRA := Lib.hid hra; have HRB := Lib.hid hrb; clear hra hrb
  have HL := Lib.hid hlaid; clear hlaid
  have HB := Lib.hid (Below.refl w.heap.size w)
  go_enter Tryz.func13, Tryz.ntmps13
  go_upto_region 1 with fail
  have hx := ((Blk.new w 43 #[.string p.name, .int .i64 p.w, .int .i64 p.h, .slice A p.l.length c]).alloc (.cells #[.string q.name, .int .i64 q.w, .int .i64 q.h, .slice B q.l.length c2] 43)).alloc (.cells #[.float .f32 (L 0), .float .f32 (L 1), .float .f32 (L 2), .float .f32 (L 3)] 135)
  have hy := (Blk.new (w.alloc (.cells #[.string p.name, .int .i64 p.w, .int .i64 p.h, .slice A p.l.length c] 43)) 43 #[.string q.name, .int .i64 q.w, .int .i64 q.h, .slice B q.l.length c2]).alloc (.cells #[.float .f32 (L 0), .float .f32 (L 1), .float .f32 (L 2), .float .f32 (L 3)] 135)
  have hz := Blk.new ((w.alloc (.cells #[.string p.name, .int .i64 p.w, .int .i64 p.h, .slice A p.l.length c] 43)).alloc (.cells #[.string q.name, .int .i64 q.w, .int .i64 q.h, .slice B q.l.length c2] 43)) 135 #[.float .f32 (L 0), .float .f32 (L 1), .float .f32 (L 2), .float .f32 (L 3)]
  simp only [World.size_alloc] at hy hz
  have hb0 := (((Below.refl w.heap.size w).alloc (Nat.le_refl _) (.cells #[.string p.name, .int .i64 p.w, .int .i64 p.h, .slice A p.l.length c] 43)).alloc (by simp only [World.size_alloc]; omega) (.cells #[.string q.name, .int .i64 q.w, .int .i64 q.h, .slice B q.l.length c2] 43)).alloc (by simp only [World.size_alloc]; omega) (.cells #[.float .f32 (L 0), .float .f32 (L 1), .float .f32 (L 2), .float .f32 (L 3)] 135)
  obtain ⟨bA, hbA⟩ : ∃ g, w.heap.size = g := ⟨_, rfl⟩
  obtain ⟨bB, hbB⟩ : ∃ g, w.heap.size + 1 = g := ⟨_, rfl⟩
  obtain ⟨bL, hbL⟩ : ∃ g, w.heap.size + 1 + 1 = g := ⟨_, rfl⟩
  generalize (((w.alloc (.cells #[.string p.name, .int .i64 p.w, .int .i64 p.h, .slice A p.l.length c] 43)).alloc (.cells #[.string q.name, .int .i64 q.w, .int .i64 q.h, .slice B q.l.length c2] 43)).alloc (.cells #[.float .f32 (L 0), .float .f32 (L 1), .float .f32 (L 2), .float .f32 (L 3)] 135)) = w0 at hx hy hz hb0 ⊢
  rw [hbL] at hz
  try rw [hbL]
  rw [hbB] at hy
  try rw [hbB]
  rw [hbA] at hx
  try rw [hbA]
  have HXA := Lib.hid hx; have HXB := Lib.hid hy; have HXL := Lib.hid hz
  replace HB := Lib.hid hb0
  clear hx hy hz hb0 hbA hbB hbL
  go_wp2_with (first | (refine wpList_load_box rfl 43 _ rfl bA _ _ HXA.out rfl _ Tryz.underlying43 rfl (by kernel_rfl) ?_))
  refine (HS.out _ (HRA.out.below HB.out)).mono ?_
  rintro e u1w ⟨rfl, hb⟩
  replace HXA := Lib.hid (HXA.out.below hb)
  replace HXB := Lib.hid (HXB.out.below hb)
  replace HXL := Lib.hid (HXL.out.below hb)
  replace HB := Lib.hid (HB.out.trans (hb.mono HB.out.size))
  clear hb
  go_wp2_with fail
  refine (awake_laid _ (HL.out.below HB.out)).mono ?_
  rintro e u2w ⟨rfl, hb⟩
  replace HXA := Lib.hid (HXA.out.below hb)
  replace HXB := Lib.hid (HXB.out.below hb)
  replace HXL := Lib.hid (HXL.out.below hb)
  replace HB := Lib.hid (HB.out.trans (hb.mono HB.out.size))
  clear hb
  go_wp2
  go_ret
  exact trueEnd_mk rfl HB.out

set_option maxHeartbeats 8000000 in
theorem linear_long2 (p q : Pic) (L : Nat → Nat) (A B : Option Addr) (c c2 : Nat) (w : World) (hlaid : Laid w) (hra : Rd w A (fl p.l)) (hrb : Rd w B (fl q.l)) (h1 : (shortB p && (p.err == 0)) = true) (h2 : (shortB q && (q.err == 0)) = false) : Calls Tryz.prog 13 #[p.val A c, q.val B c2, .agg #[.float .f32 (L 0), .float .f32 (L 1), .float .f32 (L 2), .float .f32 (L 3)]] w (TrueEnd w) := by
  have HS : RowKit.Hid (∀ w, Rd w A (fl p.l) → Calls Tryz.prog 86 #[p.val A c] w (BoolEnd true w)) := Lib.hid (fun w hr => by have h := valid_any p A c w hr; rw [h1] at h; exact h)
  have HS2 : RowKit.Hid (∀ w, Rd w B (fl q.l) → Calls Tryz.prog 86 #[q.val B c2] w (BoolEnd false w)) := Lib.hid (fun w hr => by have h := valid_any q B c2 w hr; rw [h2] at h; exact h)
  unfold Pic.val at HS HS2 ⊢
  have HRA := Lib.hid hra; have HRB := Lib.hid hrb; clear hra hrb
  have HL := Lib.hid hlaid; clear hlaid
  have HB := Lib.hid (Below.refl w.heap.size w)
  go_enter Tryz.func13, Tryz.ntmps13
  go_upto_region 1 with fail
  have hx := ((Blk.new w 43 #[.string p.name, .int .i64 p.w, .int .i64 p.h, .slice A p.l.length c]).alloc (.cells #[.string q.name, .int .i64 q.w, .int .i64 q.h, .slice B q.l.length c2] 43)).alloc (.cells #[.float .f32 (L 0), .float .f32 (L 1), .float .f32 (L 2), .float .f32 (L 3)] 135)
  have hy := (Blk.new (w.alloc (.cells #[.string p.name, .int .i64 p.w, .int .i64 p.h, .slice A p.l.length c] 43)) 43 #[.string q.name, .int .i64 q.w, .int .i64 q.h, .slice B q.l.length c2]).alloc (.cells #[.float .f32 (L 0), .float .f32 (L 1), .float .f32 (L 2), .float .f32 (L 3)] 135)
  have hz := Blk.new ((w.alloc (.cells #[.string p.name, .int .i64 p.w, .int .i64 p.h, .slice A p.l.length c] 43)).alloc (.cells #[.string q.name, .int .i64 q.w, .int .i64 q.h, .slice B q.l.length c2] 43)) 135 #[.float .f32 (L 0), .float .f32 (L 1), .float .f32 (L 2), .float .f32 (L 3)]
  simp only [World.size_alloc] at hy hz
  have hb0 := (((Below.refl w.heap.size w).alloc (Nat.le_refl _) (.cells #[.string p.name, .int .i64 p.w, .int .i64 p.h, .slice A p.l.length c] 43)).alloc (by simp only [World.size_alloc]; omega) (.cells #[.string q.name, .int .i64 q.w, .int .i64 q.h, .slice B q.l.length c2] 43)).alloc (by simp only [World.size_alloc]; omega) (.cells #[.float .f32 (L 0), .float .f32 (L 1), .float .f32 (L 2), .float .f32 (L 3)] 135)
  obtain ⟨bA, hbA⟩ : ∃ g, w.heap.size = g := ⟨_, rfl⟩
  obtain ⟨bB, hbB⟩ : ∃ g, w.heap.size + 1 = g := ⟨_, rfl⟩
  obtain ⟨bL, hbL⟩ : ∃ g, w.heap.size + 1 + 1 = g := ⟨_, rfl⟩
  generalize (((w.alloc (.cells #[.string p.name, .int .i64 p.w, .int .i64 p.h, .slice A p.l.length c] 43)).alloc (.cells #[.string q.name, .int .i64 q.w, .int .i64 q.h, .slice B q.l.length c2] 43)).alloc (.cells #[.float .f32 (L 0), .float .f32 (L 1), .float .f32 (L 2), .float .f32 (L 3)] 135)) = w0 at hx hy hz hb0 ⊢
  rw [hbL] at hz
  try rw [hbL]
  rw [hbB] at hy
  try rw [hbB]
  rw [hbA] at hx
  try rw [hbA]
  have HXA := Lib.hid hx; have HXB := Lib.hid hy; have HXL := Lib.hid hz
  replace HB := Lib.hid hb0
  clear hx hy hz hb0 hbA hbB hbL
  go_wp2_with (first | (refine wpList_load_box rfl 43 _ rfl bA _ _ HXA.out rfl _ Tryz.underlying43 rfl (by kernel_rfl) ?_))
  refine (HS.out _ (HRA.out.below HB.out)).mono ?_
  rintro e u1w ⟨rfl, hb⟩
  replace HXA := Lib.hid (HXA.out.below hb)
  replace HXB := Lib.hid (HXB.out.below hb)
  replace HXL := Lib.hid (HXL.out.below hb)
  replace HB := Lib.hid (HB.out.trans (hb.mono HB.out.size))
  clear hb
  go_wp2_with (first | (refine wpList_load_box rfl 43 _ rfl bB _ _ HXB.out rfl _ Tryz.underlying43 rfl (by kernel_rfl) ?_))
  refine (HS2.out _ (HRB.out.below HB.out)).mono ?_
  rintro e u2w ⟨rfl, hb⟩
  replace HXA := Lib.hid (HXA.out.below hb)
  replace HXB := Lib.hid (HXB.out.below hb)
  replace HXL := Lib.hid (HXL.out.below hb)
  replace HB := Lib.hid (HB.out.trans (hb.mono HB.out.size))
  clear hb
  go_wp2_with fail
  refine (awake_laid _ (HL.out.below HB.out)).mono ?_
  rintro e u3w ⟨rfl, hb⟩
  replace HXA := Lib.hid (HXA.out.below hb)
  replace HXB := Lib.hid (HXB.out.below hb)
  replace HXL := Lib.hid (HXL.out.below hb)
  replace HB := Lib.hid (HB.out.trans (hb.mono HB.out.size))
  clear hb
  go_wp2
  go_ret
  exact trueEnd_mk rfl HB.out

set_option maxHeartbeats 8000000 in
theorem linear_long3 (p q : Pic) (L : Nat → Nat) (A B : Option Addr) (c c2 : Nat) (w : World) (hlaid : Laid w) (hra : Rd w A (fl p.l)) (hrb : Rd w B (fl q.l)) (h1 : (shortB p && (p.err == 0)) = true) (h2 : (shortB q && (q.err == 0)) = true) (z : Int) (hz : firstF (chk 1024) [L 0, L 1, L 2, L 3] = z) (hz0 : ¬ z = 0) : Calls Tryz.prog 13 #[p.val A c, q.val B c2, .agg #[.float .f32 (L 0), .float .f32 (L 1), .float .f32 (L 2), .float .f32 (L 3)]] w (TrueEnd w) := by
  have HS : RowKit.Hid (∀ w, Rd w A (fl p.l) → Calls Tryz.prog 86 #[p.val A c] w (BoolEnd true w)) := Lib.hid (fun w hr => by have h := valid_any p A c w hr; rw [h1] at h; exact h)
  have HS2 : RowKit.Hid (∀ w, Rd w B (fl q.l) → Calls Tryz.prog 86 #[q.val B c2] w (BoolEnd true w)) := Lib.hid (fun w hr => by have h := valid_any q B c2 w hr; rw [h2] at h; exact h)
  unfold Pic.val at HS HS2 ⊢
  have HRA := Lib.hid hra; have HRB := Lib.hid hrb; clear hra hrb
  have HL := Lib.hid hlaid; clear hlaid
  have HB := Lib.hid (Below.refl w.heap.size w)
  go_enter Tryz.func13, Tryz.ntmps13
  go_upto_region 1 with fail
  have hx := ((Blk.new w 43 #[.string p.name, .int .i64 p.w, .int .i64 p.h, .slice A p.l.length c]).alloc (.cells #[.string q.name, .int .i64 q.w, .int .i64 q.h, .slice B q.l.length c2] 43)).alloc (.cells #[.float .f32 (L 0), .float .f32 (L 1), .float .f32 (L 2), .float .f32 (L 3)] 135)
  have hy := (Blk.new (w.alloc (.cells #[.string p.name, .int .i64 p.w, .int .i64 p.h, .slice A p.l.length c] 43)) 43 #[.string q.name, .int .i64 q.w, .int .i64 q.h, .slice B q.l.length c2]).alloc (.cells #[.float .f32 (L 0), .float .f32 (L 1), .float .f32 (L 2), .float .f32 (L 3)] 135)
  have hz := Blk.new ((w.alloc (.cells #[.string p.name, .int .i64 p.w, .int .i64 p.h, .slice A p.l.length c] 43)).alloc (.cells #[.string q.name, .int .i64 q.w, .int .i64 q.h, .slice B q.l.length c2] 43)) 135 #[.float .f32 (L 0), .float .f32 (L 1), .float .f32 (L 2), .float .f32 (L 3)]
  simp only [World.size_alloc] at hy hz
  have hb0 := (((Below.refl w.heap.size w).alloc (Nat.le_refl _) (.cells #[.string p.name, .int .i64 p.w, .int .i64 p.h, .slice A p.l.length c] 43)).alloc (by simp only [World.size_alloc]; omega) (.cells #[.string q.name, .int .i64 q.w, .int .i64 q.h, .slice B q.l.length c2] 43)).alloc (by simp only [World.size_alloc]; omega) (.cells #[.float .f32 (L 0), .float .f32 (L 1), .float .f32 (L 2), .float .f32 (L 3)] 135)
  obtain ⟨bA, hbA⟩ : ∃ g, w.heap.size = g := ⟨_, rfl⟩
  obtain ⟨bB, hbB⟩ : ∃ g, w.heap.size + 1 = g := ⟨_, rfl⟩
  obtain ⟨bL, hbL⟩ : ∃ g, w.heap.size + 1 + 1 = g := ⟨_, rfl⟩
  generalize (((w.alloc (.cells #[.string p.name, .int .i64 p.w, .int .i64 p.h, .slice A p.l.length c] 43)).alloc (.cells #[.string q.name, .int .i64 q.w, .int .i64 q.h, .slice B q.l.length c2] 43)).alloc (.cells #[.float .f32 (L 0), .float .f32 (L 1), .float .f32 (L 2), .float .f32 (L 3)] 135)) = w0 at hx hy hz hb0 ⊢
  rw [hbL] at hz
  try rw [hbL]
  rw [hbB] at hy
  try rw [hbB]
  rw [hbA] at hx
  try rw [hbA]
  have HXA := Lib.hid hx; have HXB := Lib.hid hy; have HXL := Lib.hid hz
  replace HB := Lib.hid hb0
  clear hx hy hz hb0 hbA hbB hbL
  go_wp2_with (first | (refine wpList_load_box rfl 43 _ rfl bA _ _ HXA.out rfl _ Tryz.underlying43 rfl (by kernel_rfl) ?_))
  refine (HS.out _ (HRA.out.below HB.out)).mono ?_
  rintro e u1w ⟨rfl, hb⟩
  replace HXA := Lib.hid (HXA.out.below hb)
  replace HXB := Lib.hid (HXB.out.below hb)
  replace HXL := Lib.hid (HXL.out.below hb)
  replace HB := Lib.hid (HB.out.trans (hb.mono HB.out.size))
  clear hb
  go_wp2_with (first | (refine wpList_load_box rfl 43 _ rfl bB _ _ HXB.out rfl _ Tryz.underlying43 rfl (by kernel_rfl) ?_))
  refine (HS2.out _ (HRB.out.below HB.out)).mono ?_
  rintro e u2w ⟨rfl, hb⟩
  replace HXA := Lib.hid (HXA.out.below hb)
  replace HXB := Lib.hid (HXB.out.below hb)
  replace HXL := Lib.hid (HXL.out.below hb)
  replace HB := Lib.hid (HB.out.trans (hb.mono HB.out.size))
  clear hb
  go_wp2_with fail
  have hrl : Rd u2w (some ⟨bL, 0, none⟩) (fl [L 0, L 1, L 2, L 3]) := rd_of_blk HXL.out rfl
  have hck := checkSamplesR_any (some ⟨bL, 0, none⟩) 4 [L 0, L 1, L 2, L 3] _ (by simp) hrl
  rw [hz] at hck
  have hz2 : (z != 0) = true := by simpa using hz0
  clear hz hz0 hrl
  refine (hck).mono ?_
  rintro e u3w ⟨rfl, hb⟩
  replace HXA := Lib.hid (HXA.out.below hb)
  replace HXB := Lib.hid (HXB.out.below hb)
  replace HXL := Lib.hid (HXL.out.below hb)
  replace HB := Lib.hid (HB.out.trans (hb.mono HB.out.size))
  clear hb
  clear hck
  go_wp2_with fail
  refine (awake_laid _ (HL.out.below HB.out)).mono ?_
  rintro e u4w ⟨rfl, hb⟩
  replace HXA := Lib.hid (HXA.out.below hb)
  replace HXB := Lib.hid (HXB.out.below hb)
  replace HXL := Lib.hid (HXL.out.below hb)
  replace HB := Lib.hid (HB.out.trans (hb.mono HB.out.size))
  clear hb
  go_wp2
  go_ret
  exact trueEnd_mk rfl HB.out

set_option maxHeartbeats 8000000 in
theorem linear_shape (p q : Pic) (L : Nat → Nat) (A B : Option Addr) (c c2 : Nat) (w : World) (hlaid : Laid w) (hra : Rd w A (fl p.l)) (hrb : Rd w B (fl q.l)) (h1 : (shortB p && (p.err == 0)) = true) (h2 : (shortB q && (q.err == 0)) = true) (hA : A = none → p.l.length = 0 ∧ c = 0) (hB : B = none → q.l.length = 0 ∧ c2 = 0) (e2 : sumErr p q = 2) (e3 : sumErr q p = 2) (hsh : (p.w != q.w || p.h != q.h) = true) (hz : firstF (chk 1024) [L 0, L 1, L 2, L 3] = 0) : Calls Tryz.prog 13 #[p.val A c, q.val B c2, .agg #[.float .f32 (L 0), .float .f32 (L 1), .float .f32 (L 2), .float .f32 (L 3)]] w (TrueEnd w) := by
  have hsp : shortB p = true ∧ shortB q = true := by simp at h1 h2; exact ⟨h1.1, h2.1⟩
  obtain ⟨hs0, hl0⟩ := short_facts hsp.1
  obtain ⟨hs20, hl20⟩ := short_facts hsp.2
  have HOWN := Lib.hid (fun w hr => own_any p A c w (Nat.le_trans hl0 (by decide)) hA hr)
  have HOWN2 := Lib.hid (fun w hr => own_any q B c2 w (Nat.le_trans hl20 (by decide)) hB hr)
  have HS1 := Lib.hid (fun A B c d w hr hr2 => sum_err p q A B c d w (Nat.le_trans hs0 (by decide)) (Nat.le_trans hl0 (by decide)) (Nat.le_trans hs20 (by decide)) (Nat.le_trans hl20 (by decide)) hr hr2 2 e2 (by decide))
  have HS21 := Lib.hid (fun A B c d w hr hr2 => sum_err q p A B c d w (Nat.le_trans hs20 (by decide)) (Nat.le_trans hl20 (by decide)) (Nat.le_trans hs0 (by decide)) (Nat.le_trans hl0 (by decide)) hr hr2 2 e3 (by decide))
  unfold Pic.val at HOWN HOWN2 HS1 HS21
  unfold OwnEnd at HOWN HOWN2
  clear e2 e3 hs0 hl0 hs20 hl20 hsp hA hB
  have HS : RowKit.Hid (∀ w, Rd w A (fl p.l) → Calls Tryz.prog 86 #[p.val A c] w (BoolEnd true w)) := Lib.hid (fun w hr => by have h := valid_any p A c w hr; rw [h1] at h; exact h)
  have HS2 : RowKit.Hid (∀ w, Rd w B (fl q.l) → Calls Tryz.prog 86 #[q.val B c2] w (BoolEnd true w)) := Lib.hid (fun w hr => by have h := valid_any q B c2 w hr; rw [h2] at h; exact h)
  unfold Pic.val at HS HS2 ⊢
  have HRA := Lib.hid hra; have HRB := Lib.hid hrb; clear hra hrb
  have HL := Lib.hid hlaid; clear hlaid
  have HB := Lib.hid (Below.refl w.heap.size w)
  go_enter Tryz.func13, Tryz.ntmps13
  go_upto_region 1 with fail
  have hx := ((Blk.new w 43 #[.string p.name, .int .i64 p.w, .int .i64 p.h, .slice A p.l.length c]).alloc (.cells #[.string q.name, .int .i64 q.w, .int .i64 q.h, .slice B q.l.length c2] 43)).alloc (.cells #[.float .f32 (L 0), .float .f32 (L 1), .float .f32 (L 2), .float .f32 (L 3)] 135)
  have hy := (Blk.new (w.alloc (.cells #[.string p.name, .int .i64 p.w, .int .i64 p.h, .slice A p.l.length c] 43)) 43 #[.string q.name, .int .i64 q.w, .int .i64 q.h, .slice B q.l.length c2]).alloc (.cells #[.float .f32 (L 0), .float .f32 (L 1), .float .f32 (L 2), .float .f32 (L 3)] 135)
  have hz := Blk.new ((w.alloc (.cells #[.string p.name, .int .i64 p.w, .int .i64 p.h, .slice A p.l.length c] 43)).alloc (.cells #[.string q.name, .int .i64 q.w, .int .i64 q.h, .slice B q.l.length c2] 43)) 135 #[.float .f32 (L 0), .float .f32 (L 1), .float .f32 (L 2), .float .f32 (L 3)]
  simp only [World.size_alloc] at hy hz
  have hb0 := (((Below.refl w.heap.size w).alloc (Nat.le_refl _) (.cells #[.string p.name, .int .i64 p.w, .int .i64 p.h, .slice A p.l.length c] 43)).alloc (by simp only [World.size_alloc]; omega) (.cells #[.string q.name, .int .i64 q.w, .int .i64 q.h, .slice B q.l.length c2] 43)).alloc (by simp only [World.size_alloc]; omega) (.cells #[.float .f32 (L 0), .float .f32 (L 1), .float .f32 (L 2), .float .f32 (L 3)] 135)
  obtain ⟨bA, hbA⟩ : ∃ g, w.heap.size = g := ⟨_, rfl⟩
  obtain ⟨bB, hbB⟩ : ∃ g, w.heap.size + 1 = g := ⟨_, rfl⟩
  obtain ⟨bL, hbL⟩ : ∃ g, w.heap.size + 1 + 1 = g := ⟨_, rfl⟩
  generalize (((w.alloc (.cells #[.string p.name, .int .i64 p.w, .int .i64 p.h, .slice A p.l.length c] 43)).alloc (.cells #[.string q.name, .int .i64 q.w, .int .i64 q.h, .slice B q.l.length c2] 43)).alloc (.cells #[.float .f32 (L 0), .float .f32 (L 1), .float .f32 (L 2), .float .f32 (L 3)] 135)) = w0 at hx hy hz hb0 ⊢
  rw [hbL] at hz
  try rw [hbL]
  rw [hbB] at hy
  try rw [hbB]
  rw [hbA] at hx
  try rw [hbA]
  have HXA := Lib.hid hx; have HXB := Lib.hid hy; have HXL := Lib.hid hz
  replace HB := Lib.hid hb0
  clear hx hy hz hb0 hbA hbB hbL
  go_wp2_with (first | (refine wpList_load_box rfl 43 _ rfl bA _ _ HXA.out rfl _ Tryz.underlying43 rfl (by kernel_rfl) ?_))
  refine (HS.out _ (HRA.out.below HB.out)).mono ?_
  rintro e u1w ⟨rfl, hb⟩
  replace HXA := Lib.hid (HXA.out.below hb)
  replace HXB := Lib.hid (HXB.out.below hb)
  replace HXL := Lib.hid (HXL.out.below hb)
  replace HB := Lib.hid (HB.out.trans (hb.mono HB.out.size))
  clear hb
  go_wp2_with (first | (refine wpList_load_box rfl 43 _ rfl bB _ _ HXB.out rfl _ Tryz.underlying43 rfl (by kernel_rfl) ?_))
  refine (HS2.out _ (HRB.out.below HB.out)).mono ?_
  rintro e u2w ⟨rfl, hb⟩
  replace HXA := Lib.hid (HXA.out.below hb)
  replace HXB := Lib.hid (HXB.out.below hb)
  replace HXL := Lib.hid (HXL.out.below hb)
  replace HB := Lib.hid (HB.out.trans (hb.mono HB.out.size))
  clear hb
  go_wp2_with fail
  have hrl : Rd u2w (some ⟨bL, 0, none⟩) (fl [L 0, L 1, L 2, L 3]) := rd_of_blk HXL.out rfl
  have hck := checkSamplesR_any (some ⟨bL, 0, none⟩) 4 [L 0, L 1, L 2, L 3] _ (by simp) hrl
  rw [hz] at hck
  clear hz hrl
  refine (hck).mono ?_
  rintro e u3w ⟨rfl, hb⟩
  replace HXA := Lib.hid (HXA.out.below hb)
  replace HXB := Lib.hid (HXB.out.below hb)
  replace HXL := Lib.hid (HXL.out.below hb)
  replace HB := Lib.hid (HB.out.trans (hb.mono HB.out.size))
  clear hb
  clear hck
  go_upto_region 3 with fail
  obtain ⟨cA0, cA1, cA2, cA3⟩ := box4 HXA.out
  have zA := HXA.out.lt
  obtain ⟨cB0, cB1, cB2, cB3⟩ := box4 HXB.out
  have zB := HXB.out.lt
  refine wp_region_box [Fact2.is (.agg #[.string p.name, .int .i64 p.w, .int .i64 p.h, .slice A p.l.length c]), Fact2.pic (fun x => x) p.name p.w p.h p.l.length p.l p.l.length, Fact2.is (.agg #[.string q.name, .int .i64 q.w, .int .i64 q.h, .slice B q.l.length c2]), Fact2.pic (fun x => x) q.name q.w q.h q.l.length q.l q.l.length, Fact2.pic (fun x => .tuple #[x, .int .i64 2]) ⟨#[]⟩ 0 0 0 [] 0, Fact2.pic (fun x => .tuple #[x, .int .i64 2]) ⟨#[]⟩ 0 0 0 [] 0, Fact2.pic (fun x => x) ⟨#[]⟩ 0 0 0 [] 0, Fact2.is (.int .i64 (2)), Fact2.box u3w.heap.size 50, Fact2.any, Fact2.is (.int .i64 (2))] 9 8 (PicBox u3w.heap.size 50 ⟨#[]⟩ 0 0 0 []) (fun _ _ _ h hb => h.grow hb) [[], [0], [], [2], [1, 3], [4], [5], [5], [], [6, 8], [7]] [(some 52, 0), (some 53, 1), (some 54, 2), (some 55, 3), (some 56, 4), (some 51, 5), (some 57, 6), (some 58, 7), (some 7, 8), (none, 9), (some 8, 10)] (by kernel_rfl) (by kernel_rfl) (by kernel_rfl) (by kernel_rfl) (by decide) (by decide) (fun _ _ _ _ e h => by have h1 : _ ∧ _ := h; exact ⟨e ▸ h1.1, h1.2⟩) ?hstep ?hsto ?hend (by decide)
  case hstep =>
    generalize Exit.then _ _ = QQ
    as_aux_lemma =>
      intro i hi hne
      match i, hi, hne with
      | 0, _, _ =>
        intro v w' hR hd
        change SpecOp _ _ _ _ 0 (canon _ v _ []) w' _
        simp only [canon_nil]
        have q0 := (hR.cell (p := ⟨bA, 0, none⟩) zA).trans cA0
        have q1 := (hR.cell (p := ⟨bA, 1, none⟩) zA).trans cA1
        have q2 := (hR.cell (p := ⟨bA, 2, none⟩) zA).trans cA2
        have q3 := (hR.cell (p := ⟨bA, 3, none⟩) zA).trans cA3
        refine spec_ofR rfl (fun KK hK => ?_)
        go_simp
        exact hK.out _ _ (Below.refl _ _) rfl
      | 1, _, _ =>
        intro v w' hR hd
        have e0 : v 0 = .agg #[.string p.name, .int .i64 p.w, .int .i64 p.h, .slice A p.l.length c] := hd 0 (by decide)
        change SpecOp _ _ _ _ 1 (Act.put (canon _ v _ []) (some 52) (v 0)) w' _
        rw [e0]
        simp only [canon_nil, Act.put, List.setIfInBounds_toArray, List.set_cons_zero, List.set_cons_succ]
        refine spec_ofR rfl (fun KK hK => ?_)
        go_simp
        refine (HOWN.out _ (HRA.out.below (HB.out.trans (hR.mono HB.out.size)))).mono ?_
        rintro e wn ⟨g, c', rfl, hcc, hro, hbn⟩
        exact hK.out _ _ hbn ⟨_, c', rfl, hcc, hro⟩
      | 2, _, _ =>
        intro v w' hR hd
        change SpecOp _ _ _ _ 2 (canon _ v _ []) w' _
        simp only [canon_nil]
        have q0 := (hR.cell (p := ⟨bB, 0, none⟩) zB).trans cB0
        have q1 := (hR.cell (p := ⟨bB, 1, none⟩) zB).trans cB1
        have q2 := (hR.cell (p := ⟨bB, 2, none⟩) zB).trans cB2
        have q3 := (hR.cell (p := ⟨bB, 3, none⟩) zB).trans cB3
        refine spec_ofR rfl (fun KK hK => ?_)
        go_simp
        exact hK.out _ _ (Below.refl _ _) rfl
      | 3, _, _ =>
        intro v w' hR hd
        have e2 : v 2 = .agg #[.string q.name, .int .i64 q.w, .int .i64 q.h, .slice B q.l.length c2] := hd 2 (by decide)
        change SpecOp _ _ _ _ 3 (Act.put (canon _ v _ []) (some 54) (v 2)) w' _
        rw [e2]
        simp only [canon_nil, Act.put, List.setIfInBounds_toArray, List.set_cons_zero, List.set_cons_succ]
        refine spec_ofR rfl (fun KK hK => ?_)
        go_simp
        refine (HOWN2.out _ (HRB.out.below (HB.out.trans (hR.mono HB.out.size)))).mono ?_
        rintro e wn ⟨g, c', rfl, hcc, hro, hbn⟩
        exact hK.out _ _ hbn ⟨_, c', rfl, hcc, hro⟩
      | 4, _, _ =>
        intro v w' hR hd
        obtain ⟨A1, k1, e1, m1, r1⟩ : ∃ A c, v 1 = (fun x => x) (.agg #[.string p.name, .int .i64 p.w, .int .i64 p.h, .slice A p.l.length c]) ∧ p.l.length ≤ c ∧ Rd w' A (fl p.l) := hd 1 (by decide)
        obtain ⟨A3, k3, e3, m3, r3⟩ : ∃ A c, v 3 = (fun x => x) (.agg #[.string q.name, .int .i64 q.w, .int .i64 q.h, .slice A q.l.length c]) ∧ q.l.length ≤ c ∧ Rd w' A (fl q.l) := hd 3 (by decide)
        change SpecOp _ _ _ _ 4 (Act.put (Act.put (canon _ v _ []) (some 55) (v 3)) (some 53) (v 1)) w' _
        rw [e1, e3]
        simp only [canon_nil, Act.put, List.setIfInBounds_toArray, List.set_cons_zero, List.set_cons_succ]
        refine spec_ofR rfl (fun KK hK => ?_)
        go_simp
        refine (HS1.out A1 A3 k1 k3 _ r1 r3).mono ?_
        rintro e wn ⟨rfl, hbn⟩
        exact hK.out _ _ hbn ⟨none, 0, rfl, Nat.le_refl _, rd_nil _ _⟩
      | 5, _, _ =>
        intro v w' hR hd
        obtain ⟨A4, k4, e4, m4, r4⟩ : ∃ A c, v 4 = (fun x => .tuple #[x, .int .i64 2]) (.agg #[.string ⟨#[]⟩, .int .i64 0, .int .i64 0, .slice A 0 c]) ∧ 0 ≤ c ∧ Rd w' A (fl []) := hd 4 (by decide)
        change SpecOp _ _ _ _ 5 (Act.put (canon _ v _ []) (some 56) (v 4)) w' _
        rw [e4]
        simp only [canon_nil, Act.put, List.setIfInBounds_toArray, List.set_cons_zero, List.set_cons_succ]
        refine spec_ofR rfl (fun KK hK => ?_)
        go_simp
        exact hK.out _ _ (Below.refl _ _) ⟨A4, k4, rfl, m4, r4⟩
      | 6, _, _ =>
        intro v w' hR hd
        obtain ⟨A5, k5, e5, m5, r5⟩ : ∃ A c, v 5 = (fun x => .tuple #[x, .int .i64 2]) (.agg #[.string ⟨#[]⟩, .int .i64 0, .int .i64 0, .slice A 0 c]) ∧ 0 ≤ c ∧ Rd w' A (fl []) := hd 5 (by decide)
        change SpecOp _ _ _ _ 6 (Act.put (canon _ v _ []) (some 51) (v 5)) w' _
        rw [e5]
        simp only [canon_nil, Act.put, List.setIfInBounds_toArray, List.set_cons_zero, List.set_cons_succ]
        refine spec_ofR rfl (fun KK hK => ?_)
        go_simp
        exact hK.out _ _ (Below.refl _ _) ⟨A5, k5, rfl, m5, r5⟩
      | 7, _, _ =>
        intro v w' hR hd
        obtain ⟨A5, k5, e5, m5, r5⟩ : ∃ A c, v 5 = (fun x => .tuple #[x, .int .i64 2]) (.agg #[.string ⟨#[]⟩, .int .i64 0, .int .i64 0, .slice A 0 c]) ∧ 0 ≤ c ∧ Rd w' A (fl []) := hd 5 (by decide)
        change SpecOp _ _ _ _ 7 (Act.put (canon _ v _ []) (some 51) (v 5)) w' _
        rw [e5]
        simp only [canon_nil, Act.put, List.setIfInBounds_toArray, List.set_cons_zero, List.set_cons_succ]
        refine spec_ofR rfl (fun KK hK => ?_)
        go_simp
        exact hK.out _ _ (Below.refl _ _) rfl
      | 8, _, _ =>
        intro v w' hR hd
        change SpecOp _ _ _ _ 8 (canon _ v _ []) w' _
        simp only [canon_nil]
        refine spec_ofR rfl (fun KK hK => ?_)
        go_simp
        exact hK.out _ _ ((Below.refl _ _).alloc (Nat.le_refl _) _) ⟨_, _, rfl, hR.size, Blk.new _ _ _, .four rfl rfl rfl rfl, rfl⟩
      | 9, _, h => exact absurd rfl h
      | 10, _, _ =>
        intro v w' hR hd
        have e7 : v 7 = .int .i64 (2) := hd 7 (by decide)
        change SpecOp _ _ _ _ 10 (Act.put (canon _ v _ []) (some 58) (v 7)) w' _
        rw [e7]
        simp only [canon_nil, Act.put, List.setIfInBounds_toArray, List.set_cons_zero, List.set_cons_succ]
        refine spec_ofR rfl (fun KK hK => ?_)
        go_simp
        exact hK.out _ _ (Below.refl _ _) rfl
      | i + 11, h, _ => exact absurd h (Nat.not_lt.2 (Nat.le_add_left 11 i))
  case hsto =>
    generalize Exit.then _ _ = QQ
    as_aux_lemma =>
      intro v w' hR hd
      obtain ⟨A6, k6, e6, m6, r6⟩ : ∃ A c, v 6 = (fun x => x) (.agg #[.string ⟨#[]⟩, .int .i64 0, .int .i64 0, .slice A 0 c]) ∧ 0 ≤ c ∧ Rd w' A (fl []) := hd 6 (by decide)
      obtain ⟨bb, cs, e8, hge, hblk, hnf, hcz⟩ : ∃ b cs, v 8 = .pointer (some ⟨b, 0, none⟩) ∧ u3w.heap.size ≤ b ∧ Blk w' b 50 cs ∧ NF cs ∧ cs.size = 4 := hd 8 (by decide)
      obtain ⟨x0, x1, x2, x3, rfl⟩ := four_of hcz
      change SpecOp _ _ _ _ 9 (Act.put (Act.put (canon _ v _ []) (some 7) (v 8)) (some 57) (v 6)) w' _
      rw [e6, e8]
      simp only [canon_nil, Act.put, List.setIfInBounds_toArray, List.set_cons_zero, List.set_cons_succ]
      have zb := hblk.lt
      have f0 := hblk.frozen 0; have f1 := hblk.frozen 1; have f2 := hblk.frozen 2; have f3 := hblk.frozen 3
      obtain ⟨y0, y1, y2, y3⟩ := box4 hblk
      refine spec_ofR rfl (fun KK hK => ?_)
      go_simp
      exact hK.out undef _ (rst_set4 hblk hnf hge (.string ⟨#[]⟩) (.int .i64 0) (.int .i64 0) (.slice A6 0 k6) rfl rfl rfl rfl) ⟨bb, A6, k6, rfl, hge, blk_set4' hblk (.string ⟨#[]⟩) (.int .i64 0) (.int .i64 0) (.slice A6 0 k6), rd_set4 r6 hblk hnf (.string ⟨#[]⟩) (.int .i64 0) (.int .i64 0) (.slice A6 0 k6) rfl rfl rfl⟩
  case hend =>
    intro v w' hR hall hfs
    simp only [putL, Act.put, List.setIfInBounds_toArray, List.set_cons_zero, List.set_cons_succ]
    obtain ⟨bX, AX, cX, e8, hge, hx, hrx⟩ := hfs
    have e10 : v 10 = .int .i64 2 := hall 10 (by decide) (by decide)
    rw [e8, e10]
    clear hall e8 e10 hge hx hrx
    clear cA0 cA1 cA2 cA3 zA cB0 cB1 cB2 cB3 zB
    obtain ⟨u4w, hwn⟩ : ∃ s, w' = s := ⟨_, rfl⟩
    rw [hwn] at hR ⊢
    clear hwn
    replace HXA := Lib.hid (HXA.out.below hR)
    replace HXB := Lib.hid (HXB.out.below hR)
    replace HXL := Lib.hid (HXL.out.below hR)
    replace HB := Lib.hid (HB.out.trans (hR.mono HB.out.size))
    clear hR
    go_upto_region 4 with fail
    obtain ⟨cB0, cB1, cB2, cB3⟩ := box4 HXB.out
    have zB := HXB.out.lt
    obtain ⟨cA0, cA1, cA2, cA3⟩ := box4 HXA.out
    have zA := HXA.out.lt
    refine wp_region_box [Fact2.is (.agg #[.string q.name, .int .i64 q.w, .int .i64 q.h, .slice B q.l.length c2]), Fact2.pic (fun x => x) q.name q.w q.h q.l.length q.l q.l.length, Fact2.is (.agg #[.string p.name, .int .i64 p.w, .int .i64 p.h, .slice A p.l.length c]), Fact2.pic (fun x => x) p.name p.w p.h p.l.length p.l p.l.length, Fact2.pic (fun x => .tuple #[x, .int .i64 2]) ⟨#[]⟩ 0 0 0 [] 0, Fact2.pic (fun x => .tuple #[x, .int .i64 2]) ⟨#[]⟩ 0 0 0 [] 0, Fact2.pic (fun x => x) ⟨#[]⟩ 0 0 0 [] 0, Fact2.is (.int .i64 (2)), Fact2.box u4w.heap.size 50, Fact2.any, Fact2.is (.int .i64 (2))] 9 8 (PicBox u4w.heap.size 50 ⟨#[]⟩ 0 0 0 []) (fun _ _ _ h hb => h.grow hb) [[], [0], [], [2], [1, 3], [4], [5], [5], [], [6, 8], [7]] [(some 60, 0), (some 61, 1), (some 62, 2), (some 63, 3), (some 64, 4), (some 59, 5), (some 65, 6), (some 66, 7), (some 9, 8), (none, 9), (some 10, 10)] (by kernel_rfl) (by kernel_rfl) (by kernel_rfl) (by kernel_rfl) (by decide) (by decide) (fun _ _ _ _ e h => by have h1 : _ ∧ _ := h; exact ⟨e ▸ h1.1, h1.2⟩) ?hstep ?hsto ?hend (by decide)
    case hstep =>
      generalize Exit.then _ _ = QQ
      as_aux_lemma =>
        intro i hi hne
        match i, hi, hne with
        | 0, _, _ =>
          intro v w' hR hd
          change SpecOp _ _ _ _ 0 (canon _ v _ []) w' _
          simp only [canon_nil]
          have q0 := (hR.cell (p := ⟨bB, 0, none⟩) zB).trans cB0
          have q1 := (hR.cell (p := ⟨bB, 1, none⟩) zB).trans cB1
          have q2 := (hR.cell (p := ⟨bB, 2, none⟩) zB).trans cB2
          have q3 := (hR.cell (p := ⟨bB, 3, none⟩) zB).trans cB3
          refine spec_ofR rfl (fun KK hK => ?_)
          go_simp
          exact hK.out _ _ (Below.refl _ _) rfl
        | 1, _, _ =>
          intro v w' hR hd
          have e0 : v 0 = .agg #[.string q.name, .int .i64 q.w, .int .i64 q.h, .slice B q.l.length c2] := hd 0 (by decide)
          change SpecOp _ _ _ _ 1 (Act.put (canon _ v _ []) (some 60) (v 0)) w' _
          rw [e0]
          simp only [canon_nil, Act.put, List.setIfInBounds_toArray, List.set_cons_zero, List.set_cons_succ]
          refine spec_ofR rfl (fun KK hK => ?_)
          go_simp
          refine (HOWN2.out _ (HRB.out.below (HB.out.trans (hR.mono HB.out.size)))).mono ?_
          rintro e wn ⟨g, c', rfl, hcc, hro, hbn⟩
          exact hK.out _ _ hbn ⟨_, c', rfl, hcc, hro⟩
        | 2, _, _ =>
          intro v w' hR hd
          change SpecOp _ _ _ _ 2 (canon _ v _ []) w' _
          simp only [canon_nil]
          have q0 := (hR.cell (p := ⟨bA, 0, none⟩) zA).trans cA0
          have q1 := (hR.cell (p := ⟨bA, 1, none⟩) zA).trans cA1
          have q2 := (hR.cell (p := ⟨bA, 2, none⟩) zA).trans cA2
          have q3 := (hR.cell (p := ⟨bA, 3, none⟩) zA).trans cA3
          refine spec_ofR rfl (fun KK hK => ?_)
          go_simp
          exact hK.out _ _ (Below.refl _ _) rfl
        | 3, _, _ =>
          intro v w' hR hd
          have e2 : v 2 = .agg #[.string p.name, .int .i64 p.w, .int .i64 p.h, .slice A p.l.length c] := hd 2 (by decide)
          change SpecOp _ _ _ _ 3 (Act.put (canon _ v _ []) (some 62) (v 2)) w' _
          rw [e2]
          simp only [canon_nil, Act.put, List.setIfInBounds_toArray, List.set_cons_zero, List.set_cons_succ]
          refine spec_ofR rfl (fun KK hK => ?_)
          go_simp
          refine (HOWN.out _ (HRA.out.below (HB.out.trans (hR.mono HB.out.size)))).mono ?_
          rintro e wn ⟨g, c', rfl, hcc, hro, hbn⟩
          exact hK.out _ _ hbn ⟨_, c', rfl, hcc, hro⟩
        | 4, _, _ =>
          intro v w' hR hd
          obtain ⟨A1, k1, e1, m1, r1⟩ : ∃ A c, v 1 = (fun x => x) (.agg #[.string q.name, .int .i64 q.w, .int .i64 q.h, .slice A q.l.length c]) ∧ q.l.length ≤ c ∧ Rd w' A (fl q.l) := hd 1 (by decide)
          obtain ⟨A3, k3, e3, m3, r3⟩ : ∃ A c, v 3 = (fun x => x) (.agg #[.string p.name, .int .i64 p.w, .int .i64 p.h, .slice A p.l.length c]) ∧ p.l.length ≤ c ∧ Rd w' A (fl p.l) := hd 3 (by decide)
          change SpecOp _ _ _ _ 4 (Act.put (Act.put (canon _ v _ []) (some 63) (v 3)) (some 61) (v 1)) w' _
          rw [e1, e3]
          simp only [canon_nil, Act.put, List.setIfInBounds_toArray, List.set_cons_zero, List.set_cons_succ]
          refine spec_ofR rfl (fun KK hK => ?_)
          go_simp
          refine (HS21.out A1 A3 k1 k3 _ r1 r3).mono ?_
          rintro e wn ⟨rfl, hbn⟩
          exact hK.out _ _ hbn ⟨none, 0, rfl, Nat.le_refl _, rd_nil _ _⟩
        | 5, _, _ =>
          intro v w' hR hd
          obtain ⟨A4, k4, e4, m4, r4⟩ : ∃ A c, v 4 = (fun x => .tuple #[x, .int .i64 2]) (.agg #[.string ⟨#[]⟩, .int .i64 0, .int .i64 0, .slice A 0 c]) ∧ 0 ≤ c ∧ Rd w' A (fl []) := hd 4 (by decide)
          change SpecOp _ _ _ _ 5 (Act.put (canon _ v _ []) (some 64) (v 4)) w' _
          rw [e4]
          simp only [canon_nil, Act.put, List.setIfInBounds_toArray, List.set_cons_zero, List.set_cons_succ]
          refine spec_ofR rfl (fun KK hK => ?_)
          go_simp
          exact hK.out _ _ (Below.refl _ _) ⟨A4, k4, rfl, m4, r4⟩
        | 6, _, _ =>
          intro v w' hR hd
          obtain ⟨A5, k5, e5, m5, r5⟩ : ∃ A c, v 5 = (fun x => .tuple #[x, .int .i64 2]) (.agg #[.string ⟨#[]⟩, .int .i64 0, .int .i64 0, .slice A 0 c]) ∧ 0 ≤ c ∧ Rd w' A (fl []) := hd 5 (by decide)
          change SpecOp _ _ _ _ 6 (Act.put (canon _ v _ []) (some 59) (v 5)) w' _
          rw [e5]
          simp only [canon_nil, Act.put, List.setIfInBounds_toArray, List.set_cons_zero, List.set_cons_succ]
          refine spec_ofR rfl (fun KK hK => ?_)
          go_simp
          exact hK.out _ _ (Below.refl _ _) ⟨A5, k5, rfl, m5, r5⟩
        | 7, _, _ =>
          intro v w' hR hd
          obtain ⟨A5, k5, e5, m5, r5⟩ : ∃ A c, v 5 = (fun x => .tuple #[x, .int .i64 2]) (.agg #[.string ⟨#[]⟩, .int .i64 0, .int .i64 0, .slice A 0 c]) ∧ 0 ≤ c ∧ Rd w' A (fl []) := hd 5 (by decide)
          change SpecOp _ _ _ _ 7 (Act.put (canon _ v _ []) (some 59) (v 5)) w' _
          rw [e5]
          simp only [canon_nil, Act.put, List.setIfInBounds_toArray, List.set_cons_zero, List.set_cons_succ]
          refine spec_ofR rfl (fun KK hK => ?_)
          go_simp
          exact hK.out _ _ (Below.refl _ _) rfl
        | 8, _, _ =>
          intro v w' hR hd
          change SpecOp _ _ _ _ 8 (canon _ v _ []) w' _
          simp only [canon_nil]
          refine spec_ofR rfl (fun KK hK => ?_)
          go_simp
          exact hK.out _ _ ((Below.refl _ _).alloc (Nat.le_refl _) _) ⟨_, _, rfl, hR.size, Blk.new _ _ _, .four rfl rfl rfl rfl, rfl⟩
        | 9, _, h => exact absurd rfl h
        | 10, _, _ =>
          intro v w' hR hd
          have e7 : v 7 = .int .i64 (2) := hd 7 (by decide)
          change SpecOp _ _ _ _ 10 (Act.put (canon _ v _ []) (some 66) (v 7)) w' _
          rw [e7]
          simp only [canon_nil, Act.put, List.setIfInBounds_toArray, List.set_cons_zero, List.set_cons_succ]
          refine spec_ofR rfl (fun KK hK => ?_)
          go_simp
          exact hK.out _ _ (Below.refl _ _) rfl
        | i + 11, h, _ => exact absurd h (Nat.not_lt.2 (Nat.le_add_left 11 i))
    case hsto =>
      generalize Exit.then _ _ = QQ
      as_aux_lemma =>
        intro v w' hR hd
        obtain ⟨A6, k6, e6, m6, r6⟩ : ∃ A c, v 6 = (fun x => x) (.agg #[.string ⟨#[]⟩, .int .i64 0, .int .i64 0, .slice A 0 c]) ∧ 0 ≤ c ∧ Rd w' A (fl []) := hd 6 (by decide)
        obtain ⟨bb, cs, e8, hge, hblk, hnf, hcz⟩ : ∃ b cs, v 8 = .pointer (some ⟨b, 0, none⟩) ∧ u4w.heap.size ≤ b ∧ Blk w' b 50 cs ∧ NF cs ∧ cs.size = 4 := hd 8 (by decide)
        obtain ⟨x0, x1, x2, x3, rfl⟩ := four_of hcz
        change SpecOp _ _ _ _ 9 (Act.put (Act.put (canon _ v _ []) (some 9) (v 8)) (some 65) (v 6)) w' _
        rw [e6, e8]
        simp only [canon_nil, Act.put, List.setIfInBounds_toArray, List.set_cons_zero, List.set_cons_succ]
        have zb := hblk.lt
        have f0 := hblk.frozen 0; have f1 := hblk.frozen 1; have f2 := hblk.frozen 2; have f3 := hblk.frozen 3
        obtain ⟨y0, y1, y2, y3⟩ := box4 hblk
        refine spec_ofR rfl (fun KK hK => ?_)
        go_simp
        exact hK.out undef _ (rst_set4 hblk hnf hge (.string ⟨#[]⟩) (.int .i64 0) (.int .i64 0) (.slice A6 0 k6) rfl rfl rfl rfl) ⟨bb, A6, k6, rfl, hge, blk_set4' hblk (.string ⟨#[]⟩) (.int .i64 0) (.int .i64 0) (.slice A6 0 k6), rd_set4 r6 hblk hnf (.string ⟨#[]⟩) (.int .i64 0) (.int .i64 0) (.slice A6 0 k6) rfl rfl rfl⟩
    case hend =>
      intro v w' hR hall hfs
      simp only [putL, Act.put, List.setIfInBounds_toArray, List.set_cons_zero, List.set_cons_succ]
      obtain ⟨bY, AY, cY, e8, hge, hx, hrx⟩ := hfs
      have e10 : v 10 = .int .i64 2 := hall 10 (by decide) (by decide)
      rw [e8, e10]
      clear hall e8 e10 hge hx hrx
      clear cB0 cB1 cB2 cB3 zB cA0 cA1 cA2 cA3 zA
      obtain ⟨u5w, hwn⟩ : ∃ s, w' = s := ⟨_, rfl⟩
      rw [hwn] at hR ⊢
      clear hwn
      replace HXA := Lib.hid (HXA.out.below hR)
      replace HXB := Lib.hid (HXB.out.below hR)
      replace HXL := Lib.hid (HXL.out.below hR)
      replace HB := Lib.hid (HB.out.trans (hR.mono HB.out.size))
      clear hR
      obtain ⟨cA0, cA1, cA2, cA3⟩ := box4 HXA.out
      obtain ⟨cB0, cB1, cB2, cB3⟩ := box4 HXB.out
      obtain ⟨pw, hpw⟩ : ∃ z, (p.w != q.w) = z := ⟨_, rfl⟩
      obtain ⟨ph, hph⟩ : ∃ z, (p.h != q.h) = z := ⟨_, rfl⟩
      rw [hpw, hph] at hsh
      cases pw with
      | true =>
        go_wp2_with fail
        refine (awake_laid _ (HL.out.below HB.out)).mono ?_
        rintro e wz ⟨rfl, hb⟩
        have HB2 := Lib.hid (HB.out.trans (hb.mono HB.out.size))
        go_wp2
        go_ret
        exact trueEnd_mk rfl HB2.out
      | false =>
        cases ph with
        | false => simp at hsh
        | true =>
          go_wp2_with fail
          refine (awake_laid _ (HL.out.below HB.out)).mono ?_
          rintro e wz ⟨rfl, hb⟩
          have HB2 := Lib.hid (HB.out.trans (hb.mono HB.out.size))
          go_wp2
          go_ret
          exact trueEnd_mk rfl HB2.out
end Go.Proofs.YtlicgblagkkcfaaGreatDoor
