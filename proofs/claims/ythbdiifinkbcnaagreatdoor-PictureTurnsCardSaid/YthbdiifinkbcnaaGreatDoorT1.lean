/- Parts of a proof: What the words of floats stand for: numbers are written and read exactly. Contracts of small functions, and of the map over a list of floats; words for memory. The checks of a sample, by the program and by the reference: one plain function of the bits. -/
import Ieee.Arith
import Derived.Laws.FloatBits
import Derived.Test.YthbdiifinkbcnaaGreatDoorProg
import Derived.Handy
import Derived.LoopTactic
import Derived.Deep.QuietTactic
import Derived.BigQuiet
import Derived.Lib.Hide
import Derived.Outline
import Derived.WalkLawsBesides
import Derived.WalkSpells
import Derived.Deep.OwnRows
import Derived.Deep.RegionHeld3
import Derived.Deep.RegionWith
import Derived.Deep.AppendLies
import Derived.Maps.AppendAt
import Derived.Deep.DrawnRows
import Derived.Deep.DeepCutAuto
import Derived.Deep.DeepFit
import Derived.StillTailTactics
import Derived.Deep.Draws
import Derived.Laws.FloatArith
import Derived.Laws.ComplexArith
namespace Ieee
theorem log2_lt_pow (n k : Nat) (h : n < 2 ^ k) (hn : n ≠ 0) : n.log2 < k := (Nat.log2_lt hn).2 h
/-- 'kept' digits: the number is exactly 'kept * 2 ^ last'. -/
theorem cut_zero (way : Toward) (neg : Bool) (n : Nat) : way.cut neg n 0 = n := by
  unfold Toward.cut
  cases way <;> simp [Nat.mod_one]
theorem cut_exact (way : Toward) (neg : Bool) (k drop : Nat) (hk : k ≠ 0) : way.cut neg (k * 2 ^ drop) drop = k := by
  unfold Toward.cut
  have hl : min drop ((k * 2 ^ drop).log2 + 2) = drop := by
    have : drop ≤ (k * 2 ^ drop).log2 := (Nat.le_log2 (by have := Nat.two_pow_pos drop; exact Nat.mul_ne_zero hk (by omega))).2 (by have := Nat.two_pow_pos drop; exact Nat.le_mul_of_pos_left _ (Nat.pos_of_ne_zero hk))
    omega
  simp only [hl, Nat.one_shiftLeft]
  have hp : 0 < 2 ^ drop := Nat.two_pow_pos drop
  have h1 : k * 2 ^ drop / 2 ^ drop = k := Nat.mul_div_cancel _ hp
  have h2 : k * 2 ^ drop % 2 ^ drop = 0 := Nat.mul_mod_left _ _
  rw [h1, h2]
  have hz : ¬ (2 ^ drop = 0) := by omega
  cases way <;> simp
theorem Format.read_word_sub (f : Format) (neg : Bool) (r : Nat) (h : r < f.binade) : f.read (f.word neg r) = .number neg r f.leastPlace := by
  have hb : f.binade ≤ f.signWeight := by unfold Format.binade Format.signWeight; exact Nat.pow_le_pow_right (by omega) (by omega)
  have hs : r < f.signWeight := by omega
  have hw : f.word neg r / f.signWeight % 2 = neg.toNat ∧ f.word neg r % f.signWeight = r := by
    unfold Format.word
    have hp : 0 < f.signWeight := by omega
    cases neg
    · simp [Nat.div_eq_of_lt hs, Nat.mod_eq_of_lt hs]
    · simp [Nat.add_div_left _ hp, Nat.div_eq_of_lt hs, Nat.mod_eq_of_lt hs]
  unfold Format.read
  simp only [hw.1, hw.2, if_pos h]
  cases neg <;> rfl
theorem Format.read_word_norm (f : Format) (neg : Bool) (q k : Nat) (hk : f.binade ≤ k) (hk2 : k < 2 * f.binade) (h : q * f.binade + k < f.infRung) : f.read (f.word neg (q * f.binade + k)) = .number neg k (f.leastPlace + q) := by
  have hi := f.infRung_lt
  have hs : q * f.binade + k < f.signWeight := by omega
  have hbp : 0 < f.binade := Nat.two_pow_pos _
  have hw : f.word neg (q * f.binade + k) / f.signWeight % 2 = neg.toNat ∧ f.word neg (q * f.binade + k) % f.signWeight = q * f.binade + k := by
    unfold Format.word
    have hp : 0 < f.signWeight := by omega
    cases neg
    · simp [Nat.div_eq_of_lt hs, Nat.mod_eq_of_lt hs]
    · simp [Nat.add_div_left _ hp, Nat.div_eq_of_lt hs, Nat.mod_eq_of_lt hs]
  unfold Format.read
  have h1 : ¬ q * f.binade + k < f.binade := by
    have : 0 ≤ q * f.binade := Nat.zero_le _
    omega
  have hdiv : (q * f.binade + k) / f.binade = q + 1 := by
    have : q * f.binade + k = (k - f.binade) + f.binade * (q + 1) := by rw [Nat.mul_comm q, Nat.mul_add]; omega
    rw [this, Nat.add_mul_div_left _ _ hbp, Nat.div_eq_of_lt (by omega)]; omega
  have hmod : (q * f.binade + k) % f.binade = k - f.binade := by
    have : q * f.binade + k = (k - f.binade) + f.binade * (q + 1) := by rw [Nat.mul_comm q, Nat.mul_add]; omega
    rw [this, Nat.add_mul_mod_self_left, Nat.mod_eq_of_lt (by omega)]
  simp only [hw.1, hw.2, if_neg h1, if_pos h, hdiv, hmod]
  have h2 : f.binade + (k - f.binade) = k := by omega
  rw [h2]
  cases neg <;> rfl

theorem log2_mul_pow (n k : Nat) (hn : n ≠ 0) : (n * 2 ^ k).log2 = n.log2 + k := by
  have h1 : 2 ^ n.log2 ≤ n := Nat.log2_self_le hn
  have h2 : n < 2 ^ (n.log2 + 1) := Nat.lt_log2_self
  have hp : 0 < 2 ^ k := Nat.two_pow_pos k
  have hm : n * 2 ^ k ≠ 0 := Nat.mul_ne_zero hn (by omega)
  apply Nat.le_antisymm
  · have : (n * 2 ^ k).log2 < n.log2 + k + 1 := (Nat.log2_lt hm).2 (by
      have : n.log2 + k + 1 = (n.log2 + 1) + k := by omega
      rw [this, Nat.pow_add]
      exact Nat.mul_lt_mul_of_pos_right h2 hp)
    omega
  · exact (Nat.le_log2 hm).2 (by rw [Nat.pow_add]; exact Nat.mul_le_mul_right _ h1)
/-- A NUMBER THAT THE FORMAT HAS IS WRITTEN AS IT IS. -/
theorem Format.nearest_exact (f : Format) (neg : Bool) (mag : Nat) (place : Int) (k q : Nat) (hk0 : k ≠ 0) (hk : k < 2 * f.binade) (hq : q = 0 ∨ f.binade ≤ k) (hi : q * f.binade + k < f.infRung)
    (hv : mag * 2 ^ (place - (f.leastPlace + q)).toNat = k * 2 ^ ((f.leastPlace + q) - place).toNat) :
    f.nearest neg mag place = f.word neg (q * f.binade + k) := by
  have hm0 : mag ≠ 0 := by
    rintro rfl
    have : 0 < k * 2 ^ ((f.leastPlace + q) - place).toNat := Nat.mul_pos (Nat.pos_of_ne_zero hk0) (Nat.two_pow_pos _)
    omega
  have hlog : (mag.log2 : Int) + place = k.log2 + (f.leastPlace + q) := by
    have h1 := congrArg Nat.log2 hv
    rw [log2_mul_pow _ _ hm0, log2_mul_pow _ _ hk0] at h1
    omega
  have hkl : k.log2 ≤ f.fractionBits := by
    have : k.log2 < f.fractionBits + 1 := (Nat.log2_lt hk0).2 (by unfold Format.binade at hk; rw [Nat.pow_succ]; omega)
    omega
  have hlast : max (place + mag.log2 - f.fractionBits) f.leastPlace = f.leastPlace + q := by
    rcases hq with rfl | hq
    · omega
    · have : f.fractionBits ≤ k.log2 := (Nat.le_log2 hk0).2 hq
      omega
  unfold Format.nearest
  simp only [if_neg hm0, hlast]
  have hkept : Toward.even.cut neg (mag <<< (place - (f.leastPlace + q)).toNat) ((f.leastPlace + q) - place).toNat = k := by
    rw [Nat.shiftLeft_eq, hv]
    exact cut_exact _ _ _ _ hk0
  rw [hkept]
  have h3 : (f.leastPlace + (q : Int) - f.leastPlace).toNat = q := by omega
  rw [h3]
  congr 1
  omega
theorem Format.read_nearest (f : Format) (neg : Bool) (mag : Nat) (place : Int) (k q : Nat) (hk0 : k ≠ 0) (hk : k < 2 * f.binade) (hq : q = 0 ∨ f.binade ≤ k) (hi : q * f.binade + k < f.infRung)
    (hv : mag * 2 ^ (place - (f.leastPlace + q)).toNat = k * 2 ^ ((f.leastPlace + q) - place).toNat) :
    f.read (f.nearest neg mag place) = .number neg k (f.leastPlace + q) := by
  rw [f.nearest_exact neg mag place k q hk0 hk hq hi hv]
  by_cases hb : f.binade ≤ k
  · exact f.read_word_norm neg q k hb hk hi
  · rcases hq with rfl | hq
    · simp only [Nat.zero_mul, Nat.zero_add]
      rw [f.read_word_sub neg k (by omega)]
      simp
    · exact absurd hq hb
theorem Format.read_zero (f : Format) (neg : Bool) (place : Int) : f.read (f.nearest neg 0 place) = .number neg 0 f.leastPlace := by
  unfold Format.nearest
  simp only [if_pos]
  exact f.read_word_sub neg 0 (Nat.two_pow_pos _)

/-- THE WORD b STANDS FOR 'M' TIMES THE FORMAT's LEAST UNIT, negated if 'neg'. -/
def NumS (f : Format) (b : Nat) (neg : Bool) (M : Nat) : Prop := ∃ k q : Nat, f.read b = .number neg k (f.leastPlace + q) ∧ k * 2 ^ q = M
theorem norm_exists (B M m j : Nat) (hM : M = m * 2 ^ j) (hm0 : m ≠ 0) (hm : m < 2 * B) : ∃ k q, M = k * 2 ^ q ∧ k ≠ 0 ∧ k < 2 * B ∧ (q = 0 ∨ B ≤ k) ∧ q ≤ j := by
  induction j generalizing m with
  | zero => exact ⟨m, 0, hM, hm0, hm, .inl rfl, Nat.le_refl _⟩
  | succ j ih =>
    by_cases hb : B ≤ m
    · exact ⟨m, j + 1, hM, hm0, hm, .inr hb, Nat.le_refl _⟩
    · obtain ⟨k, q, h1, h2, h3, h4, h5⟩ := ih (2 * m) (by rw [hM, Nat.pow_succ]; rw [Nat.mul_comm 2 m, Nat.mul_assoc, Nat.mul_comm 2]) (by omega) (by omega)
      exact ⟨k, q, h1, h2, h3, h4, by omega⟩
theorem two_pow_split (a b : Nat) (h : a ≤ b) : 2 ^ b = 2 ^ a * 2 ^ (b - a) := by rw [← Nat.pow_add]; congr 1; omega
/-- A number that the format has, written: it stands for what it is. -/
theorem NumS.write {f : Format} (neg : Bool) (mag : Nat) (place : Int) (M m j : Nat) (hM : M = m * 2 ^ j) (hm : m < 2 * f.binade) (hj : j + 3 ≤ 2 ^ f.exponentBits)
    (hv : mag * 2 ^ (place - f.leastPlace).toNat = M * 2 ^ (f.leastPlace - place).toNat) : NumS f (f.nearest neg mag place) neg M := by
  by_cases hm0 : m = 0
  · subst hm0
    have hM0 : M = 0 := by rw [hM]; simp
    subst hM0
    have : mag = 0 := by
      have hp : 0 < 2 ^ (place - f.leastPlace).toNat := Nat.two_pow_pos _
      rcases Nat.eq_zero_or_pos mag with h | h
      · exact h
      · have := Nat.mul_pos h hp
        omega
    subst this
    exact ⟨0, 0, by rw [f.read_zero]; simp, by simp⟩
  · obtain ⟨k, q, h1, h2, h3, h4, h5⟩ := norm_exists f.binade M m j hM hm0 hm
    refine ⟨k, q, f.read_nearest neg mag place k q h2 h3 h4 ?_ ?_, h1.symm⟩
    · unfold Format.infRung
      have hb : 0 < f.binade := Nat.two_pow_pos _
      have : (q + 2) * f.binade ≤ (2 ^ f.exponentBits - 1) * f.binade := Nat.mul_le_mul_right _ (by omega)
      rw [Nat.add_mul] at this
      omega
    · rw [h1] at hv
      rcases Int.lt_or_le place f.leastPlace with hlt | hge
      · have e1 : (place - f.leastPlace).toNat = 0 := by omega
        have e2 : (place - (f.leastPlace + q)).toNat = 0 := by omega
        have e3 : (f.leastPlace + q - place).toNat = q + (f.leastPlace - place).toNat := by omega
        rw [e1] at hv
        rw [e2, e3, Nat.pow_add]
        simpa [Nat.mul_assoc] using hv
      · have e1 : (f.leastPlace - place).toNat = 0 := by omega
        rw [e1, Nat.pow_zero, Nat.mul_one] at hv
        rcases Int.lt_or_le place (f.leastPlace + q) with h6 | h6
        · have e2 : (place - (f.leastPlace + q)).toNat = 0 := by omega
          rw [e2, Nat.pow_zero, Nat.mul_one]
          have e3 : q = (f.leastPlace + q - place).toNat + (place - f.leastPlace).toNat := by omega
          have e4 : 2 ^ q = 2 ^ (f.leastPlace + q - place).toNat * 2 ^ (place - f.leastPlace).toNat := by rw [← Nat.pow_add, ← e3]
          rw [e4, ← Nat.mul_assoc] at hv
          exact Nat.mul_right_cancel (Nat.two_pow_pos _) hv
        · have e2 : (f.leastPlace + q - place).toNat = 0 := by omega
          rw [e2, Nat.pow_zero, Nat.mul_one]
          have e4 : 2 ^ (place - f.leastPlace).toNat = 2 ^ (place - (f.leastPlace + q)).toNat * 2 ^ q := by rw [← Nat.pow_add]; congr 1; omega
          rw [e4, ← Nat.mul_assoc] at hv
          exact Nat.mul_right_cancel (Nat.two_pow_pos _) hv

theorem NumS.mul {f : Format} {x y : Nat} {s t : Bool} {M N : Nat} (hx : NumS f x s M) (hy : NumS f y t N) (D : Nat) (hL : f.leastPlace = -(D : Int)) (R m j : Nat) (hR : M * N = R * 2 ^ D)
    (hM : R = m * 2 ^ j) (hm : m < 2 * f.binade) (hj : j + 3 ≤ 2 ^ f.exponentBits) : ∃ r, f.mul x y = some r ∧ NumS f r (s ^^ t) R := by
  obtain ⟨k, q, hr, hk⟩ := hx
  obtain ⟨k', q', hr', hk'⟩ := hy
  refine ⟨_, by unfold Format.mul; rw [hr, hr']; rfl, ?_⟩
  refine NumS.write _ _ _ R m j hM hm hj ?_
  subst hk; subst hk'
  rw [hL]
  have hp : k * k' * 2 ^ (q + q') = R * 2 ^ D := by rw [← hR, Nat.pow_add]; ac_rfl
  rcases Nat.lt_or_ge (q + q') D with h | h
  · have e1 : (-(D : Int) + q + (-(D : Int) + q') - -(D : Int)).toNat = 0 := by omega
    have e2 : (-(D : Int) - (-(D : Int) + q + (-(D : Int) + q'))).toNat = D - (q + q') := by omega
    rw [e1, e2, Nat.pow_zero, Nat.mul_one]
    rw [two_pow_split (q + q') D (by omega)] at hp
    have hp' : k * k' * 2 ^ (q + q') = R * 2 ^ (D - (q + q')) * 2 ^ (q + q') := by rw [hp]; ac_rfl
    exact Nat.mul_right_cancel (Nat.two_pow_pos _) hp'
  · have e1 : (-(D : Int) + q + (-(D : Int) + q') - -(D : Int)).toNat = q + q' - D := by omega
    have e2 : (-(D : Int) - (-(D : Int) + q + (-(D : Int) + q'))).toNat = 0 := by omega
    rw [e1, e2, Nat.pow_zero, Nat.mul_one]
    rw [two_pow_split D (q + q') h] at hp
    have hp' : k * k' * 2 ^ (q + q' - D) * 2 ^ D = R * 2 ^ D := by rw [← hp]; ac_rfl
    exact Nat.mul_right_cancel (Nat.two_pow_pos _) hp'
/-- what a sign and a magnitude come to -/
def sgn (s : Bool) (M : Nat) : Int := if s then -(M : Int) else M
theorem signed_eq (s : Bool) (m u : Nat) : signed s m u = sgn s (m * 2 ^ u) := by unfold signed sgn; rw [Nat.shiftLeft_eq]
theorem compare_mul (a b : Int) (c : Nat) (hc : 0 < c) : compare (a * c) (b * c) = compare a b := by
  have hc' : (0 : Int) < c := by omega
  rcases Int.lt_trichotomy a b with h | h | h
  · have h2 : a * c < b * c := Int.mul_lt_mul_of_pos_right h hc'
    rw [Int.compare_eq_lt.2 h, Int.compare_eq_lt.2 h2]
  · subst h
    rw [Int.compare_eq_eq.2 rfl, Int.compare_eq_eq.2 rfl]
  · have h2 : b * c < a * c := Int.mul_lt_mul_of_pos_right h hc'
    rw [Int.compare_eq_gt.2 h, Int.compare_eq_gt.2 h2]
theorem sgn_mul (s : Bool) (M c : Nat) : sgn s (M * c) = sgn s M * c := by
  unfold sgn
  cases s <;> simp [Int.natCast_mul, Int.neg_mul]
theorem NumS.order {f : Format} {x y : Nat} {s t : Bool} {M N : Nat} (hx : NumS f x s M) (hy : NumS f y t N) : f.order x y = some (compare (sgn s M) (sgn t N)) := by
  obtain ⟨k, q, hr, hk⟩ := hx
  obtain ⟨k', q', hr', hk'⟩ := hy
  unfold Format.order
  rw [hr, hr']
  unfold Datum.order
  simp only [signed_eq]
  congr 1
  subst hk; subst hk'
  have e1 : ((f.leastPlace + q) - min (f.leastPlace + q) (f.leastPlace + q')).toNat = q - min q q' := by omega
  have e2 : ((f.leastPlace + q') - min (f.leastPlace + q) (f.leastPlace + q')).toNat = q' - min q q' := by omega
  rw [e1, e2, two_pow_split (min q q') q (by omega), two_pow_split (min q q') q' (by omega)]
  rw [show k * (2 ^ min q q' * 2 ^ (q - min q q')) = (k * 2 ^ (q - min q q')) * 2 ^ min q q' by ac_rfl, show k' * (2 ^ min q q' * 2 ^ (q' - min q q')) = (k' * 2 ^ (q' - min q q')) * 2 ^ min q q' by ac_rfl]
  rw [sgn_mul s (k * 2 ^ (q - min q q')) (2 ^ min q q'), sgn_mul t (k' * 2 ^ (q' - min q q')) (2 ^ min q q'), compare_mul _ _ _ (Nat.two_pow_pos _)]
theorem Format.read_small {f : Format} (he : 2 ≤ f.exponentBits) {b : Nat} {s : Bool} {k q : Nat} (hr : f.read b = .number s k (f.leastPlace + q)) : k < 2 * f.binade ∧ q + 3 ≤ 2 ^ f.exponentBits := by
  have hb : 0 < f.binade := Nat.two_pow_pos _
  have h4 : 2 ^ 2 ≤ 2 ^ f.exponentBits := Nat.pow_le_pow_right (by omega) he
  unfold Format.read at hr
  dsimp only at hr
  split at hr
  · simp only [Datum.number.injEq] at hr
    omega
  · split at hr
    · rename_i h1 h2
      simp only [Datum.number.injEq] at hr
      obtain ⟨_, hk, hq⟩ := hr
      have hm := Nat.mod_lt (b % f.signWeight) hb
      unfold Format.infRung at h2
      have hd : b % f.signWeight / f.binade < 2 ^ f.exponentBits - 1 := (Nat.div_lt_iff_lt_mul hb).2 h2
      omega
    · split at hr <;> cases hr
theorem NumS.of_read {f : Format} {b : Nat} {s : Bool} {k : Nat} {p : Int} (hr : f.read b = .number s k p) : ∃ q : Nat, p = f.leastPlace + q := by
  unfold Format.read at hr
  dsimp only at hr
  split at hr
  · simp only [Datum.number.injEq] at hr
    exact ⟨0, by omega⟩
  · split at hr
    · simp only [Datum.number.injEq] at hr
      exact ⟨_, hr.2.2.symm⟩
    · split at hr <;> cases hr
/-- made whole: 'c' is the whole number that comes of it. -/
theorem NumS.integral {f : Format} {b : Nat} {s : Bool} {M : Nat} (hb : NumS f b s M) (D : Nat) (hL : f.leastPlace = -(D : Int)) (way : Toward) (hM : M < 2 ^ (D + f.fractionBits)) (hD : D + 3 ≤ 2 ^ f.exponentBits) :
    ∃ c, NumS f (f.write ((f.read b).integral way)) s (c * 2 ^ D) ∧ (M % 2 ^ D = 0 → c * 2 ^ D = M) := by
  obtain ⟨k, q, hr, hk⟩ := hb
  rw [hr]
  unfold Datum.integral
  dsimp only
  rw [hL]
  have key : ∃ c, way.cut s (k <<< (-(D : Int) + q).toNat) (-(-(D : Int) + q)).toNat = c ∧ c ≤ 2 ^ f.fractionBits ∧ (M % 2 ^ D = 0 → c * 2 ^ D = M) := by
    refine ⟨_, rfl, ?_⟩
    rw [Nat.shiftLeft_eq]
    rcases Nat.lt_or_ge q D with h | h
    · have e1 : (-(D : Int) + q).toNat = 0 := by omega
      have e2 : (-(-(D : Int) + q)).toNat = D - q := by omega
      rw [e1, e2, Nat.pow_zero, Nat.mul_one]
      have hkb : k < 2 ^ f.fractionBits * 2 ^ (D - q) := by
        rw [← hk, two_pow_split q (D + f.fractionBits) (by omega), Nat.mul_comm] at hM
        have := Nat.lt_of_mul_lt_mul_left hM
        rwa [show D + f.fractionBits - q = f.fractionBits + (D - q) by omega, Nat.pow_add] at this
      constructor
      · unfold Toward.cut
        dsimp only
        have hg : k / 2 ^ (D - q) < 2 ^ f.fractionBits := (Nat.div_lt_iff_lt_mul (Nat.two_pow_pos _)).2 hkb
        rw [Nat.one_shiftLeft]
        rcases Nat.lt_or_ge (k.log2 + 2) (D - q) with h3 | h3
        · rw [Nat.min_eq_right (Nat.le_of_lt h3)]
          have : k / 2 ^ (k.log2 + 2) = 0 := Nat.div_eq_of_lt (by
            have := @Nat.lt_log2_self k
            rw [show k.log2 + 2 = (k.log2 + 1) + 1 by omega, Nat.pow_succ]
            omega)
          rw [this]
          have h1 : 0 < 2 ^ f.fractionBits := Nat.two_pow_pos _
          have : ∀ x : Bool, x.toNat ≤ 1 := fun x => by cases x <;> simp
          exact Nat.le_trans (Nat.add_le_add_left (this _) _) (by omega)
        · rw [Nat.min_eq_left h3]
          have : ∀ x : Bool, x.toNat ≤ 1 := fun x => by cases x <;> simp
          exact Nat.le_trans (Nat.add_le_add_left (this _) _) (by omega)
      · intro hz
        rw [← hk, two_pow_split q D (by omega), Nat.mul_comm k, Nat.mul_mod_mul_left] at hz
        have hz' : k % 2 ^ (D - q) = 0 := by
          rcases Nat.mul_eq_zero.1 hz with h0 | h0
          · have := Nat.two_pow_pos q; omega
          · exact h0
        obtain ⟨d, hd⟩ := Nat.dvd_of_mod_eq_zero hz'
        subst hk
        subst hd
        by_cases hd0 : d = 0
        · subst hd0; simp [Toward.cut]; cases way <;> simp
        · rw [Nat.mul_comm (2 ^ (D - q)) d, cut_exact way s d (D - q) hd0, two_pow_split q D (by omega)]
          ac_rfl
    · have e1 : (-(D : Int) + q).toNat = q - D := by omega
      have e2 : (-(-(D : Int) + q)).toNat = 0 := by omega
      rw [e1, e2, cut_zero]
      have hMe : k * 2 ^ (q - D) * 2 ^ D = M := by rw [← hk, two_pow_split D q h]; ac_rfl
      refine ⟨?_, fun _ => hMe⟩
      rw [← hMe, Nat.add_comm, Nat.pow_add] at hM
      exact Nat.le_of_lt (Nat.lt_of_mul_lt_mul_right hM)
  obtain ⟨c, hc, hcb, hce⟩ := key
  rw [hc]
  refine ⟨c, ?_, hce⟩
  refine NumS.write s c 0 (c * 2 ^ D) c D rfl ?_ hD ?_
  · unfold Format.binade
    have : 0 < 2 ^ f.fractionBits := Nat.two_pow_pos _
    omega
  · rw [hL]
    have e1 : ((0 : Int) - -(D : Int)).toNat = D := by omega
    have e2 : (-(D : Int) - 0).toNat = 0 := by omega
    rw [e1, e2]; simp
/-- '32 to 64 bits', and any other road to a format that has the number. -/
theorem NumS.conv {f g : Format} {b : Nat} {s : Bool} {M : Nat} (hb : NumS f b s M) (D E : Nat) (hL : f.leastPlace = -(D : Int)) (hE : g.leastPlace = -((D + E : Nat) : Int)) (he : 2 ≤ f.exponentBits) (hf : f.binade ≤ g.binade)
    (hw : 2 ^ f.exponentBits + E ≤ 2 ^ g.exponentBits) : NumS g (g.write (f.read b)) s (M * 2 ^ E) := by
  obtain ⟨k, q, hr, hk⟩ := hb
  obtain ⟨h1, h2⟩ := Format.read_small he hr
  rw [hr]
  refine NumS.write s k _ (M * 2 ^ E) k (q + E) (by rw [← hk, Nat.pow_add, Nat.mul_assoc]) (by omega) (by omega) ?_
  rw [hL, hE]
  have e1 : (-(D : Int) + q - -((D + E : Nat) : Int)).toNat = q + E := by omega
  have e2 : (-((D + E : Nat) : Int) - (-(D : Int) + q)).toNat = 0 := by omega
  rw [e1, e2, ← hk]
  rw [Nat.pow_add]; simp [Nat.mul_assoc]

/-- A power of two behind a name, so that nothing reckons it out. -/
def P2 (n : Nat) : Nat := 2 ^ n
theorem P2_pos (n : Nat) : 0 < P2 n := Nat.two_pow_pos n
theorem P2_add (a b : Nat) : P2 (a + b) = P2 a * P2 b := Nat.pow_add 2 a b
theorem NumS.writeP {f : Format} (neg : Bool) (mag : Nat) (place : Int) (M m j : Nat) (hM : M = m * P2 j) (hm : m < 2 * f.binade) (hj : j + 3 ≤ 2 ^ f.exponentBits)
    (hv : mag * P2 (place - f.leastPlace).toNat = M * P2 (f.leastPlace - place).toNat) : NumS f (f.nearest neg mag place) neg M := NumS.write neg mag place M m j hM hm hj hv
theorem NumS.mulP {f : Format} {x y : Nat} {s t : Bool} {M N : Nat} (hx : NumS f x s M) (hy : NumS f y t N) (D : Nat) (hL : f.leastPlace = -(D : Int)) (R m j : Nat) (hR : M * N = R * P2 D)
    (hM : R = m * P2 j) (hm : m < 2 * f.binade) (hj : j + 3 ≤ 2 ^ f.exponentBits) : ∃ r, f.mul x y = some r ∧ NumS f r (s ^^ t) R := hx.mul hy D hL R m j hR hM hm hj
theorem NumS.integralP {f : Format} {b : Nat} {s : Bool} {M : Nat} (hb : NumS f b s M) (D : Nat) (hL : f.leastPlace = -(D : Int)) (way : Toward) (hM : M < P2 (D + f.fractionBits)) (hD : D + 3 ≤ 2 ^ f.exponentBits) :
    ∃ c, NumS f (f.write ((f.read b).integral way)) s (c * P2 D) ∧ (M % P2 D = 0 → c * P2 D = M) := hb.integral D hL way hM hD
theorem NumS.convP {f g : Format} {b : Nat} {s : Bool} {M : Nat} (hb : NumS f b s M) (D E : Nat) (hL : f.leastPlace = -(D : Int)) (hE : g.leastPlace = -((D + E : Nat) : Int)) (he : 2 ≤ f.exponentBits) (hf : f.binade ≤ g.binade)
    (hw : 2 ^ f.exponentBits + E ≤ 2 ^ g.exponentBits) : NumS g (g.write (f.read b)) s (M * P2 E) := hb.conv D E hL hE he hf hw
end Ieee
namespace Go.Proofs.YthbdiifinkbcnaaGreatDoor
open Go.RowKit
set_option linter.unusedVariables false
theorem block_of_add (a : Addr) (n : Nat) : (a.add n).block = a.block := by unfold Addr.add; split <;> rfl
theorem add_of_add (a : Addr) (i j : Nat) : (a.add i).add j = a.add (i + j) := by
  unfold Addr.add
  by_cases hi : i = 0 <;> by_cases hj : j = 0 <;> simp [hi, hj, Nat.add_assoc]
def Rd (w : World) (A : Option Addr) (xs : List Value) : Prop :=
  0 < xs.length → ∃ ad, A = some ad ∧ ad.block < w.heap.size ∧ ∀ j u, xs[j]? = some u → w.cell? (ad.add j) = some u
def errIf (b : Bool) (e : Int) : Int := if b then e else 0
theorem errorIf_any (b : Bool) (e : Int) (w : World) : Calls Tryz.prog 101 #[.bool b, .int .i64 e] w fun e' w' => e' = .returned (.int .i64 (errIf b e)) ∧ w = w' := by
  cases b
  all_goals
    go_enter Tryz.func101, Tryz.ntmps101
    go_wp2
    go_ret
    exact ⟨rfl, rfl⟩
def outs (n lo hi : Int) : Int := errIf (decide (n < lo) || decide (hi < n)) 3
theorem outside_any (n lo hi : Int) (w : World) : Calls Tryz.prog 95 #[.int .i64 n, .int .i64 lo, .int .i64 hi] w fun e' w' => e' = .returned (.int .i64 (outs n lo hi)) ∧ w = w' := by
  go_enter Tryz.func95, Tryz.ntmps95
  go_wp2_with (go_at_call 101; refine (errorIf_any _ _ _).mono ?_; rintro e w' ⟨rfl, rfl⟩)
  all_goals
    go_ret
    exact ⟨by simp [outs, errIf, *], rfl⟩
def isLetterN (r : Int) : Bool := decide ((65 ≤ r ∧ r ≤ 90) ∨ (97 ≤ r ∧ r ≤ 122))
theorem isLetter_any (r : Int) (w : World) : Calls Tryz.prog 97 #[.int .i32 r] w fun e' w' => e' = .returned (.bool (isLetterN r)) ∧ w = w' := by
  go_enter Tryz.func97, Tryz.ntmps97
  by_cases h1 : 65 ≤ r <;> by_cases h2 : r ≤ 90 <;> by_cases h3 : 97 ≤ r <;> by_cases h4 : r ≤ 122
  all_goals first | (exfalso; omega) | skip
  all_goals
    go_wp2
    go_ret
    exact ⟨by simp [isLetterN]; omega, rfl⟩
def firstE : List Int → Int
  | [] => 0
  | e :: l => if e = 0 then firstE l else e

theorem Rd.get {w : World} {A : Option Addr} {xs : List Value} (h : Rd w A xs) {k : Nat} {u : Value} (hk : xs[k]? = some u) : ∃ ad, A = some ad ∧ ad.block < w.heap.size ∧ w.cell? (ad.add k) = some u := by
  have : k < xs.length := (List.getElem?_eq_some_iff.1 hk).1
  obtain ⟨ad, e, hb, hc⟩ := h (by omega)
  exact ⟨ad, e, hb, hc k u hk⟩
theorem ret_int {k : IntKind} {a b : Int} (h : a = b) : Ending.returned (.int k a) = .returned (.int k b) := by rw [h]
theorem firstE_drop (es : List Int) (k : Nat) (hk : k < es.length) : firstE (es.drop k) = if es[k] = 0 then firstE (es.drop (k+1)) else es[k] := by
  rw [List.drop_eq_getElem_cons hk]; rfl
theorem first_any (A : Option Addr) (c : Nat) (es : List Int) (w : World) (hl : es.length ≤ maxLen) (hr : Rd w A (es.map (.int .i64))) :
    Calls Tryz.prog 94 #[.slice A es.length c] w fun e' w' => e' = .returned (.int .i64 (firstE es)) ∧ w = w' := by
  unfold maxLen at hl
  go_enter Tryz.func94, Tryz.ntmps94
  go_wp2
  go_loop [7] (fun i => ∃ k : Nat, k ≤ es.length ∧ i = .int .i64 k ∧ firstE es = firstE (es.drop k)) (fun i => es.length - (intOf i).toNat)
  case atStart => exact ⟨0, by omega, rfl, rfl⟩
  case round =>
    obtain ⟨k, hk, rfl, hf⟩ := hrel
    have Hf := Lib.hid hf; clear hf
    by_cases hlt : k < es.length
    · obtain ⟨ad, rfl, hb, hc⟩ := hr.get (k := k) (u := .int .i64 es[k]) (by simp [hlt])
      have hfd := firstE_drop es k hlt
      have Hd := Lib.hid hfd; clear hfd
      by_cases hz : es[k] = 0
      · rw [hz] at hc
        have Hz := Lib.hid hz; clear hz
        go_wp2
        go_round
        case rel => exact ⟨k + 1, by omega, by go_num, by rw [Hf.out, Hd.out, if_pos Hz.out]⟩
        case measure => simp [intOf]; omega
      · obtain ⟨v, hv⟩ : ∃ v, v = es[k] := ⟨_, rfl⟩
        rw [← hv] at hc hz
        have Hv := Lib.hid hv; clear hv
        have hz' : (v != 0) = true := by simpa using hz
        go_wp2
        go_ret
        exact ⟨ret_int (by rw [Hf.out, Hd.out, if_neg (fun h => hz (Hv.out.trans h))]; exact Hv.out), rfl⟩
    · have : k = es.length := by omega
      subst this
      go_wp2
      go_ret
      exact ⟨by rw [Hf.out]; simp [firstE], rfl⟩


def Blk (w : World) (g : Nat) (t : TypeId) (cs : Array Value) : Prop := w.heap[g]? = some (.cells cs t (0, 0))
section
variable {w w' : World} {g : Nat} {t : TypeId} {cs : Array Value}
theorem Blk.lt (h : Blk w g t cs) : g < w.heap.size := by
  rcases Nat.lt_or_ge g w.heap.size with hlt | hge
  · exact hlt
  · unfold Blk at h; rw [Array.getElem?_eq_none hge] at h; cases h
theorem Blk.cell (h : Blk w g t cs) (i : Nat) : w.cell? ⟨g, i, none⟩ = cs[i]? := cell_of_row w g i cs t (0, 0) h
theorem Blk.frozen (h : Blk w g t cs) (i : Nat) : w.frozen? ⟨g, i, none⟩ = false := by
  unfold Blk at h
  simp [World.frozen?, h]
theorem Blk.new (w : World) (t : TypeId) (cs : Array Value) : Blk (w.alloc (.cells cs t)) w.heap.size t cs := heap_alloc_new w _
theorem Blk.drewN (h : Blk w g t cs) (n : Nat) : Blk (w.drewN n) g t cs := h
theorem Blk.alloc (h : Blk w g t cs) (o : Obj) : Blk (w.alloc o) g t cs := (Below.heap_alloc w o g h.lt).trans h
theorem Blk.set_ (h : Blk w g t cs) (i : Nat) (u : Value) : Blk (w.setCell ⟨g, i, none⟩ u) g t (cs.setIfInBounds i u) := by
  unfold Blk at h ⊢
  simp [World.setCell, Array.getElem?_modify, h]
theorem Blk.far (h : Blk w g t cs) {p : Addr} (hp : g ≠ p.block) (u : Value) : Blk (w.setCell p u) g t cs := (Below.heap_setCell w p u g hp).trans h
theorem Blk.below (h : Blk w g t cs) (hb : Below w.heap.size w w') : Blk w' g t cs := (hb.block g h.lt).trans h
end
def fillN (f : Nat → Value) (z : Value) (n k : Nat) : Array Value := (Array.range n).map (fun i => if i < k then f i else z)
theorem fill_set (f : Nat → Value) (z : Value) (n k : Nat) : (fillN f z n k).setIfInBounds k (f k) = fillN f z n (k+1) := by
  unfold fillN
  apply Array.ext_getElem?
  intro i
  rw [Array.getElem?_setIfInBounds]
  by_cases e : k = i
  · subst e
    by_cases hk : k < n <;> simp [hk]
  · rw [if_neg e]
    by_cases hi : i < n
    · have : (i < k) ↔ (i < k + 1) := by omega
      simp [hi, this]
    · simp [hi]
theorem fill_zero (f : Nat → Value) (z : Value) (n : Nat) : madeCells #[z] n = fillN f z n 0 := by
  unfold madeCells fillN
  apply Array.ext_getElem?
  intro i
  by_cases hi : i < n <;> simp [hi, Nat.mod_one]
theorem fill_get (f : Nat → Value) (z : Value) (n k i : Nat) : (fillN f z n k)[i]? = if i < n then some (if i < k then f i else z) else none := by
  unfold fillN
  by_cases hi : i < n <;> simp [hi]
def firstF {α : Type} (f : α → Int) : List α → Int
  | [] => 0
  | b :: l => if f b = 0 then firstF f l else f b
def Enters (P : Program) (F : FuncId) : Prop := ∀ (a : Array Value) (w : World), (callFunc F a).run P w = .ok (.enter F a) w
theorem enters_CheckSample : Enters Tryz.prog 24 := fun a w => by kernel_rfl
set_option maxRecDepth 100000 in
theorem firstOfF_any (A : Option Addr) (c : Nat) (l : List Nat) (F : FuncId) (g : Nat → Int) (w : World) (hl : l.length ≤ maxLen) (hr : Rd w A (l.map (.float .f32))) (hcf : Enters Tryz.prog F)
    (hF : ∀ b ∈ l, ∀ w, Calls Tryz.prog F #[.float .f32 b] w fun e w' => e = .returned (.int .i64 (g b)) ∧ Below w.heap.size w w') :
    Calls Tryz.prog 113 #[.slice A l.length c, .func (.func F) #[] #[]] w fun e w' => e = .returned (.int .i64 (firstF g l)) ∧ Below w.heap.size w w' := by
  unfold maxLen at hl
  have HF := Lib.hid hF; clear hF
  have HR := Lib.hid hr; clear hr
  unfold Enters at hcf
  go_enter Tryz.func113, Tryz.ntmps113
  go_wp2
  go_loopw [10] (fun i wr => ∃ k : Nat, k ≤ l.length ∧ i = .int .i64 k ∧ firstF g l = firstF g (l.drop k) ∧ Below w.heap.size w wr) (fun i _ => l.length - (intOf i).toNat)
  case atStart => exact ⟨0, by omega, rfl, rfl, Below.refl _ _⟩
  case round =>
    obtain ⟨k, hk, rfl, hf, hbel⟩ := hrel
    have Hf := Lib.hid hf; clear hf
    by_cases hlt : k < l.length
    · obtain ⟨x, hx⟩ : ∃ x, l.getD k 0 = x := ⟨_, rfl⟩
      have hxm : x ∈ l := by rw [← hx]; simp [List.getD, hlt]
      obtain ⟨ad, rfl, hbl, hc⟩ := HR.out.get (k := k) (u := .float .f32 x) (by rw [← hx]; simp [List.getD, hlt])
      have hc' := (hbel.cell (by rw [block_of_add]; exact hbl)).trans hc
      have Hd := Lib.hid (show firstF g (l.drop k) = if g x = 0 then firstF g (l.drop (k + 1)) else g x by
        rw [List.drop_eq_getElem_cons hlt, ← hx]; simp [firstF, List.getD, hlt])
      have HBel := Lib.hid hbel; clear hbel
      have HX := Lib.hid hx; clear hx
      clear hc
      go_wp2_with fail
      refine (HF.out x hxm _).mono ?_
      rintro e w1 ⟨rfl, hb1⟩
      have HB1 := Lib.hid (HBel.out.trans (hb1.mono HBel.out.size)); clear hb1
      by_cases hz : g x = 0
      · have hz' : (g x != 0) = false := by simp [hz]
        have HZ := Lib.hid hz; clear hz
        go_wp2
        go_roundw
        case rel => exact ⟨k + 1, by omega, by go_num, by rw [Hf.out, Hd.out, if_pos HZ.out], HB1.out⟩
        case measure => simp [intOf]; omega
      · have hz' : (g x != 0) = true := by simp [hz]
        have HZ := Lib.hid hz; clear hz
        go_wp2
        go_ret
        exact ⟨ret_int (by rw [Hf.out, Hd.out, if_neg HZ.out]), HB1.out⟩
    · have : k = l.length := by omega
      subst this
      go_wp2
      go_ret
      exact ⟨ret_int (by rw [Hf.out]; simp [firstF]), hbel⟩

end Go.Proofs.YthbdiifinkbcnaaGreatDoor
namespace Go.Proofs.YthbdiifinkbcnaaGreatDoor
open Go.RowKit
set_option linter.unusedVariables false
theorem andNot_top (y : Nat) (hy : y < 18446744073709551616) : (bits BinOp.andNot IntKind.u64 (y : Int) 9223372036854775808).toNat = y % 2 ^ 63 := by
  have h : bits BinOp.andNot IntKind.u64 (y : Int) 9223372036854775808 = IntKind.u64.wrap ((BitVec.ofInt 64 (y : Int) &&& ~~~ BitVec.ofInt 64 9223372036854775808).toNat : Int) := rfl
  rw [h]
  have h2 : (~~~ BitVec.ofInt 64 9223372036854775808 : BitVec 64).toNat = 2 ^ 63 - 1 := by decide
  rw [BitVec.toNat_and, h2, BitVec.ofInt_natCast, BitVec.toNat_ofNat, Nat.mod_eq_of_lt hy, Nat.and_two_pow_sub_one_eq_mod]
  have : y % 2 ^ 63 < 2 ^ 63 := Nat.mod_lt _ (by omega)
  rw [IntKind.wrap_u64]
  omega
theorem f64bits (x : Nat) (w : World) : (callFunc 186 #[.float .f64 x]).run Tryz.prog w = .ok (.value (.int .u64 x)) w := by kernel_rfl
theorem f64frombits (n : Int) (w : World) : (callFunc 185 #[.int .u64 n]).run Tryz.prog w = .ok (.value (.float .f64 n.toNat)) w := by kernel_rfl
set_option maxRecDepth 100000 in
theorem abs_any (y : Nat) (hy : y < 18446744073709551616) (w : World) : Calls Tryz.prog 163 #[.float .f64 y] w fun e w' => e = .returned (.float .f64 (y % 2^63)) ∧ w = w' := by
  have h1 := f64bits y
  have h2 := f64frombits
  go_enter Tryz.func163, Tryz.ntmps163
  go_wp2
  go_ret
  refine ⟨?_, rfl⟩
  rw [← andNot_top y hy]
  rfl
theorem isNaN_any (y : Nat) (w : World) : Calls Tryz.prog 161 #[.float .f64 y] w fun e w' => e = .returned (.bool (FloatKind.f64.format.order y y != some .eq)) ∧ w = w' := by
  go_enter Tryz.func161, Tryz.ntmps161
  go_wp2
  go_ret
  exact ⟨rfl, rfl⟩
set_option maxRecDepth 100000 in
theorem isInf_any (y : Nat) (hy : y < 18446744073709551616) (b : Bool) (hb : (FloatKind.f64.format.order (y % 2^63) 0x7fefffffffffffff == some .gt) = b) (w : World) : Calls Tryz.prog 162 #[.float .f64 y, .int .i64 0] w fun e w' => e = .returned (.bool b) ∧ w = w' := by
  go_enter Tryz.func162, Tryz.ntmps162
  go_wp2_with (go_at_call 163; refine (abs_any _ hy _).mono ?_; rintro e w' ⟨rfl, rfl⟩)
  go_ret
  exact ⟨rfl, rfl⟩


theorem toIntegral_num (n : String) (way : Ieee.Toward) (z : Nat) (s : Bool) (k : Nat) (p : Int) (hz : FloatKind.f64.decode z = .number s k p) :
    Extern.MathFloor.toIntegral n way #[.float .f64 z] = pure (.float .f64 (FloatKind.f64.encode ((FloatKind.f64.decode z).integral way))) := by
  have h : Extern.MathFloor.toIntegral n way #[.float .f64 z] = Extern.MathFloor.toIntegral.match_1 (motive := fun _ => Sem Value) (FloatKind.f64.decode z) _ _ := rfl
  rw [h, hz]
theorem trunc_any (z t : Nat) (s : Bool) (k : Nat) (p : Int) (hz : FloatKind.f64.decode z = .number s k p) (ht : FloatKind.f64.encode ((FloatKind.f64.decode z).integral .zero) = t) (w : World) :
    Calls Tryz.prog 164 #[.float .f64 z] w fun e w' => e = .returned (.float .f64 t) ∧ w = w' := by
  have h1 : ∀ w, (callFunc 187 #[.float .f64 z]).run Tryz.prog w = .ok (.value (.float .f64 t)) w := fun w => by
    have h : (callFunc 187 #[.float .f64 z]).run Tryz.prog w = (Next.value <$> Extern.MathFloor.toIntegral "math.archTrunc" .zero #[.float .f64 z]).run Tryz.prog w := by kernel_rfl
    rw [h, toIntegral_num _ _ z s k p hz, ht]
    simp
  clear hz ht
  go_enter Tryz.func164, Tryz.ntmps164
  go_wp2
  go_ret
  exact ⟨rfl, rfl⟩
theorem floor_any (z t : Nat) (s : Bool) (k : Nat) (p : Int) (hz : FloatKind.f64.decode z = .number s k p) (ht : FloatKind.f64.encode ((FloatKind.f64.decode z).integral .down) = t) (w : World) :
    Calls Tryz.prog 165 #[.float .f64 z] w fun e w' => e = .returned (.float .f64 t) ∧ w = w' := by
  have h1 : ∀ w, (callFunc 189 #[.float .f64 z]).run Tryz.prog w = .ok (.value (.float .f64 t)) w := fun w => by
    have h : (callFunc 189 #[.float .f64 z]).run Tryz.prog w = (Next.value <$> Extern.MathFloor.toIntegral "math.archFloor" .down #[.float .f64 z]).run Tryz.prog w := by kernel_rfl
    rw [h, toIntegral_num _ _ z s k p hz, ht]
    simp
  clear hz ht
  go_enter Tryz.func165, Tryz.ntmps165
  go_wp2
  go_ret
  exact ⟨rfl, rfl⟩
theorem rd_of_blk {w : World} {g : Nat} {t : TypeId} {cs : Array Value} {xs : List Value} (h : Blk w g t cs) (hx : cs.toList = xs) : Rd w (some ⟨g, 0, none⟩) xs := fun _ =>
  ⟨_, rfl, h.lt, fun j u hu => by
    have h1 := h.cell j
    have h2 : cs[j]? = some u := by rw [← Array.getElem?_toList, hx]; exact hu
    rw [h2] at h1
    unfold Addr.add
    split
    · rename_i h0; subst h0; exact h1
    · simpa using h1⟩
def numE (nan frac : Bool) : Int := if nan then 1 else if frac then 3 else 0
set_option maxRecDepth 100000 in
theorem checkNumber_small (b mb y a z t : Nat) (frac : Bool) (w : World) (hcv : floatToFloatBits .f32 b .f64 = some y) (hy : y < 18446744073709551616) (ha : y % 2 ^ 63 = a)
    (ho1 : FloatKind.f64.format.order y y = some .eq) (ho2 : (FloatKind.f64.format.order a 0x7fefffffffffffff == some .gt) = false) (ho3 : (FloatKind.f64.format.order a mb == some .gt) = false)
    (hmul : floatBits .mul .f64 y 0x4030000000000000 = some z) (s : Bool) (k : Nat) (p : Int) (hz : FloatKind.f64.decode z = .number s k p) (ht : FloatKind.f64.encode ((FloatKind.f64.decode z).integral .zero) = t) (hfr : (FloatKind.f64.format.order z t != some .eq) = frac) :
    Calls Tryz.prog 104 #[.float .f32 b, .float .f64 mb] w fun e w' => e = .returned (.int .i64 (numE false frac)) ∧ Below w.heap.size w w' := by
  have hcv' := fun w => run_convert_float_float (P := Tryz.prog) w 23 156 .f32 .f64 b y (by kernel_rfl) (by kernel_rfl) hcv
  have hmul' := fun w => run_float_arith (P := Tryz.prog) w .mul 156 .f64 y 0x4030000000000000 z hmul
  have HT := Lib.hid (trunc_any z t s k p hz ht)
  clear hmul hz ht hcv
  go_enter Tryz.func104, Tryz.ntmps104
  go_wp2_with (first
    | (go_at_call 161; refine (isNaN_any _ _).mono ?_; rintro e w' ⟨rfl, rfl⟩)
    | (go_at_call 162; refine (isInf_any _ hy false (by rw [ha]; exact ho2) _).mono ?_; rintro e w' ⟨rfl, rfl⟩)
    | (go_at_call 163; refine (abs_any _ hy _).mono ?_; rintro e w' ⟨rfl, rfl⟩)
    | (go_at_call 164; refine (HT.out _).mono ?_; rintro e w' ⟨rfl, rfl⟩)
    | (go_at_call 101; refine (errorIf_any _ _ _).mono ?_; rintro e w' ⟨rfl, rfl⟩))
  refine (first_any _ _ [errIf false 1, errIf frac 3] _ (by simp [maxLen]) (by exact rd_of_blk (Blk.new _ _ _) rfl)).mono ?_
  rintro e w' ⟨rfl, rfl⟩
  go_wp2
  go_ret
  exact ⟨ret_int (by cases frac <;> simp [firstE, errIf, numE]), by go_grown⟩
set_option maxRecDepth 100000 in
theorem checkNumber_big (b mb y a : Nat) (inf : Bool) (w : World) (hcv : floatToFloatBits .f32 b .f64 = some y) (hy : y < 18446744073709551616) (ha : y % 2 ^ 63 = a)
    (ho1 : FloatKind.f64.format.order y y = some .eq) (ho2 : (FloatKind.f64.format.order a 0x7fefffffffffffff == some .gt) = inf) (ho3 : (FloatKind.f64.format.order a mb == some .gt) = true) :
    Calls Tryz.prog 104 #[.float .f32 b, .float .f64 mb] w fun e w' => e = .returned (.int .i64 (numE inf true)) ∧ Below w.heap.size w w' := by
  have hcv' := fun w => run_convert_float_float (P := Tryz.prog) w 23 156 .f32 .f64 b y (by kernel_rfl) (by kernel_rfl) hcv
  clear hcv
  go_enter Tryz.func104, Tryz.ntmps104
  go_wp2_with (first
    | (go_at_call 161; refine (isNaN_any _ _).mono ?_; rintro e w' ⟨rfl, rfl⟩)
    | (go_at_call 162; refine (isInf_any _ hy inf (by rw [ha]; exact ho2) _).mono ?_; rintro e w' ⟨rfl, rfl⟩)
    | (go_at_call 163; refine (abs_any _ hy _).mono ?_; rintro e w' ⟨rfl, rfl⟩)
    | (go_at_call 101; refine (errorIf_any _ _ _).mono ?_; rintro e w' ⟨rfl, rfl⟩))
  refine (first_any _ _ [errIf inf 1, errIf true 3] _ (by simp [maxLen]) (by exact rd_of_blk (Blk.new _ _ _) rfl)).mono ?_
  rintro e w' ⟨rfl, rfl⟩
  go_wp2
  go_ret
  exact ⟨ret_int (by cases inf <;> simp [firstE, errIf, numE]), by go_grown⟩
theorem nanword (q : Question) (k : Nat) (h : q.cut k = (k % 2) * 2 ^ 63 + 0x7ff0000000000000 + 1 + (k / 2) % (2 ^ 52 - 1)) : (∃ s t, FloatKind.f64.decode (q.cut k) = .nan s t) ∧ q.cut k < 18446744073709551616 := by
  rw [h]
  have h1 : k % 2 < 2 := Nat.mod_lt _ (by omega)
  have h2 : k / 2 % (2 ^ 52 - 1) < 2 ^ 52 - 1 := Nat.mod_lt _ (by omega)
  refine ⟨?_, by omega⟩
  generalize k % 2 = x at *
  generalize k / 2 % (2 ^ 52 - 1) = v at *
  have e : FloatKind.f64.decode (x * 2 ^ 63 + 9218868437227405312 + 1 + v) = Ieee.double.read (x * 2 ^ 63 + 9218868437227405312 + 1 + v) := rfl
  rw [e]
  have hs : Ieee.double.signWeight = 9223372036854775808 := by decide +kernel
  have hb : Ieee.double.binade = 4503599627370496 := by decide +kernel
  have hi : Ieee.double.infRung = 9218868437227405312 := by decide +kernel
  unfold Ieee.Format.read
  simp only [hs, hb, hi]
  have hm : (x * 2 ^ 63 + 9218868437227405312 + 1 + v) % 9223372036854775808 = 9218868437227405312 + 1 + v := by omega
  rw [hm, if_neg (by omega), if_neg (by omega), if_neg (by omega)]
  exact ⟨_, _, rfl⟩
theorem order_nan (r x : Nat) (s : Bool) (t : Nat) (h : FloatKind.f64.decode r = .nan s t) : FloatKind.f64.format.order r x = none := by
  have h' : FloatKind.f64.format.read r = .nan s t := h
  unfold Ieee.Format.order
  rw [h']
  rfl
theorem conv_nan (b : Nat) (s : Bool) (t : Nat) (h : FloatKind.f32.decode b = .nan s t) (w : World) : ∃ r, (∃ s t, FloatKind.f64.decode r = .nan s t) ∧ r < 18446744073709551616 ∧ (convert 23 156 (.float .f32 b)).run Tryz.prog w = .ok (.float .f64 r) w.drew := by
  have hn := nanword (.nanConv .f64 b) (w.tape w.drawn (.nanConv .f64 b)) rfl
  refine ⟨_, hn.1, hn.2, ?_⟩
  simp [convert, run_underlying Tryz.underlying23, run_underlying Tryz.underlying156, Conv.floatToFloat, h, Question.forced]
theorem mul_nan (r c : Nat) (s : Bool) (t : Nat) (h : FloatKind.f64.decode r = .nan s t) (w : World) : ∃ z, (binOp .mul 156 (.float .f64 r) (.float .f64 c)).run Tryz.prog w = .ok (.float .f64 z) w.drew := by
  have h' : FloatKind.f64.format.read r = .nan s t := h
  have hm : FloatKind.f64.format.mul r c = none := by unfold Ieee.Format.mul; rw [h']; rfl
  refine ⟨(Question.nanBits .f64 r c).cut (w.tape w.drawn (.nanBits .f64 r c)), ?_⟩
  simp [binOp, Op.floatArith, hm, Question.forced]
set_option maxRecDepth 100000 in
theorem trunc_gen (z : Nat) (w : World) : Calls Tryz.prog 164 #[.float .f64 z] w fun e w' => ∃ t, e = .returned (.float .f64 t) ∧ Below w.heap.size w w' := by
  have h1 : ∃ t n, (callFunc 187 #[.float .f64 z]).run Tryz.prog w = .ok (.value (.float .f64 t)) (w.drewN n) := by
    have h : (callFunc 187 #[.float .f64 z]).run Tryz.prog w = (Next.value <$> Extern.MathFloor.toIntegral "math.archTrunc" .zero #[.float .f64 z]).run Tryz.prog w := by kernel_rfl
    rw [h]
    have hh : Extern.MathFloor.toIntegral "math.archTrunc" .zero #[.float .f64 z] = Extern.MathFloor.toIntegral.match_1 (motive := fun _ => Sem Value) (FloatKind.f64.decode z) _ _ := rfl
    rw [hh]
    cases hd : FloatKind.f64.decode z with
    | number s m e => exact ⟨_, 0, rfl⟩
    | infinity s => exact ⟨_, 0, rfl⟩
    | nan s t =>
      dsimp only
      by_cases hq : FloatKind.f64.format.quiet t = t
      · rw [if_pos hq]; exact ⟨_, 0, rfl⟩
      · rw [if_neg hq]; exact ⟨_, 1, rfl⟩
  obtain ⟨t, n, h1⟩ := h1
  go_enter Tryz.func164, Tryz.ntmps164
  go_wp2
  go_ret
  exact ⟨t, rfl, ⟨rfl, rfl, rfl, Nat.le_refl _, fun _ _ => rfl⟩⟩

set_option maxRecDepth 100000 in
theorem checkNumber_nan (b mb : Nat) (s : Bool) (t : Nat) (h : FloatKind.f32.decode b = .nan s t) (w : World) :
    Calls Tryz.prog 104 #[.float .f32 b, .float .f64 mb] w fun e w' => e = .returned (.int .i64 1) ∧ Below w.heap.size w w' := by
  obtain ⟨r, ⟨s', t', hr⟩, hy, hcv⟩ := conv_nan b s t h w
  have ho := order_nan r r s' t' hr
  have hmul := mul_nan r 0x4030000000000000 s' t' hr
  have HM := Lib.hid hmul
  clear h hmul hr
  generalize hbig : (FloatKind.f64.format.order (r % 2 ^ 63) mb == some .gt) = big
  cases big
  · obtain ⟨z, hz⟩ := HM.out w.drew
    obtain ⟨z2, hz2⟩ := HM.out w.drew.drew
    go_enter Tryz.func104, Tryz.ntmps104
    go_wp2_with (first
      | (go_at_call 161; refine (isNaN_any _ _).mono ?_; rintro e w' ⟨rfl, rfl⟩)
      | (go_at_call 163; refine (abs_any _ hy _).mono ?_; rintro e w' ⟨rfl, rfl⟩)
      | (go_at_call 101; refine (errorIf_any _ _ _).mono ?_; rintro e w' ⟨rfl, rfl⟩))
    refine (trunc_gen _ _).mono ?_
    rintro e w1 ⟨t1, rfl, hb1⟩
    generalize hfr : (FloatKind.f64.format.order z t1 != some .eq) = frac
    go_wp2_with (go_at_call 101; refine (errorIf_any _ _ _).mono ?_; rintro e w' ⟨rfl, rfl⟩)
    refine (first_any _ _ [errIf true 1, errIf frac 3] _ (by simp [maxLen]) (by exact rd_of_blk (Blk.new _ _ _) rfl)).mono ?_
    rintro e w' ⟨rfl, rfl⟩
    go_wp2
    go_ret
    exact ⟨rfl, (((((Below.refl w.heap.size w).drew).drew).drew).trans hb1).alloc hb1.size _⟩
  · go_enter Tryz.func104, Tryz.ntmps104
    go_wp2_with (first
      | (go_at_call 161; refine (isNaN_any _ _).mono ?_; rintro e w' ⟨rfl, rfl⟩)
      | (go_at_call 163; refine (abs_any _ hy _).mono ?_; rintro e w' ⟨rfl, rfl⟩)
      | (go_at_call 101; refine (errorIf_any _ _ _).mono ?_; rintro e w' ⟨rfl, rfl⟩))
    refine (first_any _ _ [errIf true 1, errIf true 3] _ (by simp [maxLen]) (by exact rd_of_blk (Blk.new w _ _) rfl)).mono ?_
    rintro e w' ⟨rfl, rfl⟩
    go_wp2
    go_ret
    exact ⟨rfl, by go_grown⟩
open Ieee (P2)
open Ieee in
theorem NumS.abs {b : Nat} {s : Bool} {M : Nat} (h : NumS double b s M) : NumS double (b % 2 ^ 63) false M := by
  obtain ⟨k, q, hr, hk⟩ := h
  refine ⟨k, q, ?_, hk⟩
  have hs : double.signWeight = 2 ^ 63 := by decide +kernel
  unfold Format.read at hr ⊢
  simp only [hs] at hr ⊢
  have h1 : b % 2 ^ 63 / 2 ^ 63 % 2 = 0 := by omega
  rw [h1, Nat.mod_mod]
  split at hr
  · rename_i h; rw [if_pos h]; simp only [Datum.number.injEq] at hr ⊢; exact ⟨by decide, hr.2⟩
  · rename_i h; rw [if_neg h]
    split at hr
    · rename_i h; rw [if_pos h]; simp only [Datum.number.injEq] at hr ⊢; exact ⟨by decide, hr.2⟩
    · split at hr <;> cases hr
def chk (most b : Nat) : Int :=
  match Ieee.single.read b with
  | .number _ k p => if most * 2 ^ 149 < k * 2 ^ (p + 149).toNat ∨ (k * 2 ^ (p + 149).toNat) % 2 ^ 145 ≠ 0 then 3 else 0
  | _ => 1
theorem chk_num {most b : Nat} {s : Bool} {M : Nat} (h : Ieee.NumS Ieee.single b s M) : chk most b = if most * 2 ^ 149 < M ∨ M % 2 ^ 145 ≠ 0 then 3 else 0 := by
  obtain ⟨k, q, hr, hk⟩ := h
  unfold chk
  rw [hr]
  dsimp only
  have hL : Ieee.single.leastPlace = -149 := by decide +kernel
  have : (Ieee.single.leastPlace + (q : Int) + 149).toNat = q := by rw [hL]; omega
  rw [this, hk]
theorem single_least : Ieee.single.leastPlace = -(149 : Nat) := by decide +kernel
theorem double_least : Ieee.double.leastPlace = -(1074 : Nat) := by decide +kernel
theorem num_max : Ieee.NumS Ieee.double 0x7fefffffffffffff false ((2 ^ 53 - 1) * P2 2045) := ⟨2 ^ 53 - 1, 2045, by decide +kernel, by unfold P2; rfl⟩
theorem num_16 : Ieee.NumS Ieee.double 0x4030000000000000 false (16 * P2 1074) := ⟨2 ^ 52, 1026, by decide +kernel, by decide +kernel⟩
open Ieee in
theorem conv_num {b : Nat} {s : Bool} {M : Nat} (h : NumS single b s M) : ∃ y, floatToFloatBits .f32 b .f64 = some y ∧ NumS double y s (M * P2 925) ∧ y < 18446744073709551616 := by
  have hc := h.convP 149 925 single_least double_least (by decide) (by decide +kernel) (by decide +kernel)
  refine ⟨_, ?_, hc, double.write_lt _⟩
  obtain ⟨k, q, hr, hk⟩ := h
  obtain ⟨k', q', hr', _⟩ := hc
  have e1 : FloatKind.f32.decode b = .number s k (single.leastPlace + q) := hr
  unfold floatToFloatBits
  rw [if_neg (by decide), e1]
  dsimp only
  rw [hr] at hr'
  have e2 : FloatKind.f64.decode (FloatKind.f64.encode (.number s k (single.leastPlace + q))) = .number s k' (double.leastPlace + q') := hr'
  rw [e2]
  simp [Datum.isInfinity]
  rw [hr]; rfl
theorem cmp_self (a : Int) : compare a a = .eq := Int.compare_eq_eq.2 rfl
theorem cmp_gt (a b : Int) : (some (compare a b) == some Ordering.gt) = decide (b < a) := by
  rcases Int.lt_trichotomy a b with h | h | h
  · rw [Int.compare_eq_lt.2 h, decide_eq_false (by omega)]; rfl
  · rw [Int.compare_eq_eq.2 h, decide_eq_false (by omega)]; rfl
  · rw [Int.compare_eq_gt.2 h, decide_eq_true (by omega)]; rfl
theorem cmp_lt (a b : Int) : (some (compare a b) == some Ordering.lt) = decide (a < b) := by
  rcases Int.lt_trichotomy a b with h | h | h
  · rw [Int.compare_eq_lt.2 h, decide_eq_true (by omega)]; rfl
  · rw [Int.compare_eq_eq.2 h, decide_eq_false (by omega)]; rfl
  · rw [Int.compare_eq_gt.2 h, decide_eq_false (by omega)]; rfl
theorem cmp_ne (a b : Int) : (some (compare a b) != some Ordering.eq) = decide (a ≠ b) := by
  rcases Int.lt_trichotomy a b with h | h | h
  · rw [Int.compare_eq_lt.2 h, decide_eq_true (by omega)]; rfl
  · rw [Int.compare_eq_eq.2 h, decide_eq_false (by omega)]; rfl
  · rw [Int.compare_eq_gt.2 h, decide_eq_true (by omega)]; rfl
theorem cmp_eq (a b : Int) : (some (compare a b) == some Ordering.eq) = decide (a = b) := by
  rcases Int.lt_trichotomy a b with h | h | h
  · rw [Int.compare_eq_lt.2 h, decide_eq_false (by omega)]; rfl
  · rw [Int.compare_eq_eq.2 h, decide_eq_true (by omega)]; rfl
  · rw [Int.compare_eq_gt.2 h, decide_eq_false (by omega)]; rfl
theorem sgn_inj (s : Bool) (M N : Nat) : Ieee.sgn s M = Ieee.sgn s N ↔ M = N := by unfold Ieee.sgn; cases s <;> simp <;> omega
theorem pow_split_1074 : P2 1074 = 2 ^ 149 * P2 925 := by decide +kernel
theorem small_929 (x most : Nat) (h : x ≤ most * 2 ^ 149) (hm : most ≤ 4096) : x * P2 929 < P2 (1074 + Ieee.double.fractionBits) := by
  have h1 : x ≤ 4096 * 2 ^ 149 := Nat.le_trans h (Nat.mul_le_mul_right (2 ^ 149) hm)
  have h2 : 4096 * 2 ^ 149 * P2 929 < P2 (1074 + Ieee.double.fractionBits) := by decide +kernel
  generalize P2 929 = a at *
  exact Nat.lt_of_le_of_lt (Nat.mul_le_mul_right a h1) h2
theorem cancel_929 (a b : Nat) (h : a * P2 929 = b * P2 929) : a = b := by
  have hp : 0 < P2 929 := by decide +kernel
  generalize P2 929 = c at hp h
  exact Nat.mul_right_cancel hp h
theorem split_1074 (m : Nat) : m * P2 1074 = m * 2 ^ 149 * P2 925 := by rw [pow_split_1074, Nat.mul_assoc]
theorem frac_a (x c a b e : Nat) (he : e = b * a) (ha : 0 < a) (h : x * a = c * e) : x % b = 0 := by
  rw [he, ← Nat.mul_assoc] at h
  rw [Nat.mul_right_cancel ha h, Nat.mul_mod_left]
theorem frac_b (x a b e : Nat) (he : e = b * a) (h : x % b = 0) : x * a % e = 0 := by
  rw [he, Nat.mul_mod_mul_right, h, Nat.zero_mul]
theorem lt_of_pieces (x a b c : Nat) (h : x < c) (h2 : c * a ≤ b) (ha : 0 < a) : x * a < b := Nat.lt_of_lt_of_le (Nat.mul_lt_mul_of_pos_right h ha) h2
theorem f32_lt_max (k q : Nat) (hk : k < 2 ^ 24) (hq : q ≤ 253) : k * 2 ^ q * P2 925 < (2 ^ 53 - 1) * P2 2045 := by
  have h0 : 2 ^ q ≤ 2 ^ 253 := Nat.pow_le_pow_right (by decide) hq
  have h1 : k * 2 ^ q < 2 ^ 24 * 2 ^ 253 := Nat.mul_lt_mul_of_lt_of_le hk h0 (Nat.two_pow_pos 253)
  exact lt_of_pieces _ _ _ (2 ^ 24 * 2 ^ 253) h1 (by decide +kernel) (by decide +kernel)
theorem mul16g (k x A B C : Nat) (h : C = A * 16) : k * x * A * (16 * B) = k * x * C * B := by rw [h]; ac_rfl
theorem mul16g' (k x A B C : Nat) (h : C = A * 16) : 16 * B * (k * x * A) = k * x * C * B := by rw [h]; ac_rfl
open Ieee in
theorem checkNumber_any (b mb most : Nat) (hmb : NumS double mb false (most * P2 1074)) (hmost : most ≤ 4096) (w : World) :
    Calls Tryz.prog 104 #[.float .f32 b, .float .f64 mb] w fun e w' => e = .returned (.int .i64 (chk most b)) ∧ Below w.heap.size w w' := by
  cases hd : single.read b with
  | nan s t =>
    have : chk most b = 1 := by unfold chk; rw [hd]
    rw [this]
    exact checkNumber_nan b mb s t hd w
  | infinity s =>
    have hc : chk most b = 1 := by unfold chk; rw [hd]
    rw [hc]
    have hcv : floatToFloatBits .f32 b .f64 = some (FloatKind.f64.encode (.infinity s)) := by
      unfold floatToFloatBits
      have e1 : FloatKind.f32.decode b = .infinity s := hd
      rw [if_neg (by decide), e1]
    have ho3 : (FloatKind.f64.format.order 0x7ff0000000000000 mb == some .gt) = true := by
      obtain ⟨k, q, hr, _⟩ := hmb
      have h1 : double.read 0x7ff0000000000000 = .infinity false := by decide +kernel
      show (double.order 0x7ff0000000000000 mb == some .gt) = true
      unfold Format.order
      rw [h1, hr]
      rfl
    refine (checkNumber_big b mb _ 0x7ff0000000000000 true w hcv ?_ ?_ ?_ (by decide +kernel) ho3).mono fun e w' h => h
    · cases s <;> decide +kernel
    · cases s <;> decide +kernel
    · cases s <;> decide +kernel
  | number s k p =>
    obtain ⟨q, rfl⟩ := NumS.of_read hd
    obtain ⟨hk1, hq1⟩ := Format.read_small (by decide) hd
    have hk2 : k < 2 ^ 24 := by have : 2 * single.binade = 2 ^ 24 := by decide +kernel
                                omega
    have hq2 : q ≤ 253 := by have : 2 ^ single.exponentBits = 256 := by decide +kernel
                             omega
    have hb : NumS single b s (k * 2 ^ q) := ⟨k, q, hd, rfl⟩
    rw [chk_num hb]
    obtain ⟨y, hcv, hy, hyl⟩ := conv_num hb
    have ha := NumS.abs hy
    have o1 : double.order y y = some .eq := by rw [hy.order hy, cmp_self]
    have o2 : (double.order (y % 2 ^ 63) 0x7fefffffffffffff == some .gt) = false := by
      rw [ha.order num_max, cmp_gt]
      apply decide_eq_false
      have h3 := f32_lt_max k q hk2 hq2
      generalize k * 2 ^ q * P2 925 = X at h3 ⊢
      generalize (2 ^ 53 - 1) * P2 2045 = Y at h3 ⊢
      unfold sgn
      simp
      omega
    have o3 : (double.order (y % 2 ^ 63) mb == some .gt) = decide (most * 2 ^ 149 < k * 2 ^ q) := by
      rw [ha.order hmb, cmp_gt]
      unfold sgn
      have e : most * P2 1074 = most * 2 ^ 149 * P2 925 := by rw [pow_split_1074, Nat.mul_assoc]
      rw [e]
      have hp : 0 < P2 925 := (by decide +kernel)
      generalize P2 925 = Z at *
      generalize k * 2 ^ q = X at *
      generalize most * 2 ^ 149 = Y at *
      rw [decide_eq_decide]
      simp
      constructor
      · intro h
        have h' : Y * Z < X * Z := by exact_mod_cast h
        exact Nat.lt_of_mul_lt_mul_right h'
      · intro h
        have h' : Y * Z < X * Z := Nat.mul_lt_mul_of_pos_right h hp
        exact_mod_cast h'
    by_cases hbig : most * 2 ^ 149 < k * 2 ^ q
    · rw [if_pos (Or.inl hbig)]
      exact checkNumber_big b mb y _ false w hcv hyl rfl o1 o2 (by rw [decide_eq_true hbig] at o3; exact o3)
    · have o3' : (double.order (y % 2 ^ 63) mb == some .gt) = false := by rw [decide_eq_false hbig] at o3; exact o3
      have hd1 : k < 2 * double.binade := by
        have : 2 ^ 24 ≤ 2 * double.binade := by decide +kernel
        exact Nat.lt_of_lt_of_le hk2 this
      have hd2 : q + 929 + 3 ≤ 2 ^ double.exponentBits := Nat.le_trans (Nat.add_le_add_right (Nat.add_le_add_right hq2 929) 3) (by decide +kernel)
      have hd3 : k * 2 ^ q * P2 925 * (16 * P2 1074) = k * 2 ^ q * P2 929 * P2 1074 := by
        exact mul16g k (2 ^ q) (P2 925) (P2 1074) (P2 929) (by decide +kernel)
      obtain ⟨z, hz, hzn⟩ := hy.mulP num_16 1074 double_least (k * 2 ^ q * P2 929) k (q + 929) hd3 (by rw [Ieee.P2_add, Nat.mul_assoc]; rfl) hd1 hd2
      have hlt : k * 2 ^ q * P2 929 < P2 (1074 + double.fractionBits) := by
        exact small_929 _ _ (Nat.le_of_not_lt hbig) hmost
      obtain ⟨c, hc, hce⟩ := hzn.integralP 1074 double_least .zero hlt (by decide +kernel)
      have hbs : (s ^^ false) = s := by cases s <;> rfl
      rw [hbs] at hzn hc
      have hfr := hzn.order hc
      have o4 : (double.order z (double.write ((double.read z).integral .zero)) != some .eq) = decide ((k * 2 ^ q) % 2 ^ 145 ≠ 0) := by
        rw [hfr, cmp_ne, decide_eq_decide, Ne, sgn_inj]
        apply not_congr
        have e : P2 1074 = 2 ^ 145 * P2 929 := by decide +kernel
        constructor
        · intro h
          exact frac_a _ c (P2 929) (2 ^ 145) (P2 1074) e (by decide +kernel) h
        · intro h
          refine (hce ?_).symm
          exact frac_b _ (P2 929) (2 ^ 145) (P2 1074) e h
      obtain ⟨k', q', hz', _⟩ := hzn
      have := checkNumber_small b mb y _ z _ _ w hcv hyl rfl o1 o2 o3' hz s k' _ hz' rfl o4
      refine this.mono fun e w' h => ⟨h.1.trans (ret_int ?_), h.2⟩
      by_cases hm : (k * 2 ^ q) % 2 ^ 145 = 0
      · rw [decide_eq_false (by simpa using hm), if_neg (by rintro (h | h); exact hbig h; exact h hm)]; rfl
      · rw [decide_eq_true hm, if_pos (Or.inr hm)]; rfl

theorem num_1024 : Ieee.NumS Ieee.double 0x4090000000000000 false (1024 * P2 1074) := ⟨2 ^ 52, 1032, by decide +kernel, by decide +kernel⟩
theorem checkSample_any (b : Nat) (w : World) : Calls Tryz.prog 24 #[.float .f32 b] w fun e w' => e = .returned (.int .i64 (chk 1024 b)) ∧ Below w.heap.size w w' := by
  go_enter Tryz.func24, Tryz.ntmps24
  go_wp2_with fail
  refine (checkNumber_any b _ 1024 num_1024 (by omega) _).mono ?_
  rintro e w1 ⟨rfl, hb1⟩
  go_wp2
  go_ret
  exact ⟨rfl, hb1⟩
theorem when_any (b : Bool) (e : Int) (w : World) : Calls Tryz.prog 31 #[.bool b, .int .i64 e] w fun e' w' => e' = .returned (.int .i64 (errIf b e)) ∧ w = w' := by
  cases b
  all_goals
    go_enter Tryz.func31, Tryz.ntmps31
    go_wp2
    go_ret
    exact ⟨rfl, rfl⟩
set_option maxRecDepth 100000 in
theorem checkPart_num (b y a z t : Nat) (most : Int) (h0 : 0 ≤ most) (h1 : most ≤ 4096) (f1 f2 : Nat) (hf1 : floatOfInt .f64 most = f1) (hf2 : floatOfInt .f64 (-most) = f2) (B1 B2 frac : Bool) (w : World)
    (hcv : floatToFloatBits .f32 b .f64 = some y) (hy : y < 18446744073709551616) (ha : y % 2 ^ 63 = a)
    (ho1 : FloatKind.f64.format.order y y = some .eq) (ho2 : (FloatKind.f64.format.order a 0x7fefffffffffffff == some .gt) = false)
    (ho3 : (FloatKind.f64.format.order y f1 == some .gt) = B1) (ho4 : (FloatKind.f64.format.order y f2 == some .lt) = B2)
    (hmul : floatBits .mul .f64 0x4030000000000000 y = some z) (s : Bool) (k : Nat) (p : Int) (hz : FloatKind.f64.decode z = .number s k p) (ht : FloatKind.f64.encode ((FloatKind.f64.decode z).integral .down) = t) (hfr : (FloatKind.f64.format.order z t != some .eq) = frac) :
    Calls Tryz.prog 105 #[.float .f32 b, .int .i64 most] w fun e w' => e = .returned (.int .i64 (errIf (B1 || B2 || frac) 3)) ∧ w = w' := by
  have hcv' := fun w => run_convert_float_float (P := Tryz.prog) w 23 156 .f32 .f64 b y (by kernel_rfl) (by kernel_rfl) hcv
  have hmul' := fun w => run_float_arith (P := Tryz.prog) w .mul 156 .f64 0x4030000000000000 y z hmul
  have HT := Lib.hid (floor_any z t s k p hz ht)
  clear hmul hz ht hcv
  cases B1 <;> cases B2
  all_goals
    go_enter Tryz.func105, Tryz.ntmps105
    go_wp2_with (first
      | (go_at_call 161; refine (isNaN_any _ _).mono ?_; rintro e w' ⟨rfl, rfl⟩)
      | (go_at_call 162; refine (isInf_any _ hy false (by rw [ha]; exact ho2) _).mono ?_; rintro e w' ⟨rfl, rfl⟩)
      | (go_at_call 165; refine (HT.out _).mono ?_; rintro e w' ⟨rfl, rfl⟩)
      | (go_at_call 31; refine (when_any _ _ _).mono ?_; rintro e w' ⟨rfl, rfl⟩))
    go_ret
    exact ⟨by cases frac <;> rfl, rfl⟩

set_option maxRecDepth 100000 in
theorem checkPart_nan (b : Nat) (most : Int) (s : Bool) (t : Nat) (h : FloatKind.f32.decode b = .nan s t) (w : World) :
    Calls Tryz.prog 105 #[.float .f32 b, .int .i64 most] w fun e w' => e = .returned (.int .i64 1) ∧ Below w.heap.size w w' := by
  obtain ⟨r, ⟨s', t', hr⟩, hy, hcv⟩ := conv_nan b s t h w
  have ho := order_nan r r s' t' hr
  clear h hr
  go_enter Tryz.func105, Tryz.ntmps105
  go_wp2_with (go_at_call 161; refine (isNaN_any _ _).mono ?_; rintro e w' ⟨rfl, rfl⟩)
  go_ret
  exact ⟨rfl, by go_grown⟩
set_option maxRecDepth 100000 in
theorem checkPart_inf (b y a : Nat) (most : Int) (w : World) (hcv : floatToFloatBits .f32 b .f64 = some y) (hy : y < 18446744073709551616) (ha : y % 2 ^ 63 = a)
    (ho1 : FloatKind.f64.format.order y y = some .eq) (ho2 : (FloatKind.f64.format.order a 0x7fefffffffffffff == some .gt) = true) :
    Calls Tryz.prog 105 #[.float .f32 b, .int .i64 most] w fun e w' => e = .returned (.int .i64 1) ∧ Below w.heap.size w w' := by
  have hcv' := fun w => run_convert_float_float (P := Tryz.prog) w 23 156 .f32 .f64 b y (by kernel_rfl) (by kernel_rfl) hcv
  clear hcv
  go_enter Tryz.func105, Tryz.ntmps105
  go_wp2_with (first
      | (go_at_call 161; refine (isNaN_any _ _).mono ?_; rintro e w' ⟨rfl, rfl⟩)
      | (go_at_call 162; refine (isInf_any _ hy true (by rw [ha]; exact ho2) _).mono ?_; rintro e w' ⟨rfl, rfl⟩))
  go_ret
  exact ⟨rfl, Below.refl _ _⟩

open Ieee in
theorem num_int64 (n : Int) (h : n.natAbs ≤ 4096) : NumS double (floatOfInt .f64 n) (decide (n < 0)) (n.natAbs * P2 1074) := by
  have e : floatOfInt .f64 n = double.nearest (decide (n < 0)) n.natAbs 0 := rfl
  rw [e]
  refine NumS.writeP _ _ _ _ n.natAbs 1074 rfl ?_ (by decide +kernel) ?_
  · exact Nat.lt_of_le_of_lt h (by decide +kernel)
  · rw [double_least]
    have e1 : ((0 : Int) - -((1074 : Nat) : Int)).toNat = 1074 := by decide
    have e2 : (-((1074 : Nat) : Int) - 0).toNat = 0 := by decide
    rw [e1, e2]; exact (Nat.mul_one _).symm
theorem sgn_gt (s : Bool) (X Y : Nat) : (decide ((Y : Int) < Ieee.sgn s X) || decide (Ieee.sgn s X < -(Y : Int))) = decide (Y < X) := by
  unfold Ieee.sgn
  rw [← Bool.decide_or, decide_eq_decide]
  cases s <;> simp <;> omega
theorem sgn_neg (n : Int) (h : 0 ≤ n) (c : Nat) : Ieee.sgn (decide (-n < 0)) ((-n).natAbs * c) = -((n.natAbs * c : Nat) : Int) := by
  unfold Ieee.sgn
  rw [Int.natAbs_neg]
  by_cases h0 : n = 0
  · subst h0; simp
  · rw [if_pos (by simp; omega)]
theorem mul_lt_iff (a b c : Nat) (hc : 0 < c) : a * c < b * c ↔ a < b := ⟨Nat.lt_of_mul_lt_mul_right, fun h => Nat.mul_lt_mul_of_pos_right h hc⟩
open Ieee in
theorem checkPart_any (b most : Nat) (hmost : most ≤ 4096) (w : World) :
    Calls Tryz.prog 105 #[.float .f32 b, .int .i64 most] w fun e w' => e = .returned (.int .i64 (chk most b)) ∧ Below w.heap.size w w' := by
  cases hd : single.read b with
  | nan s t =>
    have : chk most b = 1 := by unfold chk; rw [hd]
    rw [this]
    exact checkPart_nan b most s t hd w
  | infinity s =>
    have hc : chk most b = 1 := by unfold chk; rw [hd]
    rw [hc]
    have hcv : floatToFloatBits .f32 b .f64 = some (FloatKind.f64.encode (.infinity s)) := by
      unfold floatToFloatBits
      have e1 : FloatKind.f32.decode b = .infinity s := hd
      rw [if_neg (by decide), e1]
    refine checkPart_inf b _ 0x7ff0000000000000 most w hcv ?_ ?_ ?_ (by decide +kernel)
    · cases s <;> decide +kernel
    · cases s <;> decide +kernel
    · cases s <;> decide +kernel
  | number s k p =>
    obtain ⟨q, rfl⟩ := NumS.of_read hd
    obtain ⟨hk1, hq1⟩ := Format.read_small (by decide) hd
    have hk2 : k < 2 ^ 24 := by have : 2 * single.binade = 2 ^ 24 := by decide +kernel
                                omega
    have hq2 : q ≤ 253 := by have : 2 ^ single.exponentBits = 256 := by decide +kernel
                             omega
    have hb : NumS single b s (k * 2 ^ q) := ⟨k, q, hd, rfl⟩
    rw [chk_num hb]
    obtain ⟨y, hcv, hy, hyl⟩ := conv_num hb
    have ha := NumS.abs hy
    have o1 : double.order y y = some .eq := by rw [hy.order hy, cmp_self]
    have o2 : (double.order (y % 2 ^ 63) 0x7fefffffffffffff == some .gt) = false := by
      rw [ha.order num_max, cmp_gt]
      apply decide_eq_false
      have h3 := f32_lt_max k q hk2 hq2
      generalize k * 2 ^ q * P2 925 = X at h3 ⊢
      generalize (2 ^ 53 - 1) * P2 2045 = Y at h3 ⊢
      unfold sgn
      simp
      omega
    have n1 := num_int64 (most : Int) (by simpa using hmost)
    have n2 := num_int64 (-(most : Int)) (by simpa using hmost)
    have hbig : ((double.order y (floatOfInt .f64 most) == some .gt) || (double.order y (floatOfInt .f64 (-(most : Int))) == some .lt)) = decide (most * 2 ^ 149 < k * 2 ^ q) := by
      rw [hy.order n1, hy.order n2, cmp_gt, cmp_lt, sgn_neg _ (by omega)]
      have e0 : sgn (decide ((most : Int) < 0)) ((most : Int).natAbs * P2 1074) = ((most * P2 1074 : Nat) : Int) := by
        rw [decide_eq_false (by omega)]; rfl
      rw [e0, Int.natAbs_natCast, sgn_gt, split_1074, decide_eq_decide]
      have hp : 0 < P2 925 := by decide +kernel
      generalize P2 925 = c at hp ⊢
      exact mul_lt_iff _ _ c hp
    have hd1 : k < 2 * double.binade := by
      have : 2 ^ 24 ≤ 2 * double.binade := by decide +kernel
      exact Nat.lt_of_lt_of_le hk2 this
    have hd2 : q + 929 + 3 ≤ 2 ^ double.exponentBits := Nat.le_trans (Nat.add_le_add_right (Nat.add_le_add_right hq2 929) 3) (by decide +kernel)
    have hd3 : 16 * P2 1074 * (k * 2 ^ q * P2 925) = k * 2 ^ q * P2 929 * P2 1074 := by
      exact mul16g' k (2 ^ q) (P2 925) (P2 1074) (P2 929) (by decide +kernel)
    obtain ⟨z, hz, hzn⟩ := num_16.mulP hy 1074 double_least (k * 2 ^ q * P2 929) k (q + 929) hd3 (by rw [Ieee.P2_add, Nat.mul_assoc]; rfl) hd1 hd2
    have hbs : (false ^^ s) = s := by cases s <;> rfl
    rw [hbs] at hzn
    have hzn' := hzn
    obtain ⟨k', q', hz', _⟩ := hzn'
    have hw := checkPart_num b y _ z _ most (by omega) (by omega) _ _ rfl rfl _ _ _ w hcv hyl rfl o1 o2 rfl rfl hz s k' _ hz' rfl rfl
    refine hw.mono fun e w' h => ⟨h.1.trans (ret_int ?_), by rw [← h.2]; exact Below.refl _ _⟩
    have hbig' := hbig
    change ((FloatKind.f64.format.order y (floatOfInt .f64 most) == some .gt) || (FloatKind.f64.format.order y (floatOfInt .f64 (-(most : Int))) == some .lt)) = _ at hbig'
    rw [hbig']
    by_cases hb1 : most * 2 ^ 149 < k * 2 ^ q
    · rw [if_pos (Or.inl hb1), decide_eq_true hb1]; rfl
    · rw [decide_eq_false hb1]
      have hlt := small_929 _ _ (Nat.le_of_not_lt hb1) hmost
      obtain ⟨c, hc, hce⟩ := hzn.integralP 1074 double_least .down hlt (by decide +kernel)
      have hfr := hzn.order hc
      have o4 : (double.order z (double.write ((double.read z).integral .down)) != some .eq) = decide ((k * 2 ^ q) % 2 ^ 145 ≠ 0) := by
        rw [hfr, cmp_ne, decide_eq_decide, Ne, sgn_inj]
        apply not_congr
        have e : P2 1074 = 2 ^ 145 * P2 929 := by decide +kernel
        constructor
        · intro h
          exact frac_a _ c (P2 929) (2 ^ 145) (P2 1074) e (by decide +kernel) h
        · intro h
          refine (hce ?_).symm
          exact frac_b _ (P2 929) (2 ^ 145) (P2 1074) e h
      change (FloatKind.f64.format.order z (FloatKind.f64.encode ((FloatKind.f64.decode z).integral .down)) != some .eq) = _ at o4
      rw [o4]
      by_cases hm : (k * 2 ^ q) % 2 ^ 145 = 0
      · rw [decide_eq_false (by simpa using hm), if_neg (by rintro (h | h); exact hb1 h; exact h hm)]; rfl
      · rw [decide_eq_true hm, if_pos (Or.inr hm)]; rfl

end Go.Proofs.YthbdiifinkbcnaaGreatDoor
