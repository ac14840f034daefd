/- What the words of floats stand for: numbers are written and read exactly. -/
import Ieee.Arith
import Derived.Laws.FloatBits
namespace Ieee
theorem log2_lt_pow (n k : Nat) (h : n < 2 ^ k) (hn : n ≠ 0) : n.log2 < k := (Nat.log2_lt hn).2 h
/-- 'kept' digits: the number is exactly 'kept * 2 ^ last'. -/
theorem cut_zero (way : Toward) (neg : Bool) (n : Nat) : way.cut neg n 0 = n := by
  unfold Toward.cut
  cases way <;> simp [Nat.mod_one]
theorem cut_exact (way : Toward) (neg : Bool) (k drop : Nat) (hk : k ≠ 0) : way.cut neg (k * 2 ^ drop) drop = k := by
  unfold Toward.cut
  have hl : min drop ((k * 2 ^ drop).log2 + 2) = drop := by
    have : drop ≤ (k * 2 ^ drop).log2 := (Nat.le_log2 (by have := Nat.two_pow_pos drop; exact Nat.mul_ne_zero hk (by omega))).2 (by have := Nat.two_pow_pos drop; exact Nat.le_mul_of_pos_left _ (Nat.pos_of_ne_zero hk))
    omega
  simp only [hl, Nat.one_shiftLeft]
  have hp : 0 < 2 ^ drop := Nat.two_pow_pos drop
  have h1 : k * 2 ^ drop / 2 ^ drop = k := Nat.mul_div_cancel _ hp
  have h2 : k * 2 ^ drop % 2 ^ drop = 0 := Nat.mul_mod_left _ _
  rw [h1, h2]
  have hz : ¬ (2 ^ drop = 0) := by omega
  cases way <;> simp
theorem Format.read_word_sub (f : Format) (neg : Bool) (r : Nat) (h : r < f.binade) : f.read (f.word neg r) = .number neg r f.leastPlace := by
  have hb : f.binade ≤ f.signWeight := by unfold Format.binade Format.signWeight; exact Nat.pow_le_pow_right (by omega) (by omega)
  have hs : r < f.signWeight := by omega
  have hw : f.word neg r / f.signWeight % 2 = neg.toNat ∧ f.word neg r % f.signWeight = r := by
    unfold Format.word
    have hp : 0 < f.signWeight := by omega
    cases neg
    · simp [Nat.div_eq_of_lt hs, Nat.mod_eq_of_lt hs]
    · simp [Nat.add_div_left _ hp, Nat.div_eq_of_lt hs, Nat.mod_eq_of_lt hs]
  unfold Format.read
  simp only [hw.1, hw.2, if_pos h]
  cases neg <;> rfl
theorem Format.read_word_norm (f : Format) (neg : Bool) (q k : Nat) (hk : f.binade ≤ k) (hk2 : k < 2 * f.binade) (h : q * f.binade + k < f.infRung) : f.read (f.word neg (q * f.binade + k)) = .number neg k (f.leastPlace + q) := by
  have hi := f.infRung_lt
  have hs : q * f.binade + k < f.signWeight := by omega
  have hbp : 0 < f.binade := Nat.two_pow_pos _
  have hw : f.word neg (q * f.binade + k) / f.signWeight % 2 = neg.toNat ∧ f.word neg (q * f.binade + k) % f.signWeight = q * f.binade + k := by
    unfold Format.word
    have hp : 0 < f.signWeight := by omega
    cases neg
    · simp [Nat.div_eq_of_lt hs, Nat.mod_eq_of_lt hs]
    · simp [Nat.add_div_left _ hp, Nat.div_eq_of_lt hs, Nat.mod_eq_of_lt hs]
  unfold Format.read
  have h1 : ¬ q * f.binade + k < f.binade := by
    have : 0 ≤ q * f.binade := Nat.zero_le _
    omega
  have hdiv : (q * f.binade + k) / f.binade = q + 1 := by
    have : q * f.binade + k = (k - f.binade) + f.binade * (q + 1) := by rw [Nat.mul_comm q, Nat.mul_add]; omega
    rw [this, Nat.add_mul_div_left _ _ hbp, Nat.div_eq_of_lt (by omega)]; omega
  have hmod : (q * f.binade + k) % f.binade = k - f.binade := by
    have : q * f.binade + k = (k - f.binade) + f.binade * (q + 1) := by rw [Nat.mul_comm q, Nat.mul_add]; omega
    rw [this, Nat.add_mul_mod_self_left, Nat.mod_eq_of_lt (by omega)]
  simp only [hw.1, hw.2, if_neg h1, if_pos h, hdiv, hmod]
  have h2 : f.binade + (k - f.binade) = k := by omega
  rw [h2]
  cases neg <;> rfl

theorem log2_mul_pow (n k : Nat) (hn : n ≠ 0) : (n * 2 ^ k).log2 = n.log2 + k := by
  have h1 : 2 ^ n.log2 ≤ n := Nat.log2_self_le hn
  have h2 : n < 2 ^ (n.log2 + 1) := Nat.lt_log2_self
  have hp : 0 < 2 ^ k := Nat.two_pow_pos k
  have hm : n * 2 ^ k ≠ 0 := Nat.mul_ne_zero hn (by omega)
  apply Nat.le_antisymm
  · have : (n * 2 ^ k).log2 < n.log2 + k + 1 := (Nat.log2_lt hm).2 (by
      have : n.log2 + k + 1 = (n.log2 + 1) + k := by omega
      rw [this, Nat.pow_add]
      exact Nat.mul_lt_mul_of_pos_right h2 hp)
    omega
  · exact (Nat.le_log2 hm).2 (by rw [Nat.pow_add]; exact Nat.mul_le_mul_right _ h1)
/-- A NUMBER THAT THE FORMAT HAS IS WRITTEN AS IT IS. -/
theorem Format.nearest_exact (f : Format) (neg : Bool) (mag : Nat) (place : Int) (k q : Nat) (hk0 : k ≠ 0) (hk : k < 2 * f.binade) (hq : q = 0 ∨ f.binade ≤ k) (hi : q * f.binade + k < f.infRung)
    (hv : mag * 2 ^ (place - (f.leastPlace + q)).toNat = k * 2 ^ ((f.leastPlace + q) - place).toNat) :
    f.nearest neg mag place = f.word neg (q * f.binade + k) := by
  have hm0 : mag ≠ 0 := by
    rintro rfl
    have : 0 < k * 2 ^ ((f.leastPlace + q) - place).toNat := Nat.mul_pos (Nat.pos_of_ne_zero hk0) (Nat.two_pow_pos _)
    omega
  have hlog : (mag.log2 : Int) + place = k.log2 + (f.leastPlace + q) := by
    have h1 := congrArg Nat.log2 hv
    rw [log2_mul_pow _ _ hm0, log2_mul_pow _ _ hk0] at h1
    omega
  have hkl : k.log2 ≤ f.fractionBits := by
    have : k.log2 < f.fractionBits + 1 := (Nat.log2_lt hk0).2 (by unfold Format.binade at hk; rw [Nat.pow_succ]; omega)
    omega
  have hlast : max (place + mag.log2 - f.fractionBits) f.leastPlace = f.leastPlace + q := by
    rcases hq with rfl | hq
    · omega
    · have : f.fractionBits ≤ k.log2 := (Nat.le_log2 hk0).2 hq
      omega
  unfold Format.nearest
  simp only [if_neg hm0, hlast]
  have hkept : Toward.even.cut neg (mag <<< (place - (f.leastPlace + q)).toNat) ((f.leastPlace + q) - place).toNat = k := by
    rw [Nat.shiftLeft_eq, hv]
    exact cut_exact _ _ _ _ hk0
  rw [hkept]
  have h3 : (f.leastPlace + (q : Int) - f.leastPlace).toNat = q := by omega
  rw [h3]
  congr 1
  omega
theorem Format.read_nearest (f : Format) (neg : Bool) (mag : Nat) (place : Int) (k q : Nat) (hk0 : k ≠ 0) (hk : k < 2 * f.binade) (hq : q = 0 ∨ f.binade ≤ k) (hi : q * f.binade + k < f.infRung)
    (hv : mag * 2 ^ (place - (f.leastPlace + q)).toNat = k * 2 ^ ((f.leastPlace + q) - place).toNat) :
    f.read (f.nearest neg mag place) = .number neg k (f.leastPlace + q) := by
  rw [f.nearest_exact neg mag place k q hk0 hk hq hi hv]
  by_cases hb : f.binade ≤ k
  · exact f.read_word_norm neg q k hb hk hi
  · rcases hq with rfl | hq
    · simp only [Nat.zero_mul, Nat.zero_add]
      rw [f.read_word_sub neg k (by omega)]
      simp
    · exact absurd hq hb
theorem Format.read_zero (f : Format) (neg : Bool) (place : Int) : f.read (f.nearest neg 0 place) = .number neg 0 f.leastPlace := by
  unfold Format.nearest
  simp only [if_pos]
  exact f.read_word_sub neg 0 (Nat.two_pow_pos _)

/-- THE WORD b STANDS FOR 'M' TIMES THE FORMAT's LEAST UNIT, negated if 'neg'. -/
def NumS (f : Format) (b : Nat) (neg : Bool) (M : Nat) : Prop := ∃ k q : Nat, f.read b = .number neg k (f.leastPlace + q) ∧ k * 2 ^ q = M
theorem norm_exists (B M m j : Nat) (hM : M = m * 2 ^ j) (hm0 : m ≠ 0) (hm : m < 2 * B) : ∃ k q, M = k * 2 ^ q ∧ k ≠ 0 ∧ k < 2 * B ∧ (q = 0 ∨ B ≤ k) ∧ q ≤ j := by
  induction j generalizing m with
  | zero => exact ⟨m, 0, hM, hm0, hm, .inl rfl, Nat.le_refl _⟩
  | succ j ih =>
    by_cases hb : B ≤ m
    · exact ⟨m, j + 1, hM, hm0, hm, .inr hb, Nat.le_refl _⟩
    · obtain ⟨k, q, h1, h2, h3, h4, h5⟩ := ih (2 * m) (by rw [hM, Nat.pow_succ]; rw [Nat.mul_comm 2 m, Nat.mul_assoc, Nat.mul_comm 2]) (by omega) (by omega)
      exact ⟨k, q, h1, h2, h3, h4, by omega⟩
theorem two_pow_split (a b : Nat) (h : a ≤ b) : 2 ^ b = 2 ^ a * 2 ^ (b - a) := by rw [← Nat.pow_add]; congr 1; omega
/-- A number that the format has, written: it stands for what it is. -/
theorem NumS.write {f : Format} (neg : Bool) (mag : Nat) (place : Int) (M m j : Nat) (hM : M = m * 2 ^ j) (hm : m < 2 * f.binade) (hj : j + 3 ≤ 2 ^ f.exponentBits)
    (hv : mag * 2 ^ (place - f.leastPlace).toNat = M * 2 ^ (f.leastPlace - place).toNat) : NumS f (f.nearest neg mag place) neg M := by
  by_cases hm0 : m = 0
  · subst hm0
    have hM0 : M = 0 := by rw [hM]; simp
    subst hM0
    have : mag = 0 := by
      have hp : 0 < 2 ^ (place - f.leastPlace).toNat := Nat.two_pow_pos _
      rcases Nat.eq_zero_or_pos mag with h | h
      · exact h
      · have := Nat.mul_pos h hp
        omega
    subst this
    exact ⟨0, 0, by rw [f.read_zero]; simp, by simp⟩
  · obtain ⟨k, q, h1, h2, h3, h4, h5⟩ := norm_exists f.binade M m j hM hm0 hm
    refine ⟨k, q, f.read_nearest neg mag place k q h2 h3 h4 ?_ ?_, h1.symm⟩
    · unfold Format.infRung
      have hb : 0 < f.binade := Nat.two_pow_pos _
      have : (q + 2) * f.binade ≤ (2 ^ f.exponentBits - 1) * f.binade := Nat.mul_le_mul_right _ (by omega)
      rw [Nat.add_mul] at this
      omega
    · rw [h1] at hv
      rcases Int.lt_or_le place f.leastPlace with hlt | hge
      · have e1 : (place - f.leastPlace).toNat = 0 := by omega
        have e2 : (place - (f.leastPlace + q)).toNat = 0 := by omega
        have e3 : (f.leastPlace + q - place).toNat = q + (f.leastPlace - place).toNat := by omega
        rw [e1] at hv
        rw [e2, e3, Nat.pow_add]
        simpa [Nat.mul_assoc] using hv
      · have e1 : (f.leastPlace - place).toNat = 0 := by omega
        rw [e1, Nat.pow_zero, Nat.mul_one] at hv
        rcases Int.lt_or_le place (f.leastPlace + q) with h6 | h6
        · have e2 : (place - (f.leastPlace + q)).toNat = 0 := by omega
          rw [e2, Nat.pow_zero, Nat.mul_one]
          have e3 : q = (f.leastPlace + q - place).toNat + (place - f.leastPlace).toNat := by omega
          have e4 : 2 ^ q = 2 ^ (f.leastPlace + q - place).toNat * 2 ^ (place - f.leastPlace).toNat := by rw [← Nat.pow_add, ← e3]
          rw [e4, ← Nat.mul_assoc] at hv
          exact Nat.mul_right_cancel (Nat.two_pow_pos _) hv
        · have e2 : (f.leastPlace + q - place).toNat = 0 := by omega
          rw [e2, Nat.pow_zero, Nat.mul_one]
          have e4 : 2 ^ (place - f.leastPlace).toNat = 2 ^ (place - (f.leastPlace + q)).toNat * 2 ^ q := by rw [← Nat.pow_add]; congr 1; omega
          rw [e4, ← Nat.mul_assoc] at hv
          exact Nat.mul_right_cancel (Nat.two_pow_pos _) hv

theorem NumS.mul {f : Format} {x y : Nat} {s t : Bool} {M N : Nat} (hx : NumS f x s M) (hy : NumS f y t N) (D : Nat) (hL : f.leastPlace = -(D : Int)) (R m j : Nat) (hR : M * N = R * 2 ^ D)
    (hM : R = m * 2 ^ j) (hm : m < 2 * f.binade) (hj : j + 3 ≤ 2 ^ f.exponentBits) : ∃ r, f.mul x y = some r ∧ NumS f r (s ^^ t) R := by
  obtain ⟨k, q, hr, hk⟩ := hx
  obtain ⟨k', q', hr', hk'⟩ := hy
  refine ⟨_, by unfold Format.mul; rw [hr, hr']; rfl, ?_⟩
  refine NumS.write _ _ _ R m j hM hm hj ?_
  subst hk; subst hk'
  rw [hL]
  have hp : k * k' * 2 ^ (q + q') = R * 2 ^ D := by rw [← hR, Nat.pow_add]; ac_rfl
  rcases Nat.lt_or_ge (q + q') D with h | h
  · have e1 : (-(D : Int) + q + (-(D : Int) + q') - -(D : Int)).toNat = 0 := by omega
    have e2 : (-(D : Int) - (-(D : Int) + q + (-(D : Int) + q'))).toNat = D - (q + q') := by omega
    rw [e1, e2, Nat.pow_zero, Nat.mul_one]
    rw [two_pow_split (q + q') D (by omega)] at hp
    have hp' : k * k' * 2 ^ (q + q') = R * 2 ^ (D - (q + q')) * 2 ^ (q + q') := by rw [hp]; ac_rfl
    exact Nat.mul_right_cancel (Nat.two_pow_pos _) hp'
  · have e1 : (-(D : Int) + q + (-(D : Int) + q') - -(D : Int)).toNat = q + q' - D := by omega
    have e2 : (-(D : Int) - (-(D : Int) + q + (-(D : Int) + q'))).toNat = 0 := by omega
    rw [e1, e2, Nat.pow_zero, Nat.mul_one]
    rw [two_pow_split D (q + q') h] at hp
    have hp' : k * k' * 2 ^ (q + q' - D) * 2 ^ D = R * 2 ^ D := by rw [← hp]; ac_rfl
    exact Nat.mul_right_cancel (Nat.two_pow_pos _) hp'
/-- what a sign and a magnitude come to -/
def sgn (s : Bool) (M : Nat) : Int := if s then -(M : Int) else M
theorem signed_eq (s : Bool) (m u : Nat) : signed s m u = sgn s (m * 2 ^ u) := by unfold signed sgn; rw [Nat.shiftLeft_eq]
theorem compare_mul (a b : Int) (c : Nat) (hc : 0 < c) : compare (a * c) (b * c) = compare a b := by
  have hc' : (0 : Int) < c := by omega
  rcases Int.lt_trichotomy a b with h | h | h
  · have h2 : a * c < b * c := Int.mul_lt_mul_of_pos_right h hc'
    rw [Int.compare_eq_lt.2 h, Int.compare_eq_lt.2 h2]
  · subst h
    rw [Int.compare_eq_eq.2 rfl, Int.compare_eq_eq.2 rfl]
  · have h2 : b * c < a * c := Int.mul_lt_mul_of_pos_right h hc'
    rw [Int.compare_eq_gt.2 h, Int.compare_eq_gt.2 h2]
theorem sgn_mul (s : Bool) (M c : Nat) : sgn s (M * c) = sgn s M * c := by
  unfold sgn
  cases s <;> simp [Int.natCast_mul, Int.neg_mul]
theorem NumS.order {f : Format} {x y : Nat} {s t : Bool} {M N : Nat} (hx : NumS f x s M) (hy : NumS f y t N) : f.order x y = some (compare (sgn s M) (sgn t N)) := by
  obtain ⟨k, q, hr, hk⟩ := hx
  obtain ⟨k', q', hr', hk'⟩ := hy
  unfold Format.order
  rw [hr, hr']
  unfold Datum.order
  simp only [signed_eq]
  congr 1
  subst hk; subst hk'
  have e1 : ((f.leastPlace + q) - min (f.leastPlace + q) (f.leastPlace + q')).toNat = q - min q q' := by omega
  have e2 : ((f.leastPlace + q') - min (f.leastPlace + q) (f.leastPlace + q')).toNat = q' - min q q' := by omega
  rw [e1, e2, two_pow_split (min q q') q (by omega), two_pow_split (min q q') q' (by omega)]
  rw [show k * (2 ^ min q q' * 2 ^ (q - min q q')) = (k * 2 ^ (q - min q q')) * 2 ^ min q q' by ac_rfl, show k' * (2 ^ min q q' * 2 ^ (q' - min q q')) = (k' * 2 ^ (q' - min q q')) * 2 ^ min q q' by ac_rfl]
  rw [sgn_mul s (k * 2 ^ (q - min q q')) (2 ^ min q q'), sgn_mul t (k' * 2 ^ (q' - min q q')) (2 ^ min q q'), compare_mul _ _ _ (Nat.two_pow_pos _)]
theorem Format.read_small {f : Format} (he : 2 ≤ f.exponentBits) {b : Nat} {s : Bool} {k q : Nat} (hr : f.read b = .number s k (f.leastPlace + q)) : k < 2 * f.binade ∧ q + 3 ≤ 2 ^ f.exponentBits := by
  have hb : 0 < f.binade := Nat.two_pow_pos _
  have h4 : 2 ^ 2 ≤ 2 ^ f.exponentBits := Nat.pow_le_pow_right (by omega) he
  unfold Format.read at hr
  dsimp only at hr
  split at hr
  · simp only [Datum.number.injEq] at hr
    omega
  · split at hr
    · rename_i h1 h2
      simp only [Datum.number.injEq] at hr
      obtain ⟨_, hk, hq⟩ := hr
      have hm := Nat.mod_lt (b % f.signWeight) hb
      unfold Format.infRung at h2
      have hd : b % f.signWeight / f.binade < 2 ^ f.exponentBits - 1 := (Nat.div_lt_iff_lt_mul hb).2 h2
      omega
    · split at hr <;> cases hr
theorem NumS.of_read {f : Format} {b : Nat} {s : Bool} {k : Nat} {p : Int} (hr : f.read b = .number s k p) : ∃ q : Nat, p = f.leastPlace + q := by
  unfold Format.read at hr
  dsimp only at hr
  split at hr
  · simp only [Datum.number.injEq] at hr
    exact ⟨0, by omega⟩
  · split at hr
    · simp only [Datum.number.injEq] at hr
      exact ⟨_, hr.2.2.symm⟩
    · split at hr <;> cases hr
/-- made whole: 'c' is the whole number that comes of it. -/
theorem NumS.integral {f : Format} {b : Nat} {s : Bool} {M : Nat} (hb : NumS f b s M) (D : Nat) (hL : f.leastPlace = -(D : Int)) (way : Toward) (hM : M < 2 ^ (D + f.fractionBits)) (hD : D + 3 ≤ 2 ^ f.exponentBits) :
    ∃ c, NumS f (f.write ((f.read b).integral way)) s (c * 2 ^ D) ∧ (M % 2 ^ D = 0 → c * 2 ^ D = M) := by
  obtain ⟨k, q, hr, hk⟩ := hb
  rw [hr]
  unfold Datum.integral
  dsimp only
  rw [hL]
  have key : ∃ c, way.cut s (k <<< (-(D : Int) + q).toNat) (-(-(D : Int) + q)).toNat = c ∧ c ≤ 2 ^ f.fractionBits ∧ (M % 2 ^ D = 0 → c * 2 ^ D = M) := by
    refine ⟨_, rfl, ?_⟩
    rw [Nat.shiftLeft_eq]
    rcases Nat.lt_or_ge q D with h | h
    · have e1 : (-(D : Int) + q).toNat = 0 := by omega
      have e2 : (-(-(D : Int) + q)).toNat = D - q := by omega
      rw [e1, e2, Nat.pow_zero, Nat.mul_one]
      have hkb : k < 2 ^ f.fractionBits * 2 ^ (D - q) := by
        rw [← hk, two_pow_split q (D + f.fractionBits) (by omega), Nat.mul_comm] at hM
        have := Nat.lt_of_mul_lt_mul_left hM
        rwa [show D + f.fractionBits - q = f.fractionBits + (D - q) by omega, Nat.pow_add] at this
      constructor
      · unfold Toward.cut
        dsimp only
        have hg : k / 2 ^ (D - q) < 2 ^ f.fractionBits := (Nat.div_lt_iff_lt_mul (Nat.two_pow_pos _)).2 hkb
        rw [Nat.one_shiftLeft]
        rcases Nat.lt_or_ge (k.log2 + 2) (D - q) with h3 | h3
        · rw [Nat.min_eq_right (Nat.le_of_lt h3)]
          have : k / 2 ^ (k.log2 + 2) = 0 := Nat.div_eq_of_lt (by
            have := @Nat.lt_log2_self k
            rw [show k.log2 + 2 = (k.log2 + 1) + 1 by omega, Nat.pow_succ]
            omega)
          rw [this]
          have h1 : 0 < 2 ^ f.fractionBits := Nat.two_pow_pos _
          have : ∀ x : Bool, x.toNat ≤ 1 := fun x => by cases x <;> simp
          exact Nat.le_trans (Nat.add_le_add_left (this _) _) (by omega)
        · rw [Nat.min_eq_left h3]
          have : ∀ x : Bool, x.toNat ≤ 1 := fun x => by cases x <;> simp
          exact Nat.le_trans (Nat.add_le_add_left (this _) _) (by omega)
      · intro hz
        rw [← hk, two_pow_split q D (by omega), Nat.mul_comm k, Nat.mul_mod_mul_left] at hz
        have hz' : k % 2 ^ (D - q) = 0 := by
          rcases Nat.mul_eq_zero.1 hz with h0 | h0
          · have := Nat.two_pow_pos q; omega
          · exact h0
        obtain ⟨d, hd⟩ := Nat.dvd_of_mod_eq_zero hz'
        subst hk
        subst hd
        by_cases hd0 : d = 0
        · subst hd0; simp [Toward.cut]; cases way <;> simp
        · rw [Nat.mul_comm (2 ^ (D - q)) d, cut_exact way s d (D - q) hd0, two_pow_split q D (by omega)]
          ac_rfl
    · have e1 : (-(D : Int) + q).toNat = q - D := by omega
      have e2 : (-(-(D : Int) + q)).toNat = 0 := by omega
      rw [e1, e2, cut_zero]
      have hMe : k * 2 ^ (q - D) * 2 ^ D = M := by rw [← hk, two_pow_split D q h]; ac_rfl
      refine ⟨?_, fun _ => hMe⟩
      rw [← hMe, Nat.add_comm, Nat.pow_add] at hM
      exact Nat.le_of_lt (Nat.lt_of_mul_lt_mul_right hM)
  obtain ⟨c, hc, hcb, hce⟩ := key
  rw [hc]
  refine ⟨c, ?_, hce⟩
  refine NumS.write s c 0 (c * 2 ^ D) c D rfl ?_ hD ?_
  · unfold Format.binade
    have : 0 < 2 ^ f.fractionBits := Nat.two_pow_pos _
    omega
  · rw [hL]
    have e1 : ((0 : Int) - -(D : Int)).toNat = D := by omega
    have e2 : (-(D : Int) - 0).toNat = 0 := by omega
    rw [e1, e2]; simp
/-- '32 to 64 bits', and any other road to a format that has the number. -/
theorem NumS.conv {f g : Format} {b : Nat} {s : Bool} {M : Nat} (hb : NumS f b s M) (D E : Nat) (hL : f.leastPlace = -(D : Int)) (hE : g.leastPlace = -((D + E : Nat) : Int)) (he : 2 ≤ f.exponentBits) (hf : f.binade ≤ g.binade)
    (hw : 2 ^ f.exponentBits + E ≤ 2 ^ g.exponentBits) : NumS g (g.write (f.read b)) s (M * 2 ^ E) := by
  obtain ⟨k, q, hr, hk⟩ := hb
  obtain ⟨h1, h2⟩ := Format.read_small he hr
  rw [hr]
  refine NumS.write s k _ (M * 2 ^ E) k (q + E) (by rw [← hk, Nat.pow_add, Nat.mul_assoc]) (by omega) (by omega) ?_
  rw [hL, hE]
  have e1 : (-(D : Int) + q - -((D + E : Nat) : Int)).toNat = q + E := by omega
  have e2 : (-((D + E : Nat) : Int) - (-(D : Int) + q)).toNat = 0 := by omega
  rw [e1, e2, ← hk]
  rw [Nat.pow_add]; simp [Nat.mul_assoc]

/-- A power of two behind a name, so that nothing reckons it out. -/
def P2 (n : Nat) : Nat := 2 ^ n
theorem P2_pos (n : Nat) : 0 < P2 n := Nat.two_pow_pos n
theorem P2_add (a b : Nat) : P2 (a + b) = P2 a * P2 b := Nat.pow_add 2 a b
theorem NumS.writeP {f : Format} (neg : Bool) (mag : Nat) (place : Int) (M m j : Nat) (hM : M = m * P2 j) (hm : m < 2 * f.binade) (hj : j + 3 ≤ 2 ^ f.exponentBits)
    (hv : mag * P2 (place - f.leastPlace).toNat = M * P2 (f.leastPlace - place).toNat) : NumS f (f.nearest neg mag place) neg M := NumS.write neg mag place M m j hM hm hj hv
theorem NumS.mulP {f : Format} {x y : Nat} {s t : Bool} {M N : Nat} (hx : NumS f x s M) (hy : NumS f y t N) (D : Nat) (hL : f.leastPlace = -(D : Int)) (R m j : Nat) (hR : M * N = R * P2 D)
    (hM : R = m * P2 j) (hm : m < 2 * f.binade) (hj : j + 3 ≤ 2 ^ f.exponentBits) : ∃ r, f.mul x y = some r ∧ NumS f r (s ^^ t) R := hx.mul hy D hL R m j hR hM hm hj
theorem NumS.integralP {f : Format} {b : Nat} {s : Bool} {M : Nat} (hb : NumS f b s M) (D : Nat) (hL : f.leastPlace = -(D : Int)) (way : Toward) (hM : M < P2 (D + f.fractionBits)) (hD : D + 3 ≤ 2 ^ f.exponentBits) :
    ∃ c, NumS f (f.write ((f.read b).integral way)) s (c * P2 D) ∧ (M % P2 D = 0 → c * P2 D = M) := hb.integral D hL way hM hD
theorem NumS.convP {f g : Format} {b : Nat} {s : Bool} {M : Nat} (hb : NumS f b s M) (D E : Nat) (hL : f.leastPlace = -(D : Int)) (hE : g.leastPlace = -((D + E : Nat) : Int)) (he : 2 ≤ f.exponentBits) (hf : f.binade ≤ g.binade)
    (hw : 2 ^ f.exponentBits + E ≤ 2 ^ g.exponentBits) : NumS g (g.write (f.read b)) s (M * P2 E) := hb.conv D E hL hE he hf hw
end Ieee
