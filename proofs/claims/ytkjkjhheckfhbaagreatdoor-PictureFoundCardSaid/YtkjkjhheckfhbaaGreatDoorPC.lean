/- Parts of a proof: PictureFound: the counters that a row of packets with gaps loses. Pure. PictureFound: the row of sixteen as its loop makes it, round by round; the search for a byte that begins a frame. Pure. -/
import Derived.Test.YtkjkjhheckfhbaaGreatDoorGd
import Derived.Test.YtkjkjhheckfhbaaGreatDoorPB
namespace Go.Proofs.YtkjkjhheckfhbaaGreatDoor
open Go.RowKit
set_option linter.unusedVariables false
/-- The counter at a place of the row. -/
def cAt (c0 i : Nat) : Int := (((c0 + i) % 256 : Nat) : Int)
theorem cAt_next (c0 i : Nat) : (cAt c0 i + 1) % 256 = cAt c0 (i + 1) := by unfold cAt; omega
theorem cAt_ne (c0 i k : Nat) (h : 0 < k) (h2 : k < 256) : cAt c0 i ≠ cAt c0 (i + k) := by unfold cAt; omega
theorem cAt_bd (c0 i : Nat) : 0 ≤ cAt c0 i ∧ cAt c0 i ≤ 255 := by unfold cAt; omega
def pkc3 (c : Int) : Pk := ⟨3, c, 0, 0, 0, 0, 0, 0, 0, 0, 0, 0⟩
def pkc4 : Pk := ⟨4, 9, 0, 0, 0, 0, 0, 0, 0, 0, 0, 0⟩
/-- The packets kept from a place on. -/
def keptF (c0 : Nat) (D : Nat → Bool) : Nat → Nat → List Pk
  | 0, _ => []
  | k + 1, i => if D i = true then keptF c0 D k (i + 1) else pkc3 (cAt c0 i) :: pkc4 :: keptF c0 D k (i + 1)
/-- The counters gone from a place on. -/
def goneF (c0 : Nat) (D : Nat → Bool) : Nat → Nat → List Int
  | 0, _ => []
  | k + 1, i => if D i = true then cAt c0 i :: goneF c0 D k (i + 1) else goneF c0 D k (i + 1)
theorem keptF_yes {c0 : Nat} {D : Nat → Bool} {i : Nat} (k : Nat) (h : D i = true) : keptF c0 D (k + 1) i = keptF c0 D k (i + 1) := if_pos h
theorem keptF_no {c0 : Nat} {D : Nat → Bool} {i : Nat} (k : Nat) (h : ¬ D i = true) : keptF c0 D (k + 1) i = pkc3 (cAt c0 i) :: pkc4 :: keptF c0 D k (i + 1) := if_neg h
theorem goneF_yes {c0 : Nat} {D : Nat → Bool} {i : Nat} (k : Nat) (h : D i = true) : goneF c0 D (k + 1) i = cAt c0 i :: goneF c0 D k (i + 1) := if_pos h
theorem goneF_no {c0 : Nat} {D : Nat → Bool} {i : Nat} (k : Nat) (h : ¬ D i = true) : goneF c0 D (k + 1) i = goneF c0 D k (i + 1) := if_neg h
theorem kept_gone (c0 : Nat) (D : Nat → Bool) (k : Nat) : ∀ i, (keptF c0 D k i).length + 2 * (goneF c0 D k i).length = 2 * k := by
  induction k with
  | zero => intro i; rfl
  | succ k ih =>
    intro i
    have := ih (i + 1)
    by_cases h : D i = true
    · rw [keptF_yes k h, goneF_yes k h, List.length_cons]; omega
    · rw [keptF_no k h, goneF_no k h, List.length_cons, List.length_cons]; omega
theorem keptF_first (c0 : Nat) (D : Nat → Bool) (k : Nat) : ∀ i, firstPk (keptF c0 D k i) = 0 := by
  induction k with
  | zero => intro i; rfl
  | succ k ih =>
    intro i
    by_cases h : D i = true
    · rw [keptF_yes k h]; exact ih _
    · have hb := cAt_bd c0 i
      have h3 : (pkc3 (cAt c0 i)).err = 0 := by
        show firstE [outs 3 0 255, outs (cAt c0 i) 0 255] = 0
        have e : outs (cAt c0 i) 0 255 = 0 := by
          unfold outs
          rw [decide_eq_false (by omega), decide_eq_false (by omega)]; rfl
        rw [e]; rfl
      have h4 : pkc4.err = 0 := by decide
      rw [keptF_no k h]
      show (if (pkc3 (cAt c0 i)).err = 0 then (if pkc4.err = 0 then firstPk (keptF c0 D k (i + 1)) else pkc4.err) else (pkc3 (cAt c0 i)).err) = 0
      rw [if_pos h3, if_pos h4]
      exact ih _
/-- p counters from a place on. -/
def pend (c0 j : Nat) : Nat → List Int
  | 0 => []
  | p + 1 => cAt c0 j :: pend c0 (j + 1) p
theorem pend_snoc (c0 : Nat) (p : Nat) : ∀ j, pend c0 j (p + 1) = pend c0 j p ++ [cAt c0 (j + p)] := by
  induction p with
  | zero => intro j; rfl
  | succ p ih =>
    intro j
    show cAt c0 j :: pend c0 (j + 1) (p + 1) = cAt c0 j :: (pend c0 (j + 1) p ++ [cAt c0 (j + (p + 1))])
    rw [ih, show j + 1 + p = j + (p + 1) by omega]
theorem dueR_run (c0 : Nat) (k : Nat) : ∀ j n, k ≤ n → k < 256 → dueR (n + 1) (cAt c0 j) (cAt c0 (j + k)) = pend c0 j k := by
  induction k with
  | zero => intro j n _ _; exact dueR_end n _
  | succ k ih =>
    intro j n hn hk
    obtain ⟨m, rfl⟩ : ∃ m, n = m + 1 := ⟨n - 1, by omega⟩
    rw [dueR_next _ (cAt_ne c0 j (k + 1) (by omega) hk), cAt_next, show j + (k + 1) = j + 1 + k by omega, ih (j + 1) m (by omega) (by omega)]
    rfl
theorem lostR_kept (c0 : Nat) (D : Nat → Bool) (hD : D 15 = false) (k : Nat) : ∀ (i j p : Nat) (acc : List Int), i + k = 16 → j + 1 + p = i → (k = 0 → p = 0) →
    lostR 3 (keptF c0 D k i) (cAt c0 j) acc = acc ++ pend c0 (j + 1) p ++ goneF c0 D k i := by
  induction k with
  | zero =>
    intro i j p acc _ _ hp
    rw [hp rfl]
    show acc = acc ++ [] ++ []
    rw [List.append_nil, List.append_nil]
  | succ k ih =>
    intro i j p acc hi hj _
    by_cases h : D i = true
    · rw [keptF_yes k h, goneF_yes k h, ih (i + 1) j (p + 1) acc (by omega) (by omega) (by
        intro hk
        have : i = 15 := by omega
        rw [this, hD] at h; cases h), pend_snoc, hj]
      simp only [List.append_assoc, List.cons_append, List.nil_append]
    · rw [keptF_no k h, goneF_no k h, lostR_next (show (pkc3 (cAt c0 i)).k = 3 from rfl) (cAt_bd c0 j).1, lostR_other (show pkc4.k ≠ 3 by decide), cAt_next]
      have hd : dueR 256 (cAt c0 (j + 1)) (pkc3 (cAt c0 i)).c = pend c0 (j + 1) p := by
        rw [← hj]; exact dueR_run c0 p (j + 1) 255 (by omega) (by omega)
      rw [hd]
      show lostR 3 (keptF c0 D k (i + 1)) (cAt c0 i) _ = _
      rw [ih (i + 1) i 0 _ (by omega) (by omega) (fun _ => rfl)]
      show acc ++ pend c0 (j + 1) p ++ [] ++ _ = _
      rw [List.append_nil]
/-- What is lost of the sixteen is what is gone. -/
theorem lost_kept (c0 : Nat) (D : Nat → Bool) (h0 : D 0 = false) (hD : D 15 = false) : lostF 3 (keptF c0 D 16 0) false 0 [] = goneF c0 D 16 0 ∧ lostErr (keptF c0 D 16 0) 3 = 0 := by
  have hn : ¬ D 0 = true := by rw [h0]; decide
  have hl := kept_gone c0 D 16 0
  have e : lostR 3 (keptF c0 D 16 0) (-1) [] = goneF c0 D 16 0 := by
    rw [keptF_no 15 hn, goneF_no 15 hn, lostR_first (show (pkc3 (cAt c0 0)).k = 3 from rfl) (show ¬ (0 : Int) ≤ -1 by decide), lostR_other (show pkc4.k ≠ 3 by decide)]
    show lostR 3 (keptF c0 D 15 (0 + 1)) (cAt c0 0) [] = _
    rw [lostR_kept c0 D hD 15 (0 + 1) 0 0 [] rfl rfl (fun h => by cases h)]
    rfl
  refine ⟨?_, ?_⟩
  · rw [(lost_agree (keptF_first c0 D 16 0) 3).1 (by rw [e]; omega), e]
  · unfold lostErr
    rw [keptF_first, decide_eq_false (by omega)]; rfl
end Go.Proofs.YtkjkjhheckfhbaaGreatDoor
namespace Go.Proofs.YtkjkjhheckfhbaaGreatDoor
open Go.RowKit
set_option linter.unusedVariables false
theorem keptF_snoc (c0 : Nat) (D : Nat → Bool) (k : Nat) : ∀ i, keptF c0 D (k + 1) i = keptF c0 D k i ++ (if D (i + k) = true then [] else [pkc3 (cAt c0 (i + k)), pkc4]) := by
  induction k with
  | zero =>
    intro i
    by_cases h : D i = true
    · rw [keptF_yes 0 h, show i + 0 = i from rfl, if_pos h]; rfl
    · rw [keptF_no 0 h, show i + 0 = i from rfl, if_neg h]; rfl
  | succ k ih =>
    intro i
    have e : i + 1 + k = i + (k + 1) := by omega
    by_cases h : D i = true
    · rw [keptF_yes (k + 1) h, keptF_yes k h, ih, e]
    · rw [keptF_no (k + 1) h, keptF_no k h, ih, e]; rfl
theorem goneF_snoc (c0 : Nat) (D : Nat → Bool) (k : Nat) : ∀ i, goneF c0 D (k + 1) i = goneF c0 D k i ++ (if D (i + k) = true then [cAt c0 (i + k)] else []) := by
  induction k with
  | zero =>
    intro i
    by_cases h : D i = true
    · rw [goneF_yes 0 h, show i + 0 = i from rfl, if_pos h]; rfl
    · rw [goneF_no 0 h, show i + 0 = i from rfl, if_neg h]; rfl
  | succ k ih =>
    intro i
    have e : i + 1 + k = i + (k + 1) := by omega
    by_cases h : D i = true
    · rw [goneF_yes (k + 1) h, goneF_yes k h, ih, e]; rfl
    · rw [goneF_no (k + 1) h, goneF_no k h, ih, e]
theorem kept_yes (c0 : Nat) (D : Nat → Bool) (k : Nat) (h : D k = true) : keptF c0 D (k + 1) 0 = keptF c0 D k 0 ∧ goneF c0 D (k + 1) 0 = goneF c0 D k 0 ++ [cAt c0 k] := by
  rw [keptF_snoc, goneF_snoc, Nat.zero_add, if_pos h, if_pos h, List.append_nil]
  exact ⟨rfl, rfl⟩
theorem kept_no (c0 : Nat) (D : Nat → Bool) (k : Nat) (h : D k = false) : keptF c0 D (k + 1) 0 = keptF c0 D k 0 ++ [pkc3 (cAt c0 k), pkc4] ∧ goneF c0 D (k + 1) 0 = goneF c0 D k 0 := by
  have hn : ¬ D k = true := by rw [h]; decide
  rw [keptF_snoc, goneF_snoc, Nat.zero_add, if_neg hn, if_neg hn, List.append_nil]
  exact ⟨rfl, rfl⟩
theorem gone_le (c0 : Nat) (D : Nat → Bool) (k i : Nat) : (goneF c0 D k i).length ≤ k ∧ (keptF c0 D k i).length ≤ 2 * k := by
  have := kept_gone c0 D k i
  omega
/-- How many of the row are kept. -/
def cntF (c0 : Nat) (D : Nat → Bool) (k : Nat) : Int := (k : Int) - (goneF c0 D k 0).length
theorem cnt_yes (c0 : Nat) (D : Nat → Bool) (k : Nat) (h : D k = true) : cntF c0 D (k + 1) = cntF c0 D k := by
  unfold cntF
  rw [(kept_yes c0 D k h).2, List.length_append]
  simp only [List.length_cons, List.length_nil]
  omega
theorem cnt_no (c0 : Nat) (D : Nat → Bool) (k : Nat) (h : D k = false) : cntF c0 D (k + 1) = cntF c0 D k + 1 := by
  unfold cntF
  rw [(kept_no c0 D k h).2]
  omega
theorem cnt_all (c0 : Nat) (D : Nat → Bool) : cntF c0 D 16 + (goneF c0 D 16 0).length = 16 := by unfold cntF; omega
theorem cAt_tmod (c0 i : Nat) : Int.tmod (Int.tmod (c0 : Int) 256 + (i : Int)) 256 = cAt c0 i := by
  unfold cAt
  have e : Int.tmod (c0 : Int) 256 = (c0 : Int) % 256 := Int.tmod_eq_emod_of_nonneg (by omega)
  rw [e, Int.tmod_eq_emod_of_nonneg (by omega)]
  omega
/-- Where a frame of the law's stream may begin. -/
def ownAt (from' end' j : Nat) (even : Bool) : Bool := (decide (j < from') && decide (j % 16 = 0)) || (decide (end' ≤ j) && decide ((j - end') % 16 = 0)) || (decide (j = from') && even)
theorem ownAt_in {from' end' j : Nat} {even : Bool} (h1 : from' < j) (h2 : j < end') : ownAt from' end' j even = false := by
  unfold ownAt
  rw [decide_eq_false (show ¬ j < from' by omega), decide_eq_false (show ¬ end' ≤ j by omega), decide_eq_false (show ¬ j = from' by omega)]
  rfl
theorem ownAt_odd {from' end' j : Nat} (h1 : from' ≤ j) (h2 : j < end') : ownAt from' end' j false = false := by
  unfold ownAt
  rw [decide_eq_false (show ¬ j < from' by omega), decide_eq_false (show ¬ end' ≤ j by omega), Bool.and_false]
  rfl
/-- No byte begins a frame but where one may. -/
def Clear (bs : List U8) (from' end' : Nat) (even : Bool) (n : Nat) : Prop := ∀ j, j < n → (bs.getD j u0).1 = 171 → ownAt from' end' j even = true
theorem Clear.even {bs : List U8} {a b n : Nat} (h : Clear bs a b true n) (hb : b ≤ n) : ∀ j, a < j → j < b → (bs.getD j u0).1 ≠ 171 := by
  intro j h1 h2 e
  have := h j (by omega) e
  rw [ownAt_in h1 h2] at this
  cases this
theorem Clear.odd {bs : List U8} {a b n : Nat} (h : Clear bs a b false n) (hb : b ≤ n) : ∀ j, a ≤ j → j < b → (bs.getD j u0).1 ≠ 171 := by
  intro j h1 h2 e
  have := h j (by omega) e
  rw [ownAt_odd h1 h2] at this
  cases this
end Go.Proofs.YtkjkjhheckfhbaaGreatDoor
