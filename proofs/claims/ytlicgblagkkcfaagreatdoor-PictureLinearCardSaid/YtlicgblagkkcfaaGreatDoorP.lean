/- Two lists compared. -/
import Derived.Test.YtlicgblagkkcfaaGreatDoorP0
namespace Go.Proofs.YtlicgblagkkcfaaGreatDoor
open Go.RowKit
set_option linter.unusedVariables false
attribute [local go_sem] run_store_float run_store_complex
def sameI (l k : List Int) : Bool := decide (l = k)
theorem take_next {α : Type} {l k : List α} {i : Nat} (hl : i < l.length) (hk : i < k.length) (h : l.take i = k.take i) (he : l[i] = k[i]) : l.take (i + 1) = k.take (i + 1) := by
  rw [List.take_succ_eq_append_getElem hl, List.take_succ_eq_append_getElem hk, h, he]
set_option maxRecDepth 100000 in
theorem sameInts_any (A B : Option Addr) (c d : Nat) (l k : List Int) (w : World) (hl : l.length ≤ maxLen) (hl2 : k.length ≤ maxLen) (hr : Rd w A (l.map (.int .i64))) (hr2 : Rd w B (k.map (.int .i64))) :
    Calls Tryz.prog 23 #[.slice A l.length c, .slice B k.length d] w fun e w' => e = .returned (.bool (sameI l k)) ∧ Below w.heap.size w w' := by
  unfold maxLen at hl hl2
  have HRa := Lib.hid hr; have HRb := Lib.hid hr2; clear hr hr2
  by_cases hlen : l.length = k.length
  · obtain ⟨n, hn⟩ : ∃ n, l.length = n := ⟨_, rfl⟩
    have hm : k.length = n := by rw [← hlen, hn]
    rw [hn, hm]
    have HN := Lib.hid hn; have HM := Lib.hid hm
    have hl' : n ≤ 2 ^ 62 - 1 ∨ True := Or.inr trivial
    rw [hn] at hl
    clear hlen hl2 hl' hn hm
    go_enter Tryz.func23, Tryz.ntmps23
    go_wp2
    go_loopw [5] (fun v wr => ∃ i : Nat, i ≤ n ∧ v = .int .i64 i ∧ RowKit.Hid (l.take i = k.take i) ∧ Below w.heap.size w wr) (fun v _ => n - (intOf v).toNat)
    case atStart => exact ⟨0, by omega, rfl, Lib.hid rfl, Below.refl _ _⟩
    case round =>
      obtain ⟨i, hi, rfl, hpre, hbel⟩ := hrel
      by_cases hlt : i < n
      · have g1 : i < l.length := by rw [HN.out]; exact hlt
        have g2 : i < k.length := by rw [HM.out]; exact hlt
        obtain ⟨ad, rfl, hb1, hc1⟩ := (HRa.out.below hbel).get (k := i) (u := .int .i64 l[i]) (by simp [g1])
        obtain ⟨ad2, rfl, hb2, hc2⟩ := (HRb.out.below hbel).get (k := i) (u := .int .i64 k[i]) (by simp [g2])
        obtain ⟨a, ha⟩ : ∃ a, l[i] = a := ⟨_, rfl⟩
        obtain ⟨b, hb⟩ : ∃ b, k[i] = b := ⟨_, rfl⟩
        rw [ha] at hc1
        rw [hb] at hc2
        have HA := Lib.hid ha; have HBb := Lib.hid hb; have HBE := Lib.hid hbel
        clear ha hb hbel
        by_cases hab : a = b
        · have hab' : (a != b) = false := by simp [hab]
          have HAB := Lib.hid hab; clear hab
          go_wp2_with fail
          go_quiet (fail)
          go_wp2
          go_roundw
          case rel => exact ⟨i + 1, by omega, by go_num, Lib.hid (take_next g1 g2 hpre.out (by rw [HA.out, HBb.out, HAB.out])), by exact below_drewN HBE.out nq⟩
          case measure => simp [intOf]; omega
        · have hab' : (a != b) = true := by simp [hab]
          have HAB := Lib.hid hab; clear hab
          go_wp2_with fail
          go_quiet (fail)
          go_wp2
          go_ret
          exact ⟨ret_bool (by unfold sameI; rw [eq_comm, decide_eq_false_iff_not]; intro he; subst he; exact HAB.out (HA.out.symm.trans HBb.out)), by exact below_drewN HBE.out nq⟩
      · have hie : i = n := by omega
        subst hie
        go_wp2
        go_ret
        refine ⟨ret_bool ?_, hbel⟩
        have h := hpre.out
        rw [List.take_of_length_le (by rw [HN.out]; exact Nat.le_refl _), List.take_of_length_le (by rw [HM.out]; exact Nat.le_refl _)] at h
        simp [sameI, h]
  · have hd : ((l.length : Int) != (k.length : Int)) = true := by simp; omega
    have hs : sameI l k = false := by unfold sameI; rw [decide_eq_false_iff_not]; intro he; subst he; exact hlen rfl
    rw [hs]
    clear hs
    go_enter Tryz.func23, Tryz.ntmps23
    go_wp2
    go_ret
    exact ⟨rfl, Below.refl _ _⟩

/-- equal as float32 numbers: the program's own '!=' at each place -/
def eqF (a b : Nat) : Bool := FloatKind.f32.format.order a b == some .eq
def sameF : List Nat → List Nat → Bool
  | [], [] => true
  | a :: l, b :: k => eqF a b && sameF l k
  | _, _ => false
theorem sameF_len {l k : List Nat} (h : l.length ≠ k.length) : sameF l k = false := by
  induction l generalizing k with
  | nil => cases k with
    | nil => simp at h
    | cons b k => rfl
  | cons a l ih => cases k with
    | nil => rfl
    | cons b k => simp only [sameF]; rw [ih (by simpa using h)]; simp
theorem sameF_at {l k : List Nat} {i : Nat} (hl : i < l.length) (hk : i < k.length) : sameF (l.drop i) (k.drop i) = (eqF l[i] k[i] && sameF (l.drop (i + 1)) (k.drop (i + 1))) := by
  rw [List.drop_eq_getElem_cons hl, List.drop_eq_getElem_cons hk]
  rfl
theorem sameF_done {l k : List Nat} {i : Nat} (hl : l.length ≤ i) (hk : k.length ≤ i) : sameF (l.drop i) (k.drop i) = true := by
  rw [List.drop_of_length_le hl, List.drop_of_length_le hk]
  rfl
set_option maxRecDepth 100000 in
theorem sameSamples_any (A B : Option Addr) (c d : Nat) (l k : List Nat) (w : World) (hl : l.length ≤ maxLen) (hl2 : k.length ≤ maxLen) (hr : Rd w A (fl l)) (hr2 : Rd w B (fl k)) :
    Calls Tryz.prog 89 #[.slice A l.length c, .slice B k.length d] w fun e w' => e = .returned (.bool (sameF l k)) ∧ Below w.heap.size w w' := by
  unfold maxLen at hl hl2
  have HRa := Lib.hid hr; have HRb := Lib.hid hr2; clear hr hr2
  by_cases hlen : l.length = k.length
  · obtain ⟨n, hn⟩ : ∃ n, l.length = n := ⟨_, rfl⟩
    have hm : k.length = n := by rw [← hlen, hn]
    rw [hn, hm]
    have HN := Lib.hid hn; have HM := Lib.hid hm
    have hl' : n ≤ 2 ^ 62 - 1 ∨ True := Or.inr trivial
    rw [hn] at hl
    clear hlen hl2 hl' hn hm
    go_enter Tryz.func89, Tryz.ntmps89
    go_wp2
    go_loopw [5] (fun v wr => ∃ i : Nat, i ≤ n ∧ v = .int .i64 i ∧ RowKit.Hid (sameF l k = sameF (l.drop i) (k.drop i)) ∧ Below w.heap.size w wr) (fun v _ => n - (intOf v).toNat)
    case atStart => exact ⟨0, by omega, rfl, Lib.hid rfl, Below.refl _ _⟩
    case round =>
      obtain ⟨i, hi, rfl, hpre, hbel⟩ := hrel
      by_cases hlt : i < n
      · have g1 : i < l.length := by rw [HN.out]; exact hlt
        have g2 : i < k.length := by rw [HM.out]; exact hlt
        obtain ⟨ad, rfl, hb1, hc1⟩ := (HRa.out.below hbel).get (k := i) (u := .float .f32 l[i]) (by simp [fl, g1])
        obtain ⟨ad2, rfl, hb2, hc2⟩ := (HRb.out.below hbel).get (k := i) (u := .float .f32 k[i]) (by simp [fl, g2])
        obtain ⟨a, ha⟩ : ∃ a, l[i] = a := ⟨_, rfl⟩
        obtain ⟨b, hb⟩ : ∃ b, k[i] = b := ⟨_, rfl⟩
        rw [ha] at hc1
        rw [hb] at hc2
        have HA := Lib.hid ha; have HBb := Lib.hid hb; have HBE := Lib.hid hbel
        clear ha hb hbel
        by_cases hab : eqF a b = true
        · have hab' : (FloatKind.f32.format.order a b != some .eq) = false := by unfold eqF at hab; simpa using hab
          have HAB := Lib.hid hab; clear hab
          go_wp2_with fail
          go_quiet (fail)
          go_wp2
          go_roundw
          case rel => exact ⟨i + 1, by omega, by go_num, Lib.hid (by rw [hpre.out, sameF_at g1 g2, HA.out, HBb.out, HAB.out, Bool.true_and]), by exact below_drewN HBE.out nq⟩
          case measure => simp [intOf]; omega
        · have hab' : (FloatKind.f32.format.order a b != some .eq) = true := by unfold eqF at hab; simpa using hab
          have HAB := Lib.hid hab; clear hab
          go_wp2_with fail
          go_quiet (fail)
          go_wp2
          go_ret
          exact ⟨ret_bool (by rw [hpre.out, sameF_at g1 g2, HA.out, HBb.out, Bool.eq_false_iff.2 HAB.out, Bool.false_and]), by exact below_drewN HBE.out nq⟩
      · have hie : i = n := by omega
        subst hie
        go_wp2
        go_ret
        refine ⟨ret_bool ?_, hbel⟩
        rw [hpre.out, sameF_done (by rw [HN.out]; exact Nat.le_refl _) (by rw [HM.out]; exact Nat.le_refl _)]
  · have hd : ((l.length : Int) != (k.length : Int)) = true := by simp; omega
    have hs : sameF l k = false := sameF_len hlen
    rw [hs]
    clear hs
    go_enter Tryz.func89, Tryz.ntmps89
    go_wp2
    go_ret
    exact ⟨rfl, Below.refl _ _⟩

end Go.Proofs.YtlicgblagkkcfaaGreatDoor
