/- Spans compared. -/
import Derived.Test.YtlicgblagkkcfaaGreatDoorP
import Derived.Test.YtlicgblagkkcfaaGreatDoorAe
import Derived.Laws.StructEq
namespace Go.Proofs.YtlicgblagkkcfaaGreatDoor
open Go.RowKit
set_option linter.unusedVariables false
def sameP (l k : List (Int × Int)) : Bool := decide (l = k)
theorem spansC_at {l : List (Int × Int)} {i : Nat} (h : i < l.length) : (spansC l)[i * 2]? = some (.int .i64 l[i].1) ∧ (spansC l)[i * 2 + 1]? = some (.int .i64 l[i].2) := by
  have e : spansC l = spansC (l.take i) ++ (spansC [l[i]] ++ spansC (l.drop (i + 1))) := by
    rw [← spansC_app, ← spansC_app]; congr 1; simp [List.take_append_drop, ← List.drop_eq_getElem_cons h]
  have hn : (spansC (l.take i)).length = i * 2 := by rw [spansC_len]; simp; omega
  rw [e]
  constructor
  · rw [List.getElem?_append_right (by omega), hn, Nat.sub_self]; rfl
  · rw [List.getElem?_append_right (by omega), hn, Nat.add_sub_cancel_left]; rfl
set_option maxRecDepth 100000 in
theorem sameSpans_any (A B : Option Addr) (c d : Nat) (l k : List (Int × Int)) (w : World) (hl : l.length ≤ maxLen) (hl2 : k.length ≤ maxLen) (hr : Rd w A (spansC l)) (hr2 : Rd w B (spansC k)) :
    Calls Tryz.prog 77 #[.slice A l.length c, .slice B k.length d] w fun e w' => e = .returned (.bool (sameP l k)) ∧ Below w.heap.size w w' := by
  unfold maxLen at hl hl2
  have HRa := Lib.hid hr; have HRb := Lib.hid hr2; clear hr hr2
  by_cases hlen : l.length = k.length
  · obtain ⟨n, hn⟩ : ∃ n, l.length = n := ⟨_, rfl⟩
    have hm : k.length = n := by rw [← hlen, hn]
    rw [hn, hm]
    have HN := Lib.hid hn; have HM := Lib.hid hm
    rw [hn] at hl
    clear hlen hl2 hn hm
    go_enter Tryz.func77, Tryz.ntmps77
    go_wp2
    go_loopw [5] (fun v wr => ∃ i : Nat, i ≤ n ∧ v = .int .i64 i ∧ RowKit.Hid (l.take i = k.take i) ∧ Below w.heap.size w wr) (fun v _ => n - (intOf v).toNat)
    case atStart => exact ⟨0, by omega, rfl, Lib.hid rfl, Below.refl _ _⟩
    case round =>
      obtain ⟨i, hi, rfl, hpre, hbel⟩ := hrel
      by_cases hlt : i < n
      · have g1 : i < l.length := by rw [HN.out]; exact hlt
        have g2 : i < k.length := by rw [HM.out]; exact hlt
        obtain ⟨ad, rfl, hb1, hc1⟩ := (HRa.out.below hbel).get (spansC_at g1).1
        obtain ⟨ad', e', hb1', hc1'⟩ := (HRa.out.below hbel).get (spansC_at g1).2
        cases e'
        obtain ⟨ad2, rfl, hb2, hc2⟩ := (HRb.out.below hbel).get (spansC_at g2).1
        obtain ⟨ad2', e', hb2', hc2'⟩ := (HRb.out.below hbel).get (spansC_at g2).2
        cases e'
        rw [← Addr.add_add] at hc1' hc2'
        obtain ⟨⟨a, a'⟩, ha⟩ : ∃ a, l[i] = a := ⟨_, rfl⟩
        obtain ⟨⟨b, b'⟩, hb⟩ : ∃ b, k[i] = b := ⟨_, rfl⟩
        rw [ha] at hc1 hc1'
        rw [hb] at hc2 hc2'
        dsimp only at hc1 hc1' hc2 hc2'
        have hd1 : wr.cell? ⟨(ad.add (i * 2)).block, (ad.add (i * 2)).off + 1, none⟩ = some (.int .i64 a') := hc1'
        have hd2 : wr.cell? ⟨(ad2.add (i * 2)).block, (ad2.add (i * 2)).off + 1, none⟩ = some (.int .i64 b') := hc2'
        clear hc1' hc2'
        have HA := Lib.hid ha; have HBb := Lib.hid hb; have HBE := Lib.hid hbel
        clear ha hb hbel hb1' hb2'
        by_cases hab : a = b
        · by_cases hab2 : a' = b'
          · have hx : (a == b) = true := by simp [hab]
            have hx2 : (a' == b') = true := by simp [hab2]
            have HAB := Lib.hid hab; clear hab
            have HAB2 := Lib.hid hab2; clear hab2
            go_wp2_with fail
            go_region
            go_wp2
            go_roundw
            case rel => exact ⟨i + 1, by omega, by go_num, Lib.hid (take_next g1 g2 hpre.out (by rw [HA.out, HBb.out, HAB.out, HAB2.out])), by exact HBE.out.drew⟩
            case measure => simp [intOf]; omega
          · have hx : (a == b) = true := by simp [hab]
            have hx2 : (a' == b') = false := by simp [hab2]
            have HAB2 := Lib.hid hab2; clear hab hab2
            go_wp2_with fail
            go_region
            go_wp2
            go_ret
            exact ⟨ret_bool (by unfold sameP; rw [eq_comm, decide_eq_false_iff_not]; intro he; subst he; exact HAB2.out (congrArg Prod.snd (HA.out.symm.trans HBb.out))), by exact HBE.out.drew⟩
        · have hx : (a == b) = false := by simp [hab]
          have HAB := Lib.hid hab; clear hab
          go_wp2_with fail
          go_region
          go_wp2
          go_ret
          exact ⟨ret_bool (by unfold sameP; rw [eq_comm, decide_eq_false_iff_not]; intro he; subst he; exact HAB.out (congrArg Prod.fst (HA.out.symm.trans HBb.out))), by exact HBE.out.drew⟩
      · have hie : i = n := by omega
        subst hie
        go_wp2
        go_ret
        refine ⟨ret_bool ?_, hbel⟩
        have h := hpre.out
        rw [List.take_of_length_le (by rw [HN.out]; exact Nat.le_refl _), List.take_of_length_le (by rw [HM.out]; exact Nat.le_refl _)] at h
        simp [sameP, h]
  · have hd : ((l.length : Int) != (k.length : Int)) = true := by simp; omega
    have hs : sameP l k = false := by unfold sameP; rw [decide_eq_false_iff_not]; intro he; subst he; exact hlen rfl
    rw [hs]
    clear hs
    go_enter Tryz.func77, Tryz.ntmps77
    go_wp2
    go_ret
    exact ⟨rfl, Below.refl _ _⟩

end Go.Proofs.YtlicgblagkkcfaaGreatDoor
