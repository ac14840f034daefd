/- The first error of packets. -/
import Derived.Test.YtkjkjhheckfhbaaGreatDoorPE
import Derived.Test.YtkjkjhheckfhbaaGreatDoorPE
namespace Go.Proofs.YtkjkjhheckfhbaaGreatDoor
open Go.RowKit
set_option linter.unusedVariables false
structure Pk where
  k : Int
  c : Int
  d0 : Int
  d1 : Int
  d2 : Int
  d3 : Int
  d4 : Int
  d5 : Int
  d6 : Int
  d7 : Int
  d8 : Int
  d9 : Int
def Pk.cells (p : Pk) : List Value := [.int .i64 p.k, .int .i64 p.c, .int .u8 p.d0, .int .u8 p.d1, .int .u8 p.d2, .int .u8 p.d3, .int .u8 p.d4, .int .u8 p.d5, .int .u8 p.d6, .int .u8 p.d7, .int .u8 p.d8, .int .u8 p.d9]
def pksC (l : List Pk) : List Value := l.flatMap Pk.cells
def Pk.err (p : Pk) : Int := pkErr p.k p.c
def firstPk : List Pk → Int
  | [] => 0
  | p :: l => if p.err = 0 then firstPk l else p.err
theorem pksC_len (l : List Pk) : (pksC l).length = l.length * 12 := by
  induction l with
  | nil => rfl
  | cons a l ih => simp [pksC, Pk.cells] at ih ⊢; omega
theorem pksC_app (l m : List Pk) : pksC (l ++ m) = pksC l ++ pksC m := by simp [pksC]
theorem pksC_at {l : List Pk} {i : Nat} (h : i < l.length) (j : Nat) (v : Value) (hv : l[i].cells[j]? = some v) : (pksC l)[i * 12 + j]? = some v := by
  have e : pksC l = pksC (l.take i) ++ (pksC [l[i]] ++ pksC (l.drop (i + 1))) := by
    rw [← pksC_app, ← pksC_app]; congr 1; simp [List.take_append_drop, ← List.drop_eq_getElem_cons h]
  have hn : (pksC (l.take i)).length = i * 12 := by rw [pksC_len]; simp; omega
  have h1 : pksC [l[i]] = l[i].cells := by simp [pksC]
  have hj : j < l[i].cells.length := (List.getElem?_eq_some_iff.1 hv).1
  rw [e, List.getElem?_append_right (by omega), hn, Nat.add_sub_cancel_left, h1, List.getElem?_append_left hj, hv]
theorem enters_packetError : Enters Tryz.prog 128 := fun a w => by kernel_rfl
set_option maxRecDepth 100000 in
theorem firstOfPk_any (A : Option Addr) (c : Nat) (l : List Pk) (w : World) (hl : l.length ≤ maxLen) (hr : Rd w A (pksC l)) :
    Calls Tryz.prog 131 #[.slice A l.length c, .func (.func 128) #[] #[]] w fun e w' => e = .returned (.int .i64 (firstPk l)) ∧ Below w.heap.size w w' := by
  unfold maxLen at hl
  have HR := Lib.hid hr; clear hr
  have hcf := enters_packetError
  unfold Enters at hcf
  obtain ⟨n, hn⟩ : ∃ n, l.length = n := ⟨_, rfl⟩
  have HN := Lib.hid hn
  rw [hn] at hl ⊢
  clear hn
  go_enter Tryz.func131, Tryz.ntmps131
  go_wp2
  go_loopw [10] (fun v wr => ∃ i : Nat, i ≤ n ∧ v = .int .i64 i ∧ RowKit.Hid (firstPk l = firstPk (l.drop i)) ∧ Below w.heap.size w wr) (fun v _ => n - (intOf v).toNat)
  case atStart => exact ⟨0, by omega, rfl, Lib.hid rfl, Below.refl _ _⟩
  case round =>
    obtain ⟨i, hi, rfl, Hf, hbel⟩ := hrel
    by_cases hlt : i < n
    · have g1 : i < l.length := by rw [HN.out]; exact hlt
      obtain ⟨p, hp⟩ : ∃ p, l[i] = p := ⟨_, rfl⟩
      have hat : ∀ j v, p.cells[j]? = some v → (pksC l)[i * 12 + j]? = some v := fun j v hv => pksC_at g1 j v (by rw [hp]; exact hv)
      obtain ⟨ad, rfl, hbl, hcc⟩ := (HR.out.below hbel) (by rw [pksC_len]; omega)
      have hcx : ∀ j v, p.cells[j]? = some v → wr.cell? ((ad.add (i * 12)).add j) = some v := fun j v hv => by
        rw [Addr.add_add]; exact hcc _ _ (hat j v hv)
      have q0 : wr.cell? (ad.add (i * 12)) = some (.int .i64 p.k) := by
        have h := hcx 0 _ rfl
        rwa [Addr.add_add] at h
      have q1 : wr.cell? ⟨(ad.add (i * 12)).block, (ad.add (i * 12)).off + 1, none⟩ = some (.int .i64 p.c) := hcx 1 _ rfl
      have q2 : wr.cell? ⟨(ad.add (i * 12)).block, (ad.add (i * 12)).off + 2, none⟩ = some (.int .u8 p.d0) := hcx 2 _ rfl
      have q3 : wr.cell? ⟨(ad.add (i * 12)).block, (ad.add (i * 12)).off + 3, none⟩ = some (.int .u8 p.d1) := hcx 3 _ rfl
      have q4 : wr.cell? ⟨(ad.add (i * 12)).block, (ad.add (i * 12)).off + 4, none⟩ = some (.int .u8 p.d2) := hcx 4 _ rfl
      have q5 : wr.cell? ⟨(ad.add (i * 12)).block, (ad.add (i * 12)).off + 5, none⟩ = some (.int .u8 p.d3) := hcx 5 _ rfl
      have q6 : wr.cell? ⟨(ad.add (i * 12)).block, (ad.add (i * 12)).off + 6, none⟩ = some (.int .u8 p.d4) := hcx 6 _ rfl
      have q7 : wr.cell? ⟨(ad.add (i * 12)).block, (ad.add (i * 12)).off + 7, none⟩ = some (.int .u8 p.d5) := hcx 7 _ rfl
      have q8 : wr.cell? ⟨(ad.add (i * 12)).block, (ad.add (i * 12)).off + 8, none⟩ = some (.int .u8 p.d6) := hcx 8 _ rfl
      have q9 : wr.cell? ⟨(ad.add (i * 12)).block, (ad.add (i * 12)).off + 9, none⟩ = some (.int .u8 p.d7) := hcx 9 _ rfl
      have q10 : wr.cell? ⟨(ad.add (i * 12)).block, (ad.add (i * 12)).off + 10, none⟩ = some (.int .u8 p.d8) := hcx 10 _ rfl
      have q11 : wr.cell? ⟨(ad.add (i * 12)).block, (ad.add (i * 12)).off + 11, none⟩ = some (.int .u8 p.d9) := hcx 11 _ rfl
      have Hd := Lib.hid (show firstPk (l.drop i) = if p.err = 0 then firstPk (l.drop (i + 1)) else p.err by
        rw [List.drop_eq_getElem_cons g1, hp]; rfl)
      have HBel := Lib.hid hbel
      have z0 : ad.block < wr.heap.size := hbl
      clear hbel hcc hcx hat hp
      go_wp2_with fail
      refine (packetError_any _ _ _ _ _ _ _ _ _ _ _ _ _).mono ?_
      rintro e w1 ⟨rfl, hb1⟩
      have hb0 : Below wr.heap.size wr w1 := ((Below.refl _ _).alloc (Nat.le_refl _) _).trans (hb1.mono (by simp))
      have HB1 := Lib.hid (HBel.out.trans (hb0.mono HBel.out.size)); clear hb1 hb0
      obtain ⟨x, hx⟩ : ∃ x, pkErr p.k p.c = x := ⟨_, rfl⟩
      have hx' : p.err = x := hx
      rw [hx]
      rw [hx'] at Hd
      by_cases hz : x = 0
      · have hz' : (x != 0) = false := by simp [hz]
        have HZ := Lib.hid hz; clear hz hx hx'
        go_wp2
        go_roundw
        case rel => exact ⟨i + 1, by omega, by go_num, Lib.hid (by rw [Hf.out, Hd.out, if_pos HZ.out]), HB1.out⟩
        case measure => simp [intOf]; omega
      · have hz' : (x != 0) = true := by simp [hz]
        have HZ := Lib.hid hz; clear hz hx hx'
        go_wp2
        go_ret
        exact ⟨ret_int (by rw [Hf.out, Hd.out, if_neg HZ.out]), HB1.out⟩
    · have : i = n := by omega
      subst this
      go_wp2
      go_ret
      exact ⟨ret_int (by rw [Hf.out, List.drop_of_length_le (by rw [HN.out]; exact Nat.le_refl _)]; rfl), hbel⟩

end Go.Proofs.YtkjkjhheckfhbaaGreatDoor
