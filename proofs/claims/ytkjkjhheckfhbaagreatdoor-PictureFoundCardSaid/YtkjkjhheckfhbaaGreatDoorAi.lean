/- The packets and the spans of a stream, as lists; the packet at any place; a place behind any spans. -/
import Derived.Test.YtkjkjhheckfhbaaGreatDoorPF
import Derived.Test.YtkjkjhheckfhbaaGreatDoorPF
import Derived.Test.YtkjkjhheckfhbaaGreatDoorAh
namespace Go.Proofs.YtkjkjhheckfhbaaGreatDoor
open Go.RowKit
set_option linter.unusedVariables false
def pkOf (l : List U8) : Pk := ⟨(l.getD 1 u0).1, (l.getD 2 u0).1, (l.getD 3 u0).1, (l.getD 4 u0).1, (l.getD 5 u0).1, (l.getD 6 u0).1, (l.getD 7 u0).1, (l.getD 8 u0).1, (l.getD 9 u0).1, (l.getD 10 u0).1, (l.getD 11 u0).1, (l.getD 12 u0).1⟩
def pk0 : Pk := ⟨0, 0, 0, 0, 0, 0, 0, 0, 0, 0, 0, 0⟩
def pkOk (bs : List U8) (a : Nat) : Bool := decide (a + 16 ≤ bs.length) && goodB ((bs.drop a).take 16)
def pkAt (bs : List U8) (a : Nat) : Pk := if pkOk bs a = true then pkOf ((bs.drop a).take 16) else pk0
def Pk.val (p : Pk) : Value := .agg #[.int .i64 p.k, .int .i64 p.c, .int .u8 p.d0, .int .u8 p.d1, .int .u8 p.d2, .int .u8 p.d3, .int .u8 p.d4, .int .u8 p.d5, .int .u8 p.d6, .int .u8 p.d7, .int .u8 p.d8, .int .u8 p.d9]
theorem sixteen (l : List U8) (h : l.length = 16) : ∃ f0 f1 f2 f3 f4 f5 f6 f7 f8 f9 f10 f11 f12 f13 f14 f15 : U8, l = [f0, f1, f2, f3, f4, f5, f6, f7, f8, f9, f10, f11, f12, f13, f14, f15] := by
  match l, h with
  | [f0, f1, f2, f3, f4, f5, f6, f7, f8, f9, f10, f11, f12, f13, f14, f15], _ => exact ⟨f0, f1, f2, f3, f4, f5, f6, f7, f8, f9, f10, f11, f12, f13, f14, f15, rfl⟩
theorem packetAt_any (A : Option Addr) (bs : List U8) (cap at_ : Nat) (hn : bs.length ≤ 1000000) (hc : bs.length ≤ cap) (ha : at_ ≤ bs.length) (w : World) (hL : BRd w.heap.size w A bs) :
    Calls Tryz.prog 134 #[.slice A bs.length cap, .int .i64 at_] w fun e w' => e = .returned (.tuple #[(pkAt bs at_).val, .bool (pkOk bs at_)]) ∧ Below w.heap.size w w' := by
  by_cases h : at_ + 16 ≤ bs.length
  · obtain ⟨f0, f1, f2, f3, f4, f5, f6, f7, f8, f9, f10, f11, f12, f13, f14, f15, hl⟩ := sixteen ((bs.drop at_).take 16) (by simp; omega)
    refine (packetAt_full A bs cap at_ hn hc h f0 f1 f2 f3 f4 f5 f6 f7 f8 f9 f10 f11 f12 f13 f14 f15 hl w hL).mono ?_
    rintro e w' ⟨rfl, hb⟩
    refine ⟨?_, hb⟩
    have ho : pkOk bs at_ = goodB [f0, f1, f2, f3, f4, f5, f6, f7, f8, f9, f10, f11, f12, f13, f14, f15] := by
      unfold pkOk; rw [hl, decide_eq_true h, Bool.true_and]
    unfold pkAt
    rw [ho, hl]
    cases goodB [f0, f1, f2, f3, f4, f5, f6, f7, f8, f9, f10, f11, f12, f13, f14, f15] <;> rfl
  · refine (packetAt_short A bs.length cap at_ hn ha (by omega) w).mono ?_
    rintro e w' ⟨rfl, hb⟩
    refine ⟨?_, hb⟩
    have ho : pkOk bs at_ = false := by unfold pkOk; rw [decide_eq_false h, Bool.false_and]
    unfold pkAt
    rw [ho]; rfl
def addSpanR (at_ : Nat) (l : List (Int × Int)) : List (Int × Int) → List (Int × Int)
  | [] => [(↑at_, ↑at_ + 1)]
  | (a, b) :: r => if b = ↑at_ then r.reverse ++ [(a, ↑at_ + 1)] else l ++ [(↑at_, ↑at_ + 1)]
def addSpan (l : List (Int × Int)) (at_ : Nat) : List (Int × Int) := addSpanR at_ l l.reverse
theorem addSpanR_cons (at_ : Nat) (l : List (Int × Int)) (a b : Int) (r : List (Int × Int)) : addSpanR at_ l ((a, b) :: r) = if b = (↑at_ : Int) then r.reverse ++ [(a, (↑at_ : Int) + 1)] else l ++ [((↑at_ : Int), (↑at_ : Int) + 1)] := rfl
theorem addSpan_len (l : List (Int × Int)) (at_ : Nat) : (addSpan l at_).length ≤ l.length + 1 := by
  unfold addSpan
  obtain ⟨r, hr⟩ : ∃ r, l.reverse = r := ⟨_, rfl⟩
  have hl : l.length = r.length := by rw [← hr]; simp
  rw [hr]
  match r, hl with
  | [], _ => simp [addSpanR]
  | (a, b) :: r, hl =>
    rw [addSpanR_cons]
    by_cases h : b = (↑at_ : Int)
    · rw [if_pos h]; simp at hl ⊢; omega
    · rw [if_neg h]; simp
theorem addSpan_ne (l : List (Int × Int)) (at_ : Nat) : addSpan l at_ ≠ [] := by
  unfold addSpan
  match l.reverse with
  | [] => simp [addSpanR]
  | (a, b) :: r =>
    rw [addSpanR_cons]
    by_cases h : b = (↑at_ : Int)
    · rw [if_pos h]; simp
    · rw [if_neg h]; simp
theorem withPlace_any (B at_ : Nat) (v : Value) (l : List (Int × Int)) (hat : at_ ≤ 1000000) (hl : l.length ≤ 1000000) (hnil : l = [] → v = .slice none 0 0) (w : World) (hown : w.ownsRow B 47 2 v l.length (spansC l)) (hB : B ≤ w.heap.size) :
    Calls Tryz.prog 135 #[v, .int .i64 at_] w fun e w' => WPost B v (addSpan l at_).length (addSpan l at_) w e w' := by
  have hE : ∀ r, l.reverse = r → l = r.reverse := fun r hr => by rw [← hr, List.reverse_reverse]
  unfold addSpan
  obtain ⟨r, hr⟩ : ∃ r, l.reverse = r := ⟨_, rfl⟩
  rw [hr]
  have hlr := hE r hr
  clear hE hr
  match r, hlr with
  | [], hlr =>
    have hl0 : l = [] := by simpa using hlr
    rw [hnil hl0]
    exact withPlace_nil B at_ hat w hB
  | (a, b) :: r, hlr =>
    obtain ⟨l0, hl0⟩ : ∃ l0, r.reverse = l0 := ⟨_, rfl⟩
    have hl1 : l = l0 ++ [(a, b)] := by rw [hlr, List.reverse_cons, hl0]
    have hlen : l.length = l0.length + 1 := by rw [hl1]; simp
    rcases hown.2 with ⟨_, h0⟩ | ⟨g, cap, cur, hv, _⟩
    · omega
    · rw [hv, hl1] at hown
      rw [hv]
      rw [addSpanR_cons, hl0]
      have e1 : (l0 ++ [(a, b)]).length = l0.length + 1 := by simp
      rw [e1] at hown
      rw [hlen]
      by_cases hb : b = (↑at_ : Int)
      · rw [if_pos hb]
        rw [hb] at hown
        have := withPlace_up B at_ g cap l0 a hat (by omega) w hown hB
        rw [show (l0 ++ [(a, (↑at_ : Int) + 1)]).length = l0.length + 1 from by simp]
        exact this
      · rw [if_neg hb]
        have := withPlace_app B at_ g cap l0 a b hat (by omega) hb w hown hB
        rw [hl1, show ((l0 ++ [(a, b)]) ++ [((↑at_ : Int), (↑at_ : Int) + 1)]).length = l0.length + 2 from by simp]
        exact this
structure Rc where
  pk : List Pk
  sk : List (Int × Int)
  nx : Nat
def rstep (bs : List U8) (s : Rc) (a : Nat) : Rc := if a < s.nx then s else if pkOk bs a = true then ⟨s.pk ++ [pkAt bs a], s.sk, a + 16⟩ else ⟨s.pk, addSpan s.sk a, s.nx⟩
def rfold (bs : List U8) (pre : List Nat) : Rc := pre.foldl (rstep bs) ⟨[], [], 0⟩
theorem rfold_snoc (bs : List U8) (pre : List Nat) (x : Nat) : rfold bs (pre ++ [x]) = rstep bs (rfold bs pre) x := by
  unfold rfold; rw [List.foldl_append]; rfl
theorem rstep_len (bs : List U8) (s : Rc) (a : Nat) : (rstep bs s a).pk.length ≤ s.pk.length + 1 ∧ (rstep bs s a).sk.length ≤ s.sk.length + 1 := by
  unfold rstep
  split
  · exact ⟨by omega, by omega⟩
  · split
    · exact ⟨by simp, by simp⟩
    · exact ⟨by simp, addSpan_len _ _⟩
theorem rfold_len' (bs : List U8) (pre : List Nat) : ∀ s : Rc, (pre.foldl (rstep bs) s).pk.length ≤ s.pk.length + pre.length ∧ (pre.foldl (rstep bs) s).sk.length ≤ s.sk.length + pre.length := by
  induction pre with
  | nil => intro s; simp
  | cons x pre ih =>
    intro s
    have h := ih (rstep bs s x)
    have h2 := rstep_len bs s x
    simp only [List.foldl_cons, List.length_cons]
    omega
theorem rfold_len (bs : List U8) (pre : List Nat) : (rfold bs pre).pk.length ≤ pre.length ∧ (rfold bs pre).sk.length ≤ pre.length := by
  have h := rfold_len' bs pre ⟨[], [], 0⟩
  unfold rfold
  simp only [List.length_nil, Nat.zero_add] at h
  exact h

end Go.Proofs.YtkjkjhheckfhbaaGreatDoor
