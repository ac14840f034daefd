/- Parts of a proof: The packets and the spans of a stream, as lists; the packet at any place; a place behind any spans. The reference's check of bytes. The packets that are received. What is kept while packets are received. The packets that are received. Two packets compared. The counters that are lost, as lists. -/
import Derived.Test.YthbdiifinkbcnaaGreatDoorT9
import Derived.Test.YthbdiifinkbcnaaGreatDoorT5
import Derived.RangeFuncOwn
import Derived.RangeFuncBox
import Derived.Maps.AppendAt
import Derived.Maps.OwnIn
import Derived.Test.YthbdiifinkbcnaaGreatDoorT8
namespace Go.Proofs.YthbdiifinkbcnaaGreatDoor
open Go.RowKit
set_option linter.unusedVariables false
def pkOf (l : List U8) : Pk := ⟨(l.getD 1 u0).1, (l.getD 2 u0).1, (l.getD 3 u0).1, (l.getD 4 u0).1, (l.getD 5 u0).1, (l.getD 6 u0).1, (l.getD 7 u0).1, (l.getD 8 u0).1, (l.getD 9 u0).1, (l.getD 10 u0).1, (l.getD 11 u0).1, (l.getD 12 u0).1⟩
def pk0 : Pk := ⟨0, 0, 0, 0, 0, 0, 0, 0, 0, 0, 0, 0⟩
def pkOk (bs : List U8) (a : Nat) : Bool := decide (a + 16 ≤ bs.length) && goodB ((bs.drop a).take 16)
def pkAt (bs : List U8) (a : Nat) : Pk := if pkOk bs a = true then pkOf ((bs.drop a).take 16) else pk0
def Pk.val (p : Pk) : Value := .agg #[.int .i64 p.k, .int .i64 p.c, .int .u8 p.d0, .int .u8 p.d1, .int .u8 p.d2, .int .u8 p.d3, .int .u8 p.d4, .int .u8 p.d5, .int .u8 p.d6, .int .u8 p.d7, .int .u8 p.d8, .int .u8 p.d9]
theorem sixteen (l : List U8) (h : l.length = 16) : ∃ f0 f1 f2 f3 f4 f5 f6 f7 f8 f9 f10 f11 f12 f13 f14 f15 : U8, l = [f0, f1, f2, f3, f4, f5, f6, f7, f8, f9, f10, f11, f12, f13, f14, f15] := by
  match l, h with
  | [f0, f1, f2, f3, f4, f5, f6, f7, f8, f9, f10, f11, f12, f13, f14, f15], _ => exact ⟨f0, f1, f2, f3, f4, f5, f6, f7, f8, f9, f10, f11, f12, f13, f14, f15, rfl⟩
theorem packetAt_any (A : Option Addr) (bs : List U8) (cap at_ : Nat) (hn : bs.length ≤ 1000000) (hc : bs.length ≤ cap) (ha : at_ ≤ bs.length) (w : World) (hL : BRd w.heap.size w A bs) :
    Calls Tryz.prog 131 #[.slice A bs.length cap, .int .i64 at_] w fun e w' => e = .returned (.tuple #[(pkAt bs at_).val, .bool (pkOk bs at_)]) ∧ Below w.heap.size w w' := by
  by_cases h : at_ + 16 ≤ bs.length
  · obtain ⟨f0, f1, f2, f3, f4, f5, f6, f7, f8, f9, f10, f11, f12, f13, f14, f15, hl⟩ := sixteen ((bs.drop at_).take 16) (by simp; omega)
    refine (packetAt_full A bs cap at_ hn hc h f0 f1 f2 f3 f4 f5 f6 f7 f8 f9 f10 f11 f12 f13 f14 f15 hl w hL).mono ?_
    rintro e w' ⟨rfl, hb⟩
    refine ⟨?_, hb⟩
    have ho : pkOk bs at_ = goodB [f0, f1, f2, f3, f4, f5, f6, f7, f8, f9, f10, f11, f12, f13, f14, f15] := by
      unfold pkOk; rw [hl, decide_eq_true h, Bool.true_and]
    unfold pkAt
    rw [ho, hl]
    cases goodB [f0, f1, f2, f3, f4, f5, f6, f7, f8, f9, f10, f11, f12, f13, f14, f15] <;> rfl
  · refine (packetAt_short A bs.length cap at_ hn ha (by omega) w).mono ?_
    rintro e w' ⟨rfl, hb⟩
    refine ⟨?_, hb⟩
    have ho : pkOk bs at_ = false := by unfold pkOk; rw [decide_eq_false h, Bool.false_and]
    unfold pkAt
    rw [ho]; rfl
def addSpanR (at_ : Nat) (l : List (Int × Int)) : List (Int × Int) → List (Int × Int)
  | [] => [(↑at_, ↑at_ + 1)]
  | (a, b) :: r => if b = ↑at_ then r.reverse ++ [(a, ↑at_ + 1)] else l ++ [(↑at_, ↑at_ + 1)]
def addSpan (l : List (Int × Int)) (at_ : Nat) : List (Int × Int) := addSpanR at_ l l.reverse
theorem addSpanR_cons (at_ : Nat) (l : List (Int × Int)) (a b : Int) (r : List (Int × Int)) : addSpanR at_ l ((a, b) :: r) = if b = (↑at_ : Int) then r.reverse ++ [(a, (↑at_ : Int) + 1)] else l ++ [((↑at_ : Int), (↑at_ : Int) + 1)] := rfl
theorem addSpan_len (l : List (Int × Int)) (at_ : Nat) : (addSpan l at_).length ≤ l.length + 1 := by
  unfold addSpan
  obtain ⟨r, hr⟩ : ∃ r, l.reverse = r := ⟨_, rfl⟩
  have hl : l.length = r.length := by rw [← hr]; simp
  rw [hr]
  match r, hl with
  | [], _ => simp [addSpanR]
  | (a, b) :: r, hl =>
    rw [addSpanR_cons]
    by_cases h : b = (↑at_ : Int)
    · rw [if_pos h]; simp at hl ⊢; omega
    · rw [if_neg h]; simp
theorem addSpan_ne (l : List (Int × Int)) (at_ : Nat) : addSpan l at_ ≠ [] := by
  unfold addSpan
  match l.reverse with
  | [] => simp [addSpanR]
  | (a, b) :: r =>
    rw [addSpanR_cons]
    by_cases h : b = (↑at_ : Int)
    · rw [if_pos h]; simp
    · rw [if_neg h]; simp
theorem withPlace_any (B at_ : Nat) (v : Value) (l : List (Int × Int)) (hat : at_ ≤ 1000000) (hl : l.length ≤ 1000000) (hnil : l = [] → v = .slice none 0 0) (w : World) (hown : w.ownsRow B 47 2 v l.length (spansC l)) (hB : B ≤ w.heap.size) :
    Calls Tryz.prog 132 #[v, .int .i64 at_] w fun e w' => WPost B v (addSpan l at_).length (addSpan l at_) w e w' := by
  have hE : ∀ r, l.reverse = r → l = r.reverse := fun r hr => by rw [← hr, List.reverse_reverse]
  unfold addSpan
  obtain ⟨r, hr⟩ : ∃ r, l.reverse = r := ⟨_, rfl⟩
  rw [hr]
  have hlr := hE r hr
  clear hE hr
  match r, hlr with
  | [], hlr =>
    have hl0 : l = [] := by simpa using hlr
    rw [hnil hl0]
    exact withPlace_nil B at_ hat w hB
  | (a, b) :: r, hlr =>
    obtain ⟨l0, hl0⟩ : ∃ l0, r.reverse = l0 := ⟨_, rfl⟩
    have hl1 : l = l0 ++ [(a, b)] := by rw [hlr, List.reverse_cons, hl0]
    have hlen : l.length = l0.length + 1 := by rw [hl1]; simp
    rcases hown.2 with ⟨_, h0⟩ | ⟨g, cap, cur, hv, _⟩
    · omega
    · rw [hv, hl1] at hown
      rw [hv]
      rw [addSpanR_cons, hl0]
      have e1 : (l0 ++ [(a, b)]).length = l0.length + 1 := by simp
      rw [e1] at hown
      rw [hlen]
      by_cases hb : b = (↑at_ : Int)
      · rw [if_pos hb]
        rw [hb] at hown
        have := withPlace_up B at_ g cap l0 a hat (by omega) w hown hB
        rw [show (l0 ++ [(a, (↑at_ : Int) + 1)]).length = l0.length + 1 from by simp]
        exact this
      · rw [if_neg hb]
        have := withPlace_app B at_ g cap l0 a b hat (by omega) hb w hown hB
        rw [hl1, show ((l0 ++ [(a, b)]) ++ [((↑at_ : Int), (↑at_ : Int) + 1)]).length = l0.length + 2 from by simp]
        exact this
structure Rc where
  pk : List Pk
  sk : List (Int × Int)
  nx : Nat
def rstep (bs : List U8) (s : Rc) (a : Nat) : Rc := if a < s.nx then s else if pkOk bs a = true then ⟨s.pk ++ [pkAt bs a], s.sk, a + 16⟩ else ⟨s.pk, addSpan s.sk a, s.nx⟩
def rfold (bs : List U8) (pre : List Nat) : Rc := pre.foldl (rstep bs) ⟨[], [], 0⟩
theorem rfold_snoc (bs : List U8) (pre : List Nat) (x : Nat) : rfold bs (pre ++ [x]) = rstep bs (rfold bs pre) x := by
  unfold rfold; rw [List.foldl_append]; rfl
theorem rstep_len (bs : List U8) (s : Rc) (a : Nat) : (rstep bs s a).pk.length ≤ s.pk.length + 1 ∧ (rstep bs s a).sk.length ≤ s.sk.length + 1 := by
  unfold rstep
  split
  · exact ⟨by omega, by omega⟩
  · split
    · exact ⟨by simp, by simp⟩
    · exact ⟨by simp, addSpan_len _ _⟩
theorem rfold_len' (bs : List U8) (pre : List Nat) : ∀ s : Rc, (pre.foldl (rstep bs) s).pk.length ≤ s.pk.length + pre.length ∧ (pre.foldl (rstep bs) s).sk.length ≤ s.sk.length + pre.length := by
  induction pre with
  | nil => intro s; simp
  | cons x pre ih =>
    intro s
    have h := ih (rstep bs s x)
    have h2 := rstep_len bs s x
    simp only [List.foldl_cons, List.length_cons]
    omega
theorem rfold_len (bs : List U8) (pre : List Nat) : (rfold bs pre).pk.length ≤ pre.length ∧ (rfold bs pre).sk.length ≤ pre.length := by
  have h := rfold_len' bs pre ⟨[], [], 0⟩
  unfold rfold
  simp only [List.length_nil, Nat.zero_add] at h
  exact h

end Go.Proofs.YthbdiifinkbcnaaGreatDoor
namespace Go.Proofs.YthbdiifinkbcnaaGreatDoor
open Go.RowKit
set_option linter.unusedVariables false
theorem rollF_take (fa mo : Int) (bs : List U8) (k : Nat) (h : k < bs.length) (x : Int) : rollF fa mo (bs.take (k + 1)) x = (fa * rollF fa mo (bs.take k) x + (bs.getD k u0).1) % mo := by
  rw [List.take_succ_eq_append_getElem h, rollF_snoc]
  simp [List.getD, h]
set_option maxRecDepth 100000 in
theorem rolledRef_any (A : Option Addr) (cap : Nat) (bs : List U8) (fa mo : Int) (hfa : 1 ≤ fa ∧ fa ≤ 1000) (hmo : 2 ≤ mo ∧ mo ≤ 100000000) (hlen : bs.length ≤ 140737488351232) (w : World) (hL : BRd w.heap.size w A bs) :
    Calls Tryz.prog 160 #[.slice A bs.length cap, .int .i64 fa, .int .i64 mo] w fun e W' => e = .returned (.int .i64 (rollF fa mo bs 1)) ∧ w = W' := by
  have HL := Lib.hid hL; clear hL
  obtain ⟨n, hn⟩ : ∃ n, bs.length = n := ⟨_, rfl⟩
  have HN := Lib.hid hn
  rw [hn] at hlen ⊢
  clear hn
  go_enter Tryz.func160, Tryz.ntmps160
  go_wp2
  go_loop [7, 8] (fun x i => ∃ k : Nat, k ≤ n ∧ i = .int .i64 k ∧ x = .int .i64 (rollF fa mo (bs.take k) 1)) (fun _ i => n - (intOf i).toNat)
  case atStart => exact ⟨0, Nat.zero_le _, rfl, rfl⟩
  case round =>
    obtain ⟨k, hk, rfl, rfl⟩ := hrel
    by_cases hlt : k < n
    · have g : k < bs.length := by rw [HN.out]; exact hlt
      obtain ⟨ad, rfl, hbl, hcc⟩ := HL.out (by omega)
      have hc := hcc k g
      obtain ⟨v, hv⟩ : ∃ v, bs.getD k u0 = v := ⟨_, rfl⟩
      rw [hv] at hc
      obtain ⟨X, hX⟩ : ∃ X, rollF fa mo (bs.take k) 1 = X := ⟨_, rfl⟩
      have hXb := rollF_bd fa mo hmo.1 (bs.take k) 1 (by omega)
      rw [hX] at hXb ⊢
      obtain ⟨P, hP⟩ : ∃ P, fa * X = P := ⟨_, rfl⟩
      have hPb : 0 ≤ P ∧ P ≤ 100000000000 := by
        rw [← hP]
        have h1 := Int.mul_nonneg (a := fa) (b := X) (by omega) (by omega)
        have h2 : fa * X ≤ 1000 * 100000000 := Int.mul_le_mul hfa.2 (by omega) (by omega) (by omega)
        omega
      have hxb := v.2
      obtain ⟨y, hy⟩ : ∃ y : Int, v.1 = y := ⟨_, rfl⟩
      rw [hy] at hxb hc
      have HS : RowKit.Hid (rollF fa mo (bs.take (k + 1)) 1 = (P + y) % mo) := Lib.hid (by rw [rollF_take fa mo bs k g, hX, hP, hv, hy])
      clear hX hy hv hcc
      go_wp2
      go_round
      case rel => exact ⟨k + 1, by omega, by go_num, by rw [HS.out]⟩
      case measure => simp [intOf]; omega
    · have hkn : k = n := by omega
      subst hkn
      go_wp2
      go_ret
      exact ⟨ret_int (by rw [List.take_of_length_le (by rw [HN.out]; exact Nat.le_refl _)]), rfl⟩
theorem checkRef_any (A : Option Addr) (cap : Nat) (bs : List U8) (hlen : bs.length ≤ 140737488351232) (w : World) (hL : BRd w.heap.size w A bs) :
    Calls Tryz.prog 93 #[.slice A bs.length cap] w fun e W' => e = .returned (.int .i64 (rollF 251 65521 bs 1)) ∧ w = W' := by
  go_enter Tryz.func93, Tryz.ntmps93
  go_wp2_with (go_at_call 160; refine (rolledRef_any A cap bs 251 65521 (by omega) (by omega) hlen _ hL).mono ?_; rintro e w' ⟨rfl, rfl⟩)
  go_ret
  exact ⟨rfl, rfl⟩

end Go.Proofs.YthbdiifinkbcnaaGreatDoor
namespace Go.Proofs.YthbdiifinkbcnaaGreatDoor
open Go.RowKit
set_option linter.unusedVariables false
open Go.Shelf
attribute [local go_sem] Oper.semAt_some
abbrev Pos (bs : List U8) := { i : Nat // i < bs.length }
def posV {bs : List U8} (l : List (Pos bs)) : List Nat := l.map (·.1)
theorem posV_snoc {bs : List U8} (l : List (Pos bs)) (x : Pos bs) : posV (l ++ [x]) = posV l ++ [x.1] := by simp [posV]
set_option maxRecDepth 100000 in
set_option maxHeartbeats 2000000 in
theorem visited1_pos (F : Fence) (n : Nat) (h8 : F.fn 170) (hro : F.round = none) (hn : 1 ≤ n) (l Bs n₀ cap : Nat) (A : Option Addr) (bs : List U8) (hreach : bs.length ≤ 140737488351232) (J Jx : List (Pos bs) → World → Prop)
    (hY : ∀ pre x W, J pre W → pre.length < bs.length → YieldAt F (n - 1) Tryz.prog l #[.int .i64 (x.1 : Int), .int .u8 (bs.getD x.1 u0).1] W fun e W' =>
      (e = .returned (.bool true) ∧ J (pre ++ [x]) W' ∧ Below n₀ W W') ∨ (e = .returned (.bool false) ∧ Jx (pre ++ [x]) W'))
    (W : World) (hBs : W.cell? ⟨Bs, 0, none⟩ = some (.slice A bs.length cap)) (hc : BRd n₀ W A bs) (h0 : J [] W) :
    CallsIn F n Tryz.prog 170 #[.func (.yield l) #[] #[], .pointer (some ⟨Bs, 0, none⟩)] W fun e W' => (∃ v, e = .returned v) ∧
      ((∃ ys, posV ys = List.range bs.length ∧ J ys W') ∨ (∃ pre, Jx pre W')) := by
  have HC := Lib.hid hc; clear hc
  refine callsIn_of_wp Tryz.func170 rfl h8 ?_ hro
  simp only [Tryz.ntmps170, List.size_toArray, List.length_cons, List.length_nil, Nat.reduceAdd, Nat.reduceSub, Array.replicate_succ, Array.replicate_zero, List.push_toArray, List.append_toArray, List.nil_append, List.cons_append]
  gi_wp2
  gi_loopw [7] (fun i wr => ∃ k : Nat, k ≤ bs.length ∧ i = .int .i64 k ∧ (∃ ys : List (Pos bs), RowKit.Hid (posV ys = List.range k) ∧ J ys wr) ∧ Below n₀ W wr)
    (fun i _ => bs.length - (intOf i).toNat)
  case atStart => exact ⟨0, Nat.zero_le _, rfl, ⟨[], Lib.hid rfl, h0⟩, Below.refl _ _⟩
  case round =>
    obtain ⟨k, hk, rfl, ⟨ys, hys, hJs⟩, hnx⟩ := hrel
    by_cases hlt : k < bs.length
    · obtain ⟨ad, rfl, hbl, hcc⟩ := HC.out (by omega)
      have hcx' : wr.cell? (ad.add k) = some (.int .u8 (bs.getD k u0).1) := (hnx.cell (by rw [block_of_add]; exact hbl)).trans (hcc k hlt)
      have hyl : ys.length < bs.length := by
        have h := congrArg List.length hys.out
        simp [posV] at h; omega
      obtain ⟨fn, tmps, assign, body, hy, hR⟩ := hY ys ⟨k, hlt⟩ wr hJs hyl
      dsimp only at hy
      obtain ⟨v, hv⟩ : ∃ v, bs.getD k u0 = v := ⟨_, rfl⟩
      rw [hv] at hcx' hy
      clear hcc hv hyl
      gi_wp2
      refine hR.mono ?_
      rintro e W3 (⟨rfl, hJ3, hk3⟩ | ⟨rfl, hJx3⟩)
      · gi_wp2
        go_roundw
        case rel => exact ⟨k + 1, by omega, by simp, ⟨_, Lib.hid (by rw [posV_snoc, hys.out, List.range_succ]), hJ3⟩, hnx.trans hk3⟩
        case measure => simp [intOf]; omega
      · gi_wp2
        refine bodyPost_ret (results_none rfl _ _ _) rfl ?_
        exact ⟨⟨_, rfl⟩, .inr ⟨_, hJx3⟩⟩
    · obtain rfl : k = bs.length := by omega
      gi_wp2
      go_end0
      exact ⟨⟨_, rfl⟩, .inl ⟨_, hys.out, hJs⟩⟩
theorem visited_pos (F : Fence) (n : Nat) (h8 : F.fn 170) (hro : F.round = none) (hn : 1 ≤ n) (Bs n₀ cap : Nat) (A : Option Addr) (bs : List U8) (hreach : bs.length ≤ 140737488351232) (w : World) (hBs : Bs < w.heap.size) (hn₀ : n₀ ≤ w.heap.size)
    (hc : w.cell? ⟨Bs, 0, none⟩ = some (.slice A bs.length cap)) (hI : BRd n₀ w A bs) :
    SeqStopsK F n Tryz.prog 170 #[.pointer (some ⟨Bs, 0, none⟩)] (fun x : Pos bs => #[Value.int .i64 (x.1 : Int), Value.int .u8 (bs.getD x.1 u0).1]) (Below n₀) (fun ys => posV ys = List.range bs.length) (fun pre => True) bs.length w := fun l J Jx W hW _ _ hY h0 => by
  have hc' := (hW.cell (p := ⟨Bs, 0, none⟩) hBs).trans hc
  refine (visited1_pos F n h8 hro hn l Bs n₀ cap A bs hreach J Jx hY W hc' (hI.below (hW.mono hn₀)) h0).mono ?_
  rintro e W' ⟨he, ⟨ys, hy, hj⟩ | ⟨pre, hj⟩⟩
  · exact ⟨he, .inl ⟨_, hy, hj⟩⟩
  · exact ⟨he, .inr ⟨_, trivial, hj⟩⟩

end Go.Proofs.YthbdiifinkbcnaaGreatDoor
namespace Go.Proofs.YthbdiifinkbcnaaGreatDoor
open Go.RowKit
set_option linter.unusedVariables false
theorem owns_below {w w' : World} {B : Nat} {e : TypeId} {size : Nat} {v : Value} {n : Nat} {xs : List Value} (h : w.ownsRow B e size v n xs) (hb : Below w.heap.size w w') : w'.ownsRow B e size v n xs := by
  obtain ⟨h1, h2⟩ := h
  refine ⟨h1, ?_⟩
  rcases h2 with h2 | ⟨g, cap, cur, rfl, hg, hc, h3⟩
  · exact .inl h2
  · exact .inr ⟨g, cap, cur, rfl, hg, (hb.block g (Array.getElem?_eq_some_iff.1 hc).1).trans hc, h3⟩
theorem owns_kept {W W' : World} {row : Option Nat} {B : Nat} {e : TypeId} {size : Nat} {v : Value} {n : Nat} {xs : List Value} (h : W.ownsRow B e size v n xs) (hg : W.grownBy W' row) (hr : ∀ r, row = some r → ∃ o : Obj, W.heap[r]? = some o ∧ o.isCells = false) : W'.ownsRow B e size v n xs := by
  obtain ⟨h1, h2⟩ := h
  refine ⟨h1, ?_⟩
  rcases h2 with h2 | ⟨g, cap, cur, rfl, hb, hc, h3⟩
  · exact .inl h2
  · refine .inr ⟨g, cap, cur, rfl, hb, (hg.block g (Array.getElem?_eq_some_iff.1 hc).1 (fun e' => ?_)).trans hc, h3⟩
    obtain ⟨o, ho, hcs⟩ := hr g e'.symm
    rw [hc] at ho; cases ho; cases hcs
theorem owns_far {W : World} {B : Nat} {e : TypeId} {size : Nat} {v : Value} {n : Nat} {xs : List Value} (h : W.ownsRow B e size v n xs) {p : Addr} (hp : p.block < B) (u : Value) : (W.setCell p u).ownsRow B e size v n xs := by
  obtain ⟨h1, h2⟩ := h
  refine ⟨h1, ?_⟩
  rcases h2 with h2 | ⟨g, cap, cur, rfl, hb, hc, h3⟩
  · exact .inl h2
  · exact .inr ⟨g, cap, cur, rfl, hb, (Below.heap_setCell W p u g (by omega)).trans hc, h3⟩
theorem owns_block {W : World} {B : Nat} {e : TypeId} {size : Nat} {v : Value} {n : Nat} {xs : List Value} (h : W.ownsRow B e size v n xs) : ∀ g, v.ownBlock = some g → B ≤ g ∧ g < W.heap.size ∧ ∀ o, W.heap[g]? = some o → o.isCells = true := fun g hg => by
  rcases h.2 with ⟨rfl, _⟩ | ⟨g', cap, cur, rfl, hb, hc, _⟩
  · cases hg
  · cases hg
    exact ⟨hb, (Array.getElem?_eq_some_iff.1 hc).1, fun o ho => by rw [hc] at ho; cases ho; rfl⟩
theorem own_shape {W : World} {B : Nat} {e : TypeId} {size : Nat} {v : Value} {n : Nat} {xs : List Value} (h : W.ownsRow B e size v n xs) : ∃ A c, v = .slice A n c := by
  rcases h.2 with ⟨rfl, h0⟩ | ⟨g, cap, cur, rfl, _⟩
  · exact ⟨none, 0, by rw [h0]⟩
  · exact ⟨_, _, rfl⟩
theorem blk_grown {W W' : World} {row : Option Nat} {g : Nat} {t : TypeId} {cs : Array Value} (h : Blk W g t cs) (hg : W.grownBy W' row) (hne : row ≠ some g) : Blk W' g t cs :=
  (hg.block g h.lt (fun e => hne e.symm)).trans h
theorem keeps_below {W W' : World} (h : Below W.heap.size W W') : KeepsOthers W W' := ⟨h.size, fun k o hk _ => (h.block k (Array.getElem?_eq_some_iff.1 hk).1).trans hk⟩
structure RP (n : Nat) (s0 v1 v2 : Value) (pk : List Pk) (sk : List (Int × Int)) (nx : Nat) (W : World) : Prop where
  b0 : Blk W n 106 #[s0]
  b1 : Blk W (n + 1) 96 #[v1]
  b2 : Blk W (n + 1 + 1) 107 #[v2]
  b3 : Blk W (n + 1 + 1 + 1) 3 #[.int .i64 nx]
  o1 : W.ownsRow (n + 4) 92 12 v1 pk.length (pksC pk)
  o2 : W.ownsRow (n + 4) 47 2 v2 sk.length (spansC sk)
  nil : sk = [] → v2 = .slice none 0 0
  ne : v1.ownBlock = none ∨ v1.ownBlock ≠ v2.ownBlock
section
variable {n : Nat} {s0 v1 v2 : Value} {pk : List Pk} {sk : List (Int × Int)} {nx : Nat} {W W' : World}
theorem RP.below (h : RP n s0 v1 v2 pk sk nx W) (hb : Below W.heap.size W W') : RP n s0 v1 v2 pk sk nx W' :=
  ⟨h.b0.below hb, h.b1.below hb, h.b2.below hb, h.b3.below hb, owns_below h.o1 hb, owns_below h.o2 hb, h.nil, h.ne⟩
theorem RP.keep {row : Option Nat} (h : RP n s0 v1 v2 pk sk nx W) (hg : W.grownBy W' row) (hr : ∀ r, row = some r → ∃ o : Obj, W.heap[r]? = some o ∧ o.isCells = false) : RP n s0 v1 v2 pk sk nx W' := by
  have hne : ∀ {g t cs}, Blk W g t cs → row ≠ some g := fun {g t cs} hb e => by
    obtain ⟨o, ho, hc⟩ := hr g e
    unfold Blk at hb; rw [hb] at ho; cases ho; cases hc
  exact ⟨blk_grown h.b0 hg (hne h.b0), blk_grown h.b1 hg (hne h.b1), blk_grown h.b2 hg (hne h.b2), blk_grown h.b3 hg (hne h.b3), owns_kept h.o1 hg hr, owns_kept h.o2 hg hr, h.nil, h.ne⟩
theorem RP.app {pk' : List Pk} {v1' : Value} (h : RP n s0 v1 v2 pk sk nx W) (ho : W'.ownsRow (n + 4) 92 12 v1' pk'.length (pksC pk')) (hg : W.grownBy W' v1.ownBlock) (ha : v1'.ownBlock = v1.ownBlock ∨ ∃ h, W.heap.size ≤ h ∧ v1'.ownBlock = some h) :
    RP n s0 v1' v2 pk' sk nx (W'.setCell ⟨n + 1, 0, none⟩ v1') := by
  have hb := owns_block h.o1
  have hb2 := owns_block h.o2
  have hne : ∀ g, g < n + 4 → v1.ownBlock ≠ some g := fun g hl e => by have := (hb g e).1; omega
  have hv2 : v2.ownBlock = none ∨ v2.ownBlock ≠ v1.ownBlock := by
    rcases h.ne with e | e
    · rw [e]; cases hv : v2.ownBlock <;> simp
    · exact .inr (Ne.symm e)
  refine ⟨(blk_grown h.b0 hg (hne _ (by omega))).far (p := ⟨n + 1, 0, none⟩) (by dsimp only; omega) _, ?_, (blk_grown h.b2 hg (hne _ (by omega))).far (p := ⟨n + 1, 0, none⟩) (by dsimp only; omega) _, (blk_grown h.b3 hg (hne _ (by omega))).far (p := ⟨n + 1, 0, none⟩) (by dsimp only; omega) _, owns_far ho (by dsimp only; omega) _, owns_far (h.o2.kept hg hv2) (by dsimp only; omega) _, h.nil, ?_⟩
  · simpa using (blk_grown h.b1 hg (hne _ (by omega))).set_ 0 v1'
  · rcases ha with e | ⟨g, hge, e⟩
    · rw [e]; exact h.ne
    · right; rw [e]; intro e2
      have := (hb2 g e2.symm).2.1
      omega
theorem RP.app2 {sk' : List (Int × Int)} {v2' : Value} (h : RP n s0 v1 v2 pk sk nx W) (ho : W'.ownsRow (n + 4) 47 2 v2' sk'.length (spansC sk')) (hs : sk' ≠ []) (hg : W.grownBy W' v2.ownBlock) (ha : v2'.ownBlock = v2.ownBlock ∨ ∃ h, W.heap.size ≤ h ∧ v2'.ownBlock = some h) :
    RP n s0 v1 v2' pk sk' nx (W'.setCell ⟨n + 1 + 1, 0, none⟩ v2') := by
  have hb := owns_block h.o2
  have hb1 := owns_block h.o1
  have hne : ∀ g, g < n + 4 → v2.ownBlock ≠ some g := fun g hl e => by have := (hb g e).1; omega
  refine ⟨(blk_grown h.b0 hg (hne _ (by omega))).far (p := ⟨n + 1 + 1, 0, none⟩) (by dsimp only; omega) _, (blk_grown h.b1 hg (hne _ (by omega))).far (p := ⟨n + 1 + 1, 0, none⟩) (by dsimp only; omega) _, ?_, (blk_grown h.b3 hg (hne _ (by omega))).far (p := ⟨n + 1 + 1, 0, none⟩) (by dsimp only; omega) _, owns_far (h.o1.kept hg h.ne) (by dsimp only; omega) _, owns_far ho (by dsimp only; omega) _, fun e => absurd e hs, ?_⟩
  · simpa using (blk_grown h.b2 hg (hne _ (by omega))).set_ 0 v2'
  · rcases ha with e | ⟨g, hge, e⟩
    · rw [e]; exact h.ne
    · cases hv : v1.ownBlock with
      | none => exact .inl rfl
      | some k =>
        right; rw [e]; intro e2
        cases e2
        have := (hb1 g hv).2.1
        omega
theorem RP.box1 (h : RP n s0 v1 v2 pk sk nx W) (hg : W.grownBy W' v1.ownBlock) : Blk W' (n + 1) 96 #[v1] ∧ Blk W' (n + 1 + 1 + 1) 3 #[.int .i64 nx] := by
  have hb := owns_block h.o1
  have hne : ∀ g, g < n + 4 → v1.ownBlock ≠ some g := fun g hl e => by have := (hb g e).1; omega
  exact ⟨blk_grown h.b1 hg (hne _ (by omega)), blk_grown h.b3 hg (hne _ (by omega))⟩
theorem RP.box2 (h : RP n s0 v1 v2 pk sk nx W) (hg : W.grownBy W' v2.ownBlock) : Blk W' (n + 1 + 1) 107 #[v2] := by
  have hb := owns_block h.o2
  have hne : ∀ g, g < n + 4 → v2.ownBlock ≠ some g := fun g hl e => by have := (hb g e).1; omega
  exact blk_grown h.b2 hg (hne _ (by omega))
theorem RP.keeps1 (h : RP n s0 v1 v2 pk sk nx W) (hg : W.grownBy W' v1.ownBlock) : KeepsOthers W W' := KeepsOthers.of_grownBy hg (fun j o hj ho => (owns_block h.o1 j hj).2.2 o ho)
theorem RP.keeps2 (h : RP n s0 v1 v2 pk sk nx W) (hg : W.grownBy W' v2.ownBlock) : KeepsOthers W W' := KeepsOthers.of_grownBy hg (fun j o hj ho => (owns_block h.o2 j hj).2.2 o ho)
theorem RP.below1 {w : World} {B : Nat} (h : RP n s0 v1 v2 pk sk nx W) (hB : Below B w W) (hn : B ≤ n) (hw : B ≤ W.heap.size) (hg : W.grownBy W' v1.ownBlock) : Below B w W' := hB.grown hg hw (fun k hk => by have := (owns_block h.o1 k hk).1; omega)
theorem RP.below2 {w : World} {B : Nat} (h : RP n s0 v1 v2 pk sk nx W) (hB : Below B w W) (hn : B ≤ n) (hw : B ≤ W.heap.size) (hg : W.grownBy W' v2.ownBlock) : Below B w W' := hB.grown hg hw (fun k hk => by have := (owns_block h.o2 k hk).1; omega)
theorem RP.next {nx' : Nat} (h : RP n s0 v1 v2 pk sk nx W) : RP n s0 v1 v2 pk sk nx' (W.setCell ⟨n + 1 + 1 + 1, 0, none⟩ (.int .i64 nx')) :=
  ⟨h.b0.far (p := ⟨n + 1 + 1 + 1, 0, none⟩) (by dsimp only; omega) _, h.b1.far (p := ⟨n + 1 + 1 + 1, 0, none⟩) (by dsimp only; omega) _, h.b2.far (p := ⟨n + 1 + 1 + 1, 0, none⟩) (by dsimp only; omega) _, by simpa using h.b3.set_ 0 (.int .i64 nx'), owns_far h.o1 (by dsimp only; omega) _, owns_far h.o2 (by dsimp only; omega) _, h.nil, h.ne⟩
end

end Go.Proofs.YthbdiifinkbcnaaGreatDoor
namespace Go.Proofs.YthbdiifinkbcnaaGreatDoor
open Go.RowKit
set_option linter.unusedVariables false
open Go.Shelf
attribute [local go_sem] Oper.semAt_some
theorem info_packet : (Tryz.prog.info? 92).map (fun i => (i.zero, i.size, i.bytes)) = some (some pk0.val, 12, 32) := by kernel_rfl
def RI (n : Nat) (s0 : Value) (s : Rc) (W : World) : Prop := ∃ v1 v2, RP n s0 v1 v2 s.pk s.sk s.nx W
theorem rstep_skip {bs : List U8} {s : Rc} {a : Nat} (h : a < s.nx) : rstep bs s a = s := if_pos h
theorem rstep_ok {bs : List U8} {s : Rc} {a : Nat} (h : ¬ a < s.nx) (ho : pkOk bs a = true) : rstep bs s a = ⟨s.pk ++ [pkAt bs a], s.sk, a + 16⟩ := by unfold rstep; rw [if_neg h, if_pos ho]
theorem rstep_no {bs : List U8} {s : Rc} {a : Nat} (h : ¬ a < s.nx) (ho : pkOk bs a = false) : rstep bs s a = ⟨s.pk, addSpan s.sk a, s.nx⟩ := by unfold rstep; rw [if_neg h, ho]; rfl
theorem brd_mono {n m : Nat} {w : World} {A : Option Addr} {bs : List U8} (h : BRd n w A bs) (hnm : n ≤ m) : BRd m w A bs := fun h0 => by
  obtain ⟨ad, e, hl, hc⟩ := h h0
  exact ⟨ad, e, by omega, hc⟩
set_option maxRecDepth 100000 in
set_option maxHeartbeats 2000000 in
theorem received_in (A : Option Addr) (cap : Nat) (bs : List U8) (hlen : bs.length ≤ 16384) (hcap : bs.length ≤ cap) (w : World) (hL : BRd w.heap.size w A bs) :
    CallsIn Fence.wide 4 Tryz.prog 71 #[.slice A bs.length cap] w fun e W' => ∃ v1 v2, e = .returned (.tuple #[v1, v2, .int .i64 0]) ∧ W'.ownsRow (w.heap.size + 4) 92 12 v1 (rfold bs (List.range bs.length)).pk.length (pksC (rfold bs (List.range bs.length)).pk) ∧ W'.ownsRow (w.heap.size + 4) 47 2 v2 (rfold bs (List.range bs.length)).sk.length (spansC (rfold bs (List.range bs.length)).sk) ∧ Below w.heap.size w W' := by
  obtain ⟨i0, hi, hz0, hz1, hz2⟩ := info_parts info_packet
  have h1 : 1 ≤ 4 := by omega
  have hro : Fence.wide.round = none := rfl
  have f1 : Fence.wide.fn 130 := trivial
  have f2 : Fence.wide.fn 170 := trivial
  have f3 : Fence.wide.fn 131 := trivial
  have f4 : Fence.wide.fn 132 := trivial
  refine callsIn_of_wp_marks Tryz.func71 rfl trivial ?_ hro
  simp only [Tryz.ntmps71, List.size_toArray, List.length_cons, List.length_nil, Nat.reduceAdd, Nat.reduceSub, Array.replicate_succ, Array.replicate_zero, List.push_toArray, List.append_toArray, List.nil_append, List.cons_append]
  have hd : decide ((bs.length : Int) > 16384) = false := by simp; omega
  gi_wp2_with (gi_at_call 130; refine (visited_in Fence.wide 3 trivial hro _ _ _ _).mono ?_; rintro e w' ⟨rfl, rfl⟩)
  have hB0 : Below w.heap.size w (((((w.alloc (.cells #[.slice A bs.length cap] 106)).alloc (.cells #[.slice none 0 0] 96)).alloc (.cells #[.slice none 0 0] 107)).alloc (.cells #[.int .i64 0] 3)).alloc (.cells #[.slice A bs.length cap] 106)) :=
    (((((Below.refl _ w).alloc (Nat.le_refl _) _).alloc (by simp) _).alloc (by simp only [World.size_alloc]; omega) _).alloc (by simp only [World.size_alloc]; omega) _).alloc (by simp only [World.size_alloc]; omega) _
  have q0 := ((((Blk.new w 106 #[.slice A bs.length cap]).alloc (.cells #[.slice none 0 0] 96)).alloc (.cells #[.slice none 0 0] 107)).alloc (.cells #[.int .i64 0] 3)).alloc (.cells #[.slice A bs.length cap] 106)
  have q1 := (((Blk.new (w.alloc (.cells #[.slice A bs.length cap] 106)) 96 #[.slice none 0 0]).alloc (.cells #[.slice none 0 0] 107)).alloc (.cells #[.int .i64 0] 3)).alloc (.cells #[.slice A bs.length cap] 106)
  have q2 := ((Blk.new ((w.alloc (.cells #[.slice A bs.length cap] 106)).alloc (.cells #[.slice none 0 0] 96)) 107 #[.slice none 0 0]).alloc (.cells #[.int .i64 0] 3)).alloc (.cells #[.slice A bs.length cap] 106)
  have q3 := (Blk.new (((w.alloc (.cells #[.slice A bs.length cap] 106)).alloc (.cells #[.slice none 0 0] 96)).alloc (.cells #[.slice none 0 0] 107)) 3 #[.int .i64 0]).alloc (.cells #[.slice A bs.length cap] 106)
  have q4 := Blk.new ((((w.alloc (.cells #[.slice A bs.length cap] 106)).alloc (.cells #[.slice none 0 0] 96)).alloc (.cells #[.slice none 0 0] 107)).alloc (.cells #[.int .i64 0] 3)) 106 #[.slice A bs.length cap]
  simp only [World.size_alloc] at q1 q2 q3 q4
  have hz : (((((w.alloc (.cells #[.slice A bs.length cap] 106)).alloc (.cells #[.slice none 0 0] 96)).alloc (.cells #[.slice none 0 0] 107)).alloc (.cells #[.int .i64 0] 3)).alloc (.cells #[.slice A bs.length cap] 106)).heap.size = w.heap.size + 1 + 1 + 1 + 1 + 1 := by simp only [World.size_alloc]
  generalize (((((w.alloc (.cells #[.slice A bs.length cap] 106)).alloc (.cells #[.slice none 0 0] 96)).alloc (.cells #[.slice none 0 0] 107)).alloc (.cells #[.int .i64 0] 3)).alloc (.cells #[.slice A bs.length cap] 106)) = W0 at hB0 q0 q1 q2 q3 q4 hz ⊢
  have HZ := Lib.hid hz
  clear hz
  have hr0 : RI w.heap.size (.slice A bs.length cap) (rfold bs []) W0 := ⟨_, _, q0, q1, q2, q3, World.ownsRow_nil _ _ _ _, World.ownsRow_nil _ _ _ _, fun _ => rfl, .inl rfl⟩
  refine wpIn_rangeFunc_ownF hro h1 (gf := 170) (lb := #[.pointer (some ⟨w.heap.size + 1 + 1 + 1 + 1, 0, none⟩)]) rfl f2 (enters_of Tryz.func170 (by kernel_rfl) rfl)
    (visited_pos Fence.wide 3 f2 hro (by omega) (w.heap.size + 1 + 1 + 1 + 1) w.heap.size cap A bs (by omega) W0 (by rw [HZ.out]; omega) (by rw [HZ.out]; omega) (q4.cell 0) (hL.below hB0)) belowK_t (belowK_b (by rw [HZ.out]; omega)) (Below.refl _ _) (fun _ => rfl)
    (fun pre W => RI w.heap.size (.slice A bs.length cap) (rfold bs (posV pre)) W ∧ Below w.heap.size w W)
    (fun _ _ _ => False)
    (OwnFrom.and (Own.from (fun s A B row hs hg hr => by obtain ⟨v1, v2, h⟩ := hs; exact ⟨v1, v2, h.keep hg hr⟩) _) (ownFrom_below (Nat.le_refl _) (by rw [HZ.out]; omega)))
    (fun _ _ _ _ _ hs _ _ => hs)
    ⟨hr0, hB0⟩
    (fun x => { tmps := #[.slice A bs.length cap, .pointer (some ⟨w.heap.size, 0, none⟩), .slice none 0 0, .slice none 0 0, .int .i64 0, .pointer (some ⟨w.heap.size + 1, 0, none⟩), .pointer (some ⟨w.heap.size + 1 + 1, 0, none⟩), .pointer (some ⟨w.heap.size + 1 + 1 + 1, 0, none⟩), .int .i64 x.1, undef, undef, .slice A bs.length cap, .int .i64 bs.length, .bool false, .slice A bs.length cap, .func (.func 170) #[] #[.pointer (some ⟨w.heap.size + 1 + 1 + 1 + 1, 0, none⟩)], .int .i64 x.1, .int .u8 (bs.getD x.1 u0).1, undef, undef, undef, undef, undef, undef, undef, undef, undef, undef, undef, undef, undef, undef, undef, undef, undef, undef, undef, undef, undef], defers := [] }) ?assign ?body ?done ?stop
  case assign =>
    intro l x W K hK
    gi_wp2
    exact hK
  case body =>
    rintro l pre x W ⟨⟨v1, v2, hp⟩, hB⟩ hlt
    have hlp := (rfold_len bs (posV pre))
    have hpl : (posV pre).length = pre.length := by simp [posV]
    have hxl := x.2
    obtain ⟨s, hs⟩ : ∃ s, rfold bs (posV pre) = s := ⟨_, rfl⟩
    have HS : RowKit.Hid (rfold bs (posV (pre ++ [x])) = rstep bs s x.1) := Lib.hid (by rw [posV_snoc, rfold_snoc, hs])
    rw [hs] at hp hlp
    rw [hpl] at hlp
    clear hpl hs
    obtain ⟨k, hk⟩ : ∃ k : Nat, x.1 = k := ⟨_, rfl⟩
    rw [hk] at HS hxl
    rw [hk]
    obtain ⟨c, hc⟩ : ∃ c, (bs.getD k u0).1 = c := ⟨_, rfl⟩
    rw [hc]
    have hL1 := hL.below (hB.mono (Nat.le_refl _))
    clear hk hc
    have c0 := hp.b0.cell 0
    have c1 := hp.b1.cell 0
    have c2 := hp.b2.cell 0
    have c3 := hp.b3.cell 0
    have f1' := hp.b1.frozen 0
    have f2' := hp.b2.frozen 0
    have f3' := hp.b3.frozen 0
    simp only [List.getElem?_toArray, List.getElem?_cons_zero] at c0 c1 c2 c3
    have HP := Lib.hid hp
    have HB := Lib.hid hB
    clear hp hB q0 q1 q2 q3 q4 hr0
    by_cases hk1 : k < s.nx
    · have hkd : decide ((k : Int) < (s.nx : Int)) = true := by simp; omega
      have HR := Lib.hid (rstep_skip (bs := bs) hk1)
      gi_wp2
      refine ⟨KeepsOthers.refl _, Below.refl _ _, ?_, HB.out⟩
      rw [HS.out, HR.out]
      exact ⟨_, _, HP.out⟩
    · have hkd : decide ((k : Int) < (s.nx : Int)) = false := by simp; omega
      gi_wp2_with fail
      refine (CallsIn.inRound l ((callsIn_wide (n := 1)).2 (packetAt_any A bs cap k (by omega) hcap (by omega) W (brd_mono hL1 HB.out.size)))).mono ?_
      rintro e W1 ⟨rfl, hb1⟩
      obtain ⟨p, hp⟩ : ∃ p, pkAt bs k = p := ⟨_, rfl⟩
      rw [hp]
      have HPK := Lib.hid hp
      have HP1 := Lib.hid (HP.out.below hb1)
      have HB1 := Lib.hid (HB.out.trans (hb1.mono HB.out.size))
      have HK1 := Lib.hid (keeps_below hb1)
      have HV1 := Lib.hid (hb1.mono HB.out.size)
      have HS1 := Lib.hid (hb1.size)
      have g1 := HP1.out.b1.cell 0
      have g2 := HP1.out.b2.cell 0
      have h1' := HP1.out.b1.frozen 0
      have h2' := HP1.out.b2.frozen 0
      have h3' := HP1.out.b3.frozen 0
      simp only [List.getElem?_toArray, List.getElem?_cons_zero] at g1 g2
      have z1 := HP1.out.b1.lt
      have z2 := HP1.out.b2.lt
      have z3 := HP1.out.b3.lt
      clear hp hb1 c0 c1 c2 c3 f1' f2' f3' HP
      obtain ⟨ok, hok⟩ : ∃ ok, pkOk bs k = ok := ⟨_, rfl⟩
      rw [hok]
      unfold Pk.val
      cases ok with
      | false =>
        have HR := Lib.hid (rstep_no hk1 hok)
        clear hok
        gi_wp2_with fail
        refine (CallsIn.inRound l ((callsIn_wide (n := 1)).2 (withPlace_any (w.heap.size + 4) k v2 s.sk (by omega) (by omega) HP1.out.nil _ (by exact (HP1.out.below ((Below.refl _ _).alloc (Nat.le_refl _) _)).o2) (by simp; omega)))).mono ?_
        rintro e W3 ⟨v2', rfl, ho, hg, ha⟩
        obtain ⟨a2, c2, rfl⟩ := own_shape ho
        have hp2 := HP1.out.below ((Below.refl _ _).alloc (Nat.le_refl _) (.cells #[.int .i64 p.k, .int .i64 p.c, .int .u8 p.d0, .int .u8 p.d1, .int .u8 p.d2, .int .u8 p.d3, .int .u8 p.d4, .int .u8 p.d5, .int .u8 p.d6, .int .u8 p.d7, .int .u8 p.d8, .int .u8 p.d9] 92))
        have hx := hp2.box2 hg
        have t1 := hx.cell 0
        have t2 := hx.frozen 0
        have t3 := hx.lt
        simp only [List.getElem?_toArray, List.getElem?_cons_zero] at t1
        have HK := Lib.hid ((HK1.out.trans (KeepsOthers.alloc _ _)).trans (hp2.keeps2 hg))
        have HB3 := Lib.hid (hp2.below2 (HB1.out.alloc HB1.out.size _) (Nat.le_refl _) (by have := HB1.out.size; simp; omega) hg)
        have HV3 := Lib.hid (hp2.below2 (HV1.out.alloc (by have := HB1.out.size; omega) _) (Nat.le_refl _) (by have := HB1.out.size; simp; omega) hg)
        have HP3 := Lib.hid (hp2.app2 ho (addSpan_ne _ _) hg ha)
        clear hp2 hx ho hg ha g1 g2
        gi_wp2
        refine ⟨HK.out.trans (KeepsOthers.setCell _ _ _), ?_, ?_, HB3.out.setCell (p := ⟨w.heap.size + 1 + 1, 0, none⟩) (by dsimp only; omega) _⟩
        · exact HV3.out.setCell (p := ⟨w.heap.size + 1 + 1, 0, none⟩) (by dsimp only; omega) _
        · rw [HS.out, HR.out]
          exact ⟨_, _, HP3.out⟩
      | true =>
        have HR := Lib.hid (rstep_ok hk1 hok)
        clear hok
        have hnb := heap_alloc_new (W1.alloc (.cells #[.int .i64 p.k, .int .i64 p.c, .int .u8 p.d0, .int .u8 p.d1, .int .u8 p.d2, .int .u8 p.d3, .int .u8 p.d4, .int .u8 p.d5, .int .u8 p.d6, .int .u8 p.d7, .int .u8 p.d8, .int .u8 p.d9] 92)) (.cells #[.int .i64 p.k, .int .i64 p.c, .int .u8 p.d0, .int .u8 p.d1, .int .u8 p.d2, .int .u8 p.d3, .int .u8 p.d4, .int .u8 p.d5, .int .u8 p.d6, .int .u8 p.d7, .int .u8 p.d8, .int .u8 p.d9] 92)
        rw [World.size_alloc] at hnb
        have HNB := Lib.hid hnb
        clear hnb
        have HP2 := Lib.hid ((HP1.out.below ((Below.refl _ _).alloc (Nat.le_refl _) (.cells #[.int .i64 p.k, .int .i64 p.c, .int .u8 p.d0, .int .u8 p.d1, .int .u8 p.d2, .int .u8 p.d3, .int .u8 p.d4, .int .u8 p.d5, .int .u8 p.d6, .int .u8 p.d7, .int .u8 p.d8, .int .u8 p.d9] 92))).below ((Below.refl _ _).alloc (Nat.le_refl _) (.cells #[.int .i64 p.k, .int .i64 p.c, .int .u8 p.d0, .int .u8 p.d1, .int .u8 p.d2, .int .u8 p.d3, .int .u8 p.d4, .int .u8 p.d5, .int .u8 p.d6, .int .u8 p.d7, .int .u8 p.d8, .int .u8 p.d9] 92)))
        gi_wp2_with (gi_at_builtin; go_must (refine wpListIn_append_own_at _ (by rfl) (.tmp 28) (.tmp 30) 96 (by rfl) (w.heap.size + 4) 92 i0 pk0.val 12 32 Tryz.underlying96 hi hz0 hz1 hz2 (by rfl) (by decide) v1 s.pk.length (pksC s.pk) (by rfl) ((HP1.out.o1.alloc _).alloc _) ⟨W1.heap.size + 1, 0, none⟩ 1 1 (pksC [p]) rfl rfl (World.news_of_block HNB.out) (by simp [pksC, Pk.cells, Value.oneCell']) (by unfold maxLen; omega) (by omega) (by simp; omega) ?_); intro v1' W4 ho hg hnil ha; go_must (obtain ⟨a1, c1, rfl⟩ := own_shape ho; have hp2 := HP2.out; have hx := hp2.box1 hg; have t1 := hx.1.cell 0; have t2 := hx.1.frozen 0; have t3 := hx.1.lt; have u1 := hx.2.cell 0; have u2 := hx.2.frozen 0; have u3 := hx.2.lt; simp only [List.getElem?_toArray, List.getElem?_cons_zero] at t1 u1; have HK := Lib.hid (((HK1.out.trans (KeepsOthers.alloc _ _)).trans (KeepsOthers.alloc _ _)).trans (hp2.keeps1 hg)); have HB4 := Lib.hid (hp2.below1 ((HB1.out.alloc HB1.out.size _).alloc (by have := HB1.out.size; simp; omega) _) (Nat.le_refl _) (by have := HB1.out.size; simp; omega) hg); have HV4 := Lib.hid (hp2.below1 ((HV1.out.alloc (by have := HB1.out.size; omega) _).alloc (by have := HB1.out.size; simp; omega) _) (Nat.le_refl _) (by have := HB1.out.size; simp; omega) hg); have HP4 := Lib.hid (RP.app (pk' := s.pk ++ [p]) hp2 (by rw [pksC_app, List.length_append]; exact ho) hg (by rcases ha with h | h; exact .inl h; exact .inr ⟨_, Nat.le_refl _, h⟩)); clear hp2 hx ho hg ha hnil g1 g2))
        refine ⟨(HK.out.trans (KeepsOthers.setCell _ _ _)).trans (KeepsOthers.setCell _ _ _), ?_, ?_, (HB4.out.setCell (p := ⟨w.heap.size + 1, 0, none⟩) (by dsimp only; omega) _).setCell (p := ⟨w.heap.size + 1 + 1 + 1, 0, none⟩) (by dsimp only; omega) _⟩
        · exact (HV4.out.setCell (p := ⟨w.heap.size + 1, 0, none⟩) (by dsimp only; omega) _).setCell (p := ⟨w.heap.size + 1 + 1 + 1, 0, none⟩) (by dsimp only; omega) _
        · rw [HS.out, HR.out]
          have h5 := HP4.out.next (nx' := k + 16)
          rw [HPK.out]
          rw [Int.natCast_add] at h5
          exact ⟨.slice a1 (s.pk.length + 1) c1, v2, h5⟩
  case done =>
    rintro D ys W hD hys ⟨⟨v1, v2, hp⟩, hB⟩ hK
    rw [hys] at hp
    have c1 := hp.b1.cell 0
    have c2 := hp.b2.cell 0
    simp only [List.getElem?_toArray, List.getElem?_cons_zero] at c1 c2
    have ho1 := hp.o1
    have ho2 := hp.o2
    clear hp
    obtain ⟨A1, k1, rfl⟩ := own_shape ho1
    obtain ⟨A2, k2, rfl⟩ := own_shape ho2
    have HO1 := Lib.hid ho1
    have HO2 := Lib.hid ho2
    clear ho1 ho2
    gi_wp2
    gi_region
    gi_wp2
    have hD2 : w.heap.size ≤ D := by rw [HZ.out] at hD; omega
    refine ⟨by simp, .inl ⟨_, _, rfl, run_takeDeferred (w := W.drew) hK, ?_⟩⟩
    refine ⟨.tuple #[.slice A1 (rfold bs (List.range bs.length)).pk.length k1, .slice A2 (rfold bs (List.range bs.length)).sk.length k2, .int .i64 0], by simp [results, Tryz.results71, go_sem], _, _, rfl, ?_, ?_, ?_⟩
    · exact owns_kept HO1.out.drew (grownBy_putObj' W.drew D _) (fun r e => by cases e; exact ⟨_, hK, rfl⟩)
    · exact owns_kept HO2.out.drew (grownBy_putObj' W.drew D _) (fun r e => by cases e; exact ⟨_, hK, rfl⟩)
    · exact hB.drew.trans (belowK_b (w := w) (Nat.le_refl _) W.drew D _ _ hD2 hK rfl rfl)
  case stop =>
    rintro D c pre W _ _ h _
    exact h.elim
theorem received_any (A : Option Addr) (cap : Nat) (bs : List U8) (hlen : bs.length ≤ 16384) (hcap : bs.length ≤ cap) (w : World) (hL : BRd w.heap.size w A bs) :
    Calls Tryz.prog 71 #[.slice A bs.length cap] w fun e W' => ∃ v1 v2, e = .returned (.tuple #[v1, v2, .int .i64 0]) ∧ W'.ownsRow (w.heap.size + 4) 92 12 v1 (rfold bs (List.range bs.length)).pk.length (pksC (rfold bs (List.range bs.length)).pk) ∧ W'.ownsRow (w.heap.size + 4) 47 2 v2 (rfold bs (List.range bs.length)).sk.length (spansC (rfold bs (List.range bs.length)).sk) ∧ Below w.heap.size w W' :=
  callsIn_wide.1 (received_in A cap bs hlen hcap w hL)
theorem received_long (A : Option Addr) (cap n : Nat) (hlen : 16384 < n) (w : World) :
    Calls Tryz.prog 71 #[.slice A n cap] w fun e W' => e = .returned (.tuple #[.slice none 0 0, .slice none 0 0, .int .i64 26]) ∧ Below w.heap.size w W' := by
  have hd : decide ((n : Int) > 16384) = true := by simp; omega
  go_enter Tryz.func71, Tryz.ntmps71
  go_wp2
  exact bodyPost_ret (v := .tuple #[.slice none 0 0, .slice none 0 0, .int .i64 26]) (by simp [results, Tryz.results71, go_sem]) rfl ⟨rfl, (Below.refl _ _).alloc (Nat.le_refl _) _⟩

end Go.Proofs.YthbdiifinkbcnaaGreatDoor
namespace Go.Proofs.YthbdiifinkbcnaaGreatDoor
open Go.RowKit
set_option linter.unusedVariables false
def Pk.data (p : Pk) : List Int := [p.d0, p.d1, p.d2, p.d3, p.d4, p.d5, p.d6, p.d7, p.d8, p.d9]
def pkEq (p q : Pk) : Bool := (p.k == q.k) && ((p.c == q.c) && decide (p.data = q.data))
theorem packet_fields : (Tryz.prog.fieldsOf 92).toList = [{ name := "Kind", type := 3, offset := 0, embedded := false, tag := "", pkgPath := "", byteOffset := 0 }, { name := "Counter", type := 3, offset := 1, embedded := false, tag := "", pkgPath := "", byteOffset := 8 }, { name := "Data", type := 87, offset := 2, embedded := false, tag := "", pkgPath := "", byteOffset := 16 }] := by kernel_rfl
theorem run_equalIn_data (p q : Pk) (d : Nat) (w : World) : (Op.equalIn (d + 2) 87 (.agg #[.int .u8 p.d0, .int .u8 p.d1, .int .u8 p.d2, .int .u8 p.d3, .int .u8 p.d4, .int .u8 p.d5, .int .u8 p.d6, .int .u8 p.d7, .int .u8 p.d8, .int .u8 p.d9]) (.agg #[.int .u8 q.d0, .int .u8 q.d1, .int .u8 q.d2, .int .u8 q.d3, .int .u8 q.d4, .int .u8 q.d5, .int .u8 q.d6, .int .u8 q.d7, .int .u8 q.d8, .int .u8 q.d9])).run Tryz.prog w = .ok (decide (p.data = q.data)) w := by
  have hn := Tryz.sizeOf5
  have h := eqElems_u8 d p.data q.data 10 rfl rfl 10 0 rfl w
  rw [run_equalIn_array w (d + 1) 87 5 10 1 _ _ Tryz.underlying87 hn]
  exact h
theorem run_equalIn_packet (p q : Pk) (w : World) : (Op.equalIn 10000 92 (.agg #[.int .i64 p.k, .int .i64 p.c, .int .u8 p.d0, .int .u8 p.d1, .int .u8 p.d2, .int .u8 p.d3, .int .u8 p.d4, .int .u8 p.d5, .int .u8 p.d6, .int .u8 p.d7, .int .u8 p.d8, .int .u8 p.d9]) (.agg #[.int .i64 q.k, .int .i64 q.c, .int .u8 q.d0, .int .u8 q.d1, .int .u8 q.d2, .int .u8 q.d3, .int .u8 q.d4, .int .u8 q.d5, .int .u8 q.d6, .int .u8 q.d7, .int .u8 q.d8, .int .u8 q.d9])).run Tryz.prog w = .ok (pkEq p q) w := by
  have h87 := Tryz.isAgg87
  have hs := Tryz.sizeOf87
  have h3 := Tryz.isAgg3
  rw [show (10000 : Nat) = 9999 + 1 from rfl, run_equalIn_struct w 9999 92 _ _ (by kernel_rfl) (by kernel_rfl), packet_fields]
  have hd := run_equalIn_data p q 9997 w
  simp only [Op.eqFields, Sem.run_bind, Sem.run_ite]
  unfold pkEq
  cases hk : p.k == q.k <;> cases hc : p.c == q.c
  all_goals simp [part, h3, h87, hs, run_equalIn_int w 9998 3 .i64 .i64 _ _ Tryz.underlying3, hk, hc, Result.andThen_ok]
  rw [hd]
  by_cases h : p.data = q.data <;> simp [h]

end Go.Proofs.YthbdiifinkbcnaaGreatDoor
namespace Go.Proofs.YthbdiifinkbcnaaGreatDoor
open Go.RowKit
set_option linter.unusedVariables false
/-- The counters from c up to d, behind those that were lost before; whether they became too many. -/
def dueF : Nat → Int → Int → List Int → List Int × Bool
  | 0, _, _, acc => (acc, false)
  | n + 1, c, d, acc => if c = d then (acc, false) else if 256 < acc.length + 1 then (acc ++ [c], true) else dueF n ((c + 1) % 256) d (acc ++ [c])
theorem dueF_end (n : Nat) (c : Int) (acc : List Int) : dueF (n + 1) c c acc = (acc, false) := if_pos rfl
theorem dueF_many (n : Nat) {c d : Int} {acc : List Int} (h : c ≠ d) (h2 : 256 < acc.length + 1) : dueF (n + 1) c d acc = (acc ++ [c], true) := (if_neg h).trans (if_pos h2)
theorem dueF_next (n : Nat) {c d : Int} {acc : List Int} (h : c ≠ d) (h2 : ¬ 256 < acc.length + 1) : dueF (n + 1) c d acc = dueF n ((c + 1) % 256) d (acc ++ [c]) := (if_neg h).trans (if_neg h2)
def lostF (kind : Int) : List Pk → Bool → Int → List Int → List Int
  | [], _, _, acc => acc
  | p :: l, b, c, acc => if p.k = kind then (if b = true then (if (dueF 256 ((c + 1) % 256) p.c acc).2 = true then (dueF 256 ((c + 1) % 256) p.c acc).1 else lostF kind l true p.c (dueF 256 ((c + 1) % 256) p.c acc).1) else lostF kind l true p.c acc) else lostF kind l b c acc
theorem lostF_other {kind : Int} {p : Pk} {l : List Pk} {b : Bool} {c : Int} {acc : List Int} (h : p.k ≠ kind) : lostF kind (p :: l) b c acc = lostF kind l b c acc := if_neg h
theorem lostF_first {kind : Int} {p : Pk} {l : List Pk} {c : Int} {acc : List Int} (h : p.k = kind) : lostF kind (p :: l) false c acc = lostF kind l true p.c acc := (if_pos h).trans (if_neg (by simp))
theorem lostF_many {kind : Int} {p : Pk} {l : List Pk} {c : Int} {acc r : List Int} (h : p.k = kind) (hd : dueF 256 ((c + 1) % 256) p.c acc = (r, true)) : lostF kind (p :: l) true c acc = r := by
  refine ((if_pos h).trans (if_pos rfl)).trans ?_
  rw [hd]; exact if_pos rfl
theorem lostF_next {kind : Int} {p : Pk} {l : List Pk} {c : Int} {acc r : List Int} (h : p.k = kind) (hd : dueF 256 ((c + 1) % 256) p.c acc = (r, false)) : lostF kind (p :: l) true c acc = lostF kind l true p.c r := by
  refine ((if_pos h).trans (if_pos rfl)).trans ?_
  rw [hd]; exact if_neg (by simp)
theorem pk_bounds {l : List Pk} (h : firstPk l = 0) : ∀ p ∈ l, 0 ≤ p.c ∧ p.c ≤ 255 := by
  induction l with
  | nil => intro p hp; cases hp
  | cons a l ih =>
    unfold firstPk at h
    have ha : a.err = 0 := by
      by_cases e : a.err = 0
      · exact e
      · rw [if_neg e] at h; exact h
    rw [if_pos ha] at h
    intro p hp
    rcases List.mem_cons.1 hp with rfl | hp
    · have hb : outs p.c 0 255 = 0 := by
        unfold Pk.err pkErr at ha
        by_cases h0 : outs p.k 0 255 = 0
        · have h1 : firstE [outs p.k 0 255, outs p.c 0 255] = firstE [outs p.c 0 255] := if_pos h0
          rw [h1] at ha
          by_cases h2 : outs p.c 0 255 = 0
          · exact h2
          · exact (if_neg h2).symm.trans ha
        · exact absurd ((if_neg h0).symm.trans ha) h0
      unfold outs errIf at hb
      by_cases h1 : (decide (p.c < 0) || decide (255 < p.c)) = true
      · rw [if_pos h1] at hb; exact absurd hb (by decide)
      · simp at h1; omega
    · exact ih h p hp
/-- How many steps there are from c to d. -/
def stepsTo (c d : Int) : Nat := ((d - c) % 256).toNat
theorem stepsTo_lt (c d : Int) : stepsTo c d < 256 := by
  have h1 := Int.emod_lt_of_pos (d - c) (show (0 : Int) < 256 by decide)
  have h2 := Int.emod_nonneg (d - c) (show (256 : Int) ≠ 0 by decide)
  unfold stepsTo; omega
theorem stepsTo_next {c d : Int} (hc : 0 ≤ c ∧ c ≤ 255) (hd : 0 ≤ d ∧ d ≤ 255) (h : c ≠ d) : stepsTo ((c + 1) % 256) d + 1 = stepsTo c d := by
  unfold stepsTo; omega
end Go.Proofs.YthbdiifinkbcnaaGreatDoor
