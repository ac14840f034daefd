/- The packets that are received. -/
import Derived.Test.YtkjkjhheckfhbaaGreatDoorR
namespace Go.Proofs.YtkjkjhheckfhbaaGreatDoor
open Go.RowKit
set_option linter.unusedVariables false
open Go.Shelf
attribute [local go_sem] Oper.semAt_some
abbrev Pos (bs : List U8) := { i : Nat // i < bs.length }
def posV {bs : List U8} (l : List (Pos bs)) : List Nat := l.map (·.1)
theorem posV_snoc {bs : List U8} (l : List (Pos bs)) (x : Pos bs) : posV (l ++ [x]) = posV l ++ [x.1] := by simp [posV]
set_option maxRecDepth 100000 in
set_option maxHeartbeats 2000000 in
theorem visited1_pos (F : Fence) (n : Nat) (h8 : F.fn 172) (hro : F.round = none) (hn : 1 ≤ n) (l Bs n₀ cap : Nat) (A : Option Addr) (bs : List U8) (hreach : bs.length ≤ 140737488351232) (J Jx : List (Pos bs) → World → Prop)
    (hY : ∀ pre x W, J pre W → pre.length < bs.length → YieldAt F (n - 1) Tryz.prog l #[.int .i64 (x.1 : Int), .int .u8 (bs.getD x.1 u0).1] W fun e W' =>
      (e = .returned (.bool true) ∧ J (pre ++ [x]) W' ∧ Below n₀ W W') ∨ (e = .returned (.bool false) ∧ Jx (pre ++ [x]) W'))
    (W : World) (hBs : W.cell? ⟨Bs, 0, none⟩ = some (.slice A bs.length cap)) (hc : BRd n₀ W A bs) (h0 : J [] W) :
    CallsIn F n Tryz.prog 172 #[.func (.yield l) #[] #[], .pointer (some ⟨Bs, 0, none⟩)] W fun e W' => (∃ v, e = .returned v) ∧
      ((∃ ys, posV ys = List.range bs.length ∧ J ys W') ∨ (∃ pre, Jx pre W')) := by
  have HC := Lib.hid hc; clear hc
  refine callsIn_of_wp Tryz.func172 rfl h8 ?_ hro
  simp only [Tryz.ntmps172, List.size_toArray, List.length_cons, List.length_nil, Nat.reduceAdd, Nat.reduceSub, Array.replicate_succ, Array.replicate_zero, List.push_toArray, List.append_toArray, List.nil_append, List.cons_append]
  gi_wp2
  gi_loopw [7] (fun i wr => ∃ k : Nat, k ≤ bs.length ∧ i = .int .i64 k ∧ (∃ ys : List (Pos bs), RowKit.Hid (posV ys = List.range k) ∧ J ys wr) ∧ Below n₀ W wr)
    (fun i _ => bs.length - (intOf i).toNat)
  case atStart => exact ⟨0, Nat.zero_le _, rfl, ⟨[], Lib.hid rfl, h0⟩, Below.refl _ _⟩
  case round =>
    obtain ⟨k, hk, rfl, ⟨ys, hys, hJs⟩, hnx⟩ := hrel
    by_cases hlt : k < bs.length
    · obtain ⟨ad, rfl, hbl, hcc⟩ := HC.out (by omega)
      have hcx' : wr.cell? (ad.add k) = some (.int .u8 (bs.getD k u0).1) := (hnx.cell (by rw [block_of_add]; exact hbl)).trans (hcc k hlt)
      have hyl : ys.length < bs.length := by
        have h := congrArg List.length hys.out
        simp [posV] at h; omega
      obtain ⟨fn, tmps, assign, body, hy, hR⟩ := hY ys ⟨k, hlt⟩ wr hJs hyl
      dsimp only at hy
      obtain ⟨v, hv⟩ : ∃ v, bs.getD k u0 = v := ⟨_, rfl⟩
      rw [hv] at hcx' hy
      clear hcc hv hyl
      gi_wp2
      refine hR.mono ?_
      rintro e W3 (⟨rfl, hJ3, hk3⟩ | ⟨rfl, hJx3⟩)
      · gi_wp2
        go_roundw
        case rel => exact ⟨k + 1, by omega, by simp, ⟨_, Lib.hid (by rw [posV_snoc, hys.out, List.range_succ]), hJ3⟩, hnx.trans hk3⟩
        case measure => simp [intOf]; omega
      · gi_wp2
        refine bodyPost_ret (results_none rfl _ _ _) rfl ?_
        exact ⟨⟨_, rfl⟩, .inr ⟨_, hJx3⟩⟩
    · obtain rfl : k = bs.length := by omega
      gi_wp2
      go_end0
      exact ⟨⟨_, rfl⟩, .inl ⟨_, hys.out, hJs⟩⟩
theorem visited_pos (F : Fence) (n : Nat) (h8 : F.fn 172) (hro : F.round = none) (hn : 1 ≤ n) (Bs n₀ cap : Nat) (A : Option Addr) (bs : List U8) (hreach : bs.length ≤ 140737488351232) (w : World) (hBs : Bs < w.heap.size) (hn₀ : n₀ ≤ w.heap.size)
    (hc : w.cell? ⟨Bs, 0, none⟩ = some (.slice A bs.length cap)) (hI : BRd n₀ w A bs) :
    SeqStopsK F n Tryz.prog 172 #[.pointer (some ⟨Bs, 0, none⟩)] (fun x : Pos bs => #[Value.int .i64 (x.1 : Int), Value.int .u8 (bs.getD x.1 u0).1]) (Below n₀) (fun ys => posV ys = List.range bs.length) (fun pre => True) bs.length w := fun l J Jx W hW _ _ hY h0 => by
  have hc' := (hW.cell (p := ⟨Bs, 0, none⟩) hBs).trans hc
  refine (visited1_pos F n h8 hro hn l Bs n₀ cap A bs hreach J Jx hY W hc' (hI.below (hW.mono hn₀)) h0).mono ?_
  rintro e W' ⟨he, ⟨ys, hy, hj⟩ | ⟨pre, hj⟩⟩
  · exact ⟨he, .inl ⟨_, hy, hj⟩⟩
  · exact ⟨he, .inr ⟨_, trivial, hj⟩⟩

end Go.Proofs.YtkjkjhheckfhbaaGreatDoor
