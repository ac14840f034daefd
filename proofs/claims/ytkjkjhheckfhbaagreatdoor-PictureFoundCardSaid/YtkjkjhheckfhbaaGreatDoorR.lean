/- The loops over an iterator of bytes: the check and the parity. -/
import Derived.Test.YtkjkjhheckfhbaaGreatDoorP0
import Derived.RangeFuncNested
import Derived.RangeFuncBound
import Derived.RangeFuncCalls
import Derived.RangeFuncLeaves
import Derived.RangeFuncBox
import Derived.Shelf.Abstract
import Derived.WalkKit
import Derived.OwnWalkIn
import Derived.TacticsInMore
import Derived.LoopNIn
import Derived.LoopIn
namespace Go.Proofs.YtkjkjhheckfhbaaGreatDoor
open Go.RowKit
set_option linter.unusedVariables false
open Go.Shelf
attribute [local go_sem] Oper.semAt_some
abbrev U8 := { b : Int // 0 ≤ b ∧ b ≤ 255 }
def u0 : U8 := ⟨0, by decide⟩
def BRd (n₀ : Nat) (w : World) (A : Option Addr) (bs : List U8) : Prop :=
  0 < bs.length → ∃ ad, A = some ad ∧ ad.block < n₀ ∧ ∀ j, j < bs.length → w.cell? (ad.add j) = some (.int .u8 (bs.getD j u0).1)
theorem BRd.below {n₀ : Nat} {w w' : World} {A : Option Addr} {bs : List U8} (h : BRd n₀ w A bs) (hb : Below n₀ w w') : BRd n₀ w' A bs := fun h0 => by
  obtain ⟨ad, e, hl, hc⟩ := h h0
  exact ⟨ad, e, hl, fun j hj => (hb.cell (by rw [block_of_add]; exact hl)).trans (hc j hj)⟩
def upto {α : Type} (f : Nat → α) (k : Nat) : List α := (List.range k).map f
theorem upto_succ {α : Type} (f : Nat → α) (k : Nat) : upto f (k + 1) = upto f k ++ [f k] := by simp [upto, List.range_succ]
theorem upto_length {α : Type} (f : Nat → α) (k : Nat) : (upto f k).length = k := by simp [upto]
def pairs (bs : List U8) (j : Nat) : Nat × U8 := (j, bs.getD j u0)
set_option maxRecDepth 100000 in
set_option maxHeartbeats 2000000 in
theorem visited1_in (F : Fence) (n : Nat) (h8 : F.fn 172) (hro : F.round = none) (hn : 1 ≤ n) (l Bs n₀ cap : Nat) (A : Option Addr) (bs : List U8) (hreach : bs.length ≤ 140737488351232) (J Jx : List (Nat × U8) → World → Prop)
    (hY : ∀ pre x W, J pre W → pre.length < bs.length → YieldAt F (n - 1) Tryz.prog l #[.int .i64 (x.1 : Int), .int .u8 x.2.1] W fun e W' =>
      (e = .returned (.bool true) ∧ J (pre ++ [x]) W' ∧ Below n₀ W W') ∨ (e = .returned (.bool false) ∧ Jx (pre ++ [x]) W'))
    (W : World) (hBs : W.cell? ⟨Bs, 0, none⟩ = some (.slice A bs.length cap)) (hc : BRd n₀ W A bs) (h0 : J [] W) :
    CallsIn F n Tryz.prog 172 #[.func (.yield l) #[] #[], .pointer (some ⟨Bs, 0, none⟩)] W fun e W' => (∃ v, e = .returned v) ∧
      ((∃ ys, ys = upto (pairs bs) bs.length ∧ J ys W') ∨ (∃ pre, (∃ k, k ≤ bs.length ∧ pre = upto (pairs bs) k) ∧ Jx pre W')) := by
  have HC := Lib.hid hc; clear hc
  refine callsIn_of_wp Tryz.func172 rfl h8 ?_ hro
  simp only [Tryz.ntmps172, List.size_toArray, List.length_cons, List.length_nil, Nat.reduceAdd, Nat.reduceSub, Array.replicate_succ, Array.replicate_zero, List.push_toArray, List.append_toArray, List.nil_append, List.cons_append]
  gi_wp2

  gi_loopw [7] (fun i wr => ∃ k : Nat, k ≤ bs.length ∧ i = .int .i64 k ∧ J (upto (pairs bs) k) wr ∧ Below n₀ W wr)
    (fun i _ => bs.length - (intOf i).toNat)
  case atStart => exact ⟨0, Nat.zero_le _, rfl, h0, Below.refl _ _⟩
  case round =>
    obtain ⟨k, hk, rfl, hJs, hnx⟩ := hrel
    by_cases hlt : k < bs.length
    · obtain ⟨ad, rfl, hbl, hcc⟩ := HC.out (by omega)
      obtain ⟨v, hv⟩ : ∃ v, bs.getD k u0 = v := ⟨_, rfl⟩
      have hcx' : wr.cell? (ad.add k) = some (.int .u8 v.1) := by rw [← hv]; exact (hnx.cell (by rw [block_of_add]; exact hbl)).trans (hcc k hlt)
      obtain ⟨fn, tmps, assign, body, hy, hR⟩ := hY _ (k, v) wr hJs (by rw [upto_length]; exact hlt)
      dsimp only at hy
      have HV := Lib.hid hv
      clear hcc hv
      gi_wp2
      refine hR.mono ?_
      rintro e W3 (⟨rfl, hJ3, hk3⟩ | ⟨rfl, hJx3⟩)
      · -- THE ROUND GOES ON
        gi_wp2
        go_roundw
        case rel => exact ⟨k + 1, by omega, by simp, by rw [upto_succ]; unfold pairs; rw [HV.out]; exact hJ3, hnx.trans hk3⟩
        case measure => simp [intOf]; omega
      · gi_wp2
        refine bodyPost_ret (results_none rfl _ _ _) rfl ?_
        exact ⟨⟨_, rfl⟩, .inr ⟨_, ⟨k + 1, by omega, by rw [upto_succ]; unfold pairs; rw [HV.out]⟩, hJx3⟩⟩
    · obtain rfl : k = bs.length := by omega
      gi_wp2
      go_end0
      exact ⟨⟨_, rfl⟩, .inl ⟨_, rfl, hJs⟩⟩
theorem upto_take {bs : List U8} {k : Nat} (hk : k ≤ bs.length) : upto (pairs bs) k = (upto (pairs bs) bs.length).take k := by
  unfold upto
  rw [← List.map_take, List.take_range, Nat.min_eq_left hk]
theorem visited_stops (F : Fence) (n : Nat) (h8 : F.fn 172) (hro : F.round = none) (hn : 1 ≤ n) (Bs n₀ cap : Nat) (A : Option Addr) (bs : List U8) (hreach : bs.length ≤ 140737488351232) (w : World) (hBs : Bs < w.heap.size) (hn₀ : n₀ ≤ w.heap.size)
    (hc : w.cell? ⟨Bs, 0, none⟩ = some (.slice A bs.length cap)) (hI : BRd n₀ w A bs) :
    SeqStopsK F n Tryz.prog 172 #[.pointer (some ⟨Bs, 0, none⟩)] (fun x : Nat × U8 => #[Value.int .i64 (x.1 : Int), Value.int .u8 x.2.1]) (Below n₀) (fun ys => ys = upto (pairs bs) bs.length) (fun pre => pre <+: upto (pairs bs) bs.length) bs.length w := fun l J Jx W hW _ _ hY h0 => by
  have hc' := (hW.cell (p := ⟨Bs, 0, none⟩) hBs).trans hc
  refine (visited1_in F n h8 hro hn l Bs n₀ cap A bs hreach J Jx hY W hc' (hI.below (hW.mono hn₀)) h0).mono ?_
  rintro e W' ⟨he, ⟨ys, rfl, hj⟩ | ⟨pre, ⟨k, hk, rfl⟩, hj⟩⟩
  · exact ⟨he, .inl ⟨_, rfl, hj⟩⟩
  · exact ⟨he, .inr ⟨_, by rw [upto_take hk]; exact List.take_prefix _ _, hj⟩⟩
theorem visited_in (F : Fence) (n : Nat) (h5 : F.fn 133) (hro : F.round = none) (a : Option Addr) (len cap : Nat) (w : World) :
    CallsIn F n Tryz.prog 133 #[.slice a len cap] w fun e w' => e = .returned (.func (.func 172) #[] #[.pointer (some ⟨w.heap.size, 0, none⟩)]) ∧ w' = w.alloc (.cells #[.slice a len cap] 106) := by
  refine callsIn_of_wp Tryz.func133 rfl h5 ?_ hro
  simp only [Tryz.ntmps133, List.size_toArray, List.length_cons, List.length_nil, Nat.reduceAdd, Nat.reduceSub, Array.replicate_succ, Array.replicate_zero, List.push_toArray, List.append_toArray, List.nil_append, List.cons_append]
  gi_wp2
  go_ret
  exact ⟨rfl, rfl⟩
def rollF (fa mo : Int) : List U8 → Int → Int
  | [], x => x
  | b :: l, x => rollF fa mo l ((fa * x + b.1) % mo)
theorem rollF_snoc (fa mo : Int) (l : List U8) (b : U8) (x : Int) : rollF fa mo (l ++ [b]) x = (fa * rollF fa mo l x + b.1) % mo := by
  induction l generalizing x with
  | nil => rfl
  | cons a l ih => simp only [List.cons_append, rollF, ih]
def bytesOf (ps : List (Nat × U8)) : List U8 := ps.map (·.2)
theorem bytesOf_snoc (ps : List (Nat × U8)) (x : Nat × U8) : bytesOf (ps ++ [x]) = bytesOf ps ++ [x.2] := by simp [bytesOf]
theorem bytesOf_all (bs : List U8) : bytesOf (upto (pairs bs) bs.length) = bs := by
  apply List.ext_getElem
  · simp [bytesOf, upto]
  · intro i h1 h2
    simp [bytesOf, upto, pairs, List.getD, h2]
theorem rollF_bd (fa mo : Int) (hmo : 2 ≤ mo) (l : List U8) (x : Int) (hx : 0 ≤ x ∧ x < mo) : 0 ≤ rollF fa mo l x ∧ rollF fa mo l x < mo := by
  induction l generalizing x with
  | nil => exact hx
  | cons a l ih => exact ih _ ⟨Int.emod_nonneg _ (by omega), Int.emod_lt_of_pos _ (by omega)⟩
theorem blk_kept {W W' : World} {row : Option Nat} {g : Nat} {t : TypeId} {cs : Array Value} (h : Blk W g t cs) (hg : W.grownBy W' row) (hr : ∀ r, row = some r → ∃ o : Obj, W.heap[r]? = some o ∧ o.isCells = false) : Blk W' g t cs :=
  (grownBy_keeps_cells hg hr h rfl).trans h
set_option maxRecDepth 100000 in
set_option maxHeartbeats 2000000 in
theorem check_in (F : Fence) (n : Nat) (h3 : F.fn 130) (h4 : F.fn 133) (h5 : F.fn 172) (hro : F.round = none) (hn : 3 ≤ n) (A : Option Addr) (cap : Nat) (bs : List U8) (fa mo : Int) (hfa : 1 ≤ fa ∧ fa ≤ 1000) (hmo : 2 ≤ mo ∧ mo ≤ 100000000) (hlen : bs.length ≤ 140737488351232) (w : World) (hL : BRd w.heap.size w A bs) :
    CallsIn F n Tryz.prog 130 #[.slice A bs.length cap, .int .i64 fa, .int .i64 mo] w fun e W' => e = .returned (.int .i64 (rollF fa mo bs 1)) ∧ Below w.heap.size w W' := by
  have h1 : 1 ≤ n := by omega
  refine callsIn_of_wp_marks Tryz.func130 rfl h3 ?_ hro
  simp only [Tryz.ntmps130, List.size_toArray, List.length_cons, List.length_nil, Nat.reduceAdd, Nat.reduceSub, Array.replicate_succ, Array.replicate_zero, List.push_toArray, List.append_toArray, List.nil_append, List.cons_append]
  gi_wp2_with (gi_at_call 133; refine (visited_in F (n - 1) h4 hro _ _ _ _).mono ?_; rintro e w' ⟨rfl, rfl⟩)
  have hB0 : Below w.heap.size w ((((w.alloc (.cells #[.int .i64 fa] 3)).alloc (.cells #[.int .i64 mo] 3)).alloc (.cells #[.int .i64 1] 3)).alloc (.cells #[.slice A bs.length cap] 106)) :=
    ((((Below.refl _ w).alloc (Nat.le_refl _) _).alloc (by simp) _).alloc (by simp only [World.size_alloc]; omega) _).alloc (by simp only [World.size_alloc]; omega) _
  have q0 := (((Blk.new w 3 #[.int .i64 fa]).alloc (.cells #[.int .i64 mo] 3)).alloc (.cells #[.int .i64 1] 3)).alloc (.cells #[.slice A bs.length cap] 106)
  have q1 := ((Blk.new (w.alloc (.cells #[.int .i64 fa] 3)) 3 #[.int .i64 mo]).alloc (.cells #[.int .i64 1] 3)).alloc (.cells #[.slice A bs.length cap] 106)
  have q2 := (Blk.new ((w.alloc (.cells #[.int .i64 fa] 3)).alloc (.cells #[.int .i64 mo] 3)) 3 #[.int .i64 1]).alloc (.cells #[.slice A bs.length cap] 106)
  have q3 := Blk.new (((w.alloc (.cells #[.int .i64 fa] 3)).alloc (.cells #[.int .i64 mo] 3)).alloc (.cells #[.int .i64 1] 3)) 106 #[.slice A bs.length cap]
  simp only [World.size_alloc] at q1 q2 q3
  have hz : ((((w.alloc (.cells #[.int .i64 fa] 3)).alloc (.cells #[.int .i64 mo] 3)).alloc (.cells #[.int .i64 1] 3)).alloc (.cells #[.slice A bs.length cap] 106)).heap.size = w.heap.size + 1 + 1 + 1 + 1 := by simp only [World.size_alloc]
  generalize (((w.alloc (.cells #[.int .i64 fa] 3)).alloc (.cells #[.int .i64 mo] 3)).alloc (.cells #[.int .i64 1] 3)).alloc (.cells #[.slice A bs.length cap] 106) = W0 at hB0 q0 q1 q2 q3 hz ⊢
  have HZ := Lib.hid hz
  clear hz
  refine wpIn_rangeFunc_ownF hro h1 (gf := 172) (lb := #[.pointer (some ⟨w.heap.size + 1 + 1 + 1, 0, none⟩)]) rfl h5 (enters_of Tryz.func172 (by kernel_rfl) rfl)
    (visited_stops F (n - 1) h5 hro (by omega) (w.heap.size + 1 + 1 + 1) w.heap.size cap A bs hlen W0 (by rw [HZ.out]; omega) (by rw [HZ.out]; omega) (q3.cell 0) (hL.below hB0)) belowK_t (belowK_b (by rw [HZ.out]; omega)) (Below.refl _ _) (fun _ => rfl)
    (fun pre W => (Blk W w.heap.size 3 #[.int .i64 fa] ∧ Blk W (w.heap.size + 1) 3 #[.int .i64 mo] ∧ Blk W (w.heap.size + 1 + 1) 3 #[.int .i64 (rollF fa mo (bytesOf pre) 1)]) ∧ Below w.heap.size w W)
    (fun _ _ _ => False)
    (OwnFrom.and (Own.from (fun s A B row hs hg hr => ⟨blk_kept hs.1 hg hr, blk_kept hs.2.1 hg hr, blk_kept hs.2.2 hg hr⟩) _) (ownFrom_below (Nat.le_refl _) (by rw [HZ.out]; omega)))
    (fun _ _ _ _ _ hs _ _ => hs)
    ⟨⟨q0, q1, q2⟩, hB0⟩
    (fun x => { tmps := #[.slice A bs.length cap, .int .i64 fa, .int .i64 mo, undef, .pointer (some ⟨w.heap.size, 0, none⟩), .pointer (some ⟨w.heap.size + 1, 0, none⟩), .int .i64 0, .pointer (some ⟨w.heap.size + 1 + 1, 0, none⟩), undef, .int .u8 x.2.1, .slice A bs.length cap, .func (.func 172) #[] #[.pointer (some ⟨w.heap.size + 1 + 1 + 1, 0, none⟩)], .int .i64 x.1, .int .u8 x.2.1, undef, undef, undef, undef, undef, undef, undef, undef, undef], defers := [] }) ?assign ?body ?done ?stop
  case assign =>
    intro l x W K hK
    gi_wp2
    exact hK
  case body =>
    rintro l pre x W ⟨⟨b0, b1, b2⟩, hB⟩ hlt
    have c0 := b0.cell 0
    have c1 := b1.cell 0
    have c2 := b2.cell 0
    have f2 := b2.frozen 0
    simp only [List.getElem?_toArray, List.getElem?_cons_zero] at c0 c1 c2
    obtain ⟨X, hX⟩ : ∃ X, rollF fa mo (bytesOf pre) 1 = X := ⟨_, rfl⟩
    have hXb := rollF_bd fa mo hmo.1 (bytesOf pre) 1 (by omega)
    rw [hX] at c2 hXb
    obtain ⟨P, hP⟩ : ∃ P, fa * X = P := ⟨_, rfl⟩
    have hPb : 0 ≤ P ∧ P ≤ 100000000000 := by
      rw [← hP]
      have h1 := Int.mul_nonneg (a := fa) (b := X) (by omega) (by omega)
      have h2 : fa * X ≤ 1000 * 100000000 := Int.mul_le_mul hfa.2 (by omega) (by omega) (by omega)
      omega
    have hxb := x.2.2
    obtain ⟨y, hy⟩ : ∃ y : Int, x.2.1 = y := ⟨_, rfl⟩
    rw [hy] at hxb
    have HS : RowKit.Hid (rollF fa mo (bytesOf (pre ++ [x])) 1 = (P + y) % mo) := Lib.hid (by rw [bytesOf_snoc, rollF_snoc, hX, hP, hy])
    rw [hy]
    have HP := Lib.hid hP
    clear hX hy
    gi_wp2
    refine ⟨KeepsOthers.setCell _ _ _, (Below.refl _ W).setCell (p := ⟨w.heap.size + 1 + 1, 0, none⟩) (by simp; omega) _, ⟨b0.far (p := ⟨w.heap.size + 1 + 1, 0, none⟩) (by simp; omega) _, b1.far (p := ⟨w.heap.size + 1 + 1, 0, none⟩) (by simp) _, ?_⟩, hB.setCell (p := ⟨w.heap.size + 1 + 1, 0, none⟩) (by simp; omega) _⟩
    have h := b2.set_ 0 (.int .i64 ((P + y) % mo))
    rw [HS.out]
    simpa using h
  case done =>
    rintro D ys W hD rfl ⟨⟨b0, b1, b2⟩, hB⟩ hK
    rw [bytesOf_all] at b2
    have c2 := b2.cell 0
    simp only [List.getElem?_toArray, List.getElem?_cons_zero] at c2
    gi_wp2
    refine ⟨by simp, .inl ⟨_, _, rfl, run_takeDeferred hK, ?_⟩⟩
    exact ⟨_, results_tmp rfl _ _ _, rfl, hB.trans (belowK_b (w := w) (Nat.le_refl _) W D _ _ (by have := HZ.out; omega) hK rfl rfl)⟩
  case stop =>
    rintro D c pre W _ _ h _
    exact h.elim
theorem check_any (A : Option Addr) (cap : Nat) (bs : List U8) (fa mo : Int) (hfa : 1 ≤ fa ∧ fa ≤ 1000) (hmo : 2 ≤ mo ∧ mo ≤ 100000000) (hlen : bs.length ≤ 140737488351232) (w : World) (hL : BRd w.heap.size w A bs) :
    Calls Tryz.prog 130 #[.slice A bs.length cap, .int .i64 fa, .int .i64 mo] w fun e W' => e = .returned (.int .i64 (rollF fa mo bs 1)) ∧ Below w.heap.size w W' :=
  (callsIn_wide (n := 3)).1 (check_in _ 3 trivial trivial trivial rfl (by omega) A cap bs fa mo hfa hmo hlen w hL)
open Go in
def xorF : List U8 → Int → Int
  | [], x => x
  | b :: l, x => xorF l (bits .xor .u8 x b.1)
theorem xorF_snoc (l : List U8) (b : U8) (x : Int) : xorF (l ++ [b]) x = bits .xor .u8 (xorF l x) b.1 := by
  induction l generalizing x with
  | nil => rfl
  | cons a l ih => simp only [List.cons_append, xorF, ih]
set_option maxRecDepth 100000 in
set_option maxHeartbeats 2000000 in
theorem parity_in (F : Fence) (n : Nat) (h3 : F.fn 129) (h4 : F.fn 133) (h5 : F.fn 172) (hro : F.round = none) (hn : 3 ≤ n) (A : Option Addr) (cap : Nat) (bs : List U8) (hlen : bs.length ≤ 140737488351232) (w : World) (hL : BRd w.heap.size w A bs) :
    CallsIn F n Tryz.prog 129 #[.slice A bs.length cap] w fun e W' => e = .returned (.int .u8 (xorF bs 0)) ∧ Below w.heap.size w W' := by
  have h1 : 1 ≤ n := by omega
  refine callsIn_of_wp_marks Tryz.func129 rfl h3 ?_ hro
  simp only [Tryz.ntmps129, List.size_toArray, List.length_cons, List.length_nil, Nat.reduceAdd, Nat.reduceSub, Array.replicate_succ, Array.replicate_zero, List.push_toArray, List.append_toArray, List.nil_append, List.cons_append]
  gi_wp2_with (gi_at_call 133; refine (visited_in F (n - 1) h4 hro _ _ _ _).mono ?_; rintro e w' ⟨rfl, rfl⟩)
  have hB0 : Below w.heap.size w ((w.alloc (.cells #[.int .u8 0] 5)).alloc (.cells #[.slice A bs.length cap] 106)) := ((Below.refl _ w).alloc (Nat.le_refl _) _).alloc (by simp) _
  have q0 := (Blk.new w 5 #[.int .u8 0]).alloc (.cells #[.slice A bs.length cap] 106)
  have q1 := Blk.new (w.alloc (.cells #[.int .u8 0] 5)) 106 #[.slice A bs.length cap]
  simp only [World.size_alloc] at q1
  have hz : ((w.alloc (.cells #[.int .u8 0] 5)).alloc (.cells #[.slice A bs.length cap] 106)).heap.size = w.heap.size + 1 + 1 := by simp only [World.size_alloc]
  generalize (w.alloc (.cells #[.int .u8 0] 5)).alloc (.cells #[.slice A bs.length cap] 106) = W0 at hB0 q0 q1 hz ⊢
  have HZ := Lib.hid hz
  clear hz
  refine wpIn_rangeFunc_ownF hro h1 (gf := 172) (lb := #[.pointer (some ⟨w.heap.size + 1, 0, none⟩)]) rfl h5 (enters_of Tryz.func172 (by kernel_rfl) rfl)
    (visited_stops F (n - 1) h5 hro (by omega) (w.heap.size + 1) w.heap.size cap A bs hlen W0 (by rw [HZ.out]; omega) (by rw [HZ.out]; omega) (q1.cell 0) (hL.below hB0)) belowK_t (belowK_b (by rw [HZ.out]; omega)) (Below.refl _ _) (fun _ => rfl)
    (fun pre W => Blk W w.heap.size 5 #[.int .u8 (xorF (bytesOf pre) 0)] ∧ Below w.heap.size w W)
    (fun _ _ _ => False)
    (OwnFrom.and (Own.from (I := fun pre W => Blk W w.heap.size 5 #[.int .u8 (xorF (bytesOf pre) 0)]) (fun s A B row hs hg hr => blk_kept hs hg hr) _) (ownFrom_below (Nat.le_refl _) (by rw [HZ.out]; omega)))
    (fun _ _ _ _ _ hs _ _ => hs)
    ⟨q0, hB0⟩
    (fun x => { tmps := #[.slice A bs.length cap, undef, .int .u8 0, .pointer (some ⟨w.heap.size, 0, none⟩), undef, .int .u8 x.2.1, .slice A bs.length cap, .func (.func 172) #[] #[.pointer (some ⟨w.heap.size + 1, 0, none⟩)], .int .i64 x.1, .int .u8 x.2.1, undef, undef, undef, undef], defers := [] }) ?assign ?body ?done ?stop
  case assign =>
    intro l x W K hK
    gi_wp2
    exact hK
  case body =>
    rintro l pre x W ⟨b0, hB⟩ hlt
    have c0 := b0.cell 0
    have f0 := b0.frozen 0
    simp only [List.getElem?_toArray, List.getElem?_cons_zero] at c0
    have HS := Lib.hid (xorF_snoc (bytesOf pre) x.2 0)
    gi_wp2
    refine ⟨KeepsOthers.setCell _ _ _, (Below.refl _ W).setCell (p := ⟨w.heap.size, 0, none⟩) (by simp) _, ?_, hB.setCell (p := ⟨w.heap.size, 0, none⟩) (by simp) _⟩
    have h := b0.set_ 0 (.int .u8 (bits .xor .u8 (xorF (bytesOf pre) 0) x.2.1))
    rw [bytesOf_snoc, HS.out]
    simpa using h
  case done =>
    rintro D ys W hD rfl ⟨b0, hB⟩ hK
    rw [bytesOf_all] at b0
    have c0 := b0.cell 0
    simp only [List.getElem?_toArray, List.getElem?_cons_zero] at c0
    gi_wp2
    refine ⟨by simp, .inl ⟨_, _, rfl, run_takeDeferred hK, ?_⟩⟩
    exact ⟨_, results_tmp rfl _ _ _, rfl, hB.trans (belowK_b (w := w) (Nat.le_refl _) W D _ _ (by have := HZ.out; omega) hK rfl rfl)⟩
  case stop =>
    rintro D c pre W _ _ h _
    exact h.elim
theorem parity_any (A : Option Addr) (cap : Nat) (bs : List U8) (hlen : bs.length ≤ 140737488351232) (w : World) (hL : BRd w.heap.size w A bs) :
    Calls Tryz.prog 129 #[.slice A bs.length cap] w fun e W' => e = .returned (.int .u8 (xorF bs 0)) ∧ Below w.heap.size w W' :=
  (callsIn_wide (n := 3)).1 (parity_in _ 3 trivial trivial trivial rfl (by omega) A cap bs hlen w hL)


end Go.Proofs.YtkjkjhheckfhbaaGreatDoor
