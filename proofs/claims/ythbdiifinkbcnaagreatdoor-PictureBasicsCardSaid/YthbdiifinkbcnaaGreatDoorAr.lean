/- A list mapped to strings, and cut into rows: the words of a picture. -/
import Derived.Test.YthbdiifinkbcnaaGreatDoorAk
import Derived.Test.YthbdiifinkbcnaaGreatDoorG
import Derived.Test.YthbdiifinkbcnaaGreatDoorAq
namespace Go.Proofs.YthbdiifinkbcnaaGreatDoor
open Go.RowKit
set_option linter.unusedVariables false
open Go.Shelf
attribute [local go_sem] Oper.semAt_some
set_option maxRecDepth 100000 in
theorem mapIS_at (A : Option Addr) (c : Nat) (l : List (Int)) (F : FuncId) (g : Int → ByteArray) (w : World) (hl : l.length ≤ 4096) (hr : Rd w A (l.map (Value.int .i64))) (hcf : Enters Tryz.prog F)
    (hF : ∀ x ∈ l, ∀ wr, Below w.heap.size w wr → Calls Tryz.prog F #[(Value.int .i64) x] wr fun e w' => e = .returned (Value.string (g x)) ∧ Below wr.heap.size wr w') :
    Calls Tryz.prog 135 #[.slice A l.length c, .func (.func F) #[] #[]] w fun e w' => e = .returned (.slice (some ⟨w.heap.size, 0, none⟩) l.length l.length) ∧ (∃ C : Array Value, Blk w' w.heap.size 9 C ∧ C.size = l.length ∧ ∀ (j : Nat) (x : Int), l[j]? = some x → C[j]? = some (Value.string (g x))) ∧ Below w.heap.size w w' := by
  have HF := Lib.hid hF; clear hF
  have HR := Lib.hid hr; clear hr
  unfold Enters at hcf
  have hmk := fun W => Go.run_make_row' (P := Tryz.prog) 189 9 (.string ByteArray.empty) 16 Tryz.underlying189 info_mapIS rfl .i64 .i64 l.length (by omega) (by omega) W
  go_enter Tryz.func135, Tryz.ntmps135
  go_wp2
  go_loopw [13] (fun i wr => ∃ k : Nat, k ≤ l.length ∧ i = .int .i64 k ∧ Blk wr w.heap.size 9 (fillN (fun j => Value.string (g (l.getD j 0))) (.string ByteArray.empty) l.length k) ∧ Below w.heap.size w wr) (fun i _ => l.length - (intOf i).toNat)
  case atStart => exact ⟨0, by omega, rfl, by rw [← fill_zero]; exact Blk.new _ _ _, (Below.refl _ _).alloc (Nat.le_refl _) _⟩
  case round =>
    obtain ⟨k, hk, rfl, hb, hbel⟩ := hrel
    by_cases hlt : k < l.length
    · obtain ⟨x, hx⟩ : ∃ x, l.getD k 0 = x := ⟨_, rfl⟩
      have hxm : x ∈ l := by rw [← hx]; simp [List.getD, hlt]
      obtain ⟨ad, rfl, hbl, hc⟩ := HR.out.get (k := k) (u := (Value.int .i64) x) (by rw [← hx]; simp [List.getD, hlt])
      have hc' := (hbel.cell (by rw [block_of_add]; exact hbl)).trans hc
      have hs := hbel.size
      have HB := Lib.hid hb; clear hb
      have HBel := Lib.hid hbel; clear hbel
      have HX := Lib.hid hx; clear hx
      clear hc hmk
      go_wp2_with fail
      refine (HF.out x hxm _ HBel.out).mono ?_
      rintro e w1 ⟨rfl, hb1⟩
      have hblk := HB.out.below hb1
      have hcell := hblk.cell k
      rw [fill_get, if_pos hlt, if_neg (by omega)] at hcell
      have hfr := hblk.frozen k
      have hset := hblk.set_ k (Value.string (g x))
      have hfs := fill_set (fun j => Value.string (g (l.getD j 0))) (.string ByteArray.empty) l.length k
      simp only [HX.out] at hfs
      rw [hfs] at hset
      have hbel1 := (HBel.out.trans (hb1.mono HBel.out.size)).setCell (p := ⟨w.heap.size, k, none⟩) (Nat.le_refl _) (Value.string (g x))
      have HS := Lib.hid hset; have HB1 := Lib.hid hbel1
      clear hset hbel1 hblk hb1 hfs
      go_wp2
      go_roundw
      case rel => exact ⟨k + 1, by omega, by go_num, HS.out, HB1.out⟩
      case measure => simp [intOf]; omega
    · have : k = l.length := by omega
      subst this
      go_wp2
      go_ret
      refine ⟨rfl, ⟨_, hb, by simp [fillN], fun j x hj => ?_⟩, hbel⟩
      have hjl : j < l.length := (List.getElem?_eq_some_iff.1 hj).1
      rw [fill_get, if_pos hjl, if_pos hjl]
      simp [List.getD, hj]
def KeepsTwo (a b : Nat) (A B : World) : Prop := (∀ cs, Blk A a 189 cs → Blk B a 189 cs) ∧ (∀ cs, Blk A b 3 cs → Blk B b 3 cs)
theorem keepsTwo_t {a b : Nat} {A B C : World} (h : KeepsTwo a b A B) (k : KeepsTwo a b B C) : KeepsTwo a b A C := ⟨fun cs x => k.1 cs (h.1 cs x), fun cs x => k.2 cs (h.2 cs x)⟩
theorem keepsTwo_put {a b : Nat} (W : World) (l : Nat) (o o' : Obj) (hl : W.heap[l]? = some o) (ho : o.isCells = false) : KeepsTwo a b W (W.putObj l o') := by
  have key : ∀ g t cs, Blk W g t cs → Blk (W.putObj l o') g t cs := fun g t cs h => by
    have hne : l ≠ g := fun e => by subst e; unfold Blk at h; rw [hl] at h; cases h; cases ho
    show (W.putObj l o').heap[g]? = _
    rw [World.putObj_heap_other (by omega)]; exact h
  exact ⟨key a _, key b _⟩
abbrev Row (h : Nat) := { i : Nat // i < h }
def rowV {h : Nat} (l : List (Row h)) : List Nat := l.map (·.1)
theorem rowV_snoc {h : Nat} (l : List (Row h)) (x : Row h) : rowV (l ++ [x]) = rowV l ++ [x.1] := by simp [rowV]
set_option maxRecDepth 100000 in
set_option maxHeartbeats 2000000 in
theorem chunk1_rows (F : Fence) (n : Nat) (h8 : F.fn 175) (hro : F.round = none) (hn : 1 ≤ n) (l Bs Bn g k h c : Nat) (hk : 1 ≤ k) (hk2 : k ≤ 64) (hh : h ≤ 64) (hc : h * k ≤ c) (hcm : c ≤ maxLen) (J Jx : List (Row h) → World → Prop) (hJd : ∀ pre W, J pre W → J pre W.drew)
    (hY : ∀ pre x W, J pre W → pre.length < h → YieldAt F (n - 1) Tryz.prog l #[.slice (some ⟨g, x.1 * k, none⟩) k k] W fun e W' =>
      (e = .returned (.bool true) ∧ J (pre ++ [x]) W' ∧ KeepsTwo Bs Bn W W') ∨ (e = .returned (.bool false) ∧ Jx (pre ++ [x]) W'))
    (W : World) (hBs : Blk W Bs 189 #[.slice (some ⟨g, 0, none⟩) (h * k) c]) (hBn : Blk W Bn 3 #[.int .i64 k]) (h0 : J [] W) :
    CallsIn F n Tryz.prog 175 #[.func (.yield l) #[] #[], .pointer (some ⟨Bs, 0, none⟩), .pointer (some ⟨Bn, 0, none⟩)] W fun e W' => (∃ v, e = .returned v) ∧
      ((∃ ys, rowV ys = List.range h ∧ J ys W') ∨ (∃ pre, Jx pre W')) := by
  refine callsIn_of_wp Tryz.func175 rfl h8 ?_ hro
  simp only [Tryz.ntmps175, List.size_toArray, List.length_cons, List.length_nil, Nat.reduceAdd, Nat.reduceSub, Array.replicate_succ, Array.replicate_zero, List.push_toArray, List.append_toArray, List.nil_append, List.cons_append]
  gi_wp2
  gi_loopw [4] (fun i wr => ∃ j : Nat, j ≤ h ∧ i = .int .i64 ((j * k : Nat) : Int) ∧ (∃ ys : List (Row h), RowKit.Hid (rowV ys = List.range j) ∧ J ys wr) ∧ RowKit.Hid (Blk wr Bs 189 #[.slice (some ⟨g, 0, none⟩) (h * k) c]) ∧ RowKit.Hid (Blk wr Bn 3 #[.int .i64 k]))
    (fun i _ => h * k - (intOf i).toNat)
  case atStart => exact ⟨0, Nat.zero_le _, by simp, ⟨[], Lib.hid rfl, h0⟩, Lib.hid hBs, Lib.hid hBn⟩
  case round =>
    obtain ⟨j, hj, rfl, ⟨ys, hys, hJs⟩, HBS, HBN⟩ := hrel
    have cs := HBS.out.cell 0
    have cn := HBN.out.cell 0
    simp only [List.getElem?_toArray, List.getElem?_cons_zero] at cs cn
    by_cases hlt : j < h
    · have hyl : ys.length < h := by
        have e := congrArg List.length hys.out
        simp [rowV] at e; omega
      obtain ⟨fn, tmps, assign, body, hy, hR⟩ := hY ys ⟨j, hlt⟩ wr.drew (hJd _ _ hJs) hyl
      dsimp only at hy
      have hjk : j * k + k ≤ h * k := by rw [← Nat.succ_mul]; exact Nat.mul_le_mul_right k hlt
      have hhk : h * k ≤ 64 * 64 := Nat.mul_le_mul hh hk2
      obtain ⟨m, hm⟩ : ∃ m, h * k = m := ⟨_, rfl⟩
      obtain ⟨s, hs⟩ : ∃ s, j * k = s := ⟨_, rfl⟩
      rw [hm] at cs hjk hhk hc
      rw [hs] at hjk hy ⊢
      have HM := Lib.hid hm; have HSS := Lib.hid hs
      clear hm hs
      have hcs : ¬ c = s := by omega
      have hmin : min (k : Int) ((m - s : Nat) : Int) = k := by omega
      gi_wp2
      gi_region
      all_goals
        gi_wp2
        refine hR.mono ?_
        rintro e W3 (⟨rfl, hJ3, hk3⟩ | ⟨rfl, hJx3⟩)
        · have hb3 : Blk W3 Bn 3 #[.int .i64 k] := hk3.2 _ (show Blk wr.drew Bn 3 #[.int .i64 k] from HBN.out)
          have c3 := hb3.cell 0
          simp only [List.getElem?_toArray, List.getElem?_cons_zero] at c3
          have HB3 := Lib.hid hb3
          have HS3 := Lib.hid (hk3.1 _ (show Blk wr.drew Bs 189 #[.slice (some ⟨g, 0, none⟩) (h * k) c] from HBS.out))
          clear hb3 hk3
          gi_wp2
          go_roundw
          case rel => exact ⟨j + 1, by omega, by rw [Nat.succ_mul, HSS.out]; simp, ⟨_, Lib.hid (by rw [rowV_snoc, hys.out, List.range_succ]), hJ3⟩, HS3, HB3⟩
          case measure => have hmm := HM.out; simp [intOf]; omega
        · gi_wp2
          refine bodyPost_ret (results_none rfl _ _ _) rfl ?_
          exact ⟨⟨_, rfl⟩, .inr ⟨_, hJx3⟩⟩
    · obtain rfl : j = h := by omega
      gi_wp2
      go_end0
      exact ⟨⟨_, rfl⟩, .inl ⟨_, hys.out, hJs⟩⟩
theorem chunks_seq (F : Fence) (n : Nat) (h8 : F.fn 175) (hro : F.round = none) (hn : 1 ≤ n) (Bs Bn g k h c : Nat) (hk : 1 ≤ k) (hk2 : k ≤ 64) (hh : h ≤ 64) (hc : h * k ≤ c) (hcm : c ≤ maxLen) (w : World)
    (hBs : Blk w Bs 189 #[.slice (some ⟨g, 0, none⟩) (h * k) c]) (hBn : Blk w Bn 3 #[.int .i64 k]) :
    SeqStopsK F n Tryz.prog 175 #[.pointer (some ⟨Bs, 0, none⟩), .pointer (some ⟨Bn, 0, none⟩)] (fun x : Row h => #[Value.slice (some ⟨g, x.1 * k, none⟩) k k]) (KeepsTwo Bs Bn) (fun ys => rowV ys = List.range h) (fun _ => True) h w := fun l J Jx W hW hJ _ hY h0 => by
  refine (chunk1_rows F n h8 hro hn l Bs Bn g k h c hk hk2 hh hc hcm J Jx (fun pre W hp => hJ pre W W.drew none hp ⟨rfl, rfl, rfl, Nat.le_refl _, fun _ _ _ => rfl⟩ (fun r e => by cases e)) hY W (hBs.below hW) (hBn.below hW) h0).mono ?_
  rintro e W' ⟨he, ⟨ys, hy, hj⟩ | ⟨pre, hj⟩⟩
  · exact ⟨he, .inl ⟨_, hy, hj⟩⟩
  · exact ⟨he, .inr ⟨_, trivial, hj⟩⟩
theorem chunk_in (F : Fence) (n : Nat) (h5 : F.fn 136) (hro : F.round = none) (a : Option Addr) (len cap : Nat) (k : Nat) (hk : 1 ≤ k) (w : World) :
    CallsIn F n Tryz.prog 136 #[.slice a len cap, .int .i64 k] w fun e w' => e = .returned (.func (.func 175) #[] #[.pointer (some ⟨w.heap.size, 0, none⟩), .pointer (some ⟨w.heap.size + 1, 0, none⟩)]) ∧ w' = (w.alloc (.cells #[.slice a len cap] 189)).alloc (.cells #[.int .i64 k] 3) := by
  refine callsIn_of_wp Tryz.func136 rfl h5 ?_ hro
  simp only [Tryz.ntmps136, List.size_toArray, List.length_cons, List.length_nil, Nat.reduceAdd, Nat.reduceSub, Array.replicate_succ, Array.replicate_zero, List.push_toArray, List.append_toArray, List.nil_append, List.cons_append]
  have hd : decide ((k : Int) < 1) = false := by simp; omega
  gi_wp2
  go_ret
  exact ⟨rfl, rfl⟩

end Go.Proofs.YthbdiifinkbcnaaGreatDoor
