/- The permutation by a key. -/
import Derived.Test.YtkjkjhheckfhbaaGreatDoorE
namespace Go.Proofs.YtkjkjhheckfhbaaGreatDoor
open Go.RowKit
set_option linter.unusedVariables false
def swapI (l : List Int) (i j : Nat) : List Int := (l.set i (l.getD j 0)).set j (l.getD i 0)
def drawX (x : Int) : Int := 1226874159 * x % 2147483647
def drawGo : Nat → Int → List Int → List Int
  | 0, _, l => l
  | i + 1, x, l => drawGo i (drawX x) (swapI l (i + 1) (drawX x % ((i : Int) + 2)).toNat)
def upI (n : Nat) : List Int := (List.range n).map (fun k : Nat => (k : Int))
def drawL (key : Int) (n : Nat) : List Int := drawGo (n - 1) key (upI n)
def intsV (l : List Int) : Array Value := (l.map (Value.int .i64)).toArray
theorem swapI_length (l : List Int) (i j : Nat) : (swapI l i j).length = l.length := by simp [swapI]
theorem drawGo_length (i : Nat) (x : Int) (l : List Int) : (drawGo i x l).length = l.length := by
  induction i generalizing x l with
  | zero => rfl
  | succ i ih => rw [drawGo, ih, swapI_length]
theorem drawL_length (key : Int) (n : Nat) : (drawL key n).length = n := by simp [drawL, drawGo_length, upI]
theorem intsV_set (l : List Int) (i : Nat) (u : Int) : (intsV l).setIfInBounds i (.int .i64 u) = intsV (l.set i u) := by
  simp [intsV, List.map_set]
theorem intsV_get (l : List Int) (i : Nat) (h : i < l.length) : (intsV l)[i]? = some (.int .i64 (l.getD i 0)) := by
  simp [intsV, List.getD, h]
theorem fill_up (n : Nat) : fillN (fun j => .int .i64 (j : Int)) (.int .i64 0) n n = intsV (upI n) := by
  unfold fillN intsV upI
  apply Array.ext_getElem?
  intro i
  by_cases h : i < n <;> simp [h]
theorem drawX_bd (x : Int) (h : 0 ≤ x) : 0 ≤ drawX x ∧ drawX x ≤ 2147483646 := by unfold drawX; omega
theorem drawGo_pos (M : Nat) (x : Int) (l : List Int) (h : 1 ≤ M) : drawGo M x l = drawGo (M - 1) (drawX x) (swapI l M (drawX x % ((M : Int) + 1)).toNat) := by
  obtain ⟨m, rfl⟩ : ∃ m, M = m + 1 := ⟨M - 1, by omega⟩
  rw [drawGo]
  have : ((m + 1 : Nat) : Int) + 1 = (m : Int) + 2 := by omega
  rw [this]; rfl
theorem rd_ints {w : World} {g : Nat} {t : TypeId} {l : List Int} (h : Blk w g t (intsV l)) : Rd w (some ⟨g, 0, none⟩) (l.map (Value.int .i64)) := rd_of_blk h (by simp [intsV])
theorem info_int : (Tryz.prog.info? 3).map (fun i => (i.zero, i.size, i.bytes)) = some (some (.int .i64 0), 1, 8) := by kernel_rfl
set_option maxRecDepth 100000 in
theorem draw_ok (key : Int) (n : Nat) (hk : 1 ≤ key ∧ key ≤ 2147483646) (hn : n ≤ 256) (w : World) :
    Calls Tryz.prog 17 #[.int .i64 key, .int .i64 (n : Int)] w fun e w' => ∃ ad, e = .returned (.tuple #[.slice (some ad) n n, .int .i64 0]) ∧ Rd w' (some ad) ((drawL key n).map (Value.int .i64)) ∧ Below w.heap.size w w' := by
  have hmk := fun W => Go.run_make_row' (P := Tryz.prog) 25 3 (.int .i64 0) 8 Tryz.underlying25 info_int rfl .i64 .i64 n (by omega) (by omega) W
  have ho : outs key 1 2147483646 = 0 := by simp [outs, errIf]; omega
  have ho2 : outs (n : Int) 0 256 = 0 := by simp [outs, errIf]; omega
  have HO := Lib.hid ho; have HO2 := Lib.hid ho2; clear ho ho2
  have HMK := Lib.hid hmk; clear hmk
  go_enter Tryz.func17, Tryz.ntmps17
  go_wp2_with (first
      | (go_at_call 98; refine (outside_any _ _ _ _).mono ?_; rintro e wn ⟨rfl, rfl⟩)
      | (go_at_call 97; refine (first_n _ _ _ [_, _] _ rfl (by simp [maxLen]) (by exact rd_of_blk (Blk.new _ _ _) rfl)).mono ?_; rintro e wn ⟨rfl, rfl⟩; rw [show firstE [outs key 1 2147483646, outs (n : Int) 0 256] = 0 by simp [firstE, HO.out, HO2.out]]; have hmk := HMK.out))
  have hb0 : Below w.heap.size w ((w.alloc (.cells #[.int .i64 (outs key 1 2147483646), .int .i64 (outs (n : Int) 0 256)] 26)).alloc (.cells (madeCells #[.int .i64 0] n) 3)) := ((Below.refl _ _).alloc (Nat.le_refl _) _).alloc (by simp) _
  have hbx := Blk.new (w.alloc (.cells #[.int .i64 (outs key 1 2147483646), .int .i64 (outs (n : Int) 0 256)] 26)) 3 (madeCells #[.int .i64 0] n)
  simp only [World.size_alloc] at hbx
  generalize (w.alloc (.cells #[.int .i64 (outs key 1 2147483646), .int .i64 (outs (n : Int) 0 256)] 26)).alloc (.cells (madeCells #[.int .i64 0] n) 3) = w0 at hb0 hbx ⊢
  have HB0 := Lib.hid hb0; have HX0 := Lib.hid hbx; clear hb0 hbx hmk
  go_loopw [24] (fun i wr => ∃ k : Nat, k ≤ n ∧ i = .int .i64 k ∧ Blk wr (w.heap.size + 1) 3 (fillN (fun j => .int .i64 (j : Int)) (.int .i64 0) n k) ∧ Below w.heap.size w wr) (fun i _ => n - (intOf i).toNat)
  case atStart => exact ⟨0, by omega, rfl, by have := HX0.out; rw [fill_zero (fun j => .int .i64 (j : Int))] at this; exact this, HB0.out⟩
  case round =>
    obtain ⟨k, hkn, rfl, hb, hbel⟩ := hrel
    by_cases hlt : k < n
    · have hcell := hb.cell k
      rw [fill_get, if_pos hlt, if_neg (by omega)] at hcell
      have hfr := hb.frozen k
      have hset := hb.set_ k (.int .i64 (k : Int))
      rw [fill_set (fun j => .int .i64 (j : Int))] at hset
      have HS := Lib.hid hset; have HBel := Lib.hid hbel
      clear hset hbel hb
      go_wp2
      go_roundw
      case rel => exact ⟨k + 1, by omega, by go_num, HS.out, HBel.out.setCell (by simp) _⟩
      case measure => simp [intOf]; omega
    · have : k = n := by omega
      subst this
      rw [fill_up] at hb
      have HB := Lib.hid hb; have HBel := Lib.hid hbel; clear hb hbel
      go_wp2
      go_loopw [9, 10] (fun xv iv wr => ∃ (i x : Int) (l : List Int), l.length = k ∧ xv = .int .i64 x ∧ iv = .int .i64 i ∧ (0 ≤ x ∧ x ≤ 2147483646) ∧ (-1 ≤ i ∧ i < k ∧ (0 ≤ i ∨ k = 0)) ∧ drawGo i.toNat x l = drawL key k ∧ Blk wr (w.heap.size + 1) 3 (intsV l) ∧ Below w.heap.size w wr) (fun _ iv _ => (intOf iv).toNat)
      case atStart => exact ⟨_, key, upI k, by simp [upI], rfl, rfl, by omega, by omega, by unfold drawL; congr 1; omega, HB.out, HBel.out⟩
      case round =>
        obtain ⟨i, x, l, hll, rfl, rfl, hx, hi, hgo, hb, hbel⟩ := hrel
        have HGO := Lib.hid hgo; have HLL := Lib.hid hll; clear hgo hll
        by_cases h1 : 1 ≤ i
        · obtain ⟨M, rfl⟩ : ∃ M : Nat, i = (M : Int) := ⟨i.toNat, by omega⟩
          have hM1 : 1 ≤ M := by omega
          obtain ⟨y, hy⟩ : ∃ y, 1226874159 * x % 2147483647 = y := ⟨_, rfl⟩
          have hyb : 0 ≤ y ∧ y ≤ 2147483646 := by omega
          obtain ⟨j, hj⟩ : ∃ j : Nat, y % ((M : Int) + 1) = (j : Int) := ⟨(y % ((M : Int) + 1)).toNat, by have := Int.emod_nonneg y (b := (M : Int) + 1) (by omega); omega⟩
          have hjb : j < M + 1 := by have := Int.emod_lt_of_pos y (b := (M : Int) + 1) (by omega); omega
          have hMl : M < l.length := by have := HLL.out; omega
          have hjl : j < l.length := by have := HLL.out; omega
          have HGO2 : RowKit.Hid (drawGo (M - 1) y (swapI l M j) = drawL key k) := Lib.hid (by
            rw [← HGO.out, Int.toNat_natCast, drawGo_pos M x l hM1]; unfold drawX; rw [hy, hj, Int.toNat_natCast])
          have fM := hb.frozen M
          have fj := hb.frozen j
          have HBel := Lib.hid hbel
          have hll2 : l.length = k := HLL.out
          have hkk : (M : Int) < (k : Int) := by omega
          have hjk : (j : Int) < (k : Int) := by omega
          have HLL2 := Lib.hid hll2
          have cM := (hb.cell M).trans (intsV_get l M hMl)
          clear hll2 hbel
          by_cases hjm : j = M
          · subst hjm
            have hsw := (hb.set_ j (.int .i64 (l.getD j 0)))
            rw [intsV_set] at hsw
            have hsw := hsw.set_ j (.int .i64 (l.getD j 0))
            rw [intsV_set] at hsw
            have HSW := Lib.hid hsw
            have HSI : RowKit.Hid (swapI l j j = (l.set j (l.getD j 0)).set j (l.getD j 0)) := Lib.hid rfl
            clear hb hsw
            generalize l.getD j 0 = a at cM HSW HSI
            go_wp2
            go_region
            go_wp2
            go_roundw
            case rel => exact ⟨_, y, (l.set j a).set j a, by simp; exact HLL2.out, by rw [hy], rfl, by omega, by omega, by rw [← HGO2.out, HSI.out]; congr 1; omega, HSW.out, ((HBel.out.setCell (p := ⟨w.heap.size + 1, _, none⟩) (by simp) _).setCell (p := ⟨w.heap.size + 1, _, none⟩) (by simp) _).drew⟩
            case measure => simp [intOf]; omega
          · have cj := (hb.cell j).trans (intsV_get l j hjl)
            have hsw := (hb.set_ M (.int .i64 (l.getD j 0)))
            rw [intsV_set] at hsw
            have hsw := hsw.set_ j (.int .i64 (l.getD M 0))
            rw [intsV_set] at hsw
            have HSW := Lib.hid hsw
            have HSI : RowKit.Hid (swapI l M j = (l.set M (l.getD j 0)).set j (l.getD M 0)) := Lib.hid rfl
            clear hb hsw
            generalize l.getD M 0 = a at cM HSW HSI
            generalize l.getD j 0 = b at cj HSW HSI
            have hjm' : ¬ M = j := fun h => hjm h.symm
            go_wp2
            go_region
            go_wp2
            go_roundw
            case rel => exact ⟨_, y, (l.set M b).set j a, by simp; exact HLL2.out, by rw [hy], rfl, by omega, by omega, by rw [← HGO2.out, HSI.out]; congr 1; omega, HSW.out, ((HBel.out.setCell (p := ⟨w.heap.size + 1, _, none⟩) (by simp) _).setCell (p := ⟨w.heap.size + 1, _, none⟩) (by simp) _).drew⟩
            case measure => simp [intOf]; omega
        · have hz : i.toNat = 0 := by omega
          have HG3 : RowKit.Hid (l = drawL key k) := Lib.hid (by rw [← HGO.out, hz]; rfl)
          have HB3 := Lib.hid hb; have HBel := Lib.hid hbel
          clear hb hbel hz
          go_wp2
          go_ret2
          exact ⟨_, rfl, by rw [← HG3.out]; exact rd_ints HB3.out, HBel.out⟩
set_option maxRecDepth 100000 in
theorem draw_err (key n : Int) (hne : firstE [outs key 1 2147483646, outs n 0 256] ≠ 0) (w : World) :
    Calls Tryz.prog 17 #[.int .i64 key, .int .i64 n] w fun e w' => e = .returned (.tuple #[.slice none 0 0, .int .i64 (firstE [outs key 1 2147483646, outs n 0 256])]) ∧ Below w.heap.size w w' := by
  have hne' : (firstE [outs key 1 2147483646, outs n 0 256] != 0) = true := by simpa using hne
  clear hne
  go_enter Tryz.func17, Tryz.ntmps17
  go_wp2_with (first
      | (go_at_call 98; refine (outside_any _ _ _ _).mono ?_; rintro e wn ⟨rfl, rfl⟩)
      | (go_at_call 97; refine (first_n _ _ _ [_, _] _ rfl (by simp [maxLen]) (by exact rd_of_blk (Blk.new _ _ _) rfl)).mono ?_; rintro e wn ⟨rfl, rfl⟩))
  go_ret2
  exact ⟨rfl, (Below.refl _ _).alloc (Nat.le_refl _) _⟩

end Go.Proofs.YtkjkjhheckfhbaaGreatDoor
