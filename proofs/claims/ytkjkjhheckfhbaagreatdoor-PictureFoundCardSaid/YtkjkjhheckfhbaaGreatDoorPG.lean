/- Parts of a proof: Maps over lists, new pictures, rows, levels, and the greatest common divisor. The integer of a sample, and the sample with an integer. -/
import Derived.Test.YtkjkjhheckfhbaaGreatDoorE
namespace Go.Proofs.YtkjkjhheckfhbaaGreatDoor
open Go.RowKit
set_option linter.unusedVariables false
theorem run_store_float (P : Program) (w : World) (a : Addr) (m : Mode) (k : FloatKind) (b : Nat) : (store a (.float k b) m).run P w = stored P w a (.float k b) m := run_store P w a _ m rfl
theorem run_store_complex (P : Program) (w : World) (a : Addr) (m : Mode) (k : FloatKind) (x y : Nat) : (store a (.complex k x y) m).run P w = stored P w a (.complex k x y) m := run_store P w a _ m rfl
attribute [local go_sem] run_store_float run_store_complex

theorem info_mapFI : (Tryz.prog.info? 3).map (fun i => (i.zero, i.size, i.bytes)) = some (some (.int .i64 0), 1, 8) := by kernel_rfl
set_option maxRecDepth 100000 in
theorem mapFI_any (A : Option Addr) (c : Nat) (l : List (Nat)) (F : FuncId) (g : Nat → Int) (w : World) (hl : l.length ≤ 4096) (hr : Rd w A (l.map (Value.float .f32))) (hcf : Enters Tryz.prog F)
    (hF : ∀ x ∈ l, ∀ w, Calls Tryz.prog F #[(Value.float .f32) x] w fun e w' => e = .returned (Value.int .i64 (g x)) ∧ Below w.heap.size w w') :
    Calls Tryz.prog 168 #[.slice A l.length c, .func (.func F) #[] #[]] w fun e w' => ∃ ad, e = .returned (.slice (some ad) l.length l.length) ∧ Rd w' (some ad) (l.map (fun x => Value.int .i64 (g x))) ∧ Below w.heap.size w w' := by
  have HF := Lib.hid hF; clear hF
  have HR := Lib.hid hr; clear hr
  unfold Enters at hcf
  have hmk := fun W => Go.run_make_row' (P := Tryz.prog) 25 3 (.int .i64 0) 8 Tryz.underlying25 info_mapFI rfl .i64 .i64 l.length (by omega) (by omega) W
  go_enter Tryz.func168, Tryz.ntmps168
  go_wp2
  go_loopw [13] (fun i wr => ∃ k : Nat, k ≤ l.length ∧ i = .int .i64 k ∧ Blk wr w.heap.size 3 (fillN (fun j => Value.int .i64 (g (l.getD j 0))) (.int .i64 0) l.length k) ∧ Below w.heap.size w wr) (fun i _ => l.length - (intOf i).toNat)
  case atStart => exact ⟨0, by omega, rfl, by rw [← fill_zero]; exact Blk.new _ _ _, (Below.refl _ _).alloc (Nat.le_refl _) _⟩
  case round =>
    obtain ⟨k, hk, rfl, hb, hbel⟩ := hrel
    by_cases hlt : k < l.length
    · obtain ⟨x, hx⟩ : ∃ x, l.getD k 0 = x := ⟨_, rfl⟩
      have hxm : x ∈ l := by rw [← hx]; simp [List.getD, hlt]
      obtain ⟨ad, rfl, hbl, hc⟩ := HR.out.get (k := k) (u := (Value.float .f32) x) (by rw [← hx]; simp [List.getD, hlt])
      have hc' := (hbel.cell (by rw [block_of_add]; exact hbl)).trans hc
      have hs := hbel.size
      have HB := Lib.hid hb; clear hb
      have HBel := Lib.hid hbel; clear hbel
      have HX := Lib.hid hx; clear hx
      clear hc hmk
      go_wp2_with fail
      refine (HF.out x hxm _).mono ?_
      rintro e w1 ⟨rfl, hb1⟩
      have hblk := HB.out.below hb1
      have hcell := hblk.cell k
      rw [fill_get, if_pos hlt, if_neg (by omega)] at hcell
      have hfr := hblk.frozen k
      have hset := hblk.set_ k (Value.int .i64 (g x))
      have hfs := fill_set (fun j => Value.int .i64 (g (l.getD j 0))) (.int .i64 0) l.length k
      simp only [HX.out] at hfs
      rw [hfs] at hset
      have hbel1 := (HBel.out.trans (hb1.mono HBel.out.size)).setCell (p := ⟨w.heap.size, k, none⟩) (Nat.le_refl _) (Value.int .i64 (g x))
      have HS := Lib.hid hset; have HB1 := Lib.hid hbel1
      clear hset hbel1 hblk hb1 hfs
      go_wp2
      go_roundw
      case rel => exact ⟨k + 1, by omega, by go_num, HS.out, HB1.out⟩
      case measure => simp [intOf]; omega
    · have : k = l.length := by omega
      subst this
      go_wp2
      go_ret
      refine ⟨_, rfl, fun _ => ⟨_, rfl, hb.lt, fun j u hj => ?_⟩, hbel⟩
      have hjl : j < l.length := by simpa using (List.getElem?_eq_some_iff.1 hj).1
      have h2 := hb.cell j
      rw [fill_get, if_pos hjl, if_pos hjl] at h2
      simp [hjl] at hj
      subst hj
      simp [hjl] at h2
      unfold Addr.add
      split
      · rename_i h0; subst h0; exact h2
      · simpa using h2

theorem info_mapIF : (Tryz.prog.info? 23).map (fun i => (i.zero, i.size, i.bytes)) = some (some (.float .f32 0), 1, 4) := by kernel_rfl
set_option maxRecDepth 100000 in
theorem mapIF_any (A : Option Addr) (c : Nat) (l : List (Int)) (F : FuncId) (g : Int → Nat) (w : World) (hl : l.length ≤ 4096) (hr : Rd w A (l.map (Value.int .i64))) (hcf : Enters Tryz.prog F)
    (hF : ∀ x ∈ l, ∀ w, Calls Tryz.prog F #[(Value.int .i64) x] w fun e w' => e = .returned (Value.float .f32 (g x)) ∧ Below w.heap.size w w') :
    Calls Tryz.prog 198 #[.slice A l.length c, .func (.func F) #[] #[]] w fun e w' => ∃ ad, e = .returned (.slice (some ad) l.length l.length) ∧ Rd w' (some ad) (l.map (fun x => Value.float .f32 (g x))) ∧ Below w.heap.size w w' := by
  have HF := Lib.hid hF; clear hF
  have HR := Lib.hid hr; clear hr
  unfold Enters at hcf
  have hmk := fun W => Go.run_make_row' (P := Tryz.prog) 41 23 (.float .f32 0) 4 Tryz.underlying41 info_mapIF rfl .i64 .i64 l.length (by omega) (by omega) W
  go_enter Tryz.func198, Tryz.ntmps198
  go_wp2
  go_loopw [13] (fun i wr => ∃ k : Nat, k ≤ l.length ∧ i = .int .i64 k ∧ Blk wr w.heap.size 23 (fillN (fun j => Value.float .f32 (g (l.getD j 0))) (.float .f32 0) l.length k) ∧ Below w.heap.size w wr) (fun i _ => l.length - (intOf i).toNat)
  case atStart => exact ⟨0, by omega, rfl, by rw [← fill_zero]; exact Blk.new _ _ _, (Below.refl _ _).alloc (Nat.le_refl _) _⟩
  case round =>
    obtain ⟨k, hk, rfl, hb, hbel⟩ := hrel
    by_cases hlt : k < l.length
    · obtain ⟨x, hx⟩ : ∃ x, l.getD k 0 = x := ⟨_, rfl⟩
      have hxm : x ∈ l := by rw [← hx]; simp [List.getD, hlt]
      obtain ⟨ad, rfl, hbl, hc⟩ := HR.out.get (k := k) (u := (Value.int .i64) x) (by rw [← hx]; simp [List.getD, hlt])
      have hc' := (hbel.cell (by rw [block_of_add]; exact hbl)).trans hc
      have hs := hbel.size
      have HB := Lib.hid hb; clear hb
      have HBel := Lib.hid hbel; clear hbel
      have HX := Lib.hid hx; clear hx
      clear hc hmk
      go_wp2_with fail
      refine (HF.out x hxm _).mono ?_
      rintro e w1 ⟨rfl, hb1⟩
      have hblk := HB.out.below hb1
      have hcell := hblk.cell k
      rw [fill_get, if_pos hlt, if_neg (by omega)] at hcell
      have hfr := hblk.frozen k
      have hset := hblk.set_ k (Value.float .f32 (g x))
      have hfs := fill_set (fun j => Value.float .f32 (g (l.getD j 0))) (.float .f32 0) l.length k
      simp only [HX.out] at hfs
      rw [hfs] at hset
      have hbel1 := (HBel.out.trans (hb1.mono HBel.out.size)).setCell (p := ⟨w.heap.size, k, none⟩) (Nat.le_refl _) (Value.float .f32 (g x))
      have HS := Lib.hid hset; have HB1 := Lib.hid hbel1
      clear hset hbel1 hblk hb1 hfs
      go_wp2
      go_roundw
      case rel => exact ⟨k + 1, by omega, by go_num, HS.out, HB1.out⟩
      case measure => simp [intOf]; omega
    · have : k = l.length := by omega
      subst this
      go_wp2
      go_ret
      refine ⟨_, rfl, fun _ => ⟨_, rfl, hb.lt, fun j u hj => ?_⟩, hbel⟩
      have hjl : j < l.length := by simpa using (List.getElem?_eq_some_iff.1 hj).1
      have h2 := hb.cell j
      rw [fill_get, if_pos hjl, if_pos hjl] at h2
      simp [hjl] at hj
      subst hj
      simp [hjl] at h2
      unfold Addr.add
      split
      · rename_i h0; subst h0; exact h2
      · simpa using h2

theorem info_mapIS : (Tryz.prog.info? 9).map (fun i => (i.zero, i.size, i.bytes)) = some (some (.string ByteArray.empty), 1, 16) := by kernel_rfl
set_option maxRecDepth 100000 in
theorem mapIS_any (A : Option Addr) (c : Nat) (l : List (Int)) (F : FuncId) (g : Int → ByteArray) (w : World) (hl : l.length ≤ 4096) (hr : Rd w A (l.map (Value.int .i64))) (hcf : Enters Tryz.prog F)
    (hF : ∀ x ∈ l, ∀ w, Calls Tryz.prog F #[(Value.int .i64) x] w fun e w' => e = .returned (Value.string (g x)) ∧ Below w.heap.size w w') :
    Calls Tryz.prog 138 #[.slice A l.length c, .func (.func F) #[] #[]] w fun e w' => ∃ ad, e = .returned (.slice (some ad) l.length l.length) ∧ Rd w' (some ad) (l.map (fun x => Value.string (g x))) ∧ Below w.heap.size w w' := by
  have HF := Lib.hid hF; clear hF
  have HR := Lib.hid hr; clear hr
  unfold Enters at hcf
  have hmk := fun W => Go.run_make_row' (P := Tryz.prog) 148 9 (.string ByteArray.empty) 16 Tryz.underlying148 info_mapIS rfl .i64 .i64 l.length (by omega) (by omega) W
  go_enter Tryz.func138, Tryz.ntmps138
  go_wp2
  go_loopw [13] (fun i wr => ∃ k : Nat, k ≤ l.length ∧ i = .int .i64 k ∧ Blk wr w.heap.size 9 (fillN (fun j => Value.string (g (l.getD j 0))) (.string ByteArray.empty) l.length k) ∧ Below w.heap.size w wr) (fun i _ => l.length - (intOf i).toNat)
  case atStart => exact ⟨0, by omega, rfl, by rw [← fill_zero]; exact Blk.new _ _ _, (Below.refl _ _).alloc (Nat.le_refl _) _⟩
  case round =>
    obtain ⟨k, hk, rfl, hb, hbel⟩ := hrel
    by_cases hlt : k < l.length
    · obtain ⟨x, hx⟩ : ∃ x, l.getD k 0 = x := ⟨_, rfl⟩
      have hxm : x ∈ l := by rw [← hx]; simp [List.getD, hlt]
      obtain ⟨ad, rfl, hbl, hc⟩ := HR.out.get (k := k) (u := (Value.int .i64) x) (by rw [← hx]; simp [List.getD, hlt])
      have hc' := (hbel.cell (by rw [block_of_add]; exact hbl)).trans hc
      have hs := hbel.size
      have HB := Lib.hid hb; clear hb
      have HBel := Lib.hid hbel; clear hbel
      have HX := Lib.hid hx; clear hx
      clear hc hmk
      go_wp2_with fail
      refine (HF.out x hxm _).mono ?_
      rintro e w1 ⟨rfl, hb1⟩
      have hblk := HB.out.below hb1
      have hcell := hblk.cell k
      rw [fill_get, if_pos hlt, if_neg (by omega)] at hcell
      have hfr := hblk.frozen k
      have hset := hblk.set_ k (Value.string (g x))
      have hfs := fill_set (fun j => Value.string (g (l.getD j 0))) (.string ByteArray.empty) l.length k
      simp only [HX.out] at hfs
      rw [hfs] at hset
      have hbel1 := (HBel.out.trans (hb1.mono HBel.out.size)).setCell (p := ⟨w.heap.size, k, none⟩) (Nat.le_refl _) (Value.string (g x))
      have HS := Lib.hid hset; have HB1 := Lib.hid hbel1
      clear hset hbel1 hblk hb1 hfs
      go_wp2
      go_roundw
      case rel => exact ⟨k + 1, by omega, by go_num, HS.out, HB1.out⟩
      case measure => simp [intOf]; omega
    · have : k = l.length := by omega
      subst this
      go_wp2
      go_ret
      refine ⟨_, rfl, fun _ => ⟨_, rfl, hb.lt, fun j u hj => ?_⟩, hbel⟩
      have hjl : j < l.length := by simpa using (List.getElem?_eq_some_iff.1 hj).1
      have h2 := hb.cell j
      rw [fill_get, if_pos hjl, if_pos hjl] at h2
      simp [hjl] at hj
      subst hj
      simp [hjl] at h2
      unfold Addr.add
      split
      · rename_i h0; subst h0; exact h2
      · simpa using h2

set_option maxRecDepth 100000 in
theorem blank_any (nm : ByteArray) (a b n : Nat) (w : World) (hn : a * b = n) (hl : n ≤ 4096) : Calls Tryz.prog 112 #[.string nm, .int .i64 a, .int .i64 b] w fun e w' => ∃ g, e = .returned (.agg #[.string nm, .int .i64 a, .int .i64 b, .slice (some ⟨g, 0, none⟩) n n]) ∧ w.heap.size ≤ g ∧ Blk w' g 23 (fillN (fun _ => .float .f32 0) (.float .f32 0) n 0) ∧ Below w.heap.size w w' := by
  have hz : (a : Int) * (b : Int) = ((n : Nat) : Int) := by rw [← hn]; simp
  clear hn
  have hmk := fun W => Go.run_make_row' (P := Tryz.prog) 41 23 (.float .f32 0) 4 Tryz.underlying41 info_mapIF rfl .i64 .i64 n (by omega) (by omega) W
  go_enter Tryz.func112, Tryz.ntmps112
  go_wp2_with fail
  refine bodyPost_ret (v := .agg #[.string nm, .int .i64 a, .int .i64 b, .slice (some ⟨w.heap.size + 1, 0, none⟩) n n]) (by simp [results, Tryz.results112, go_sem]) rfl ⟨_, rfl, by omega, ?_, ?_⟩
  · rw [← fill_zero]; simpa using Blk.new (w.alloc _) 23 (madeCells #[.float .f32 0] n)
  · go_grown
set_option maxRecDepth 100000 in
theorem row_any (nm : ByteArray) (W H n c o : Nat) (ad : Addr) (y : Nat) (w : World) (hW : 1 ≤ W) (ho : y * W = o) (hn : o + W ≤ n) (hc : n ≤ c) (hc2 : n ≤ 4096) (hy : y ≤ 4096) :
    Calls Tryz.prog 109 #[.agg #[.string nm, .int .i64 W, .int .i64 H, .slice (some ad) n c], .int .i64 y] w fun e w' => e = .returned (.slice (some (ad.add o)) W (c - o)) ∧ Below w.heap.size w w' := by
  have e1 : (y : Int) * (W : Int) = ((o : Nat) : Int) := by rw [← ho]; simp
  have e2 : ((y : Int) + 1) * (W : Int) = (o : Int) + (W : Int) := by rw [Int.add_mul, e1]; omega
  have hoc : o < c := by omega
  have hoc' : ¬ (c = o) := by omega
  clear ho
  go_enter Tryz.func109, Tryz.ntmps109
  go_wp2_with fail
  go_ret
  refine ⟨?_, by go_grown⟩
  rw [show o + W - o = W by omega]
  rfl

theorem spanError_any (f t n : Int) (w : World) : Calls Tryz.prog 111 #[.agg #[.int .i64 f, .int .i64 t], .int .i64 n] w fun e w' => e = .returned (.int .i64 (errIf (decide (f < 0) || decide (t ≤ f) || decide (n < t)) 14)) ∧ Below w.heap.size w w' := by
  go_enter Tryz.func111, Tryz.ntmps111
  by_cases h1 : f < 0 <;> by_cases h2 : t ≤ f <;> by_cases h3 : n < t
  all_goals
    go_wp2_with (go_at_call 104; refine (errorIf_any _ _ _).mono ?_; rintro e w' ⟨rfl, rfl⟩)
    go_ret
    exact ⟨ret_int (congrArg (errIf · 14) (by simp; omega)), by go_grown⟩
theorem level_any (b : Nat) (n : Int) (z : Nat) (hm : floatBits .mul .f32 b 0x41800000 = some z) (hn : floatToIntVal .f32 z .i64 = some n) (w : World) : Calls Tryz.prog 169 #[.float .f32 b] w fun e w' => e = .returned (.int .i64 n) ∧ w = w' := by
  have h1 := fun w => run_float_arith (P := Tryz.prog) w .mul 23 .f32 b 0x41800000 z hm
  have h2 := fun w => run_convert_float_int (P := Tryz.prog) w 23 3 .f32 .i64 z n (by kernel_rfl) (by kernel_rfl) hn
  go_enter Tryz.func169, Tryz.ntmps169
  go_wp2
  go_ret
  exact ⟨rfl, rfl⟩
theorem sample_any (n : Int) (z : Nat) (hm : floatBits .quo .f32 (floatOfInt .f32 n) 0x41800000 = some z) (w : World) : Calls Tryz.prog 146 #[.int .i64 n] w fun e w' => e = .returned (.float .f32 z) ∧ w = w' := by
  have h1 := fun w => run_float_arith (P := Tryz.prog) w .quo 23 .f32 (floatOfInt .f32 n) 0x41800000 z hm
  go_enter Tryz.func146, Tryz.ntmps146
  go_wp2
  go_ret
  exact ⟨rfl, rfl⟩
theorem isLarge_any (n : Int) (w : World) : Calls Tryz.prog 197 #[.int .i64 n] w fun e w' => e = .returned (.bool (decide (n < -16384) || decide (16384 < n))) ∧ w = w' := by
  go_enter Tryz.func197, Tryz.ntmps197
  by_cases h1 : n < -16384 <;> by_cases h2 : 16384 < n
  all_goals
    go_wp2
    go_ret
    exact ⟨by simp [*], rfl⟩
def nearestN (n den : Int) : Int := (2 * n + den) / (2 * den)
theorem tdiv_bd (x y : Int) (hy : 1 ≤ y) (hx : -300000000 ≤ x ∧ x ≤ 300000000) : -300000000 ≤ x.tdiv y ∧ x.tdiv y ≤ 300000000 := by
  have h1 : (x.tdiv y).natAbs ≤ x.natAbs := by rw [Int.natAbs_tdiv]; exact Nat.div_le_self _ _
  omega
theorem near_neg (x y : Int) (hy : 1 ≤ y) (h : x.tmod y < 0) : x.tdiv y - 1 = x / y := by
  have h1 : ¬ (0 ≤ x ∨ y ∣ x) := by
    rintro (h0 | h0)
    · have := Int.tmod_nonneg y h0; omega
    · have := Int.tmod_eq_zero_of_dvd h0; omega
  rw [Int.tdiv_eq_ediv, if_neg h1, Int.sign_eq_one_of_pos (by omega)]
  omega
theorem near_pos (x y : Int) (hy : 1 ≤ y) (h : 0 ≤ x.tmod y) : x.tdiv y = x / y := by
  rw [Int.tdiv_eq_ediv]
  by_cases h0 : 0 ≤ x ∨ y ∣ x
  · rw [if_pos h0]; omega
  · exfalso
    apply h0
    by_cases hx : 0 ≤ x
    · exact .inl hx
    · right
      have h1 : x.tmod y ≤ 0 := by
        have := Int.tmod_nonneg y (a := -x) (by omega)
        rw [Int.neg_tmod] at this
        omega
      exact Int.dvd_of_tmod_eq_zero (by omega)
theorem nearest_any (n den : Int) (hn : -100000000 ≤ n ∧ n ≤ 100000000) (hd : 1 ≤ den ∧ den ≤ 1000) (w : World) : Calls Tryz.prog 122 #[.int .i64 n, .int .i64 den] w fun e w' => e = .returned (.int .i64 (nearestN n den)) ∧ w = w' := by
  have hb := tdiv_bd (2 * n + den) (2 * den) (by omega) (by omega)
  by_cases hneg : (2 * n + den).tmod (2 * den) < 0
  · have HN := Lib.hid (near_neg (2 * n + den) (2 * den) (by omega) hneg)
    go_enter Tryz.func122, Tryz.ntmps122
    go_wp2
    go_ret
    exact ⟨ret_int HN.out, rfl⟩
  · have HN := Lib.hid (near_pos (2 * n + den) (2 * den) (by omega) (by omega))
    go_enter Tryz.func122, Tryz.ntmps122
    go_wp2
    go_ret
    exact ⟨ret_int HN.out, rfl⟩

theorem tmod_bd (a b : Int) (hb : b ≠ 0) : (a.tmod b).natAbs < b.natAbs := by rw [Int.natAbs_tmod]; exact Nat.mod_lt _ (by omega)
theorem gcd_step (a b : Int) : Int.gcd b (a.tmod b) = Int.gcd a b := by
  unfold Int.gcd
  rw [Int.natAbs_tmod, Nat.gcd_comm b.natAbs, ← Nat.gcd_rec, Nat.gcd_comm]
theorem gcd_end1 (x : Int) (hx : -9223372036854775808 ≤ x ∧ x ≤ 9223372036854775807) (h : x < wrap64 (-x)) : wrap64 (-x) = wrap64 (Int.gcd x 0) := by
  rw [Int.gcd_zero_right]
  unfold wrap64 at *
  omega
theorem gcd_end2 (x : Int) (hx : -9223372036854775808 ≤ x ∧ x ≤ 9223372036854775807) (h : wrap64 (-x) ≤ x) : x = wrap64 (Int.gcd x 0) := by
  rw [Int.gcd_zero_right]
  unfold wrap64 at *
  omega
theorem below_drewN {B : Nat} {a w : World} (h : Below B a w) (n : Nat) : Below B a (w.drewN n) := ⟨h.os, h.tape, h.output, h.size, h.block⟩
theorem divisor_any (a b : Int) (ha : -9223372036854775808 ≤ a ∧ a ≤ 9223372036854775807) (hb : -9223372036854775808 ≤ b ∧ b ≤ 9223372036854775807) (w : World) : Calls Tryz.prog 105 #[.int .i64 a, .int .i64 b] w fun e w' => e = .returned (.int .i64 (wrap64 (Int.gcd a b))) ∧ Below w.heap.size w w' := by
  go_enter Tryz.func105, Tryz.ntmps105
  go_wp2
  go_loopw [0, 1] (fun u v wr => ∃ x y : Int, u = .int .i64 x ∧ v = .int .i64 y ∧ (-9223372036854775808 ≤ x ∧ x ≤ 9223372036854775807) ∧ (-9223372036854775808 ≤ y ∧ y ≤ 9223372036854775807) ∧ Int.gcd x y = Int.gcd a b ∧ Below w.heap.size w wr) (fun _ v _ => (intOf v).natAbs)
  case atStart => exact ⟨a, b, rfl, rfl, ha, hb, rfl, Below.refl _ _⟩
  case round =>
    obtain ⟨x, y, rfl, rfl, hx, hy, hg, hbl⟩ := hrel
    have HG := Lib.hid hg; clear hg
    by_cases h0 : y = 0
    · subst h0
      go_wp2
      all_goals
        go_ret
        exact ⟨ret_int (by rw [← HG.out]; first | exact gcd_end1 x hx ‹_› | exact gcd_end2 x hx ‹_›), hbl⟩
    · have h0' : (y != 0) = true := by simp [h0]
      have hm := tmod_bd x y h0
      have HS := Lib.hid (gcd_step x y)
      have HM := Lib.hid hm
      clear hm
      go_wp2
      go_quiet (fail)
      go_roundw
      case rel =>
        repeat apply Exists.intro
        exact ⟨⟨y, x.tmod y, rfl, rfl, hy, by have := HM.out; omega, HS.out.trans HG.out, below_drewN hbl _⟩, rfl⟩
      case measure => have h2 := HM.out; rw [Int.natAbs_tmod] at h2; simp [intOf]; exact h2

theorem gcd_neg (x : Int) (hx : -9223372036854775808 ≤ x ∧ x ≤ 9223372036854775807) (h : x < 0) : wrap64 (-x) = wrap64 (Int.gcd x 0) := by
  rw [Int.gcd_zero_right]; congr 1; omega
theorem gcd_pos (x : Int) (hx : -9223372036854775808 ≤ x ∧ x ≤ 9223372036854775807) (h : ¬ x < 0) : x = wrap64 (Int.gcd x 0) := by
  rw [Int.gcd_zero_right]; unfold wrap64; omega
theorem divisorR_any (a b : Int) (ha : -9223372036854775808 ≤ a ∧ a ≤ 9223372036854775807) (hb : -9223372036854775808 ≤ b ∧ b ≤ 9223372036854775807) (w : World) : Calls Tryz.prog 106 #[.int .i64 a, .int .i64 b] w fun e w' => e = .returned (.int .i64 (wrap64 (Int.gcd a b))) ∧ Below w.heap.size w w' := by
  go_enter Tryz.func106, Tryz.ntmps106
  go_wp2
  go_loopw [0, 1] (fun u v wr => ∃ x y : Int, u = .int .i64 x ∧ v = .int .i64 y ∧ (-9223372036854775808 ≤ x ∧ x ≤ 9223372036854775807) ∧ (-9223372036854775808 ≤ y ∧ y ≤ 9223372036854775807) ∧ Int.gcd x y = Int.gcd a b ∧ Below w.heap.size w wr) (fun _ v _ => (intOf v).natAbs)
  case atStart => exact ⟨a, b, rfl, rfl, ha, hb, rfl, Below.refl _ _⟩
  case round =>
    obtain ⟨x, y, rfl, rfl, hx, hy, hg, hbl⟩ := hrel
    have HG := Lib.hid hg; clear hg
    by_cases h0 : y = 0
    · subst h0
      by_cases hx0 : x < 0
      · go_wp2
        go_ret
        exact ⟨ret_int (by rw [← HG.out]; exact gcd_neg x hx hx0), hbl⟩
      · go_wp2
        go_ret
        exact ⟨ret_int (by rw [← HG.out]; exact gcd_pos x hx (by omega)), hbl⟩
    · have h0' : (y != 0) = true := by simp [h0]
      have hm := tmod_bd x y h0
      have HS := Lib.hid (gcd_step x y)
      have HM := Lib.hid hm
      clear hm
      go_wp2
      go_quiet (fail)
      go_roundw
      case rel =>
        repeat apply Exists.intro
        exact ⟨⟨y, x.tmod y, rfl, rfl, hy, by have := HM.out; omega, HS.out.trans HG.out, below_drewN hbl _⟩, rfl⟩
      case measure => have h2 := HM.out; rw [Int.natAbs_tmod] at h2; simp [intOf]; exact h2

end Go.Proofs.YtkjkjhheckfhbaaGreatDoor
namespace Go.Proofs.YtkjkjhheckfhbaaGreatDoor
open Go.RowKit
set_option linter.unusedVariables false
open Ieee (P2)
attribute [local go_sem] run_store_float run_store_complex
open Ieee in
theorem NumS.toInt {f : Format} {b : Nat} {s : Bool} {n D : Nat} (hb : NumS f b s (n * P2 D)) (hL : f.leastPlace = -(D : Int)) (way : Toward) : (f.read b).toInt way = some (sgn s n) := by
  obtain ⟨k, q, hr, hk⟩ := hb
  rw [hr]
  unfold Datum.toInt Datum.integral
  dsimp only
  rw [hL, signed_eq, Nat.shiftLeft_eq]
  unfold P2 at hk
  congr 2
  rw [Nat.pow_zero, Nat.mul_one]
  rcases Nat.lt_or_ge q D with h | h
  · have e1 : (-(D : Int) + q).toNat = 0 := by omega
    have e2 : (-(-(D : Int) + q)).toNat = D - q := by omega
    rw [e1, e2, Nat.pow_zero, Nat.mul_one]
    rw [two_pow_split q D (by omega)] at hk
    have hk' : k * 2 ^ q = n * 2 ^ (D - q) * 2 ^ q := by rw [hk]; ac_rfl
    have hk2 := Nat.mul_right_cancel (Nat.two_pow_pos q) hk'
    rw [hk2]
    by_cases h0 : n = 0
    · subst h0; simp [Toward.cut]; cases way <;> simp
    · exact cut_exact way s n (D - q) h0
  · have e1 : (-(D : Int) + q).toNat = q - D := by omega
    have e2 : (-(-(D : Int) + q)).toNat = 0 := by omega
    rw [e1, e2, cut_zero]
    rw [two_pow_split D q h] at hk
    have hk' : k * 2 ^ (q - D) * 2 ^ D = n * 2 ^ D := by rw [← hk]; ac_rfl
    exact Nat.mul_right_cancel (Nat.two_pow_pos D) hk'
/-- The integer of a sample. -/
def lvl (b : Nat) : Int := match Ieee.single.read b with | .number s k p => Ieee.sgn s (k * 2 ^ (p + 149).toNat / 2 ^ 145) | _ => 0
open Ieee in
theorem chk_zero {b : Nat} (h : chk 1024 b = 0) : ∃ s n, NumS single b s (n * 2 ^ 145) ∧ n ≤ 16384 ∧ lvl b = sgn s n := by
  unfold chk at h
  unfold lvl
  cases hd : single.read b with
  | nan s t => rw [hd] at h; cases h
  | infinity s => rw [hd] at h; cases h
  | number s k p =>
    obtain ⟨q, rfl⟩ := NumS.of_read hd
    rw [hd] at h
    dsimp only at h ⊢
    have hL : single.leastPlace = -149 := by decide +kernel
    have e : (single.leastPlace + (q : Int) + 149).toNat = q := by rw [hL]; omega
    rw [e] at h ⊢
    split at h
    · cases h
    · rename_i hc
      have h1 : k * 2 ^ q ≤ 1024 * 2 ^ 149 := Nat.le_of_not_lt fun hh => hc (Or.inl hh)
      have h2 : k * 2 ^ q % 2 ^ 145 = 0 := Decidable.byContradiction fun hh => hc (Or.inr hh)
      have h3 : k * 2 ^ q / 2 ^ 145 * 2 ^ 145 = k * 2 ^ q := Nat.div_mul_cancel (Nat.dvd_of_mod_eq_zero h2)
      refine ⟨s, k * 2 ^ q / 2 ^ 145, ⟨k, q, hd, h3.symm⟩, ?_, rfl⟩
      generalize k * 2 ^ q / 2 ^ 145 = n at h3
      omega
theorem num16s : Ieee.NumS Ieee.single 0x41800000 false (16 * P2 149) := ⟨2 ^ 23, 130, by decide +kernel, by decide +kernel⟩
theorem single_leastP : Ieee.single.leastPlace = -((149 : Nat) : Int) := by decide +kernel
open Ieee in
theorem level_facts {b : Nat} (h : chk 1024 b = 0) : ∃ z, floatBits .mul .f32 b 0x41800000 = some z ∧ floatToIntVal .f32 z .i64 = some (lvl b) ∧ -16384 ≤ lvl b ∧ lvl b ≤ 16384 := by
  obtain ⟨s, n, hn, hle, hl⟩ := chk_zero h
  obtain ⟨z, hz, hzn⟩ := hn.mulP num16s 149 single_leastP (n * P2 149) n 149 (by
    have e : P2 149 = 2 ^ 145 * 16 := by decide +kernel
    generalize P2 149 = a at e ⊢
    generalize (2 : Nat) ^ 145 = c at e ⊢
    subst e
    ac_rfl) rfl (Nat.lt_of_le_of_lt hle (by decide +kernel)) (by decide +kernel)
  have hbs : (s ^^ false) = s := by cases s <;> rfl
  rw [hbs] at hzn
  have ht := NumS.toInt hzn single_leastP .zero
  have hb : -16384 ≤ sgn s n ∧ sgn s n ≤ 16384 := by unfold sgn; cases s <;> simp <;> omega
  refine ⟨z, hz, ?_, by rw [hl]; exact hb⟩
  unfold floatToIntVal
  have e : (FloatKind.f32.decode z).toInt .zero = some (sgn s n) := ht
  rw [e]
  have h1 : IntKind.i64.min ≤ sgn s n ∧ sgn s n ≤ IntKind.i64.max := by
    have e1 : IntKind.i64.min = -9223372036854775808 := by decide
    have e2 : IntKind.i64.max = 9223372036854775807 := by decide
    rw [e1, e2]; omega
  simp only []
  rw [if_pos h1, hl]
open Ieee in
theorem num_int32 (n : Int) (h : n.natAbs ≤ 1000000) : NumS single (floatOfInt .f32 n) (decide (n < 0)) (n.natAbs * P2 149) := by
  have e : floatOfInt .f32 n = single.nearest (decide (n < 0)) n.natAbs 0 := rfl
  rw [e]
  refine NumS.writeP _ _ _ _ n.natAbs 149 rfl ?_ (by decide +kernel) ?_
  · exact Nat.lt_of_le_of_lt h (by decide +kernel)
  · rw [single_leastP]
    have e1 : ((0 : Int) - -((149 : Nat) : Int)).toNat = 149 := by decide
    have e2 : (-((149 : Nat) : Int) - 0).toNat = 0 := by decide
    rw [e1, e2]; exact (Nat.mul_one _).symm
open Ieee in
/-- a quotient by 16 -/
theorem div16 {x : Nat} {s : Bool} {n : Nat} (hx : NumS single x s (n * P2 149)) (hn : n ≤ 1000000) : ∃ r, single.div x 0x41800000 = some r ∧ NumS single r s (n * 2 ^ 145) := by
  obtain ⟨k, q, hr, hk⟩ := hx
  obtain ⟨hk1, hq1⟩ := Format.read_small (by decide) hr
  have hk2 : k < 2 ^ 24 := by have : 2 * single.binade = 2 ^ 24 := by decide +kernel
                              omega
  have h16 : single.read 0x41800000 = .number false (2 ^ 23) (-19) := by decide +kernel
  have hlog : k.log2 ≤ 23 := by
    by_cases h0 : k = 0
    · subst h0; decide
    · have := (Nat.log2_lt h0).2 hk2; omega
  have l23 : (2 ^ 23 : Nat).log2 = 23 := by decide +kernel
  refine ⟨single.write (.number s (2 * (k * 2 ^ (25 - k.log2))) (single.leastPlace + q - (-19) - ((25 + 23 - k.log2 : Nat) : Int) - 1)), ?_, ?_⟩
  · unfold Format.div
    rw [hr, h16]
    unfold Datum.quotient
    dsimp only
    rw [if_neg (by decide), l23]
    have e1 : single.fractionBits + 2 = 25 := by decide
    rw [e1, Nat.shiftLeft_eq]
    have e2 : k * 2 ^ (25 + 23 - k.log2) = k * 2 ^ (25 - k.log2) * 2 ^ 23 := by rw [Nat.mul_assoc, ← Nat.pow_add]; congr 2; omega
    rw [e2, Nat.mul_div_cancel _ (by decide), Nat.mul_mod_left]
    cases s <;> simp
  · refine NumS.write s _ _ (n * 2 ^ 145) n 145 rfl (Nat.lt_of_le_of_lt hn (by decide +kernel)) (by decide +kernel) ?_
    rw [single_leastP]
    unfold P2 at hk
    have hmore : (25 + 23 - k.log2 : Nat) = (25 - k.log2) + 23 := by omega
    rw [hmore]
    generalize 25 - k.log2 = t at *
    rcases Int.lt_or_le ((q : Int) - 4 - t - 1) 0 with h | h
    · have e1 : (-((149 : Nat) : Int) + q - (-19) - ((t + 23 : Nat) : Int) - 1 - -((149 : Nat) : Int)).toNat = 0 := by omega
      have e2 : (-((149 : Nat) : Int) - (-((149 : Nat) : Int) + q - (-19) - ((t + 23 : Nat) : Int) - 1)).toNat = t + 5 - q := by omega
      rw [e1, e2, Nat.pow_zero, Nat.mul_one]
      have : 2 * (k * 2 ^ t) * 2 ^ q = n * 2 ^ 145 * 2 ^ (t + 5 - q) * 2 ^ q := by
        rw [Nat.mul_assoc (n * 2 ^ 145), ← Nat.pow_add, show t + 5 - q + q = t + 5 by omega]
        have h1 : 2 * (k * 2 ^ t) * 2 ^ q = 2 * 2 ^ t * (k * 2 ^ q) := by ac_rfl
        rw [h1, hk, Nat.pow_add, show (2 : Nat) ^ 149 = 2 ^ 145 * 2 ^ 4 by decide +kernel]
        have : (2 : Nat) ^ 5 = 2 ^ 4 * 2 := by decide
        rw [this]; ac_rfl
      exact Nat.mul_right_cancel (Nat.two_pow_pos q) this
    · have e1 : (-((149 : Nat) : Int) + q - (-19) - ((t + 23 : Nat) : Int) - 1 - -((149 : Nat) : Int)).toNat = q - (t + 5) := by omega
      have e2 : (-((149 : Nat) : Int) - (-((149 : Nat) : Int) + q - (-19) - ((t + 23 : Nat) : Int) - 1)).toNat = 0 := by omega
      rw [e1, e2, Nat.pow_zero, Nat.mul_one]
      have : 2 * (k * 2 ^ t) * 2 ^ (q - (t + 5)) * 2 ^ 4 = n * 2 ^ 145 * 2 ^ 4 := by
        have h1 : 2 * (k * 2 ^ t) * 2 ^ (q - (t + 5)) * 2 ^ 4 = k * (2 ^ t * 2 ^ 5 * 2 ^ (q - (t + 5))) := by
          rw [show (2 : Nat) ^ 5 = 2 * 2 ^ 4 by decide]; ac_rfl
        rw [h1, ← Nat.pow_add, ← Nat.pow_add, show t + 5 + (q - (t + 5)) = q by omega, hk, show (2 : Nat) ^ 149 = 2 ^ 145 * 2 ^ 4 by decide +kernel]
        ac_rfl
      exact Nat.mul_right_cancel (by decide) this
/-- The sample with an integer. -/
def smp (n : Int) : Nat := (Ieee.single.div (floatOfInt .f32 n) 0x41800000).getD 0
open Ieee in
theorem smp_facts (n : Int) (h : n.natAbs ≤ 1000000) : floatBits .quo .f32 (floatOfInt .f32 n) 0x41800000 = some (smp n) ∧ NumS single (smp n) (decide (n < 0)) (n.natAbs * 2 ^ 145) := by
  obtain ⟨r, hr, hn⟩ := div16 (num_int32 n h) h
  have : smp n = r := by unfold smp; rw [hr]; rfl
  rw [this]
  exact ⟨hr, hn⟩
theorem sgn_abs (n : Int) : Ieee.sgn (decide (n < 0)) n.natAbs = n := by
  unfold Ieee.sgn
  by_cases h : n < 0
  · rw [if_pos (by simpa using h)]; omega
  · rw [if_neg (by simpa using h)]; omega
open Ieee in
theorem smp_valid (n : Int) (h : -16384 ≤ n ∧ n ≤ 16384) : chk 1024 (smp n) = 0 ∧ lvl (smp n) = n := by
  obtain ⟨_, hn⟩ := smp_facts n (by omega)
  have hc : chk 1024 (smp n) = 0 := by
    rw [chk_num hn, if_neg]
    rintro (h1 | h1)
    · have : n.natAbs ≤ 16384 := by omega
      have h2 : n.natAbs * 2 ^ 145 ≤ 16384 * 2 ^ 145 := Nat.mul_le_mul_right _ this
      have h3 : 16384 * 2 ^ 145 = 1024 * 2 ^ 149 := by decide +kernel
      omega
    · exact h1 (Nat.mul_mod_left _ _)
  refine ⟨hc, ?_⟩
  obtain ⟨k, q, hr, hk⟩ := hn
  unfold lvl
  rw [hr]
  dsimp only
  have e : (single.leastPlace + (q : Int) + 149).toNat = q := by rw [single_leastP]; omega
  rw [e, hk, Nat.mul_div_cancel _ (by decide), sgn_abs]

end Go.Proofs.YtkjkjhheckfhbaaGreatDoor
