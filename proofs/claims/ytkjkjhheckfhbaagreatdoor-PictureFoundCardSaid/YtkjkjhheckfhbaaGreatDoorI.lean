/- Levels, energy, peak and mean of a picture. -/
import Derived.Test.YtkjkjhheckfhbaaGreatDoorPG
namespace Go.Proofs.YtkjkjhheckfhbaaGreatDoor
open Go.RowKit
set_option linter.unusedVariables false
theorem firstF_zero {α : Type} {f : α → Int} {l : List α} (h : firstF f l = 0) : ∀ b ∈ l, f b = 0 := by
  induction l with
  | nil => intro e he; cases he
  | cons a l ih =>
    unfold firstF at h
    split at h
    · rename_i h0
      intro e he
      rcases List.mem_cons.1 he with rfl | he
      · exact h0
      · exact ih h e he
    · rename_i h0; exact absurd h h0
structure Pic.Ok (p : Pic) : Prop where
  name : nameOk p.name = true
  w1 : 1 ≤ p.w
  w2 : p.w ≤ 64
  h1 : 1 ≤ p.h
  h2 : p.h ≤ 64
  len : (p.l.length : Int) = p.w * p.h
  big : p.l.length ≤ 4096
  ok : ∀ b ∈ p.l, chk 1024 b = 0
theorem ok_of {p : Pic} (h : p.err = 0) : p.Ok := by
  unfold Pic.err at h
  have h0 := firstE_zero h
  obtain ⟨a, ⟨b, c⟩, ⟨d, e⟩, f, g⟩ := head_zero (p := p) (h0 _ (by simp))
  exact ⟨a, b, c, d, e, f, g, firstF_zero (h0 (firstF (chk 1024) p.l) (by simp))⟩
theorem level_v (b : Nat) (h : chk 1024 b = 0) (w : World) : Calls Tryz.prog 169 #[.float .f32 b] w fun e w' => e = .returned (.int .i64 (lvl b)) ∧ Below w.heap.size w w' := by
  obtain ⟨z, h1, h2, _⟩ := level_facts h
  exact (level_any b (lvl b) z h1 h2 w).mono fun e w' ⟨h1, h2⟩ => ⟨h1, by rw [← h2]; exact Below.refl _ _⟩
theorem sample_v (n : Int) (h : n.natAbs ≤ 1000000) (w : World) : Calls Tryz.prog 146 #[.int .i64 n] w fun e w' => e = .returned (.float .f32 (smp n)) ∧ Below w.heap.size w w' :=
  (sample_any n (smp n) (smp_facts n h).1 w).mono fun e w' ⟨h1, h2⟩ => ⟨h1, by rw [← h2]; exact Below.refl _ _⟩
theorem enters_level : Enters Tryz.prog 169 := fun a w => by kernel_rfl
theorem enters_sample : Enters Tryz.prog 146 := fun a w => by kernel_rfl
set_option maxRecDepth 100000 in
theorem levels_any (l : List Nat) (hb : l.length ≤ 4096) (hok : ∀ b ∈ l, chk 1024 b = 0) (A : Option Addr) (c : Nat) (w : World) (hr : Rd w A (fl l)) :
    Calls Tryz.prog 118 #[.slice A l.length c] w fun e w' => ∃ ad, e = .returned (.slice (some ad) l.length l.length) ∧ Rd w' (some ad) (l.map (fun b => .int .i64 (lvl b))) ∧ Below w.heap.size w w' := by
  have HOK := Lib.hid hok
  have HR := Lib.hid hr
  clear hok hr
  go_enter Tryz.func118, Tryz.ntmps118
  go_wp2_with fail
  refine (mapFI_any A c l 169 lvl _ hb HR.out enters_level (fun b hb w => level_v b (HOK.out b hb) w)).mono ?_
  rintro e w3 ⟨ad, rfl, hrd, hb3⟩
  go_wp2
  go_ret
  exact ⟨ad, rfl, hrd, hb3⟩
def sumF (f : Nat → Int) : List Nat → Int
  | [] => 0
  | b :: l => f b + sumF f l
theorem sumF_append (f : Nat → Int) (l : List Nat) (b : Nat) : sumF f (l ++ [b]) = sumF f l + f b := by
  induction l with
  | nil => simp [sumF]
  | cons a l ih => simp only [List.cons_append, sumF, ih]; omega
theorem sumF_take (f : Nat → Int) (l : List Nat) (k : Nat) (h : k < l.length) : sumF f (l.take (k + 1)) = sumF f (l.take k) + f (l.getD k 0) := by
  have : l.take (k + 1) = l.take k ++ [l.getD k 0] := by rw [List.take_succ_eq_append_getElem h]; simp [List.getD, h]
  rw [this, sumF_append]
theorem sumF_bd (f : Nat → Int) (B : Int) (l : List Nat) (hB : 0 ≤ B) (h : ∀ b ∈ l, -B ≤ f b ∧ f b ≤ B) : -(B * l.length) ≤ sumF f l ∧ sumF f l ≤ B * l.length := by
  induction l with
  | nil => simp [sumF]
  | cons a l ih =>
    have h1 := ih fun b hb => h b (by simp [hb])
    have h2 := h a (by simp)
    simp only [sumF, List.length_cons, Int.natCast_add, Int.mul_add]
    omega
theorem box4 {w : World} {g : Nat} {t : TypeId} {a b c d : Value} (h : Blk w g t #[a, b, c, d]) : w.cell? ⟨g, 0, none⟩ = some a ∧ w.cell? ⟨g, 1, none⟩ = some b ∧ w.cell? ⟨g, 2, none⟩ = some c ∧ w.cell? ⟨g, 3, none⟩ = some d :=
  ⟨h.cell 0, h.cell 1, h.cell 2, h.cell 3⟩
theorem ret2_int {a b c d : Int} (h : a = c) (h2 : b = d) : Ending.returned (.tuple #[.int .i64 a, .int .i64 b]) = .returned (.tuple #[.int .i64 c, .int .i64 d]) := by rw [h, h2]
def Pic.energy (p : Pic) : Int := sumF (fun b => lvl b * lvl b) p.l
theorem sq_bd (x : Int) (h : -16384 ≤ x ∧ x ≤ 16384) : 0 ≤ x * x ∧ x * x ≤ 268435456 := by
  have h1 : x.natAbs * x.natAbs ≤ 16384 * 16384 := Nat.mul_le_mul (by omega) (by omega)
  have h2 : (x.natAbs * x.natAbs : Int) = x * x := by rw [← Int.natCast_mul, Int.natAbs_mul_self]
  constructor
  · rw [← h2]; omega
  · rw [← h2]; omega
theorem take_mem {l : List Nat} {k b : Nat} (h : b ∈ l.take k) : b ∈ l := List.mem_of_mem_take h
theorem Pic.Ok.lv {p : Pic} (hp : p.Ok) {b : Nat} (hb : b ∈ p.l) : -16384 ≤ lvl b ∧ lvl b ≤ 16384 := by
  obtain ⟨z, _, _, h⟩ := level_facts (hp.ok b hb)
  exact h
theorem getD_mem {l : List Nat} {k : Nat} (h : k < l.length) : l.getD k 0 ∈ l := by simp [List.getD, h]
set_option maxRecDepth 100000 in
theorem energy_ok (p : Pic) (hp : p.Ok) (he : p.err = 0) (A : Option Addr) (c : Nat) (w : World) (hs : p.name.size ≤ maxLen) (hl : p.l.length ≤ maxLen) (hr : Rd w A (fl p.l)) :
    Calls Tryz.prog 54 #[p.val A c] w fun e w' => e = .returned (.tuple #[.int .i64 p.energy, .int .i64 0]) ∧ Below w.heap.size w w' := by
  have HR := Lib.hid hr; have HP := Lib.hid hp; have HE := Lib.hid he
  clear hr hp he
  have hcp := fun w hr => checkPicture_any p A c w hs hl hr
  rw [HE.out] at hcp
  have HCP := Lib.hid hcp; clear hcp
  have HL := Lib.hid (fun w hr => levels_any p.l HP.out.big HP.out.ok A c w hr)
  unfold Pic.val at HCP ⊢
  go_enter Tryz.func54, Tryz.ntmps54
  go_wp2_with fail
  have hbx := Blk.new w 50 #[.string p.name, .int .i64 p.w, .int .i64 p.h, .slice A p.l.length c]
  have hb0 : Below w.heap.size w (w.alloc (.cells #[.string p.name, .int .i64 p.w, .int .i64 p.h, .slice A p.l.length c] 50)) := (Below.refl _ _).alloc (Nat.le_refl _) _
  generalize w.alloc (.cells #[.string p.name, .int .i64 p.w, .int .i64 p.h, .slice A p.l.length c] 50) = w0 at hbx hb0 ⊢
  have HB0 := Lib.hid hb0; have HX0 := Lib.hid hbx; clear hb0 hbx
  refine (HCP.out _ (by exact HR.out.below HB0.out)).mono ?_
  rintro e w1 ⟨rfl, hb1⟩
  have HX1 := Lib.hid (HX0.out.below hb1)
  obtain ⟨c0, c1, c2, c3⟩ := box4 HX1.out
  have HB1 := Lib.hid (HB0.out.trans (hb1.mono HB0.out.size)); clear hb1
  go_wp2_with fail
  refine (HL.out _ (by exact HR.out.below HB1.out)).mono ?_
  rintro e w2 ⟨ad, rfl, hrd, hb2⟩
  have HX2 := Lib.hid (HX1.out.below hb2)
  have HB2 := Lib.hid (HB1.out.trans (hb2.mono HB1.out.size)); have HRD := Lib.hid hrd; clear hb2 hrd c0 c1 c2 c3
  go_wp2
  have hlen := HP.out.big
  go_loop [5, 17] (fun t i => ∃ k : Nat, k ≤ p.l.length ∧ i = .int .i64 k ∧ t = .int .i64 (sumF (fun b => lvl b * lvl b) (p.l.take k))) (fun _ i => p.l.length - (intOf i).toNat)
  case atStart => exact ⟨0, by omega, rfl, rfl⟩
  case round =>
    obtain ⟨k, hk, rfl, rfl⟩ := hrel
    by_cases hlt : k < p.l.length
    · obtain ⟨x, hx⟩ : ∃ x, lvl (p.l.getD k 0) = x := ⟨_, rfl⟩
      obtain ⟨ad', had, hbl, hc⟩ := HRD.out.get (k := k) (u := .int .i64 x) (by rw [← hx]; simp [List.getD, hlt])
      obtain rfl := Option.some.inj had
      have hst := sumF_take (fun b => lvl b * lvl b) p.l k hlt
      have hxb := HP.out.lv (getD_mem hlt)
      rw [hx] at hxb hst
      have hsq := sq_bd x hxb
      have hbd := sumF_bd (fun b => lvl b * lvl b) 268435456 (p.l.take k) (by omega) (fun b hb => by have := sq_bd _ (HP.out.lv (take_mem hb)); omega)
      have htl : (p.l.take k).length ≤ 4096 := by have := List.length_take_le k p.l; omega
      have hbd2 : -1200000000000 ≤ sumF (fun b => lvl b * lvl b) (p.l.take k) ∧ sumF (fun b => lvl b * lvl b) (p.l.take k) ≤ 1200000000000 := by omega
      clear hbd htl
      have HST := Lib.hid hst; have HX := Lib.hid hx; clear hst hx
      generalize sumF (fun b => lvl b * lvl b) (p.l.take k) = t0 at HST hbd2 ⊢
      obtain ⟨y, hy⟩ : ∃ y, x * x = y := ⟨_, rfl⟩
      have hsq' : 0 ≤ y ∧ y ≤ 268435456 := by rw [← hy]; exact hsq
      have hsq'' := hsq'
      clear hsq
      have HY := Lib.hid hy
      go_wp2
      go_round
      case rel => exact ⟨k + 1, by omega, by go_num, by rw [HST.out, HY.out]⟩
      case measure => simp [intOf]; omega
    · have : k = p.l.length := by omega
      subst this
      go_wp2
      go_ret2
      exact ⟨ret2_int (by unfold Pic.energy; rfl) rfl, HB2.out⟩

set_option maxRecDepth 100000 in
theorem energy_err (p : Pic) (hne : p.err ≠ 0) (A : Option Addr) (c : Nat) (w : World) (hs : p.name.size ≤ maxLen) (hl : p.l.length ≤ maxLen) (hr : Rd w A (fl p.l)) :
    Calls Tryz.prog 54 #[p.val A c] w fun e w' => e = .returned (.tuple #[.int .i64 0, .int .i64 p.err]) ∧ Below w.heap.size w w' := by
  have HR := Lib.hid hr
  clear hr
  have hcp := fun w hr => checkPicture_any p A c w hs hl hr
  have hne' : (p.err != 0) = true := by simp [hne]
  clear hne
  have HCP := Lib.hid hcp; clear hcp
  unfold Pic.val at HCP ⊢
  go_enter Tryz.func54, Tryz.ntmps54
  go_wp2_with fail
  have hb0 : Below w.heap.size w (w.alloc (.cells #[.string p.name, .int .i64 p.w, .int .i64 p.h, .slice A p.l.length c] 50)) := (Below.refl _ _).alloc (Nat.le_refl _) _
  generalize w.alloc (.cells #[.string p.name, .int .i64 p.w, .int .i64 p.h, .slice A p.l.length c] 50) = w0 at hb0 ⊢
  have HB0 := Lib.hid hb0; clear hb0
  refine (HCP.out _ (by exact HR.out.below HB0.out)).mono ?_
  rintro e w1 ⟨rfl, hb1⟩
  have HB1 := Lib.hid (HB0.out.trans (hb1.mono HB0.out.size)); clear hb1
  go_wp2
  go_ret2
  exact ⟨ret2_int rfl rfl, HB1.out⟩

def peakF : List Nat → Int → Int
  | [], m => m
  | b :: l, m => peakF l (max (max m (lvl b)) (-(lvl b)))
theorem peakF_append (l : List Nat) (b : Nat) (m : Int) : peakF (l ++ [b]) m = max (max (peakF l m) (lvl b)) (-(lvl b)) := by
  induction l generalizing m with
  | nil => rfl
  | cons a l ih => simp only [List.cons_append, peakF, ih]
theorem peakF_take (l : List Nat) (k : Nat) (h : k < l.length) : peakF (l.take (k + 1)) 0 = max (max (peakF (l.take k) 0) (lvl (l.getD k 0))) (-(lvl (l.getD k 0))) := by
  have : l.take (k + 1) = l.take k ++ [l.getD k 0] := by rw [List.take_succ_eq_append_getElem h]; simp [List.getD, h]
  rw [this, peakF_append]
theorem peakF_bd (l : List Nat) (m : Int) (h0 : 0 ≤ m ∧ m ≤ 16384) (h : ∀ b ∈ l, -16384 ≤ lvl b ∧ lvl b ≤ 16384) : 0 ≤ peakF l m ∧ peakF l m ≤ 16384 := by
  induction l generalizing m with
  | nil => exact h0
  | cons a l ih =>
    have := h a (by simp)
    exact ih _ (by omega) fun b hb => h b (by simp [hb])
theorem max3 (t x : Int) : (if (if t < x then x else t) < -x then -x else if t < x then x else t) = max (max t x) (-x) := by
  by_cases h1 : t < x
  · rw [if_pos h1]; by_cases h2 : x < -x
    · rw [if_pos h2]; omega
    · rw [if_neg h2]; omega
  · rw [if_neg h1]; by_cases h2 : t < -x
    · rw [if_pos h2]; omega
    · rw [if_neg h2]; omega
def Pic.peak (p : Pic) : Int := peakF p.l 0
set_option maxRecDepth 100000 in
theorem peak_ok (p : Pic) (hp : p.Ok) (he : p.err = 0) (A : Option Addr) (c : Nat) (w : World) (hs : p.name.size ≤ maxLen) (hl : p.l.length ≤ maxLen) (hr : Rd w A (fl p.l)) :
    Calls Tryz.prog 55 #[p.val A c] w fun e w' => e = .returned (.tuple #[.int .i64 p.peak, .int .i64 0]) ∧ Below w.heap.size w w' := by
  have HR := Lib.hid hr; have HP := Lib.hid hp; have HE := Lib.hid he
  clear hr hp he
  have hcp := fun w hr => checkPicture_any p A c w hs hl hr
  rw [HE.out] at hcp
  have HCP := Lib.hid hcp; clear hcp
  have HL := Lib.hid (fun w hr => levels_any p.l HP.out.big HP.out.ok A c w hr)
  unfold Pic.val at HCP ⊢
  go_enter Tryz.func55, Tryz.ntmps55
  go_wp2_with fail
  have hbx := Blk.new w 50 #[.string p.name, .int .i64 p.w, .int .i64 p.h, .slice A p.l.length c]
  have hb0 : Below w.heap.size w (w.alloc (.cells #[.string p.name, .int .i64 p.w, .int .i64 p.h, .slice A p.l.length c] 50)) := (Below.refl _ _).alloc (Nat.le_refl _) _
  generalize w.alloc (.cells #[.string p.name, .int .i64 p.w, .int .i64 p.h, .slice A p.l.length c] 50) = w0 at hbx hb0 ⊢
  have HB0 := Lib.hid hb0; have HX0 := Lib.hid hbx; clear hb0 hbx
  refine (HCP.out _ (by exact HR.out.below HB0.out)).mono ?_
  rintro e w1 ⟨rfl, hb1⟩
  have HX1 := Lib.hid (HX0.out.below hb1)
  obtain ⟨c0, c1, c2, c3⟩ := box4 HX1.out
  have HB1 := Lib.hid (HB0.out.trans (hb1.mono HB0.out.size)); clear hb1
  go_wp2_with fail
  refine (HL.out _ (by exact HR.out.below HB1.out)).mono ?_
  rintro e w2 ⟨ad, rfl, hrd, hb2⟩
  have HX2 := Lib.hid (HX1.out.below hb2)
  have HB2 := Lib.hid (HB1.out.trans (hb2.mono HB1.out.size)); have HRD := Lib.hid hrd; clear hb2 hrd c0 c1 c2 c3
  go_wp2
  have hlen := HP.out.big
  go_loop [5, 17] (fun t i => ∃ k : Nat, k ≤ p.l.length ∧ i = .int .i64 k ∧ t = .int .i64 (peakF (p.l.take k) 0)) (fun _ i => p.l.length - (intOf i).toNat)
  case atStart => exact ⟨0, by omega, rfl, rfl⟩
  case round =>
    obtain ⟨k, hk, rfl, rfl⟩ := hrel
    by_cases hlt : k < p.l.length
    · obtain ⟨x, hx⟩ : ∃ x, lvl (p.l.getD k 0) = x := ⟨_, rfl⟩
      obtain ⟨ad', had, hbl, hc⟩ := HRD.out.get (k := k) (u := .int .i64 x) (by rw [← hx]; simp [List.getD, hlt])
      obtain rfl := Option.some.inj had
      have hxb := HP.out.lv (getD_mem hlt)
      have hst := peakF_take p.l k hlt
      rw [hx] at hxb hst
      have hbd := peakF_bd (p.l.take k) 0 (by omega) (fun b hb => HP.out.lv (take_mem hb))
      have HST := Lib.hid hst; have HX := Lib.hid hx; clear hst hx
      generalize peakF (p.l.take k) 0 = t0 at HST hbd ⊢
      go_wp2
      go_round
      case rel => exact ⟨k + 1, by omega, by go_num, by rw [HST.out, max3]⟩
      case measure => simp [intOf]; omega
    · have : k = p.l.length := by omega
      subst this
      go_wp2
      go_ret2
      exact ⟨ret2_int (by unfold Pic.peak; rfl) rfl, HB2.out⟩

set_option maxRecDepth 100000 in
theorem peak_err (p : Pic) (hne : p.err ≠ 0) (A : Option Addr) (c : Nat) (w : World) (hs : p.name.size ≤ maxLen) (hl : p.l.length ≤ maxLen) (hr : Rd w A (fl p.l)) :
    Calls Tryz.prog 55 #[p.val A c] w fun e w' => e = .returned (.tuple #[.int .i64 0, .int .i64 p.err]) ∧ Below w.heap.size w w' := by
  have HR := Lib.hid hr
  clear hr
  have hcp := fun w hr => checkPicture_any p A c w hs hl hr
  have hne' : (p.err != 0) = true := by simp [hne]
  clear hne
  have HCP := Lib.hid hcp; clear hcp
  unfold Pic.val at HCP ⊢
  go_enter Tryz.func55, Tryz.ntmps55
  go_wp2_with fail
  have hb0 : Below w.heap.size w (w.alloc (.cells #[.string p.name, .int .i64 p.w, .int .i64 p.h, .slice A p.l.length c] 50)) := (Below.refl _ _).alloc (Nat.le_refl _) _
  generalize w.alloc (.cells #[.string p.name, .int .i64 p.w, .int .i64 p.h, .slice A p.l.length c] 50) = w0 at hb0 ⊢
  have HB0 := Lib.hid hb0; clear hb0
  refine (HCP.out _ (by exact HR.out.below HB0.out)).mono ?_
  rintro e w1 ⟨rfl, hb1⟩
  have HB1 := Lib.hid (HB0.out.trans (hb1.mono HB0.out.size)); clear hb1
  go_wp2
  go_ret2
  exact ⟨ret2_int rfl rfl, HB1.out⟩

def Pic.sum (p : Pic) : Int := sumF lvl p.l
def Pic.cd (p : Pic) : Nat := Int.gcd p.sum (16 * p.l.length)
theorem gcd_bd (x : Int) (n : Nat) (hn : 1 ≤ n) (hn2 : n ≤ 100000) : 1 ≤ Int.gcd x n ∧ Int.gcd x n ≤ 100000 ∧ ((Int.gcd x n : Nat) : Int) ∣ x ∧ ((Int.gcd x n : Nat) : Int) ∣ n := by
  have h1 : Int.gcd x n ∣ n := by have := Int.gcd_dvd_right x (n : Int); exact_mod_cast this
  have h2 := Nat.le_of_dvd (by omega) h1
  have h3 : 0 < Int.gcd x n := Nat.pos_of_dvd_of_pos h1 (by omega)
  exact ⟨h3, by omega, Int.gcd_dvd_left _ _, Int.gcd_dvd_right _ _⟩
theorem tdiv_exact (x g : Int) (hg : g ∣ x) : x.tdiv g = x / g := by
  rw [Int.tdiv_eq_ediv, if_pos (Or.inr hg)]; simp
set_option maxRecDepth 100000 in
theorem mean_ok (p : Pic) (hp : p.Ok) (he : p.err = 0) (A : Option Addr) (c : Nat) (w : World) (hs : p.name.size ≤ maxLen) (hl : p.l.length ≤ maxLen) (hr : Rd w A (fl p.l)) :
    Calls Tryz.prog 56 #[p.val A c] w fun e w' => e = .returned (.tuple #[.agg #[.int .i64 (p.sum / p.cd), .int .i64 (16 * p.l.length / p.cd)], .int .i64 0]) ∧ Below w.heap.size w w' := by
  have HR := Lib.hid hr; have HP := Lib.hid hp; have HE := Lib.hid he
  clear hr hp he
  have hcp := fun w hr => checkPicture_any p A c w hs hl hr
  rw [HE.out] at hcp
  have HCP := Lib.hid hcp; clear hcp
  have HL := Lib.hid (fun w hr => levels_any p.l HP.out.big HP.out.ok A c w hr)
  unfold Pic.val at HCP ⊢
  go_enter Tryz.func56, Tryz.ntmps56
  go_wp2_with fail
  have hbx := (Blk.new w 50 #[.string p.name, .int .i64 p.w, .int .i64 p.h, .slice A p.l.length c]).alloc (.cells #[.int .i64 0, .int .i64 0] 33)
  have hby := Blk.new (w.alloc (.cells #[.string p.name, .int .i64 p.w, .int .i64 p.h, .slice A p.l.length c] 50)) 33 #[.int .i64 0, .int .i64 0]
  have hb0 : Below w.heap.size w ((w.alloc (.cells #[.string p.name, .int .i64 p.w, .int .i64 p.h, .slice A p.l.length c] 50)).alloc (.cells #[.int .i64 0, .int .i64 0] 33)) := ((Below.refl _ _).alloc (Nat.le_refl _) _).alloc (by simp) _
  simp only [World.size_alloc] at hby
  generalize (w.alloc (.cells #[.string p.name, .int .i64 p.w, .int .i64 p.h, .slice A p.l.length c] 50)).alloc (.cells #[.int .i64 0, .int .i64 0] 33) = w0 at hbx hby hb0 ⊢
  have HB0 := Lib.hid hb0; have HX0 := Lib.hid hbx; have HY0 := Lib.hid hby; clear hb0 hbx hby
  refine (HCP.out _ (by exact HR.out.below HB0.out)).mono ?_
  rintro e w1 ⟨rfl, hb1⟩
  have HX1 := Lib.hid (HX0.out.below hb1); have HY1 := Lib.hid (HY0.out.below hb1)
  obtain ⟨c0, c1, c2, c3⟩ := box4 HX1.out
  have HB1 := Lib.hid (HB0.out.trans (hb1.mono HB0.out.size)); clear hb1
  go_wp2_with fail
  refine (HL.out _ (by exact HR.out.below HB1.out)).mono ?_
  rintro e w2 ⟨ad, rfl, hrd, hb2⟩
  have HX2 := Lib.hid (HX1.out.below hb2); have HY2 := Lib.hid (HY1.out.below hb2)
  have HB2 := Lib.hid (HB1.out.trans (hb2.mono HB1.out.size)); have HRD := Lib.hid hrd; clear hb2 hrd c0 c1 c2 c3
  go_wp2
  have hlen := HP.out.big
  go_loop [5, 20] (fun t i => ∃ k : Nat, k ≤ p.l.length ∧ i = .int .i64 k ∧ t = .int .i64 (sumF lvl (p.l.take k))) (fun _ i => p.l.length - (intOf i).toNat)
  case atStart => exact ⟨0, by omega, rfl, rfl⟩
  case round =>
    obtain ⟨k, hk, rfl, rfl⟩ := hrel
    have hbd := sumF_bd lvl 16384 (p.l.take k) (by omega) (fun b hb => HP.out.lv (take_mem hb))
    have htl : (p.l.take k).length ≤ 4096 := by have := List.length_take_le k p.l; omega
    have hbd2 : -100000000 ≤ sumF lvl (p.l.take k) ∧ sumF lvl (p.l.take k) ≤ 100000000 := by omega
    clear hbd htl
    by_cases hlt : k < p.l.length
    · obtain ⟨x, hx⟩ : ∃ x, lvl (p.l.getD k 0) = x := ⟨_, rfl⟩
      obtain ⟨ad', had, hbl, hc⟩ := HRD.out.get (k := k) (u := .int .i64 x) (by rw [← hx]; simp [List.getD, hlt])
      obtain rfl := Option.some.inj had
      have hst := sumF_take lvl p.l k hlt
      have hxb := HP.out.lv (getD_mem hlt)
      rw [hx] at hxb hst
      have HST := Lib.hid hst; have HX := Lib.hid hx; clear hst hx
      generalize sumF lvl (p.l.take k) = t0 at HST hbd2 ⊢
      go_wp2
      go_round
      case rel => exact ⟨k + 1, by omega, by go_num, by rw [HST.out]⟩
      case measure => simp [intOf]; omega
    · have : k = p.l.length := by omega
      subst this
      rw [List.take_length] at hbd2 ⊢
      obtain ⟨S, hS⟩ : ∃ S, sumF lvl p.l = S := ⟨_, rfl⟩
      rw [hS] at hbd2 ⊢
      obtain ⟨c0, c1, c2, c3⟩ := box4 HX2.out
      have hn1 : 1 ≤ 16 * p.l.length := by have h1 := HP.out.len; have h2 := HP.out.w1; have h3 := HP.out.h1; have := Int.mul_le_mul h2 h3 (by omega) (by omega); omega
      obtain ⟨g1, g2, g3, g4⟩ := gcd_bd S (16 * p.l.length) hn1 (by omega)
      obtain ⟨G, hG⟩ : ∃ G, Int.gcd S ((16 * p.l.length : Nat) : Int) = G := ⟨_, rfl⟩
      rw [hG] at g1 g2 g3 g4
      have hD : ((16 * p.l.length : Nat) : Int) = 16 * (p.l.length : Int) := by simp
      rw [hD] at hG g4
      obtain ⟨Q1, hq1⟩ : ∃ Q1, S.tdiv (G : Int) = Q1 := ⟨_, rfl⟩
      obtain ⟨Q2, hq2⟩ : ∃ Q2, (16 * (p.l.length : Int)) / (G : Int) = Q2 := ⟨_, rfl⟩
      have e1 : S / (G : Int) = Q1 := by rw [← hq1]; exact (tdiv_exact _ _ g3).symm
      have b1 : -100000000 ≤ Q1 ∧ Q1 ≤ 100000000 := by
        have h1 : (S.tdiv (G : Int)).natAbs ≤ S.natAbs := by rw [Int.natAbs_tdiv]; exact Nat.div_le_self _ _
        rw [hq1] at h1; omega
      have b2 : 0 ≤ Q2 ∧ Q2 ≤ 100000 := by
        rw [← hq2]
        have h1 := Int.ediv_nonneg (a := 16 * (p.l.length : Int)) (b := (G : Int)) (by omega) (by omega)
        have h2 := Int.ediv_le_self (a := 16 * (p.l.length : Int)) (G : Int) (by omega)
        omega
      have hcd : p.cd = G := by unfold Pic.cd Pic.sum; rw [hS, hG]
      have HCD := Lib.hid hcd
      have HF : RowKit.Hid (p.sum / p.cd = Q1 ∧ 16 * (p.l.length : Int) / p.cd = Q2) := Lib.hid ⟨by rw [hcd]; unfold Pic.sum; rw [hS]; exact e1, by rw [hcd]; exact hq2⟩
      have HG := Lib.hid hG
      clear g3 g4 hD hcd e1 hG
      go_wp2_with fail
      refine (divisor_any S (16 * (p.l.length : Int)) (by omega) (by omega) _).mono ?_
      rintro e w3 ⟨rfl, hb3⟩
      have hw : wrap64 ((Int.gcd S (16 * (p.l.length : Int)) : Nat) : Int) = (G : Int) := by rw [HG.out]; exact IntWalk.wrap64_in _ ⟨by omega, by omega⟩
      rw [hw]
      clear hw c0 c1 c2 c3
      have HX3 := Lib.hid (HX2.out.below hb3)
      have HB3 := Lib.hid (HB2.out.trans (hb3.mono HB2.out.size)); 
      have HY3 := Lib.hid ((HY2.out).below hb3); clear hb3
      obtain ⟨c0, c1, c2, c3⟩ := box4 HX3.out
      have d0 := HY3.out.cell 0
      have d1 := HY3.out.cell 1
      have f0 := HY3.out.frozen 0
      have f1 := HY3.out.frozen 1
      go_wp2_with fail
      clear hq2 b2
      go_region
      go_wp2
      refine bodyPost_ret (v := .tuple #[.agg #[.int .i64 Q1, .int .i64 (16 * (p.l.length : Int) / (G : Int))], .int .i64 0]) (by simp [results, Tryz.results56, go_sem, d0, d1]) rfl ⟨?_, ?_⟩
      · rw [HF.out.1, show 16 * (p.l.length : Int) / p.cd = 16 * (p.l.length : Int) / (G : Int) by rw [HCD.out]]
      · exact ((HB3.out.setCell (p := ⟨w.heap.size + 1, 0, none⟩) (by simp) _).setCell (p := ⟨w.heap.size + 1, 1, none⟩) (by simp) _).drew


end Go.Proofs.YtkjkjhheckfhbaaGreatDoor
