/- Parts of a proof: Whether a picture is narrow; the law's 'one' for any picture. What a function of two pictures gives: shared by the code and the reference. Sums by the reference: integers of samples, rounding, energy, peak, mean; the law's comparison of numbers. Sum and Scaled of the reference. -/
import Derived.Test.YtfgeokeankfplaaGreatDoorP2
import Derived.Test.YtfgeokeankfplaaGreatDoorP4
namespace Go.Proofs.YtfgeokeankfplaaGreatDoor
open Go.RowKit
set_option linter.unusedVariables false
set_option maxRecDepth 100000
def narrowB (p : Pic) : Bool := shortB p || (decide (p.name.size ≤ 40) && decide (p.l.length ≤ 64) && (decide (p.w = 1) || decide (p.h = 1)))
theorem narrow_facts {p : Pic} (h : narrowB p = true) : p.name.size ≤ 40 ∧ p.l.length ≤ 160 := by
  unfold narrowB at h
  rw [Bool.or_eq_true] at h
  rcases h with h | h
  · exact short_facts h
  · simp at h; omega
set_option maxHeartbeats 2000000 in
theorem narrow_any (p : Pic) (A : Option Addr) (c : Nat) (w : World) :
    Calls Tryz.prog 39 #[p.val A c] w fun e w' => e = .returned (.bool (narrowB p)) ∧ Below w.heap.size w w' := by
  have HS0 := Lib.hid (fun w => shortR_any p A c w)
  unfold Pic.val at HS0 ⊢
  have key : ∀ b, narrowB p = b → Calls Tryz.prog 39 #[.agg #[.string p.name, .int .i64 p.w, .int .i64 p.h, .slice A p.l.length c]] w fun e w' => e = .returned (.bool b) ∧ Below w.heap.size w w' := by
    intro b hb
    unfold narrowB at hb
    obtain ⟨nm, X, Y, l⟩ := p
    simp only [] at HS0 hb ⊢
    obtain ⟨n, hn⟩ : ∃ n, l.length = n := ⟨_, rfl⟩
    obtain ⟨sb, hsb⟩ : ∃ s, shortB (Pic.mk nm X Y l) = s := ⟨_, rfl⟩
    obtain ⟨m, hm⟩ : ∃ m, nm.size = m := ⟨_, rfl⟩
    rw [hn] at HS0 hb ⊢
    rw [hsb] at HS0 hb
    rw [hm] at hb
    have HN := Lib.hid hm
    have HB0 := Lib.hid hb
    clear hn hsb hb
    have HB := Lib.hid (Below.refl w.heap.size w)
    go_enter Tryz.func39, Tryz.ntmps39
    go_upto_region 1 with fail
    have hn := Blk.new w 43 #[.string nm, .int .i64 X, .int .i64 Y, .slice A n c]
    have hb := (Below.refl w.heap.size w).alloc (Nat.le_refl _) (.cells #[.string nm, .int .i64 X, .int .i64 Y, .slice A n c] 43)
    generalize w.alloc (.cells #[.string nm, .int .i64 X, .int .i64 Y, .slice A n c] 43) = w0 at hn hb ⊢
    obtain ⟨c0, c1, c2, c3⟩ := box4 hn
    replace HB := Lib.hid hb
    have HX := Lib.hid hn; clear hn hb
    go_wp2_with fail
    refine (HS0.out _).mono ?_
    rintro e u1 ⟨rfl, hb1⟩
    replace HX := Lib.hid (HX.out.below hb1); replace HB := Lib.hid (HB.out.trans (hb1.mono HB.out.size)); clear hb1 c0 c1 c2 c3
    obtain ⟨c0, c1, c2, c3⟩ := box4 HX.out
    cases sb
    case true =>
      go_wp2
      go_ret
      exact ⟨by have := HB0.out; simp at this; subst this; rfl, HB.out⟩
    case false =>
      by_cases h1 : m ≤ 40 <;> by_cases h2 : n ≤ 64 <;> by_cases h3 : X = 1 <;> by_cases h4 : Y = 1
      all_goals
        go_wp2
        go_ret
        exact ⟨by have := HB0.out; simp [h1, h2, h3, h4] at this; subst this; first | rfl | (simp [h3, h4]; done) | (simp [h3]; done) | simp [h4], HB.out⟩
  exact key _ rfl
/-- The law's 'one', where an error is expected, for any empty list. -/
theorem one_none (E : Option Addr) (k : Nat) (nm : ByteArray) (W H : Int) (B : Option Addr) (n d : Nat) (z : Int) (hz : z ≠ 0) (w : World) :
    Calls Tryz.prog 38 #[.agg #[.string ⟨#[]⟩, .int .i64 0, .int .i64 0, .slice E 0 k], .int .i64 z, .int .i64 z, .agg #[.string nm, .int .i64 W, .int .i64 H, .slice B n d]] w fun e w' => e = .returned (.bool true) ∧ Below w.heap.size w w' := by
  have hz' : (z != 0) = true := by simpa using hz
  have HZ := Lib.hid hz; clear hz
  go_enter Tryz.func38, Tryz.ntmps38
  go_upto_region 1 with fail
  have hbx := (Blk.new w 50 #[.string ⟨#[]⟩, .int .i64 0, .int .i64 0, .slice E 0 k]).alloc (.cells #[.string nm, .int .i64 W, .int .i64 H, .slice B n d] 43)
  have hby := Blk.new (w.alloc (.cells #[.string ⟨#[]⟩, .int .i64 0, .int .i64 0, .slice E 0 k] 50)) 43 #[.string nm, .int .i64 W, .int .i64 H, .slice B n d]
  have hb0 : Below w.heap.size w ((w.alloc (.cells #[.string ⟨#[]⟩, .int .i64 0, .int .i64 0, .slice E 0 k] 50)).alloc (.cells #[.string nm, .int .i64 W, .int .i64 H, .slice B n d] 43)) := ((Below.refl _ _).alloc (Nat.le_refl _) _).alloc (by simp) _
  simp only [World.size_alloc] at hby
  generalize (w.alloc (.cells #[.string ⟨#[]⟩, .int .i64 0, .int .i64 0, .slice E 0 k] 50)).alloc (.cells #[.string nm, .int .i64 W, .int .i64 H, .slice B n d] 43) = u0 at hbx hby hb0 ⊢
  have hx2 := (((hbx.far (p := ⟨w.heap.size + 1, 0, none⟩) (by simp) (.string ⟨#[]⟩)).far (p := ⟨w.heap.size + 1, 1, none⟩) (by simp) (.int .i64 0)).far (p := ⟨w.heap.size + 1, 2, none⟩) (by simp) (.int .i64 0)).far (p := ⟨w.heap.size + 1, 3, none⟩) (by simp) (.slice none 0 0)
  have hy2 : Blk ((((u0.setCell ⟨w.heap.size + 1, 0, none⟩ (.string ⟨#[]⟩)).setCell ⟨w.heap.size + 1, 1, none⟩ (.int .i64 0)).setCell ⟨w.heap.size + 1, 2, none⟩ (.int .i64 0)).setCell ⟨w.heap.size + 1, 3, none⟩ (.slice none 0 0)) (w.heap.size + 1) 43 #[.string ⟨#[]⟩, .int .i64 0, .int .i64 0, .slice none 0 0] := (((hby.set_ 0 _).set_ 1 _).set_ 2 _).set_ 3 _
  have hb2 := below_set4 hb0 (g := w.heap.size + 1) (by omega) (.string ⟨#[]⟩) (.int .i64 0) (.int .i64 0) (.slice none 0 0)
  have HX := Lib.hid hx2; have HY := Lib.hid hy2; have HB := Lib.hid hb2
  have f0 := hby.frozen 0; have f1 := hby.frozen 1; have f2 := hby.frozen 2; have f3 := hby.frozen 3
  obtain ⟨d0, d1, d2, d3⟩ := box4 hby
  have z1 := hby.lt
  clear hbx hby hb0 hx2 hy2 hb2
  go_upto_region 3 with fail
  generalize (((u0.setCell ⟨w.heap.size + 1, 0, none⟩ (.string ⟨#[]⟩)).setCell ⟨w.heap.size + 1, 1, none⟩ (.int .i64 0)).setCell ⟨w.heap.size + 1, 2, none⟩ (.int .i64 0)).setCell ⟨w.heap.size + 1, 3, none⟩ (.slice none 0 0) = w0 at HX HY HB ⊢
  clear d0 d1 d2 d3 f0 f1 f2 f3 z1
  obtain ⟨c0, c1, c2, c3⟩ := box4 HX.out
  obtain ⟨d0, d1, d2, d3⟩ := box4 HY.out
  have z0 := HX.out.lt; have z1 := HY.out.lt
  have HR : RowKit.Hid (∀ (A : Option Addr) W, Rd W A (fl [])) := Lib.hid (fun A W h => absurd h (by simp [fl]))
  clear HX HY
  go_region_held3 (SK w0)
    (first | exact sk_drew0 _ | exact sk_drew (by assumption) | assumption | exact sk_call (by assumption) (by assumption) | exact sk_alloc (by assumption) _)
    (first
      | (go_at_call 87; refine (told_any _ _ _ _ _ _ _).mono ?_; rintro e wn ⟨rfl, hbn⟩; have hch := sk_call (w0 := w0) (by assumption) hbn)
      | (go_at_call 88; refine (samePicture_true ⟨#[]⟩ 0 0 E none 0 k 0 [] [] _ rfl rfl (by decide) (by decide) (HR.out _ _) (HR.out _ _)).mono ?_; rintro e wn ⟨rfl, hbn⟩; have hch := sk_call (w0 := w0) (by assumption) hbn))
  have hfin := sk_call (w0 := w0) (by assumption) hbn
  go_wp2
  go_ret
  exact ⟨rfl, HB.out.trans (hfin.1.mono HB.out.size)⟩

/-- What a join gives: a picture, or none and an error. -/
def noPic : Pic := ⟨⟨#[]⟩, 0, 0, []⟩
def JoinEnd (R : Pic) (z : Int) (w : World) (e : Ending) (w' : World) : Prop := ∃ A c, e = .returned (.tuple #[.agg #[.string R.name, .int .i64 R.w, .int .i64 R.h, .slice A R.l.length c], .int .i64 z]) ∧ Rd w' A (fl R.l) ∧ Below w.heap.size w w'
theorem one_any (R : Pic) (z : Int) (hz : z ≠ 0 → R = noPic) (hs : sameF R.l R.l = true) (hl : R.l.length ≤ maxLen) (A B : Option Addr) (c d : Nat) (w : World) (hr : Rd w A (fl R.l)) (hr2 : Rd w B (fl R.l)) :
    Calls Tryz.prog 38 #[.agg #[.string R.name, .int .i64 R.w, .int .i64 R.h, .slice A R.l.length c], .int .i64 z, .int .i64 z, .agg #[.string R.name, .int .i64 R.w, .int .i64 R.h, .slice B R.l.length d]] w fun e w' => e = .returned (.bool true) ∧ Below w.heap.size w w' := by
  by_cases h : z = 0
  · subst h
    exact one_true R.name R.w R.h A B R.l.length c d R.l R.l w rfl rfl hl hs hr hr2
  · obtain rfl := hz h
    exact one_none A c ⟨#[]⟩ 0 0 B 0 d z h w
end Go.Proofs.YtfgeokeankfplaaGreatDoor
namespace Go.Proofs.YtfgeokeankfplaaGreatDoor
open Go.RowKit
set_option linter.unusedVariables false
set_option maxRecDepth 100000
/-- What a function of two pictures gives: the picture R, or none and the error z. -/
def Joins (f : FuncId) (p q : Pic) (R : Pic) (z : Int) : Prop := ∀ (A B : Option Addr) (c d : Nat) (w : World), p.l.length ≤ c → q.l.length ≤ d → Rd w A (fl p.l) → Rd w B (fl q.l) → Calls Tryz.prog f #[p.val A c, q.val B d] w (JoinEnd R z w)
/-- The code (f) and the reference (g) give the same. -/
def Fit (f g : FuncId) (p q : Pic) : Prop := ∃ R z, (z ≠ 0 → R = noPic) ∧ sameF R.l R.l = true ∧ R.l.length ≤ maxLen ∧ Joins f p q R z ∧ Joins g p q R z
theorem rd_nil (w : World) (A : Option Addr) : Rd w A (fl []) := fun h => absurd h (by simp [fl])
theorem join_none {z : Int} {w : World} {e : Ending} {w' : World} (h : e = .returned (.tuple #[.agg #[.string ⟨#[]⟩, .int .i64 0, .int .i64 0, .slice none 0 0], .int .i64 z]) ∧ Below w.heap.size w w') : JoinEnd noPic z w e w' :=
  ⟨none, 0, h.1, rd_nil _ _, h.2⟩
theorem fit_refused {f g : FuncId} {p q : Pic} {z : Int} (hf : Joins f p q noPic z) (hg : Joins g p q noPic z) : Fit f g p q :=
  ⟨noPic, z, fun _ => rfl, rfl, by decide, hf, hg⟩
section
variable {nm nm2 : ByteArray} {W H V K : Nat} {l k : List Nat} (hp : (Pic.mk nm W H l).Ok) (hq : (Pic.mk nm2 V K k).Ok)
include hp hq
/-- One list behind the other: valid. -/
theorem app_same : sameF (l ++ k) (l ++ k) = true := sameF_self fun b hb => by
  rcases List.mem_append.1 hb with h | h
  · exact hp.ok b h
  · exact hq.ok b h
omit hq in
theorem addr_of {w : World} {A : Option Addr} (hr : Rd w A (fl l)) : ∃ ad, A = some ad := by
  have h := ok_sizes hp
  have hpos : 0 < (fl l).length := by have := prod_pos h.1.1 h.2.1.1; simp [fl]; omega
  obtain ⟨ad, h, _⟩ := hr.some_ hpos
  exact ⟨ad, h⟩
omit hp in
theorem addr_of2 {w : World} {A : Option Addr} (hr : Rd w A (fl k)) : ∃ ad, A = some ad := by
  have h := ok_sizes hq
  have hpos : 0 < (fl k).length := by have := prod_pos h.1.1 h.2.1.1; simp [fl]; omega
  obtain ⟨ad, h, _⟩ := hr.some_ hpos
  exact ⟨ad, h⟩
end
end Go.Proofs.YtfgeokeankfplaaGreatDoor
namespace Go.Proofs.YtfgeokeankfplaaGreatDoor
open Go.RowKit
set_option linter.unusedVariables false
set_option maxRecDepth 100000
open Ieee in
theorem level_factsR {b : Nat} (h : chk 1024 b = 0) : ∃ z, floatBits .mul .f32 0x41800000 b = some z ∧ floatToIntVal .f32 z .i64 = some (lvl b) := by
  obtain ⟨s, n, hn, hle, hl⟩ := chk_zero h
  obtain ⟨z, hz, hzn⟩ := num16s.mulP hn 149 single_leastP (n * P2 149) n 149 (by
    have e : P2 149 = 2 ^ 145 * 16 := by decide +kernel
    generalize P2 149 = a at e ⊢
    generalize (2 : Nat) ^ 145 = c at e ⊢
    subst e
    ac_rfl) rfl (Nat.lt_of_le_of_lt hle (by decide +kernel)) (by decide +kernel)
  have hbs : (false ^^ s) = s := by cases s <;> rfl
  rw [hbs] at hzn
  have ht := NumS.toInt hzn single_leastP .zero
  have hb : -16384 ≤ sgn s n ∧ sgn s n ≤ 16384 := by unfold sgn; cases s <;> simp <;> omega
  refine ⟨z, hz, ?_⟩
  unfold floatToIntVal
  have e : (FloatKind.f32.decode z).toInt .zero = some (sgn s n) := ht
  rw [e]
  have h1 : IntKind.i64.min ≤ sgn s n ∧ sgn s n ≤ IntKind.i64.max := by
    have e1 : IntKind.i64.min = -9223372036854775808 := by decide
    have e2 : IntKind.i64.max = 9223372036854775807 := by decide
    rw [e1, e2]; omega
  simp only []
  rw [if_pos h1, hl]
theorem six_v (b : Nat) (h : chk 1024 b = 0) (w : World) : Calls Tryz.prog 123 #[.float .f32 b] w fun e w' => e = .returned (.int .i64 (lvl b)) ∧ w = w' := by
  obtain ⟨z, hm, hn⟩ := level_factsR h
  have h1 := fun w => run_float_arith (P := Tryz.prog) w .mul 23 .f32 0x41800000 b z hm
  have h2 := fun w => run_convert_float_int (P := Tryz.prog) w 23 3 .f32 .i64 z (lvl b) (by kernel_rfl) (by kernel_rfl) hn
  go_enter Tryz.func123, Tryz.ntmps123
  go_wp2
  go_ret
  exact ⟨rfl, rfl⟩
theorem sampleR_v (n : Int) (h : n.natAbs ≤ 1000000) (w : World) : Calls Tryz.prog 125 #[.int .i64 n] w fun e w' => e = .returned (.float .f32 (smp n)) ∧ w = w' := by
  have h1 := fun w => run_float_arith (P := Tryz.prog) w .quo 23 .f32 (floatOfInt .f32 n) 0x41800000 (smp n) (smp_facts n h).1
  go_enter Tryz.func125, Tryz.ntmps125
  go_wp2
  go_ret
  exact ⟨rfl, rfl⟩
theorem isLargeR (n : Int) (b : Bool) (h : largeB n = b) (w : World) : Calls Tryz.prog 124 #[.int .i64 n] w fun e w' => e = .returned (.bool b) ∧ w = w' := by
  subst h
  go_enter Tryz.func124, Tryz.ntmps124
  by_cases h1 : n < -16384 <;> by_cases h2 : 16384 < n
  all_goals
    go_wp2
    go_ret
    exact ⟨by simp [largeB, h1, h2], rfl⟩
theorem floor_fix (x y : Int) (hy : 1 ≤ y) : (x < x.tdiv y * y → x.tdiv y - 1 = x / y) ∧ (¬ x < x.tdiv y * y → x.tdiv y = x / y) := by
  have h1 := Int.mul_tdiv_add_tmod x y
  rw [Int.mul_comm] at h1
  refine ⟨fun h => near_neg x y hy (by omega), fun h => near_pos x y hy (by omega)⟩
theorem round_v (n den : Int) (hn : -100000000 ≤ n ∧ n ≤ 100000000) (hd : 1 ≤ den ∧ den ≤ 1000) (w : World) : Calls Tryz.prog 126 #[.int .i64 n, .int .i64 den] w fun e w' => e = .returned (.int .i64 (nearestN n den)) ∧ w = w' := by
  obtain ⟨x, hx⟩ : ∃ x, 2 * n + den = x := ⟨_, rfl⟩
  obtain ⟨y, hy⟩ : ∃ y, 2 * den = y := ⟨_, rfl⟩
  have hy1 : 1 ≤ y ∧ y ≤ 2000 := by omega
  have hx1 : -200001000 ≤ x ∧ x ≤ 200001000 := by omega
  have hb := tdiv_bd x y hy1.1 (by omega)
  obtain ⟨q, hq⟩ : ∃ q, x.tdiv y = q := ⟨_, rfl⟩
  obtain ⟨f1, f2⟩ := floor_fix x y hy1.1
  have hE : nearestN n den = x / y := by unfold nearestN; rw [hx, hy]
  have hqy : -3000000000000 ≤ q * y ∧ q * y ≤ 3000000000000 := by
    have h3 : (q * y).natAbs ≤ 300000000 * 2000 := by rw [Int.natAbs_mul]; exact Nat.mul_le_mul (by omega) (by omega)
    omega
  obtain ⟨r, hr⟩ : ∃ r, q * y = r := ⟨_, rfl⟩
  rw [hq] at hb f1 f2
  rw [hr] at f1 f2 hqy
  have HE := Lib.hid hE; have HF1 := Lib.hid f1; have HF2 := Lib.hid f2
  clear hE f1 f2
  have hfl : ∀ w, Calls Tryz.prog 171 #[.int .i64 x, .int .i64 y] w fun e w' => e = .returned (.int .i64 (x / y)) ∧ w = w' := fun w => by
    clear hx hy
    go_enter Tryz.func171, Tryz.ntmps171
    by_cases hc : x < r
    · go_wp2
      go_ret
      exact ⟨ret_int (HF1.out hc), rfl⟩
    · go_wp2
      go_ret
      exact ⟨ret_int (HF2.out hc), rfl⟩
  go_enter Tryz.func126, Tryz.ntmps126
  go_wp2_with fail
  refine (hfl _).mono ?_
  rintro e w' ⟨rfl, rfl⟩
  go_wp2
  go_ret
  exact ⟨ret_int HE.out.symm, rfl⟩
theorem number_any (x z : Int) (h : z ≠ 0 → x = 0) (w : World) : Calls Tryz.prog 62 #[.int .i64 x, .int .i64 z, .int .i64 z, .int .i64 x] w fun e w' => e = .returned (.bool true) ∧ w = w' := by
  by_cases hz : z = 0
  · subst hz
    go_enter Tryz.func62, Tryz.ntmps62
    go_wp2
    go_ret
    exact ⟨rfl, rfl⟩
  · obtain rfl := h hz
    have hz' : (z != 0) = true := by simpa using hz
    go_enter Tryz.func62, Tryz.ntmps62
    go_wp2
    go_ret
    exact ⟨rfl, rfl⟩
theorem wrap64_small (x : Int) (h : 0 ≤ x ∧ x ≤ 100000) : wrap64 x = x := by unfold wrap64; first | omega | exact IntWalk.i64_in _ (by omega)
theorem lowest_v (S : Int) (m : Nat) (hm : 1 ≤ m ∧ m ≤ 100000) (hS : -100000000 ≤ S ∧ S ≤ 100000000) (w : World) : Calls Tryz.prog 127 #[.int .i64 S, .int .i64 (m : Int)] w fun e w' => e = .returned (.agg #[.int .i64 (S / (Int.gcd S m : Nat)), .int .i64 ((m : Int) / (Int.gcd S m : Nat))]) ∧ Below w.heap.size w w' := by
  obtain ⟨g1, g2, g3, g4⟩ := gcd_bd S m hm.1 hm.2
  obtain ⟨g, hg⟩ : ∃ g : Nat, Int.gcd S m = g := ⟨_, rfl⟩
  rw [hg] at g1 g2 g3 g4 ⊢
  have t1 := tdiv_exact S g g3
  have t2 := tdiv_exact m g g4
  have hd := fun w => divisorR_any S m (by omega) (by omega) w
  rw [hg, show wrap64 (g : Int) = (g : Int) from wrap64_small _ (by omega)] at hd
  have HD := Lib.hid hd; clear hd hg
  obtain ⟨q1, hq1⟩ : ∃ q, S / (g : Int) = q := ⟨_, rfl⟩
  obtain ⟨q2, hq2⟩ : ∃ q, (m : Int) / (g : Int) = q := ⟨_, rfl⟩
  rw [hq1] at t1 ⊢
  rw [hq2] at t2 ⊢
  have b1 : -100000000 ≤ q1 ∧ q1 ≤ 100000000 := by
    have h : (S / (g : Int)).natAbs ≤ S.natAbs := by rw [← tdiv_exact S g g3, Int.natAbs_tdiv]; exact Nat.div_le_self _ _
    rw [hq1] at h; omega
  have b2 : 0 ≤ q2 ∧ q2 ≤ 100000 := by
    have h : ((m : Int) / (g : Int)).natAbs ≤ (m : Int).natAbs := by rw [← tdiv_exact m g g4, Int.natAbs_tdiv]; exact Nat.div_le_self _ _
    have h2 : 0 ≤ (m : Int) / (g : Int) := Int.ediv_nonneg (by omega) (by omega)
    rw [hq2] at h h2; omega
  have gne : ¬ (g : Int) = 0 := by omega
  have HQ1 := Lib.hid hq1; have HQ2 := Lib.hid hq2; have HG3 := Lib.hid g3; have HG4 := Lib.hid g4
  clear hq1 hq2 g3 g4
  go_enter Tryz.func127, Tryz.ntmps127
  go_wp2_with fail
  have hbx := Blk.new w 33 #[.int .i64 0, .int .i64 0]
  have hb0 : Below w.heap.size w (w.alloc (.cells #[.int .i64 0, .int .i64 0] 33)) := (Below.refl _ _).alloc (Nat.le_refl _) _
  generalize w.alloc (.cells #[.int .i64 0, .int .i64 0] 33) = w0 at hbx hb0 ⊢
  refine (HD.out _).mono ?_
  rintro e w1 ⟨rfl, hb1⟩
  have hbx := hbx.below hb1
  have HB := Lib.hid (hb0.trans (hb1.mono hb0.size)); clear hb0 hb1
  have d0 := hbx.cell 0; have d1 := hbx.cell 1; have f0 := hbx.frozen 0; have f1 := hbx.frozen 1; have zb := hbx.lt
  simp only [List.getElem?_toArray, List.getElem?_cons_zero, List.getElem?_cons_succ] at d0 d1
  have HY := Lib.hid (show Blk ((w1.setCell ⟨w.heap.size, 0, none⟩ (.int .i64 q1)).setCell ⟨w.heap.size, 1, none⟩ (.int .i64 q2)).drew w.heap.size 33 #[.int .i64 q1, .int .i64 q2] from ((hbx.set_ 0 _).set_ 1 _).below (Below.refl _ _).drew)
  clear hbx
  go_wp2_with fail
  go_region
  have r0 := HY.out.cell 0; have r1 := HY.out.cell 1
  simp only [List.getElem?_toArray, List.getElem?_cons_zero, List.getElem?_cons_succ] at r0 r1
  go_wp2
  exact bodyPost_ret (v := .agg #[.int .i64 q1, .int .i64 q2]) (by simp [results, Tryz.results127, go_sem, r0, r1]) rfl ⟨rfl, ((HB.out.setCell (p := ⟨w.heap.size, 0, none⟩) (Nat.le_refl _) _).setCell (p := ⟨w.heap.size, 1, none⟩) (Nat.le_refl _) _).drew⟩
section
variable (nm : ByteArray) (X Y : Int) (l : List Nat) (n : Nat) (hn : l.length = n) (hb : n ≤ 4096) (hok : ∀ b ∈ l, chk 1024 b = 0) (A : Option Addr) (c : Nat) (w : World) (hr : Rd w A (fl l))
include hn hb hok hr
omit hn hb hr in
theorem lv_of {b : Nat} (h : b ∈ l) : -16384 ≤ lvl b ∧ lvl b ≤ 16384 := by
  obtain ⟨z, _, _, h1, h2⟩ := level_facts (hok b h)
  exact ⟨h1, h2⟩
set_option maxHeartbeats 1000000 in
theorem energyR_ok : Calls Tryz.prog 59 #[.agg #[.string nm, .int .i64 X, .int .i64 Y, .slice A n c]] w fun e w' => e = .returned (.int .i64 (sumF (fun b => lvl b * lvl b) l)) ∧ Below w.heap.size w w' := by
  have HR := Lib.hid hr; have HOK := Lib.hid hok; have HN := Lib.hid hn
  have HLV := Lib.hid (fun b hbm => lv_of l hok (b := b) hbm)
  clear hr hok hn
  go_enter Tryz.func59, Tryz.ntmps59
  go_upto_region 1 with fail
  have hbx := Blk.new w 43 #[.string nm, .int .i64 X, .int .i64 Y, .slice A n c]
  have hb0 : Below w.heap.size w (w.alloc (.cells #[.string nm, .int .i64 X, .int .i64 Y, .slice A n c] 43)) := (Below.refl _ _).alloc (Nat.le_refl _) _
  generalize w.alloc (.cells #[.string nm, .int .i64 X, .int .i64 Y, .slice A n c] 43) = w0 at hbx hb0 ⊢
  have HRD := Lib.hid (HR.out.below hb0)
  obtain ⟨c0, c1, c2, c3⟩ := box4 hbx
  have HB := Lib.hid hb0; clear hb0 hbx
  go_wp2
  go_loop [3, 4] (fun t i => ∃ k : Nat, k ≤ n ∧ i = .int .i64 k ∧ t = .int .i64 (sumF (fun b => lvl b * lvl b) (l.take k))) (fun _ i => n - (intOf i).toNat)
  case atStart => exact ⟨0, by omega, rfl, rfl⟩
  case round =>
    obtain ⟨k, hk, rfl, rfl⟩ := hrel
    by_cases hlt : k < n
    · have hll : k < l.length := by rw [HN.out]; exact hlt
      obtain ⟨v, hv⟩ : ∃ v, l.getD k 0 = v := ⟨_, rfl⟩
      obtain ⟨x, hx⟩ : ∃ x, lvl v = x := ⟨_, rfl⟩
      obtain ⟨ad', rfl, hbl, hc⟩ := HRD.out.get (k := k) (u := .float .f32 v) (by rw [← hv]; exact fl_get hll)
      have hvm : v ∈ l := by rw [← hv]; exact getD_mem hll
      have HSX := Lib.hid (fun w => six_v v (HOK.out v hvm) w)
      rw [hx] at HSX
      have hst := sumF_take (fun b => lvl b * lvl b) l k hll
      have hxb := HLV.out v hvm
      rw [hv] at hst
      rw [hx] at hxb hst
      have hsq := sq_bd x hxb
      have hbd := sumF_bd (fun b => lvl b * lvl b) 268435456 (l.take k) (by omega) (fun b hb => by have := sq_bd _ (HLV.out b (take_mem hb)); omega)
      have htl : (l.take k).length ≤ 4096 := by have := List.length_take_le k l; omega
      have hbd2 : -1200000000000 ≤ sumF (fun b => lvl b * lvl b) (l.take k) ∧ sumF (fun b => lvl b * lvl b) (l.take k) ≤ 1200000000000 := by omega
      clear hbd htl
      have HST := Lib.hid hst; have HX := Lib.hid hx; clear hst hx hv hvm hll
      generalize sumF (fun b => lvl b * lvl b) (l.take k) = t0 at HST hbd2 ⊢
      obtain ⟨y, hy⟩ : ∃ y, x * x = y := ⟨_, rfl⟩
      have hsq' : 0 ≤ y ∧ y ≤ 268435456 := by rw [← hy]; exact hsq
      clear hsq
      have HY := Lib.hid hy
      go_wp2_with (go_at_call 123; refine (HSX.out _).mono ?_; rintro e wn ⟨rfl, rfl⟩)
      go_round
      case rel => exact ⟨k + 1, by omega, by go_num, by rw [HST.out, HY.out]⟩
      case measure => simp [intOf]; omega
    · have : k = n := by omega
      subst this
      go_wp2
      go_ret
      exact ⟨ret_int (by rw [List.take_of_length_le (by rw [HN.out]; exact Nat.le_refl _)]), HB.out⟩
set_option maxHeartbeats 1000000 in
theorem peakR_ok : Calls Tryz.prog 60 #[.agg #[.string nm, .int .i64 X, .int .i64 Y, .slice A n c]] w fun e w' => e = .returned (.int .i64 (peakF l 0)) ∧ Below w.heap.size w w' := by
  have HR := Lib.hid hr; have HOK := Lib.hid hok; have HN := Lib.hid hn
  have HLV := Lib.hid (fun b hbm => lv_of l hok (b := b) hbm)
  clear hr hok hn
  go_enter Tryz.func60, Tryz.ntmps60
  go_upto_region 1 with fail
  have hbx := Blk.new w 43 #[.string nm, .int .i64 X, .int .i64 Y, .slice A n c]
  have hb0 : Below w.heap.size w (w.alloc (.cells #[.string nm, .int .i64 X, .int .i64 Y, .slice A n c] 43)) := (Below.refl _ _).alloc (Nat.le_refl _) _
  generalize w.alloc (.cells #[.string nm, .int .i64 X, .int .i64 Y, .slice A n c] 43) = w0 at hbx hb0 ⊢
  have HRD := Lib.hid (HR.out.below hb0)
  obtain ⟨c0, c1, c2, c3⟩ := box4 hbx
  have HB := Lib.hid hb0; clear hb0 hbx
  go_wp2
  go_loop [3, 4] (fun t i => ∃ k : Nat, k ≤ n ∧ i = .int .i64 k ∧ t = .int .i64 (peakF (l.take k) 0)) (fun _ i => n - (intOf i).toNat)
  case atStart => exact ⟨0, by omega, rfl, rfl⟩
  case round =>
    obtain ⟨k, hk, rfl, rfl⟩ := hrel
    by_cases hlt : k < n
    · have hll : k < l.length := by rw [HN.out]; exact hlt
      obtain ⟨v, hv⟩ : ∃ v, l.getD k 0 = v := ⟨_, rfl⟩
      obtain ⟨x, hx⟩ : ∃ x, lvl v = x := ⟨_, rfl⟩
      obtain ⟨ad', rfl, hbl, hc⟩ := HRD.out.get (k := k) (u := .float .f32 v) (by rw [← hv]; exact fl_get hll)
      have hvm : v ∈ l := by rw [← hv]; exact getD_mem hll
      have HSX := Lib.hid (fun w => six_v v (HOK.out v hvm) w)
      rw [hx] at HSX
      have hst := peakF_take l k hll
      have hxb := HLV.out v hvm
      rw [hv] at hst
      rw [hx] at hxb hst
      have hbd := peakF_bd (l.take k) 0 (by omega) (fun b hb => HLV.out b (take_mem hb))
      have HST := Lib.hid hst; have HX := Lib.hid hx; clear hst hx hv hvm hll
      generalize peakF (l.take k) 0 = t0 at HST hbd ⊢
      go_wp2_with (go_at_call 123; refine (HSX.out _).mono ?_; rintro e wn ⟨rfl, rfl⟩)
      go_round
      case rel => exact ⟨k + 1, by omega, by go_num, by rw [HST.out, max3]⟩
      case measure => simp [intOf]; omega
    · have : k = n := by omega
      subst this
      go_wp2
      go_ret
      exact ⟨ret_int (by rw [List.take_of_length_le (by rw [HN.out]; exact Nat.le_refl _)]), HB.out⟩
set_option maxHeartbeats 1000000 in
theorem meanR_ok (h1 : 1 ≤ n) : Calls Tryz.prog 61 #[.agg #[.string nm, .int .i64 X, .int .i64 Y, .slice A n c]] w fun e w' => e = .returned (.agg #[.int .i64 (sumF lvl l / (Int.gcd (sumF lvl l) (16 * n) : Nat)), .int .i64 (16 * n / (Int.gcd (sumF lvl l) (16 * n) : Nat))]) ∧ Below w.heap.size w w' := by
  have HR := Lib.hid hr; have HOK := Lib.hid hok; have HN := Lib.hid hn
  have HLV := Lib.hid (fun b hbm => lv_of l hok (b := b) hbm)
  have hbS := sumF_bd lvl 16384 l (by omega) (fun b hb => HLV.out b hb)
  have hLO := fun w => lowest_v (sumF lvl l) (16 * n) (by omega) (by omega) w
  rw [show ((16 * n : Nat) : Int) = 16 * (n : Int) by simp] at hLO
  have HLO := Lib.hid hLO
  clear hr hok hn hLO hbS
  go_enter Tryz.func61, Tryz.ntmps61
  go_upto_region 1 with fail
  have hbx := (Blk.new w 43 #[.string nm, .int .i64 X, .int .i64 Y, .slice A n c]).alloc (.cells #[.int .i64 0, .int .i64 0] 33)
  have hby := Blk.new (w.alloc (.cells #[.string nm, .int .i64 X, .int .i64 Y, .slice A n c] 43)) 33 #[.int .i64 0, .int .i64 0]
  have hb0 : Below w.heap.size w ((w.alloc (.cells #[.string nm, .int .i64 X, .int .i64 Y, .slice A n c] 43)).alloc (.cells #[.int .i64 0, .int .i64 0] 33)) := ((Below.refl _ _).alloc (Nat.le_refl _) _).alloc (by simp) _
  simp only [World.size_alloc] at hby
  generalize (w.alloc (.cells #[.string nm, .int .i64 X, .int .i64 Y, .slice A n c] 43)).alloc (.cells #[.int .i64 0, .int .i64 0] 33) = w0 at hbx hby hb0 ⊢
  have HRD := Lib.hid (HR.out.below hb0)
  obtain ⟨c0, c1, c2, c3⟩ := box4 hbx
  have HB := Lib.hid hb0; have HY := Lib.hid hby; clear hb0 hbx hby
  go_wp2
  go_loop [3, 4] (fun t i => ∃ k : Nat, k ≤ n ∧ i = .int .i64 k ∧ t = .int .i64 (sumF lvl (l.take k))) (fun _ i => n - (intOf i).toNat)
  case atStart => exact ⟨0, by omega, rfl, rfl⟩
  case round =>
    obtain ⟨k, hk, rfl, rfl⟩ := hrel
    by_cases hlt : k < n
    · have hll : k < l.length := by rw [HN.out]; exact hlt
      obtain ⟨v, hv⟩ : ∃ v, l.getD k 0 = v := ⟨_, rfl⟩
      obtain ⟨x, hx⟩ : ∃ x, lvl v = x := ⟨_, rfl⟩
      obtain ⟨ad', rfl, hbl, hc⟩ := HRD.out.get (k := k) (u := .float .f32 v) (by rw [← hv]; exact fl_get hll)
      have hvm : v ∈ l := by rw [← hv]; exact getD_mem hll
      have HSX := Lib.hid (fun w => six_v v (HOK.out v hvm) w)
      rw [hx] at HSX
      have hst := sumF_take lvl l k hll
      have hxb := HLV.out v hvm
      rw [hv] at hst
      rw [hx] at hxb hst
      have hbd := sumF_bd lvl 16384 (l.take k) (by omega) (fun b hb => HLV.out b (take_mem hb))
      have htl : (l.take k).length ≤ 4096 := by have := List.length_take_le k l; omega
      have hbd2 : -100000000 ≤ sumF lvl (l.take k) ∧ sumF lvl (l.take k) ≤ 100000000 := by omega
      clear hbd htl
      have HST := Lib.hid hst; have HX := Lib.hid hx; clear hst hx hv hvm hll
      generalize sumF lvl (l.take k) = t0 at HST hbd2 ⊢
      go_wp2_with (go_at_call 123; refine (HSX.out _).mono ?_; rintro e wn ⟨rfl, rfl⟩)
      go_round
      case rel => exact ⟨k + 1, by omega, by go_num, by rw [HST.out]⟩
      case measure => simp [intOf]; omega
    · have : k = n := by omega
      subst this
      have hbS := sumF_bd lvl 16384 l (by omega) (fun b hb => HLV.out b hb)
      rw [List.take_of_length_le (by rw [HN.out]; exact Nat.le_refl _)]
      obtain ⟨S, hS⟩ : ∃ S, sumF lvl l = S := ⟨_, rfl⟩
      rw [hS] at HLO ⊢
      obtain ⟨q1, hq1⟩ : ∃ q : Int, S / (Int.gcd S (16 * k) : Nat) = q := ⟨_, rfl⟩
      obtain ⟨q2, hq2⟩ : ∃ q : Int, 16 * (k : Int) / (Int.gcd S (16 * k) : Nat) = q := ⟨_, rfl⟩
      rw [hq1, hq2] at HLO
      have HSE := Lib.hid hS; have HQE := Lib.hid (And.intro hq1 hq2)
      clear hbS hS
      go_wp2_with fail
      refine (HLO.out _).mono ?_
      rintro e w1 ⟨rfl, hb1⟩
      have hby := HY.out.below hb1
      have HBE := Lib.hid (HB.out.trans (hb1.mono HB.out.size)); clear hb1 c0 c1 c2 c3
      have d0 := hby.cell 0; have d1 := hby.cell 1; have f0 := hby.frozen 0; have f1 := hby.frozen 1; have zb := hby.lt
      simp only [List.getElem?_toArray, List.getElem?_cons_zero, List.getElem?_cons_succ] at d0 d1
      have HYY := Lib.hid (show Blk ((w1.setCell ⟨w.heap.size + 1, 0, none⟩ (.int .i64 q1)).setCell ⟨w.heap.size + 1, 1, none⟩ (.int .i64 q2)) (w.heap.size + 1) 33 #[.int .i64 q1, .int .i64 q2] from (hby.set_ 0 _).set_ 1 _)
      clear hby
      go_wp2
      have r0 := HYY.out.cell 0; have r1 := HYY.out.cell 1
      simp only [List.getElem?_toArray, List.getElem?_cons_zero, List.getElem?_cons_succ] at r0 r1
      exact bodyPost_ret (v := .agg #[.int .i64 q1, .int .i64 q2]) (by simp [results, Tryz.results61, go_sem, r0, r1]) rfl ⟨by rw [HSE.out, HQE.out.1, HQE.out.2], (HBE.out.setCell (p := ⟨w.heap.size + 1, 0, none⟩) (by simp) _).setCell (p := ⟨w.heap.size + 1, 1, none⟩) (by simp) _⟩
end
end Go.Proofs.YtfgeokeankfplaaGreatDoor
namespace Go.Proofs.YtfgeokeankfplaaGreatDoor
open Go.RowKit
set_option linter.unusedVariables false
attribute [local go_sem] run_store_float run_store_complex
set_option maxRecDepth 100000
/-- The picture with these levels, or none if one is no sample's; its error. -/
def lvP (nm : ByteArray) (W H : Int) (G : List Int) : Pic := if G.any largeB then noPic else ⟨nm, W, H, G.map smp⟩
def lvZ (G : List Int) : Int := if G.any largeB then 4 else 0
def sumL (l k : List Nat) : List Int := List.zipWith (fun a b => lvl a + lvl b) l k
theorem lv_good {nm : ByteArray} {W H : Int} {G : List Int} (h : G.any largeB = false) : lvP nm W H G = ⟨nm, W, H, G.map smp⟩ ∧ lvZ G = 0 := by unfold lvP lvZ; rw [h]; exact ⟨rfl, rfl⟩
theorem lv_bad {nm : ByteArray} {W H : Int} {G : List Int} (h : G.any largeB = true) : lvP nm W H G = noPic ∧ lvZ G = 4 := by unfold lvP lvZ; rw [h]; exact ⟨rfl, rfl⟩
theorem any_take_succ {G : List Int} {k : Nat} (h : k < G.length) : (G.take (k + 1)).any largeB = ((G.take k).any largeB || largeB (G.getD k 0)) := by
  rw [List.take_succ_eq_append_getElem h, List.any_append]
  simp [List.getD, h]
theorem near_small (p den : Int) (hp : -16384000 ≤ p ∧ p ≤ 16384000) (hd : 1 ≤ den ∧ den ≤ 1000) : (nearestN p den).natAbs ≤ 100000000 := by
  unfold nearestN
  have h1 : (2 * p + den) / (2 * den) ≤ 100000000 := Int.ediv_le_of_le_mul (by omega) (by
    have : 100000000 * (2 * den) = 200000000 * den := by omega
    omega)
  have h2 : -100000000 ≤ (2 * p + den) / (2 * den) := (Int.le_ediv_iff_mul_le (by omega)).2 (by
    have : -100000000 * (2 * den) = -200000000 * den := by omega
    omega)
  omega
theorem any_of_large {G : List Int} {k : Nat} (h : k < G.length) (hl : largeB (G.getD k 0) = true) : G.any largeB = true := by
  rw [List.any_eq_true]
  exact ⟨G[k], List.getElem_mem h, by simpa [List.getD, h] using hl⟩
theorem join_bad {nm : ByteArray} {W H : Int} {G : List Int} (h : G.any largeB = true) {w w' : World} {e : Ending} (he : e = .returned (.tuple #[.agg #[.string ⟨#[]⟩, .int .i64 0, .int .i64 0, .slice none 0 0], .int .i64 4])) (hb : Below w.heap.size w w') : JoinEnd (lvP nm W H G) (lvZ G) w e w' := by
  rw [(lv_bad (nm := nm) (W := W) (H := H) h).1, (lv_bad (nm := nm) (W := W) (H := H) h).2]
  subst he
  exact join_none ⟨rfl, hb⟩
theorem join_good {nm : ByteArray} {W H : Int} {G : List Int} (h : G.any largeB = false) {n : Nat} (hn : G.length = n) {w w' : World} {e : Ending} {g c : Nat} (he : e = .returned (.tuple #[.agg #[.string nm, .int .i64 W, .int .i64 H, .slice (some ⟨g, 0, none⟩) n c], .int .i64 0])) (hg : Blk w' g 23 (fillN (fun j => .float .f32 (smp (G.getD j 0))) (.float .f32 0) n n)) (hb : Below w.heap.size w w') : JoinEnd (lvP nm W H G) (lvZ G) w e w' := by
  rw [(lv_good (nm := nm) (W := W) (H := H) h).1, (lv_good (nm := nm) (W := W) (H := H) h).2]
  refine ⟨some ⟨g, 0, none⟩, c, ?_, ?_, hb⟩
  · rw [he]; simp [hn]
  · rw [fill_mask] at hg
    exact rd_mask hg (fun i hi => by simp; exact hi) (by simp [fl, hn]) fun i hi => by rw [fl_get (by simp [hn]; exact hi)]; simp [List.getD, hn, hi]

set_option maxHeartbeats 4000000 in
theorem sumR_ok (nm nm2 : ByteArray) (W H : Nat) (l k : List Nat) (n : Nat) (hl : l.length = n) (hk : k.length = n) (hn : W * H = n) (hn4 : n ≤ 4096) (hok : ∀ b ∈ l, chk 1024 b = 0) (hok2 : ∀ b ∈ k, chk 1024 b = 0) (ad ad2 : Addr) (c c2 : Nat) (w : World) (hr : Rd w (some ad) (fl l)) (hr2 : Rd w (some ad2) (fl k)) :
    Calls Tryz.prog 57 #[.agg #[.string nm, .int .i64 (W : Int), .int .i64 (H : Int), .slice (some ad) n c], .agg #[.string nm2, .int .i64 (W : Int), .int .i64 (H : Int), .slice (some ad2) n c2]] w (JoinEnd (lvP nm W H (sumL l k)) (lvZ (sumL l k)) w) := by
  obtain ⟨G, hG⟩ : ∃ G, sumL l k = G := ⟨_, rfl⟩
  have hGn : G.length = n := by rw [← hG]; simp [sumL, hl, hk]
  have hGk : ∀ j, j < n → G.getD j 0 = lvl (l.getD j 0) + lvl (k.getD j 0) := fun j hj => by rw [← hG]; simp [sumL, List.getD, hl, hk, hj]
  rw [hG]
  have HGN := Lib.hid hGn; have HGK := Lib.hid hGk; have HN := Lib.hid hn
  have HR := Lib.hid hr; have HOK := Lib.hid hok; have HLL := Lib.hid hl; have HR2 := Lib.hid hr2; have HOK2 := Lib.hid hok2; have HKL := Lib.hid hk
  clear hG hGn hGk hr hok hl hn hr2 hok2 hk
  go_enter Tryz.func57, Tryz.ntmps57
  go_upto_region 1 with fail
  have hx0 := ((Blk.new w 43 #[.string nm, .int .i64 (W : Int), .int .i64 (H : Int), .slice (some ad) n c]).alloc (.cells #[.string nm2, .int .i64 (W : Int), .int .i64 (H : Int), .slice (some ad2) n c2] 43)).alloc (.cells #[.string ⟨#[]⟩, .int .i64 0, .int .i64 0, .slice none 0 0] 43)
  have hx1 := (Blk.new (w.alloc (.cells #[.string nm, .int .i64 (W : Int), .int .i64 (H : Int), .slice (some ad) n c] 43)) 43 #[.string nm2, .int .i64 (W : Int), .int .i64 (H : Int), .slice (some ad2) n c2]).alloc (.cells #[.string ⟨#[]⟩, .int .i64 0, .int .i64 0, .slice none 0 0] 43)
  have hx2 := Blk.new ((w.alloc (.cells #[.string nm, .int .i64 (W : Int), .int .i64 (H : Int), .slice (some ad) n c] 43)).alloc (.cells #[.string nm2, .int .i64 (W : Int), .int .i64 (H : Int), .slice (some ad2) n c2] 43)) 43 #[.string ⟨#[]⟩, .int .i64 0, .int .i64 0, .slice none 0 0]
  simp only [World.size_alloc] at hx1 hx2
  have hb0 := (((Below.refl w.heap.size w).alloc (Nat.le_refl _) (.cells #[.string nm, .int .i64 (W : Int), .int .i64 (H : Int), .slice (some ad) n c] 43)).alloc (by simp only [World.size_alloc]; omega) (.cells #[.string nm2, .int .i64 (W : Int), .int .i64 (H : Int), .slice (some ad2) n c2] 43)).alloc (by simp only [World.size_alloc]; omega) (.cells #[.string ⟨#[]⟩, .int .i64 0, .int .i64 0, .slice none 0 0] 43)
  generalize (((w.alloc (.cells #[.string nm, .int .i64 (W : Int), .int .i64 (H : Int), .slice (some ad) n c] 43)).alloc (.cells #[.string nm2, .int .i64 (W : Int), .int .i64 (H : Int), .slice (some ad2) n c2] 43)).alloc (.cells #[.string ⟨#[]⟩, .int .i64 0, .int .i64 0, .slice none 0 0] 43)) = w0 at hx0 hx1 hx2 hb0 ⊢
  have HX0 := Lib.hid hx0
  have HX1 := Lib.hid hx1
  have HX2 := Lib.hid hx2
  have HB := Lib.hid hb0; clear hb0 hx0 hx1 hx2
  obtain ⟨k0_0, k0_1, k0_2, k0_3⟩ := box4 HX0.out
  obtain ⟨k1_0, k1_1, k1_2, k1_3⟩ := box4 HX1.out
  go_wp2_with fail
  refine (filled_any nm W H n _ HN.out hn4).mono ?_
  rintro e w2 ⟨g, rfl, hg, hgb, hb2⟩
  have hgx : w.heap.size + 1 + 1 < g := Nat.lt_of_lt_of_le HX2.out.lt hg
  replace HX0 := Lib.hid (HX0.out.below hb2)
  replace HX1 := Lib.hid (HX1.out.below hb2)
  replace HX2 := Lib.hid (HX2.out.below hb2)
  replace HB := Lib.hid (HB.out.trans (hb2.mono HB.out.size))
  have HG := Lib.hid hgb
  clear hb2 hgb
  clear k0_0 k0_1 k0_2 k0_3 k1_0 k1_1 k1_2 k1_3
  go_upto_region 4 with fail
  have hx0 := HX0.out.alloc (.cells #[.string nm, .int .i64 (W : Int), .int .i64 (H : Int), .slice (some ⟨g, 0, none⟩) n n] 43)
  have hx1 := HX1.out.alloc (.cells #[.string nm, .int .i64 (W : Int), .int .i64 (H : Int), .slice (some ⟨g, 0, none⟩) n n] 43)
  have hx2 := HX2.out.alloc (.cells #[.string nm, .int .i64 (W : Int), .int .i64 (H : Int), .slice (some ⟨g, 0, none⟩) n n] 43)
  have hgm := HG.out.alloc (.cells #[.string nm, .int .i64 (W : Int), .int .i64 (H : Int), .slice (some ⟨g, 0, none⟩) n n] 43)
  have hf := Blk.new w2 43 #[.string nm, .int .i64 (W : Int), .int .i64 (H : Int), .slice (some ⟨g, 0, none⟩) n n]
  have hb := HB.out.alloc HB.out.size (.cells #[.string nm, .int .i64 (W : Int), .int .i64 (H : Int), .slice (some ⟨g, 0, none⟩) n n] 43)
  have hgb : g < w2.heap.size := HG.out.lt
  have hbx : w.heap.size + 1 + 1 < w2.heap.size := HX2.out.lt
  obtain ⟨b3, hb3⟩ : ∃ b, w2.heap.size = b := ⟨_, rfl⟩
  rw [hb3] at hf hgb hbx ⊢
  clear hb3
  generalize w2.alloc (.cells #[.string nm, .int .i64 (W : Int), .int .i64 (H : Int), .slice (some ⟨g, 0, none⟩) n n] 43) = w3 at hx0 hx1 hx2 hgm hf hb ⊢
  replace HX0 := Lib.hid hx0
  replace HX1 := Lib.hid hx1
  replace HX2 := Lib.hid hx2
  have hgm2 := fill_mask (fun j => Value.float .f32 (smp (G.getD j 0))) (.float .f32 0) n 0
  replace HG := Lib.hid (show Blk w3 g 23 (fillN (fun j => .float .f32 (smp (G.getD j 0))) (.float .f32 0) n 0) from by rw [fill_mask]; rw [fill_mask, mask_congr (fun _ => .float .f32 0) (fun j => .float .f32 (smp (G.getD j 0))) _ _ _ (fun i => decide (i < 0)) (by simp) (by simp)] at hgm; exact hgm); have HF := Lib.hid hf; replace HB := Lib.hid hb; clear hgm hgm2 hf hb hx0 hx1 hx2
  obtain ⟨q0, q1, q2, q3⟩ := box4 HF.out
  obtain ⟨k0_0, k0_1, k0_2, k0_3⟩ := box4 HX0.out
  obtain ⟨k1_0, k1_1, k1_2, k1_3⟩ := box4 HX1.out
  go_wp2
  clear k0_0 k0_1 k0_2 k0_3 k1_0 k1_1 k1_2 k1_3
  clear q0 q1 q2 q3
  go_loopw [7] (fun i wr => ∃ y : Nat, y ≤ n ∧ i = .int .i64 y ∧ (G.take y).any largeB = false ∧ Blk wr (w.heap.size) 43 #[.string nm, .int .i64 (W : Int), .int .i64 (H : Int), .slice (some ad) n c] ∧ Blk wr (w.heap.size + 1) 43 #[.string nm2, .int .i64 (W : Int), .int .i64 (H : Int), .slice (some ad2) n c2] ∧ Blk wr (w.heap.size + 1 + 1) 43 #[.string ⟨#[]⟩, .int .i64 0, .int .i64 0, .slice none 0 0] ∧ Blk wr b3 43 #[.string nm, .int .i64 (W : Int), .int .i64 (H : Int), .slice (some ⟨g, 0, none⟩) n n] ∧ Blk wr g 23 (fillN (fun j => .float .f32 (smp (G.getD j 0))) (.float .f32 0) n y) ∧ Below w.heap.size w wr) (fun i _ => n - (intOf i).toNat)
  case atStart => exact ⟨0, by omega, rfl, rfl, HX0.out, HX1.out, HX2.out, HF.out, HG.out, HB.out⟩
  case round =>
    clear HX0 HX1 HX2 HG HF HB
    obtain ⟨y, hy, rfl, hany, hx0, hx1, hx2, hf, hgm, hbel⟩ := hrel
    obtain ⟨wo, rfl⟩ : ∃ wo : World, wo = wr := ⟨_, rfl⟩
    have HX0 := Lib.hid hx0
    have HX1 := Lib.hid hx1
    have HX2 := Lib.hid hx2
    have HAN := Lib.hid hany; have HF := Lib.hid hf; have HG := Lib.hid hgm; have HB := Lib.hid hbel; clear hany hf hgm hbel hx0 hx1 hx2
    obtain ⟨k0_0, k0_1, k0_2, k0_3⟩ := box4 HX0.out
    obtain ⟨k1_0, k1_1, k1_2, k1_3⟩ := box4 HX1.out
    by_cases hlt : y < n
    · have hyl : y < l.length := by rw [HLL.out]; exact hlt
      obtain ⟨va, hv⟩ : ∃ v, l.getD y 0 = v := ⟨_, rfl⟩
      obtain ⟨x, hx⟩ : ∃ x, lvl va = x := ⟨_, rfl⟩
      have hvm : va ∈ l := by rw [← hv]; exact getD_mem hyl
      obtain ⟨ad', had, hbl, hc⟩ := (HR.out.below HB.out).get (k := y) (u := .float .f32 va) (by rw [← hv]; exact fl_get hyl)
      cases had
      have HSX := Lib.hid (fun w => six_v va (HOK.out va hvm) w)
      obtain ⟨zz, _, _, hxb1, hxb2⟩ := level_facts (HOK.out va hvm)
      rw [hx] at HSX hxb1 hxb2
      have hyk : y < k.length := by rw [HKL.out]; exact hlt
      obtain ⟨u, hu⟩ : ∃ u, k.getD y 0 = u := ⟨_, rfl⟩
      obtain ⟨z, hz⟩ : ∃ z, lvl u = z := ⟨_, rfl⟩
      have hum : u ∈ k := by rw [← hu]; exact getD_mem hyk
      obtain ⟨ad', had, hbl2, hc2⟩ := (HR2.out.below HB.out).get (k := y) (u := .float .f32 u) (by rw [← hu]; exact fl_get hyk)
      cases had
      have HSU := Lib.hid (fun w => six_v u (HOK2.out u hum) w)
      obtain ⟨zz2, _, _, hzb1, hzb2⟩ := level_facts (HOK2.out u hum)
      rw [hz] at HSU hzb1 hzb2
      have yn0 : (0 : Int) ≤ (y : Int) := by omega
      have yn1 : (y : Int) < (n : Int) := by omega
      obtain ⟨m, hm⟩ : ∃ m, x + z = m := ⟨_, rfl⟩
      have hmb : m.natAbs ≤ 1000000 := by omega
      have hw : IntKind.i64.wrap (x + z) = m := by rw [IntWalk.i64_in _ (by omega)]; exact hm
      have hgy : G.getD y 0 = m := by rw [HGK.out y hlt, hv, hu, hx, hz, hm]
      have HM := Lib.hid hgy; have HW := Lib.hid (And.intro hm (And.intro hx (And.intro hz (And.intro hv hu))))
      clear hm hx hz hv hu hgy hvm hum
      have HCY := Lib.hid hc; have HCY2 := Lib.hid hc2
      have z0 := HX0.out.lt; have z1 := HX1.out.lt
      go_upto_region 7 with fail
      refine wp_region_facts [Fact.is (.pointer (some ⟨w.heap.size, 3, none⟩)), Fact.is (.slice (some ad) n c), Fact.is (.int .i64 ((y : Int))), Fact.is (.pointer (some (ad.add y))), Fact.is (.float .f32 va), Fact.is (.int .i64 (x)), Fact.is (.pointer (some ⟨w.heap.size + 1, 3, none⟩)), Fact.is (.slice (some ad2) n c2), Fact.is (.int .i64 ((y : Int))), Fact.is (.pointer (some (ad2.add y))), Fact.is (.float .f32 u), Fact.is (.int .i64 (z)), Fact.is (.int .i64 (m)), Fact.is (.int .i64 (m))] [[], [0], [], [1, 2], [3], [4], [], [6], [], [7, 8], [9], [10], [5, 11], [12]] [(some 36, 0), (some 37, 1), (some 38, 2), (some 39, 3), (some 40, 4), (some 41, 5), (some 42, 6), (some 43, 7), (some 44, 8), (some 45, 9), (some 46, 10), (some 47, 11), (some 48, 12), (some 8, 13)] (by kernel_rfl) (by kernel_rfl) (by kernel_rfl) (by kernel_rfl) (fun _ _ _ _ e h => by have h1 : _ ∧ _ := h; exact ⟨e ▸ h1.1, h1.2⟩) ?hstep ?hend
      case hstep =>
        intro i hi
        match i, hi with
        | 0, _ =>
          intro v w' hR hd
          change SpecOp _ _ _ _ 0 (canon _ v _ []) w' _
          simp only [canon_nil]
          refine spec_of rfl (fun KK hK => ?_)
          go_simp
          exact hK.out _ _ (Below.refl _ _) rfl
        | 1, _ =>
          intro v w' hR hd
          have e0 : v 0 = .pointer (some ⟨w.heap.size, 3, none⟩) := hd 0 (by decide)
          change SpecOp _ _ _ _ 1 (Act.put (canon _ v _ []) (some 36) (v 0)) w' _
          rw [e0]
          simp only [canon_nil, Act.put, List.setIfInBounds_toArray, List.set_cons_zero, List.set_cons_succ]
          have q0 := (hR.cell (p := ⟨w.heap.size, 3, none⟩) z0).trans k0_3
          refine spec_of rfl (fun KK hK => ?_)
          go_simp
          exact hK.out _ _ (Below.refl _ _) rfl
        | 2, _ =>
          intro v w' hR hd
          change SpecOp _ _ _ _ 2 (canon _ v _ []) w' _
          simp only [canon_nil]
          refine spec_of rfl (fun KK hK => ?_)
          go_simp
          exact hK.out _ _ (Below.refl _ _) rfl
        | 3, _ =>
          intro v w' hR hd
          have e1 : v 1 = .slice (some ad) n c := hd 1 (by decide)
          have e2 : v 2 = .int .i64 ((y : Int)) := hd 2 (by decide)
          change SpecOp _ _ _ _ 3 (Act.put (Act.put (canon _ v _ []) (some 38) (v 2)) (some 37) (v 1)) w' _
          rw [e1, e2]
          simp only [canon_nil, Act.put, List.setIfInBounds_toArray, List.set_cons_zero, List.set_cons_succ]
          refine spec_of rfl (fun KK hK => ?_)
          go_simp
          exact hK.out _ _ (Below.refl _ _) rfl
        | 4, _ =>
          intro v w' hR hd
          have e3 : v 3 = .pointer (some (ad.add y)) := hd 3 (by decide)
          change SpecOp _ _ _ _ 4 (Act.put (canon _ v _ []) (some 39) (v 3)) w' _
          rw [e3]
          simp only [canon_nil, Act.put, List.setIfInBounds_toArray, List.set_cons_zero, List.set_cons_succ]
          have q0 := (hR.cell (p := ad.add y) (by rw [block_of_add]; exact hbl)).trans HCY.out
          refine spec_of rfl (fun KK hK => ?_)
          go_simp
          exact hK.out _ _ (Below.refl _ _) rfl
        | 5, _ =>
          intro v w' hR hd
          have e4 : v 4 = .float .f32 va := hd 4 (by decide)
          change SpecOp _ _ _ _ 5 (Act.put (canon _ v _ []) (some 40) (v 4)) w' _
          rw [e4]
          simp only [canon_nil, Act.put, List.setIfInBounds_toArray, List.set_cons_zero, List.set_cons_succ]
          refine spec_of rfl (fun KK hK => ?_)
          go_simp
          refine (HSX.out _).mono ?_
          rintro e wn ⟨rfl, rfl⟩
          exact hK.out _ _ (Below.refl _ _) rfl
        | 6, _ =>
          intro v w' hR hd
          change SpecOp _ _ _ _ 6 (canon _ v _ []) w' _
          simp only [canon_nil]
          refine spec_of rfl (fun KK hK => ?_)
          go_simp
          exact hK.out _ _ (Below.refl _ _) rfl
        | 7, _ =>
          intro v w' hR hd
          have e6 : v 6 = .pointer (some ⟨w.heap.size + 1, 3, none⟩) := hd 6 (by decide)
          change SpecOp _ _ _ _ 7 (Act.put (canon _ v _ []) (some 42) (v 6)) w' _
          rw [e6]
          simp only [canon_nil, Act.put, List.setIfInBounds_toArray, List.set_cons_zero, List.set_cons_succ]
          have q0 := (hR.cell (p := ⟨w.heap.size + 1, 3, none⟩) z1).trans k1_3
          refine spec_of rfl (fun KK hK => ?_)
          go_simp
          exact hK.out _ _ (Below.refl _ _) rfl
        | 8, _ =>
          intro v w' hR hd
          change SpecOp _ _ _ _ 8 (canon _ v _ []) w' _
          simp only [canon_nil]
          refine spec_of rfl (fun KK hK => ?_)
          go_simp
          exact hK.out _ _ (Below.refl _ _) rfl
        | 9, _ =>
          intro v w' hR hd
          have e7 : v 7 = .slice (some ad2) n c2 := hd 7 (by decide)
          have e8 : v 8 = .int .i64 ((y : Int)) := hd 8 (by decide)
          change SpecOp _ _ _ _ 9 (Act.put (Act.put (canon _ v _ []) (some 44) (v 8)) (some 43) (v 7)) w' _
          rw [e7, e8]
          simp only [canon_nil, Act.put, List.setIfInBounds_toArray, List.set_cons_zero, List.set_cons_succ]
          refine spec_of rfl (fun KK hK => ?_)
          go_simp
          exact hK.out _ _ (Below.refl _ _) rfl
        | 10, _ =>
          intro v w' hR hd
          have e9 : v 9 = .pointer (some (ad2.add y)) := hd 9 (by decide)
          change SpecOp _ _ _ _ 10 (Act.put (canon _ v _ []) (some 45) (v 9)) w' _
          rw [e9]
          simp only [canon_nil, Act.put, List.setIfInBounds_toArray, List.set_cons_zero, List.set_cons_succ]
          have q0 := (hR.cell (p := ad2.add y) (by rw [block_of_add]; exact hbl2)).trans HCY2.out
          refine spec_of rfl (fun KK hK => ?_)
          go_simp
          exact hK.out _ _ (Below.refl _ _) rfl
        | 11, _ =>
          intro v w' hR hd
          have e10 : v 10 = .float .f32 u := hd 10 (by decide)
          change SpecOp _ _ _ _ 11 (Act.put (canon _ v _ []) (some 46) (v 10)) w' _
          rw [e10]
          simp only [canon_nil, Act.put, List.setIfInBounds_toArray, List.set_cons_zero, List.set_cons_succ]
          refine spec_of rfl (fun KK hK => ?_)
          go_simp
          refine (HSU.out _).mono ?_
          rintro e wn ⟨rfl, rfl⟩
          exact hK.out _ _ (Below.refl _ _) rfl
        | 12, _ =>
          intro v w' hR hd
          have e5 : v 5 = .int .i64 (x) := hd 5 (by decide)
          have e11 : v 11 = .int .i64 (z) := hd 11 (by decide)
          change SpecOp _ _ _ _ 12 (Act.put (Act.put (canon _ v _ []) (some 47) (v 11)) (some 41) (v 5)) w' _
          rw [e5, e11]
          simp only [canon_nil, Act.put, List.setIfInBounds_toArray, List.set_cons_zero, List.set_cons_succ]
          refine spec_of rfl (fun KK hK => ?_)
          go_simp
          exact hK.out _ _ (Below.refl _ _) (by first | rfl | exact congrArg (Value.int .i64) hw)
        | 13, _ =>
          intro v w' hR hd
          have e12 : v 12 = .int .i64 (m) := hd 12 (by decide)
          change SpecOp _ _ _ _ 13 (Act.put (canon _ v _ []) (some 48) (v 12)) w' _
          rw [e12]
          simp only [canon_nil, Act.put, List.setIfInBounds_toArray, List.set_cons_zero, List.set_cons_succ]
          refine spec_of rfl (fun KK hK => ?_)
          go_simp
          exact hK.out _ _ (Below.refl _ _) rfl
        | i + 14, h => exact absurd h (Nat.not_lt.2 (Nat.le_add_left 14 i))
      case hend =>
        intro v w' hR hall
        simp only [putL, Act.put, List.setIfInBounds_toArray, List.set_cons_zero, List.set_cons_succ]
        have e0 : v 0 = .pointer (some ⟨w.heap.size, 3, none⟩) := hall 0 (by decide)
        have e1 : v 1 = .slice (some ad) n c := hall 1 (by decide)
        have e2 : v 2 = .int .i64 ((y : Int)) := hall 2 (by decide)
        have e3 : v 3 = .pointer (some (ad.add y)) := hall 3 (by decide)
        have e4 : v 4 = .float .f32 va := hall 4 (by decide)
        have e5 : v 5 = .int .i64 (x) := hall 5 (by decide)
        have e6 : v 6 = .pointer (some ⟨w.heap.size + 1, 3, none⟩) := hall 6 (by decide)
        have e7 : v 7 = .slice (some ad2) n c2 := hall 7 (by decide)
        have e8 : v 8 = .int .i64 ((y : Int)) := hall 8 (by decide)
        have e9 : v 9 = .pointer (some (ad2.add y)) := hall 9 (by decide)
        have e10 : v 10 = .float .f32 u := hall 10 (by decide)
        have e11 : v 11 = .int .i64 (z) := hall 11 (by decide)
        have e12 : v 12 = .int .i64 (m) := hall 12 (by decide)
        have e13 : v 13 = .int .i64 (m) := hall 13 (by decide)
        rw [e13]
        clear e0 e1 e2 e3 e4 e5 e6 e7 e8 e9 e10 e11 e12 e13 hall
        clear z0 z1 hbl hbl2 k0_0 k0_1 k0_2 k0_3 k1_0 k1_1 k1_2 k1_3
        replace HX0 := Lib.hid (HX0.out.below hR)
        replace HX1 := Lib.hid (HX1.out.below hR)
        replace HX2 := Lib.hid (HX2.out.below hR)
        replace HF := Lib.hid (HF.out.below hR); replace HG := Lib.hid (HG.out.below hR); replace HB := Lib.hid (HB.out.trans (hR.mono HB.out.size))
        clear hR hc hc2 HCY HCY2
        obtain ⟨wd, hwd⟩ : ∃ s, w' = s := ⟨_, rfl⟩
        rw [hwd] at HX0 HX1 HX2 HF HG HB ⊢
        clear hwd
        go_wp2_with fail
        by_cases hlg : largeB m = true
        · refine (isLargeR m true hlg _).mono ?_
          rintro e wn ⟨rfl, rfl⟩
          have HLG := Lib.hid (any_of_large (G := G) (k := y) (by rw [HGN.out]; exact hlt) (by rw [HM.out]; exact hlg))
          have hy := HX2.out
          have z1 := hy.lt
          have f0 := hy.frozen 0; have f1 := hy.frozen 1; have f2 := hy.frozen 2; have f3 := hy.frozen 3
          obtain ⟨d0, d1, d2, d3⟩ := box4 hy
          have hyy := Lib.hid (show Blk ((((wd.setCell ⟨w.heap.size + 1 + 1, 0, none⟩ (.string ⟨#[]⟩)).setCell ⟨w.heap.size + 1 + 1, 1, none⟩ (.int .i64 0)).setCell ⟨w.heap.size + 1 + 1, 2, none⟩ (.int .i64 0)).setCell ⟨w.heap.size + 1 + 1, 3, none⟩ (.slice none 0 0)) (w.heap.size + 1 + 1) 43 #[.string ⟨#[]⟩, .int .i64 0, .int .i64 0, .slice none 0 0] from (((hy.set_ 0 _).set_ 1 _).set_ 2 _).set_ 3 _)
          clear hy
          go_wp2
          obtain ⟨r0, r1, r2, r3⟩ := box4 hyy.out
          exact bodyPost_ret (v := .tuple #[.agg #[.string ⟨#[]⟩, .int .i64 0, .int .i64 0, .slice none 0 0], .int .i64 4]) (by simp [results, Tryz.results57, go_sem, r0, r1, r2, r3]) rfl (join_bad HLG.out rfl (below_set4 HB.out (by omega) _ _ _ _))
        · have hlf : largeB m = false := by simpa using hlg
          refine (isLargeR m false hlf _).mono ?_
          rintro e wn ⟨rfl, rfl⟩
          have HA2 : RowKit.Hid ((G.take (y + 1)).any largeB = false) := Lib.hid (by rw [any_take_succ (by rw [HGN.out]; exact hlt), HAN.out, HM.out, hlf]; rfl)
          obtain ⟨q0, q1, q2, q3⟩ := box4 HF.out
          have hgc : wd.cell? ⟨g, y, none⟩ = some (.float .f32 0) := by have h := HG.out.cell y; rw [fill_get, if_pos hlt, if_neg (by omega)] at h; exact h
          have HGC := Lib.hid hgc
          have hgf := HG.out.frozen y
          have HSET := Lib.hid (fun w (h : Blk w g 23 (fillN (fun j => .float .f32 (smp (G.getD j 0))) (.float .f32 0) n y)) => show Blk (w.setCell ⟨g, y, none⟩ (.float .f32 (smp m))) g 23 (fillN (fun j => .float .f32 (smp (G.getD j 0))) (.float .f32 0) n (y + 1)) from by
            have h2 := h.set_ y (.float .f32 (smp m))
            have h3 := fill_set (fun j => Value.float .f32 (smp (G.getD j 0))) (.float .f32 0) n y
            simp only [HM.out] at h3
            rw [h3] at h2; exact h2)
          have gf := HF.out.lt; have gg := HG.out.lt
          have nf : ¬ b3 = g := by omega
          have yn0 : (0 : Int) ≤ (y : Int) := by omega
          have yn1 : (y : Int) < (n : Int) := by omega
          have hch : Below wd.heap.size wd wd.drew := (Below.refl _ _).drew
          have hsx : SX g wd wd.drew := sx_below hch
          have kg := ((HG.out.below hch).cell y).trans (by rw [fill_get, if_pos hlt, if_neg (by omega)] : _ = some (Value.float .f32 0))
          have kf := (HG.out.below hch).frozen y
          go_upto_region 10 with fail
          go_region_held3 (SX g wd)
            (first | (with_reducible assumption) | exact sx_drew (by assumption) | exact sx_set (by assumption) _ _)
            (first
              | (go_at_call 125; refine (sampleR_v m (by simp [largeB] at hlf; omega) _).mono ?_; rintro e wn ⟨rfl, rfl⟩))
          clear kg kf hgc hgf hsx q0 q1 q2 q3
          replace HX0 := Lib.hid ((HX0.out.below hch).far (p := ⟨g, y, none⟩) (by simp; omega) (.float .f32 (smp m)))
          replace HX1 := Lib.hid ((HX1.out.below hch).far (p := ⟨g, y, none⟩) (by simp; omega) (.float .f32 (smp m)))
          replace HX2 := Lib.hid ((HX2.out.below hch).far (p := ⟨g, y, none⟩) (by simp; omega) (.float .f32 (smp m)))
          replace HF := Lib.hid ((HF.out.below hch).far (p := ⟨g, y, none⟩) (by simp; omega) (.float .f32 (smp m)))
          replace HG := Lib.hid (HSET.out _ (HG.out.below hch))
          replace HB := Lib.hid ((HB.out.trans (hch.mono HB.out.size)).setCell (p := ⟨g, y, none⟩) (by simp; omega) (.float .f32 (smp m)))
          clear hch
          go_wp2
          go_roundw
          case rel => exact ⟨y + 1, by omega, by go_num, HA2.out, HX0.out, HX1.out, HX2.out, HF.out, HG.out, HB.out⟩
          case measure => simp [intOf]; omega
    · have hye : y = n := by omega
      subst hye
      obtain ⟨q0, q1, q2, q3⟩ := box4 HF.out
      have HAE : RowKit.Hid (G.any largeB = false) := Lib.hid (by have h := HAN.out; rw [List.take_of_length_le (by rw [HGN.out]; exact Nat.le_refl _)] at h; exact h)
      have hy := HX2.out
      have z1 := hy.lt
      have f0 := hy.frozen 0; have f1 := hy.frozen 1; have f2 := hy.frozen 2; have f3 := hy.frozen 3
      obtain ⟨d0, d1, d2, d3⟩ := box4 hy
      have hyy := Lib.hid (show Blk ((((wo.setCell ⟨w.heap.size + 1 + 1, 0, none⟩ (.string nm)).setCell ⟨w.heap.size + 1 + 1, 1, none⟩ (.int .i64 (W : Int))).setCell ⟨w.heap.size + 1 + 1, 2, none⟩ (.int .i64 (H : Int))).setCell ⟨w.heap.size + 1 + 1, 3, none⟩ (.slice (some ⟨g, 0, none⟩) y y)) (w.heap.size + 1 + 1) 43 #[.string nm, .int .i64 (W : Int), .int .i64 (H : Int), .slice (some ⟨g, 0, none⟩) y y] from (((hy.set_ 0 _).set_ 1 _).set_ 2 _).set_ 3 _)
      have HGE := Lib.hid ((((HG.out.far (p := ⟨w.heap.size + 1 + 1, 0, none⟩) (by simp; omega) (.string nm)).far (p := ⟨w.heap.size + 1 + 1, 1, none⟩) (by simp; omega) (.int .i64 (W : Int))).far (p := ⟨w.heap.size + 1 + 1, 2, none⟩) (by simp; omega) (.int .i64 (H : Int))).far (p := ⟨w.heap.size + 1 + 1, 3, none⟩) (by simp; omega) (.slice (some ⟨g, 0, none⟩) y y))
      clear hy
      go_wp2
      obtain ⟨r0, r1, r2, r3⟩ := box4 hyy.out
      exact bodyPost_ret (v := .tuple #[.agg #[.string nm, .int .i64 (W : Int), .int .i64 (H : Int), .slice (some ⟨g, 0, none⟩) y y], .int .i64 0]) (by simp [results, Tryz.results57, go_sem, r0, r1, r2, r3]) rfl (join_good HAE.out HGN.out rfl HGE.out (below_set4 HB.out (by omega) _ _ _ _))
set_option maxHeartbeats 4000000 in
theorem scaledR_ok (nm : ByteArray) (W H : Nat) (l : List Nat) (n : Nat) (hl : l.length = n) (hn : W * H = n) (hn4 : n ≤ 4096) (hok : ∀ b ∈ l, chk 1024 b = 0) (num den : Int) (hnum : -1000 ≤ num ∧ num ≤ 1000) (hden : 1 ≤ den ∧ den ≤ 1000) (ad : Addr) (c : Nat) (w : World) (hr : Rd w (some ad) (fl l)) :
    Calls Tryz.prog 58 #[.agg #[.string nm, .int .i64 (W : Int), .int .i64 (H : Int), .slice (some ad) n c], .int .i64 num, .int .i64 den] w (JoinEnd (lvP nm W H (scaledL l num den)) (lvZ (scaledL l num den)) w) := by
  obtain ⟨G, hG⟩ : ∃ G, scaledL l num den = G := ⟨_, rfl⟩
  have hGn : G.length = n := by rw [← hG]; simp [scaledL, hl]
  have hGk : ∀ j, j < n → G.getD j 0 = nearestN (lvl (l.getD j 0) * num) den := fun j hj => by rw [← hG]; simp [scaledL, List.getD, hl, hj]
  rw [hG]
  have HGN := Lib.hid hGn; have HGK := Lib.hid hGk; have HN := Lib.hid hn
  have HR := Lib.hid hr; have HOK := Lib.hid hok; have HLL := Lib.hid hl
  clear hG hGn hGk hr hok hl hn
  go_enter Tryz.func58, Tryz.ntmps58
  go_upto_region 1 with fail
  have hx0 := (Blk.new w 43 #[.string nm, .int .i64 (W : Int), .int .i64 (H : Int), .slice (some ad) n c]).alloc (.cells #[.string ⟨#[]⟩, .int .i64 0, .int .i64 0, .slice none 0 0] 43)
  have hx1 := Blk.new (w.alloc (.cells #[.string nm, .int .i64 (W : Int), .int .i64 (H : Int), .slice (some ad) n c] 43)) 43 #[.string ⟨#[]⟩, .int .i64 0, .int .i64 0, .slice none 0 0]
  simp only [World.size_alloc] at hx1
  have hb0 := ((Below.refl w.heap.size w).alloc (Nat.le_refl _) (.cells #[.string nm, .int .i64 (W : Int), .int .i64 (H : Int), .slice (some ad) n c] 43)).alloc (by simp only [World.size_alloc]; omega) (.cells #[.string ⟨#[]⟩, .int .i64 0, .int .i64 0, .slice none 0 0] 43)
  generalize ((w.alloc (.cells #[.string nm, .int .i64 (W : Int), .int .i64 (H : Int), .slice (some ad) n c] 43)).alloc (.cells #[.string ⟨#[]⟩, .int .i64 0, .int .i64 0, .slice none 0 0] 43)) = w0 at hx0 hx1 hb0 ⊢
  have HX0 := Lib.hid hx0
  have HX1 := Lib.hid hx1
  have HB := Lib.hid hb0; clear hb0 hx0 hx1
  obtain ⟨k0_0, k0_1, k0_2, k0_3⟩ := box4 HX0.out
  go_wp2_with fail
  refine (filled_any nm W H n _ HN.out hn4).mono ?_
  rintro e w2 ⟨g, rfl, hg, hgb, hb2⟩
  have hgx : w.heap.size + 1 < g := Nat.lt_of_lt_of_le HX1.out.lt hg
  replace HX0 := Lib.hid (HX0.out.below hb2)
  replace HX1 := Lib.hid (HX1.out.below hb2)
  replace HB := Lib.hid (HB.out.trans (hb2.mono HB.out.size))
  have HG := Lib.hid hgb
  clear hb2 hgb
  clear k0_0 k0_1 k0_2 k0_3
  go_upto_region 2 with fail
  have hx0 := HX0.out.alloc (.cells #[.string nm, .int .i64 (W : Int), .int .i64 (H : Int), .slice (some ⟨g, 0, none⟩) n n] 43)
  have hx1 := HX1.out.alloc (.cells #[.string nm, .int .i64 (W : Int), .int .i64 (H : Int), .slice (some ⟨g, 0, none⟩) n n] 43)
  have hgm := HG.out.alloc (.cells #[.string nm, .int .i64 (W : Int), .int .i64 (H : Int), .slice (some ⟨g, 0, none⟩) n n] 43)
  have hf := Blk.new w2 43 #[.string nm, .int .i64 (W : Int), .int .i64 (H : Int), .slice (some ⟨g, 0, none⟩) n n]
  have hb := HB.out.alloc HB.out.size (.cells #[.string nm, .int .i64 (W : Int), .int .i64 (H : Int), .slice (some ⟨g, 0, none⟩) n n] 43)
  have hgb : g < w2.heap.size := HG.out.lt
  have hbx : w.heap.size + 1 < w2.heap.size := HX1.out.lt
  obtain ⟨b3, hb3⟩ : ∃ b, w2.heap.size = b := ⟨_, rfl⟩
  rw [hb3] at hf hgb hbx ⊢
  clear hb3
  generalize w2.alloc (.cells #[.string nm, .int .i64 (W : Int), .int .i64 (H : Int), .slice (some ⟨g, 0, none⟩) n n] 43) = w3 at hx0 hx1 hgm hf hb ⊢
  replace HX0 := Lib.hid hx0
  replace HX1 := Lib.hid hx1
  have hgm2 := fill_mask (fun j => Value.float .f32 (smp (G.getD j 0))) (.float .f32 0) n 0
  replace HG := Lib.hid (show Blk w3 g 23 (fillN (fun j => .float .f32 (smp (G.getD j 0))) (.float .f32 0) n 0) from by rw [fill_mask]; rw [fill_mask, mask_congr (fun _ => .float .f32 0) (fun j => .float .f32 (smp (G.getD j 0))) _ _ _ (fun i => decide (i < 0)) (by simp) (by simp)] at hgm; exact hgm); have HF := Lib.hid hf; replace HB := Lib.hid hb; clear hgm hgm2 hf hb hx0 hx1
  obtain ⟨q0, q1, q2, q3⟩ := box4 HF.out
  obtain ⟨k0_0, k0_1, k0_2, k0_3⟩ := box4 HX0.out
  go_wp2
  clear k0_0 k0_1 k0_2 k0_3
  clear q0 q1 q2 q3
  go_loopw [9] (fun i wr => ∃ y : Nat, y ≤ n ∧ i = .int .i64 y ∧ (G.take y).any largeB = false ∧ Blk wr (w.heap.size) 43 #[.string nm, .int .i64 (W : Int), .int .i64 (H : Int), .slice (some ad) n c] ∧ Blk wr (w.heap.size + 1) 43 #[.string ⟨#[]⟩, .int .i64 0, .int .i64 0, .slice none 0 0] ∧ Blk wr b3 43 #[.string nm, .int .i64 (W : Int), .int .i64 (H : Int), .slice (some ⟨g, 0, none⟩) n n] ∧ Blk wr g 23 (fillN (fun j => .float .f32 (smp (G.getD j 0))) (.float .f32 0) n y) ∧ Below w.heap.size w wr) (fun i _ => n - (intOf i).toNat)
  case atStart => exact ⟨0, by omega, rfl, rfl, HX0.out, HX1.out, HF.out, HG.out, HB.out⟩
  case round =>
    clear HX0 HX1 HG HF HB
    obtain ⟨y, hy, rfl, hany, hx0, hx1, hf, hgm, hbel⟩ := hrel
    obtain ⟨wo, rfl⟩ : ∃ wo : World, wo = wr := ⟨_, rfl⟩
    have HX0 := Lib.hid hx0
    have HX1 := Lib.hid hx1
    have HAN := Lib.hid hany; have HF := Lib.hid hf; have HG := Lib.hid hgm; have HB := Lib.hid hbel; clear hany hf hgm hbel hx0 hx1
    obtain ⟨k0_0, k0_1, k0_2, k0_3⟩ := box4 HX0.out
    by_cases hlt : y < n
    · have hyl : y < l.length := by rw [HLL.out]; exact hlt
      obtain ⟨va, hv⟩ : ∃ v, l.getD y 0 = v := ⟨_, rfl⟩
      obtain ⟨x, hx⟩ : ∃ x, lvl va = x := ⟨_, rfl⟩
      have hvm : va ∈ l := by rw [← hv]; exact getD_mem hyl
      obtain ⟨ad', had, hbl, hc⟩ := (HR.out.below HB.out).get (k := y) (u := .float .f32 va) (by rw [← hv]; exact fl_get hyl)
      cases had
      have HSX := Lib.hid (fun w => six_v va (HOK.out va hvm) w)
      obtain ⟨zz, _, _, hxb1, hxb2⟩ := level_facts (HOK.out va hvm)
      rw [hx] at HSX hxb1 hxb2
      obtain ⟨p, hp⟩ : ∃ p, x * num = p := ⟨_, rfl⟩
      have hpb : -16384000 ≤ p ∧ p ≤ 16384000 := by
        have h1 : (x * num).natAbs ≤ 16384 * 1000 := by rw [Int.natAbs_mul]; exact Nat.mul_le_mul (by omega) (by omega)
        rw [hp] at h1; omega
      have hw : IntKind.i64.wrap (x * num) = p := by rw [hp]; exact IntWalk.i64_in _ (by omega)
      have hRO := fun w => round_v p den (by omega) hden w
      obtain ⟨m, hm⟩ : ∃ m, nearestN p den = m := ⟨_, rfl⟩
      have hmb : m.natAbs ≤ 100000000 := by rw [← hm]; exact near_small p den hpb hden
      rw [hm] at hRO
      have HRO := Lib.hid hRO
      have hgy : G.getD y 0 = m := by rw [HGK.out y hlt, hv, hx, hp, hm]
      have HM := Lib.hid hgy; have HW := Lib.hid (And.intro hm (And.intro hx hv))
      clear hm hx hv hgy hvm hRO
      have HCY := Lib.hid hc
      go_wp2_with (first
        | (go_at_call 123; refine (HSX.out _).mono ?_; rintro e wn ⟨rfl, rfl⟩)
        | (go_at_call 126; refine (HRO.out _).mono ?_; rintro e wn ⟨rfl, rfl⟩))
      clear hc HCY hbl k0_0 k0_1 k0_2 k0_3
      obtain ⟨wd, hwd⟩ : ∃ s, wo = s := ⟨_, rfl⟩
      rw [hwd] at HX0 HX1 HF HG HB ⊢
      clear hwd
      by_cases hlg : largeB m = true
      · refine (isLargeR m true hlg _).mono ?_
        rintro e wn ⟨rfl, rfl⟩
        have HLG := Lib.hid (any_of_large (G := G) (k := y) (by rw [HGN.out]; exact hlt) (by rw [HM.out]; exact hlg))
        have hy := HX1.out
        have z1 := hy.lt
        have f0 := hy.frozen 0; have f1 := hy.frozen 1; have f2 := hy.frozen 2; have f3 := hy.frozen 3
        obtain ⟨d0, d1, d2, d3⟩ := box4 hy
        have hyy := Lib.hid (show Blk ((((wd.setCell ⟨w.heap.size + 1, 0, none⟩ (.string ⟨#[]⟩)).setCell ⟨w.heap.size + 1, 1, none⟩ (.int .i64 0)).setCell ⟨w.heap.size + 1, 2, none⟩ (.int .i64 0)).setCell ⟨w.heap.size + 1, 3, none⟩ (.slice none 0 0)) (w.heap.size + 1) 43 #[.string ⟨#[]⟩, .int .i64 0, .int .i64 0, .slice none 0 0] from (((hy.set_ 0 _).set_ 1 _).set_ 2 _).set_ 3 _)
        clear hy
        go_wp2
        obtain ⟨r0, r1, r2, r3⟩ := box4 hyy.out
        exact bodyPost_ret (v := .tuple #[.agg #[.string ⟨#[]⟩, .int .i64 0, .int .i64 0, .slice none 0 0], .int .i64 4]) (by simp [results, Tryz.results58, go_sem, r0, r1, r2, r3]) rfl (join_bad HLG.out rfl (below_set4 HB.out (by omega) _ _ _ _))
      · have hlf : largeB m = false := by simpa using hlg
        refine (isLargeR m false hlf _).mono ?_
        rintro e wn ⟨rfl, rfl⟩
        have HA2 : RowKit.Hid ((G.take (y + 1)).any largeB = false) := Lib.hid (by rw [any_take_succ (by rw [HGN.out]; exact hlt), HAN.out, HM.out, hlf]; rfl)
        obtain ⟨q0, q1, q2, q3⟩ := box4 HF.out
        have hgc : wd.cell? ⟨g, y, none⟩ = some (.float .f32 0) := by have h := HG.out.cell y; rw [fill_get, if_pos hlt, if_neg (by omega)] at h; exact h
        have HGC := Lib.hid hgc
        have hgf := HG.out.frozen y
        have HSET := Lib.hid (fun w (h : Blk w g 23 (fillN (fun j => .float .f32 (smp (G.getD j 0))) (.float .f32 0) n y)) => show Blk (w.setCell ⟨g, y, none⟩ (.float .f32 (smp m))) g 23 (fillN (fun j => .float .f32 (smp (G.getD j 0))) (.float .f32 0) n (y + 1)) from by
          have h2 := h.set_ y (.float .f32 (smp m))
          have h3 := fill_set (fun j => Value.float .f32 (smp (G.getD j 0))) (.float .f32 0) n y
          simp only [HM.out] at h3
          rw [h3] at h2; exact h2)
        have gf := HF.out.lt; have gg := HG.out.lt
        have nf : ¬ b3 = g := by omega
        have yn0 : (0 : Int) ≤ (y : Int) := by omega
        have yn1 : (y : Int) < (n : Int) := by omega
        have hch : Below wd.heap.size wd wd.drew := (Below.refl _ _).drew
        have hsx : SX g wd wd.drew := sx_below hch
        have kg := ((HG.out.below hch).cell y).trans (by rw [fill_get, if_pos hlt, if_neg (by omega)] : _ = some (Value.float .f32 0))
        have kf := (HG.out.below hch).frozen y
        go_upto_region 8 with fail
        go_region_held3 (SX g wd)
          (first | (with_reducible assumption) | exact sx_drew (by assumption) | exact sx_set (by assumption) _ _)
          (first
            | (go_at_call 125; refine (sampleR_v m (by simp [largeB] at hlf; omega) _).mono ?_; rintro e wn ⟨rfl, rfl⟩))
        clear kg kf hgc hgf hsx q0 q1 q2 q3
        replace HX0 := Lib.hid ((HX0.out.below hch).far (p := ⟨g, y, none⟩) (by simp; omega) (.float .f32 (smp m)))
        replace HX1 := Lib.hid ((HX1.out.below hch).far (p := ⟨g, y, none⟩) (by simp; omega) (.float .f32 (smp m)))
        replace HF := Lib.hid ((HF.out.below hch).far (p := ⟨g, y, none⟩) (by simp; omega) (.float .f32 (smp m)))
        replace HG := Lib.hid (HSET.out _ (HG.out.below hch))
        replace HB := Lib.hid ((HB.out.trans (hch.mono HB.out.size)).setCell (p := ⟨g, y, none⟩) (by simp; omega) (.float .f32 (smp m)))
        clear hch
        go_wp2
        go_roundw
        case rel => exact ⟨y + 1, by omega, by go_num, HA2.out, HX0.out, HX1.out, HF.out, HG.out, HB.out⟩
        case measure => simp [intOf]; omega
    · have hye : y = n := by omega
      subst hye
      obtain ⟨q0, q1, q2, q3⟩ := box4 HF.out
      have HAE : RowKit.Hid (G.any largeB = false) := Lib.hid (by have h := HAN.out; rw [List.take_of_length_le (by rw [HGN.out]; exact Nat.le_refl _)] at h; exact h)
      have hy := HX1.out
      have z1 := hy.lt
      have f0 := hy.frozen 0; have f1 := hy.frozen 1; have f2 := hy.frozen 2; have f3 := hy.frozen 3
      obtain ⟨d0, d1, d2, d3⟩ := box4 hy
      have hyy := Lib.hid (show Blk ((((wo.setCell ⟨w.heap.size + 1, 0, none⟩ (.string nm)).setCell ⟨w.heap.size + 1, 1, none⟩ (.int .i64 (W : Int))).setCell ⟨w.heap.size + 1, 2, none⟩ (.int .i64 (H : Int))).setCell ⟨w.heap.size + 1, 3, none⟩ (.slice (some ⟨g, 0, none⟩) y y)) (w.heap.size + 1) 43 #[.string nm, .int .i64 (W : Int), .int .i64 (H : Int), .slice (some ⟨g, 0, none⟩) y y] from (((hy.set_ 0 _).set_ 1 _).set_ 2 _).set_ 3 _)
      have HGE := Lib.hid ((((HG.out.far (p := ⟨w.heap.size + 1, 0, none⟩) (by simp; omega) (.string nm)).far (p := ⟨w.heap.size + 1, 1, none⟩) (by simp; omega) (.int .i64 (W : Int))).far (p := ⟨w.heap.size + 1, 2, none⟩) (by simp; omega) (.int .i64 (H : Int))).far (p := ⟨w.heap.size + 1, 3, none⟩) (by simp; omega) (.slice (some ⟨g, 0, none⟩) y y))
      clear hy
      go_wp2
      obtain ⟨r0, r1, r2, r3⟩ := box4 hyy.out
      exact bodyPost_ret (v := .tuple #[.agg #[.string nm, .int .i64 (W : Int), .int .i64 (H : Int), .slice (some ⟨g, 0, none⟩) y y], .int .i64 0]) (by simp [results, Tryz.results58, go_sem, r0, r1, r2, r3]) rfl (join_good HAE.out HGN.out rfl HGE.out (below_set4 HB.out (by omega) _ _ _ _))
end Go.Proofs.YtfgeokeankfplaaGreatDoor
