/- PictureLinear: the walk of the law, by what its calls give (FLAGS). -/
import Derived.Test.YtlicgblagkkcfaaGreatDoorQB
namespace Go.Proofs.YtlicgblagkkcfaaGreatDoor
open Go.RowKit
set_option linter.unusedVariables false
set_option maxRecDepth 100000
attribute [local go_sem] run_store_float run_store_complex
/-- Four samples, the first i of them twice as great. -/
def fm_b (L L2 : Nat → Nat) (i : Nat) : Array Value := #[.float .f32 (if 0 < i then L2 0 else L 0), .float .f32 (if 1 < i then L2 1 else L 1), .float .f32 (if 2 < i then L2 2 else L 2), .float .f32 (if 3 < i then L2 3 else L 3)]
theorem fm_b_at (L L2 : Nat → Nat) (i : Nat) (h : i < 4) : (fm_b L L2 i)[i]? = some (.float .f32 (L i)) := by
  have : i = 0 ∨ i = 1 ∨ i = 2 ∨ i = 3 := by omega
  rcases this with rfl | rfl | rfl | rfl <;> rfl
theorem fm_b_set (L L2 : Nat → Nat) (i : Nat) (h : i < 4) : (fm_b L L2 i).setIfInBounds i (.float .f32 (L2 i)) = fm_b L L2 (i + 1) := by
  have : i = 0 ∨ i = 1 ∨ i = 2 ∨ i = 3 := by omega
  rcases this with rfl | rfl | rfl | rfl <;> rfl
def cm_b (P : Nat → Nat × Nat) : Array Value := #[.complex .f32 (P 0).1 (P 0).2, .complex .f32 (P 1).1 (P 1).2, .complex .f32 (P 2).1 (P 2).2, .complex .f32 (P 3).1 (P 3).2]
theorem cm_b_at (P : Nat → Nat × Nat) (i : Nat) (h : i < 4) : (cm_b P)[i]? = some (.complex .f32 (P i).1 (P i).2) := by
  have : i = 0 ∨ i = 1 ∨ i = 2 ∨ i = 3 := by omega
  rcases this with rfl | rfl | rfl | rfl <;> rfl

set_option maxHeartbeats 40000000 in
theorem linear_b (nm nm2 : ByteArray) (W H n : Nat) (l k M Z Y Hf tl : List Nat) (tn : ByteArray) (tw th tz : Int) (tc : Nat) (A B : Option Addr) (c c2 : Nat) (L L2 V : Nat → Nat) (P R D : Nat → Nat × Nat) (ng : Nat) (big : Nat → Bool) (w : World)
    (hval : ∀ (A : Option Addr) (c : Nat) (w : World), Rd w A (fl l) → Calls Tryz.prog 86 #[.agg #[.string nm, .int .i64 (W : Int), .int .i64 (H : Int), .slice A n c]] w fun e w' => e = .returned (.bool true) ∧ Below w.heap.size w w')
    (hval2 : ∀ (A : Option Addr) (c : Nat) (w : World), Rd w A (fl k) → Calls Tryz.prog 86 #[.agg #[.string nm2, .int .i64 (W : Int), .int .i64 (H : Int), .slice A n c]] w fun e w' => e = .returned (.bool true) ∧ Below w.heap.size w w')
    (hcs : ∀ (g : Nat) (w : World), Rd w (some ⟨g, 0, none⟩) (fl [L 0, L 1, L 2, L 3]) → Calls Tryz.prog 90 #[.slice (some ⟨g, 0, none⟩) 4 4] w fun e w' => e = .returned (.int .i64 0) ∧ Below w.heap.size w w')
    (hown : ∀ (A : Option Addr) (c : Nat) (w : World), Rd w A (fl l) → Calls Tryz.prog 30 #[.agg #[.string nm, .int .i64 (W : Int), .int .i64 (H : Int), .slice A n c]] w fun e w' => ∃ g c', e = .returned (.agg #[.string nm, .int .i64 (W : Int), .int .i64 (H : Int), .slice (some ⟨g, 0, none⟩) n c']) ∧ n ≤ c' ∧ Rd w' (some ⟨g, 0, none⟩) (fl l) ∧ Below w.heap.size w w')
    (hown2 : ∀ (A : Option Addr) (c : Nat) (w : World), Rd w A (fl k) → Calls Tryz.prog 30 #[.agg #[.string nm2, .int .i64 (W : Int), .int .i64 (H : Int), .slice A n c]] w fun e w' => ∃ g c', e = .returned (.agg #[.string nm2, .int .i64 (W : Int), .int .i64 (H : Int), .slice (some ⟨g, 0, none⟩) n c']) ∧ n ≤ c' ∧ Rd w' (some ⟨g, 0, none⟩) (fl k) ∧ Below w.heap.size w w')
    (hs1 : ∀ (A B : Option Addr) (c d : Nat) (w : World), Rd w A (fl l) → Rd w B (fl k) → Calls Tryz.prog 52 #[.agg #[.string nm, .int .i64 (W : Int), .int .i64 (H : Int), .slice A n c], .agg #[.string nm2, .int .i64 (W : Int), .int .i64 (H : Int), .slice B n d]] w fun e w' => ∃ A' c', e = .returned (.tuple #[.agg #[.string ⟨#[]⟩, .int .i64 0, .int .i64 0, .slice A' 0 c'], .int .i64 4]) ∧ 0 ≤ c' ∧ Rd w' A' (fl []) ∧ Below w.heap.size w w')
    (hs2 : ∀ (A B : Option Addr) (c d : Nat) (w : World), Rd w A (fl k) → Rd w B (fl l) → Calls Tryz.prog 52 #[.agg #[.string nm2, .int .i64 (W : Int), .int .i64 (H : Int), .slice A n c], .agg #[.string nm, .int .i64 (W : Int), .int .i64 (H : Int), .slice B n d]] w fun e w' => ∃ A' c', e = .returned (.tuple #[.agg #[.string ⟨#[]⟩, .int .i64 0, .int .i64 0, .slice A' 0 c'], .int .i64 4]) ∧ 0 ≤ c' ∧ Rd w' A' (fl []) ∧ Below w.heap.size w w')
    (hscM : ∀ (A : Option Addr) (c : Nat) (w : World), Rd w A (fl l) → Calls Tryz.prog 53 #[.agg #[.string nm, .int .i64 (W : Int), .int .i64 (H : Int), .slice A n c], .int .i64 (-1), .int .i64 1] w fun e w' => ∃ A' c', e = .returned (.tuple #[.agg #[.string nm, .int .i64 (W : Int), .int .i64 (H : Int), .slice A' n c'], .int .i64 0]) ∧ 0 ≤ c' ∧ Rd w' A' (fl M) ∧ Below w.heap.size w w')
    (hownM : ∀ (A : Option Addr) (c : Nat) (w : World), Rd w A (fl M) → Calls Tryz.prog 30 #[.agg #[.string nm, .int .i64 (W : Int), .int .i64 (H : Int), .slice A n c]] w fun e w' => ∃ g c', e = .returned (.agg #[.string nm, .int .i64 (W : Int), .int .i64 (H : Int), .slice (some ⟨g, 0, none⟩) n c']) ∧ n ≤ c' ∧ Rd w' (some ⟨g, 0, none⟩) (fl M) ∧ Below w.heap.size w w')
    (hsZ : ∀ (A B : Option Addr) (c d : Nat) (w : World), Rd w A (fl l) → Rd w B (fl M) → Calls Tryz.prog 52 #[.agg #[.string nm, .int .i64 (W : Int), .int .i64 (H : Int), .slice A n c], .agg #[.string nm, .int .i64 (W : Int), .int .i64 (H : Int), .slice B n d]] w fun e w' => ∃ A' c', e = .returned (.tuple #[.agg #[.string nm, .int .i64 (W : Int), .int .i64 (H : Int), .slice A' n c'], .int .i64 0]) ∧ 0 ≤ c' ∧ Rd w' A' (fl Z) ∧ Below w.heap.size w w')
    (hpk : ∀ (A : Option Addr) (c : Nat) (w : World), Rd w A (fl Z) → Calls Tryz.prog 55 #[.agg #[.string nm, .int .i64 (W : Int), .int .i64 (H : Int), .slice A n c]] w fun e w' => e = .returned (.tuple #[.int .i64 0, .int .i64 0]) ∧ Below w.heap.size w w')
    (hsc2 : ∀ (A : Option Addr) (c : Nat) (w : World), Rd w A (fl l) → Calls Tryz.prog 53 #[.agg #[.string nm, .int .i64 (W : Int), .int .i64 (H : Int), .slice A n c], .int .i64 2, .int .i64 1] w fun e w' => ∃ A' c', e = .returned (.tuple #[.agg #[.string tn, .int .i64 tw, .int .i64 th, .slice A' tc c'], .int .i64 tz]) ∧ 0 ≤ c' ∧ Rd w' A' (fl tl) ∧ Below w.heap.size w w')
    (hs3 : ∀ (A B : Option Addr) (c d : Nat) (w : World), Rd w A (fl l) → Rd w B (fl l) → Calls Tryz.prog 52 #[.agg #[.string nm, .int .i64 (W : Int), .int .i64 (H : Int), .slice A n c], .agg #[.string nm, .int .i64 (W : Int), .int .i64 (H : Int), .slice B n d]] w fun e w' => ∃ A' c', e = .returned (.tuple #[.agg #[.string tn, .int .i64 tw, .int .i64 th, .slice A' tc c'], .int .i64 tz]) ∧ 0 ≤ c' ∧ Rd w' A' (fl tl) ∧ Below w.heap.size w w')
    (hsame3 : ∀ (A B : Option Addr) (c d : Nat) (w : World), Rd w A (fl tl) → Rd w B (fl tl) → Calls Tryz.prog 88 #[.agg #[.string tn, .int .i64 tw, .int .i64 th, .slice A tc c], .agg #[.string tn, .int .i64 tw, .int .i64 th, .slice B tc d]] w fun e w' => e = .returned (.bool true) ∧ Below w.heap.size w w')
    (htz : 0 = tz → nm = tn ∧ (W : Int) = tw ∧ (H : Int) = th ∧ n = tc ∧ Y = tl)
    (hownY : 0 = tz → ∀ (A : Option Addr) (c : Nat) (w : World), Rd w A (fl Y) → Calls Tryz.prog 30 #[.agg #[.string nm, .int .i64 (W : Int), .int .i64 (H : Int), .slice A n c]] w fun e w' => ∃ g c', e = .returned (.agg #[.string nm, .int .i64 (W : Int), .int .i64 (H : Int), .slice (some ⟨g, 0, none⟩) n c']) ∧ n ≤ c' ∧ Rd w' (some ⟨g, 0, none⟩) (fl Y) ∧ Below w.heap.size w w')
    (hscH : 0 = tz → ∀ (A : Option Addr) (c : Nat) (w : World), Rd w A (fl Y) → Calls Tryz.prog 53 #[.agg #[.string nm, .int .i64 (W : Int), .int .i64 (H : Int), .slice A n c], .int .i64 1, .int .i64 2] w fun e w' => ∃ A' c', e = .returned (.tuple #[.agg #[.string nm, .int .i64 (W : Int), .int .i64 (H : Int), .slice A' n c'], .int .i64 0]) ∧ 0 ≤ c' ∧ Rd w' A' (fl Hf) ∧ Below w.heap.size w w')
    (hsameH : ∀ (A B : Option Addr) (c d : Nat) (w : World), Rd w A (fl Hf) → Rd w B (fl l) → Calls Tryz.prog 88 #[.agg #[.string nm, .int .i64 (W : Int), .int .i64 (H : Int), .slice A n c], .agg #[.string nm, .int .i64 (W : Int), .int .i64 (H : Int), .slice B n d]] w fun e w' => e = .returned (.bool true) ∧ Below w.heap.size w w')
    (hfour : ∀ w1, Below w.heap.size w w1 → Calls Tryz.prog 91 #[.agg #[.float .f32 (L 0), .float .f32 (L 1), .float .f32 (L 2), .float .f32 (L 3)]] w1 fun e w' => e = .returned (.tuple #[.agg #[.complex .f32 (P 0).1 (P 0).2, .complex .f32 (P 1).1 (P 1).2, .complex .f32 (P 2).1 (P 2).2, .complex .f32 (P 3).1 (P 3).2], .int .i64 0]) ∧ Below w1.heap.size w1 w')
    (hunf : ∀ w1, Below w.heap.size w w1 → Calls Tryz.prog 92 #[.agg #[.complex .f32 (P 0).1 (P 0).2, .complex .f32 (P 1).1 (P 1).2, .complex .f32 (P 2).1 (P 2).2, .complex .f32 (P 3).1 (P 3).2]] w1 fun e w' => e = .returned (.tuple #[.agg #[.float .f32 (V 0), .float .f32 (V 1), .float .f32 (V 2), .float .f32 (V 3)], .int .i64 0]) ∧ Below w1.heap.size w1 w')
    (hfour2 : ∀ w1, Below w.heap.size w w1 → (∀ i, i < 4 → big i = false) → Calls Tryz.prog 91 #[.agg #[.float .f32 (L2 0), .float .f32 (L2 1), .float .f32 (L2 2), .float .f32 (L2 3)]] w1 fun e w' => e = .returned (.tuple #[.agg #[.complex .f32 (R 0).1 (R 0).2, .complex .f32 (R 1).1 (R 1).2, .complex .f32 (R 2).1 (R 2).2, .complex .f32 (R 3).1 (R 3).2], .int .i64 0]) ∧ Below w1.heap.size w1 w')
    (heqV : ∀ w : World, (binOp .neq 135 (.agg #[.float .f32 (V 0), .float .f32 (V 1), .float .f32 (V 2), .float .f32 (V 3)]) (.agg #[.float .f32 (L 0), .float .f32 (L 1), .float .f32 (L 2), .float .f32 (L 3)])).run Tryz.prog w = .ok (.bool false) w)
    (hp0 : (FloatKind.f32.format.order (P 0).2 0 != some .eq) = false)
    (hp2 : (FloatKind.f32.format.order (P 2).2 0 != some .eq) = false)
    (hp13 : (FloatKind.f32.format.order (P 1).1 (P 3).1 != some .eq) = false)
    (hng : Op.negFloat .f32 (P 3).2 = ng)
    (hp13i : (FloatKind.f32.format.order (P 1).2 ng != some .eq) = false)
    (hbig : ∀ i, i < 4 → (FloatKind.f32.format.order (L i) 1140850688 == some .gt || FloatKind.f32.format.order (L i) 3288334336 == some .lt) = big i)
    (hdbl : ∀ i, i < 4 → floatBits .mul .f32 1073741824 (L i) = some (L2 i))
    (hcm : ∀ i, i < 4 → c64Mul 1073741824 0 (P i).1 (P i).2 = some (D i))
    (hcr : ∀ i, i < 4 → (FloatKind.f32.format.order (R i).1 (D i).1 == some .eq) = true ∧ (FloatKind.f32.format.order (R i).2 (D i).2 == some .eq) = true)
    (haw : ∀ w1, Below w.heap.size w w1 → Calls Tryz.prog 16 #[] w1 fun e w' => e = .returned (.bool true) ∧ Below w1.heap.size w1 w')
    (hra : Rd w A (fl l))
    (hrb : Rd w B (fl k)) :
    Calls Tryz.prog 13 #[.agg #[.string nm, .int .i64 (W : Int), .int .i64 (H : Int), .slice A n c], .agg #[.string nm2, .int .i64 (W : Int), .int .i64 (H : Int), .slice B n c2], .agg #[.float .f32 (L 0), .float .f32 (L 1), .float .f32 (L 2), .float .f32 (L 3)]] w fun e w' => e = .returned (.bool true) ∧ Below w.heap.size w w' := by
  have Hhval := Lib.hid hval; have Hhval2 := Lib.hid hval2; have Hhcs := Lib.hid hcs; have Hhown := Lib.hid hown; have Hhown2 := Lib.hid hown2; have Hhs1 := Lib.hid hs1; have Hhs2 := Lib.hid hs2; have HhscM := Lib.hid hscM; have HhownM := Lib.hid hownM; have HhsZ := Lib.hid hsZ; have Hhpk := Lib.hid hpk; have Hhsc2 := Lib.hid hsc2; have Hhs3 := Lib.hid hs3; have Hhsame3 := Lib.hid hsame3; have Hhtz := Lib.hid htz; have HhownY := Lib.hid hownY; have HhscH := Lib.hid hscH; have HhsameH := Lib.hid hsameH; have Hhfour := Lib.hid hfour; have Hhunf := Lib.hid hunf; have Hhfour2 := Lib.hid hfour2; have HheqV := Lib.hid heqV; have Hhp0 := Lib.hid hp0; have Hhp2 := Lib.hid hp2; have Hhp13 := Lib.hid hp13; have Hhng := Lib.hid hng; have Hhp13i := Lib.hid hp13i; have Hhbig := Lib.hid hbig; have Hhdbl := Lib.hid hdbl; have Hhcm := Lib.hid hcm; have Hhcr := Lib.hid hcr; have Hhaw := Lib.hid haw; have Hhra := Lib.hid hra; have Hhrb := Lib.hid hrb
  clear hval hval2 hcs hown hown2 hs1 hs2 hscM hownM hsZ hpk hsc2 hs3 hsame3 htz hownY hscH hsameH hfour hunf hfour2 heqV hp0 hp2 hp13 hng hp13i hbig hdbl hcm hcr haw hra hrb
  have HB := Lib.hid (Below.refl w.heap.size w)
  go_enter Tryz.func13, Tryz.ntmps13
  go_upto_region 1 with fail
  have hx := ((Blk.new w 43 #[.string nm, .int .i64 (W : Int), .int .i64 (H : Int), .slice A n c]).alloc (.cells #[.string nm2, .int .i64 (W : Int), .int .i64 (H : Int), .slice B n c2] 43)).alloc (.cells #[.float .f32 (L 0), .float .f32 (L 1), .float .f32 (L 2), .float .f32 (L 3)] 135)
  have hy := (Blk.new (w.alloc (.cells #[.string nm, .int .i64 (W : Int), .int .i64 (H : Int), .slice A n c] 43)) 43 #[.string nm2, .int .i64 (W : Int), .int .i64 (H : Int), .slice B n c2]).alloc (.cells #[.float .f32 (L 0), .float .f32 (L 1), .float .f32 (L 2), .float .f32 (L 3)] 135)
  have hz := Blk.new ((w.alloc (.cells #[.string nm, .int .i64 (W : Int), .int .i64 (H : Int), .slice A n c] 43)).alloc (.cells #[.string nm2, .int .i64 (W : Int), .int .i64 (H : Int), .slice B n c2] 43)) 135 #[.float .f32 (L 0), .float .f32 (L 1), .float .f32 (L 2), .float .f32 (L 3)]
  simp only [World.size_alloc] at hy hz
  have hb0 := (((Below.refl w.heap.size w).alloc (Nat.le_refl _) (.cells #[.string nm, .int .i64 (W : Int), .int .i64 (H : Int), .slice A n c] 43)).alloc (by simp only [World.size_alloc]; omega) (.cells #[.string nm2, .int .i64 (W : Int), .int .i64 (H : Int), .slice B n c2] 43)).alloc (by simp only [World.size_alloc]; omega) (.cells #[.float .f32 (L 0), .float .f32 (L 1), .float .f32 (L 2), .float .f32 (L 3)] 135)
  obtain ⟨bA, hbA⟩ : ∃ g, w.heap.size = g := ⟨_, rfl⟩
  obtain ⟨bB, hbB⟩ : ∃ g, w.heap.size + 1 = g := ⟨_, rfl⟩
  obtain ⟨bL, hbL⟩ : ∃ g, w.heap.size + 1 + 1 = g := ⟨_, rfl⟩
  generalize (((w.alloc (.cells #[.string nm, .int .i64 (W : Int), .int .i64 (H : Int), .slice A n c] 43)).alloc (.cells #[.string nm2, .int .i64 (W : Int), .int .i64 (H : Int), .slice B n c2] 43)).alloc (.cells #[.float .f32 (L 0), .float .f32 (L 1), .float .f32 (L 2), .float .f32 (L 3)] 135)) = w0 at hx hy hz hb0 ⊢
  have hAL : RowKit.Hid (w.heap.size ≤ bA ∧ bA < bL ∧ bB < bL) := Lib.hid (by omega)
  rw [hbL] at hz
  try rw [hbL]
  rw [hbB] at hy
  try rw [hbB]
  rw [hbA] at hx
  try rw [hbA]
  have HXA := Lib.hid hx; have HXB := Lib.hid hy; have HXL := Lib.hid hz
  replace HB := Lib.hid hb0
  clear hx hy hz hb0 hbA hbB hbL
  go_wp2_with (first | (refine wpList_load_box rfl 43 _ rfl bA _ _ HXA.out rfl _ Tryz.underlying43 rfl (by kernel_rfl) ?_))
  refine (Hhval.out _ _ _ (Hhra.out.below HB.out)).mono ?_
  rintro e u1w ⟨rfl, hb⟩
  replace HXA := Lib.hid (HXA.out.below hb)
  replace HXB := Lib.hid (HXB.out.below hb)
  replace HXL := Lib.hid (HXL.out.below hb)
  replace HB := Lib.hid (HB.out.trans (hb.mono HB.out.size))
  clear hb
  go_wp2_with (first | (refine wpList_load_box rfl 43 _ rfl bB _ _ HXB.out rfl _ Tryz.underlying43 rfl (by kernel_rfl) ?_))
  refine (Hhval2.out _ _ _ (Hhrb.out.below HB.out)).mono ?_
  rintro e u2w ⟨rfl, hb⟩
  replace HXA := Lib.hid (HXA.out.below hb)
  replace HXB := Lib.hid (HXB.out.below hb)
  replace HXL := Lib.hid (HXL.out.below hb)
  replace HB := Lib.hid (HB.out.trans (hb.mono HB.out.size))
  clear hb
  go_wp2_with fail
  have hrl : Rd u2w (some ⟨bL, 0, none⟩) (fl [L 0, L 1, L 2, L 3]) := rd_of_blk HXL.out rfl
  refine (Hhcs.out _ _ hrl).mono ?_
  rintro e u3w ⟨rfl, hb⟩
  replace HXA := Lib.hid (HXA.out.below hb)
  replace HXB := Lib.hid (HXB.out.below hb)
  replace HXL := Lib.hid (HXL.out.below hb)
  replace HB := Lib.hid (HB.out.trans (hb.mono HB.out.size))
  clear hb
  clear hrl
  go_upto_region 3 with fail
  obtain ⟨cA0, cA1, cA2, cA3⟩ := box4 HXA.out
  have zA := HXA.out.lt
  obtain ⟨cB0, cB1, cB2, cB3⟩ := box4 HXB.out
  have zB := HXB.out.lt
  refine wp_region_box [Fact2.is (.agg #[.string nm, .int .i64 (W : Int), .int .i64 (H : Int), .slice A n c]), Fact2.pic (fun x => x) nm (W : Int) (H : Int) n l n, Fact2.is (.agg #[.string nm2, .int .i64 (W : Int), .int .i64 (H : Int), .slice B n c2]), Fact2.pic (fun x => x) nm2 (W : Int) (H : Int) n k n, Fact2.pic (fun x => .tuple #[x, .int .i64 4]) ⟨#[]⟩ 0 0 0 [] 0, Fact2.pic (fun x => .tuple #[x, .int .i64 4]) ⟨#[]⟩ 0 0 0 [] 0, Fact2.pic (fun x => x) ⟨#[]⟩ 0 0 0 [] 0, Fact2.is (.int .i64 (4)), Fact2.box u3w.heap.size 50, Fact2.any, Fact2.is (.int .i64 (4))] 9 8 (PicBox u3w.heap.size 50 ⟨#[]⟩ 0 0 0 []) (fun _ _ _ h hb => h.grow hb) [[], [0], [], [2], [1, 3], [4], [5], [5], [], [6, 8], [7]] [(some 52, 0), (some 53, 1), (some 54, 2), (some 55, 3), (some 56, 4), (some 51, 5), (some 57, 6), (some 58, 7), (some 7, 8), (none, 9), (some 8, 10)] (by kernel_rfl) (by kernel_rfl) (by kernel_rfl) (by kernel_rfl) (by decide) (by decide) (fun _ _ _ _ e h => by have h1 : _ ∧ _ := h; exact ⟨e ▸ h1.1, h1.2⟩) ?hstep ?hsto ?hend (by decide)
  case hstep =>
    generalize Exit.then _ _ = QQ
    as_aux_lemma =>
      intro i hi hne
      match i, hi, hne with
      | 0, _, _ =>
        intro v w' hR hd
        change SpecOp _ _ _ _ 0 (canon _ v _ []) w' _
        simp only [canon_nil]
        have q0 := (hR.cell (p := ⟨bA, 0, none⟩) zA).trans cA0
        have q1 := (hR.cell (p := ⟨bA, 1, none⟩) zA).trans cA1
        have q2 := (hR.cell (p := ⟨bA, 2, none⟩) zA).trans cA2
        have q3 := (hR.cell (p := ⟨bA, 3, none⟩) zA).trans cA3
        refine spec_ofR rfl (fun KK hK => ?_)
        go_simp
        exact hK.out _ _ (Below.refl _ _) rfl
      | 1, _, _ =>
        intro v w' hR hd
        have e0 : v 0 = .agg #[.string nm, .int .i64 (W : Int), .int .i64 (H : Int), .slice A n c] := hd 0 (by decide)
        change SpecOp _ _ _ _ 1 (Act.put (canon _ v _ []) (some 52) (v 0)) w' _
        rw [e0]
        simp only [canon_nil, Act.put, List.setIfInBounds_toArray, List.set_cons_zero, List.set_cons_succ]
        refine spec_ofR rfl (fun KK hK => ?_)
        go_simp
        refine (Hhown.out _ _ _ (Hhra.out.below (HB.out.trans (hR.mono HB.out.size)))).mono ?_
        rintro e wn ⟨g, c', rfl, hcc, hro, hbn⟩
        exact hK.out _ _ hbn ⟨_, c', rfl, hcc, hro⟩
      | 2, _, _ =>
        intro v w' hR hd
        change SpecOp _ _ _ _ 2 (canon _ v _ []) w' _
        simp only [canon_nil]
        have q0 := (hR.cell (p := ⟨bB, 0, none⟩) zB).trans cB0
        have q1 := (hR.cell (p := ⟨bB, 1, none⟩) zB).trans cB1
        have q2 := (hR.cell (p := ⟨bB, 2, none⟩) zB).trans cB2
        have q3 := (hR.cell (p := ⟨bB, 3, none⟩) zB).trans cB3
        refine spec_ofR rfl (fun KK hK => ?_)
        go_simp
        exact hK.out _ _ (Below.refl _ _) rfl
      | 3, _, _ =>
        intro v w' hR hd
        have e2 : v 2 = .agg #[.string nm2, .int .i64 (W : Int), .int .i64 (H : Int), .slice B n c2] := hd 2 (by decide)
        change SpecOp _ _ _ _ 3 (Act.put (canon _ v _ []) (some 54) (v 2)) w' _
        rw [e2]
        simp only [canon_nil, Act.put, List.setIfInBounds_toArray, List.set_cons_zero, List.set_cons_succ]
        refine spec_ofR rfl (fun KK hK => ?_)
        go_simp
        refine (Hhown2.out _ _ _ (Hhrb.out.below (HB.out.trans (hR.mono HB.out.size)))).mono ?_
        rintro e wn ⟨g, c', rfl, hcc, hro, hbn⟩
        exact hK.out _ _ hbn ⟨_, c', rfl, hcc, hro⟩
      | 4, _, _ =>
        intro v w' hR hd
        obtain ⟨A1, k1, e1, m1, r1⟩ : ∃ A c, v 1 = (fun x => x) (.agg #[.string nm, .int .i64 (W : Int), .int .i64 (H : Int), .slice A n c]) ∧ n ≤ c ∧ Rd w' A (fl l) := hd 1 (by decide)
        obtain ⟨A3, k3, e3, m3, r3⟩ : ∃ A c, v 3 = (fun x => x) (.agg #[.string nm2, .int .i64 (W : Int), .int .i64 (H : Int), .slice A n c]) ∧ n ≤ c ∧ Rd w' A (fl k) := hd 3 (by decide)
        change SpecOp _ _ _ _ 4 (Act.put (Act.put (canon _ v _ []) (some 55) (v 3)) (some 53) (v 1)) w' _
        rw [e1, e3]
        simp only [canon_nil, Act.put, List.setIfInBounds_toArray, List.set_cons_zero, List.set_cons_succ]
        refine spec_ofR rfl (fun KK hK => ?_)
        go_simp
        refine (Hhs1.out A1 A3 k1 k3 _ r1 r3).mono ?_
        rintro e wn ⟨Ax, cx, rfl, hcx, hrx, hbn⟩
        exact hK.out _ _ hbn ⟨Ax, cx, rfl, hcx, hrx⟩
      | 5, _, _ =>
        intro v w' hR hd
        obtain ⟨A4, k4, e4, m4, r4⟩ : ∃ A c, v 4 = (fun x => .tuple #[x, .int .i64 4]) (.agg #[.string ⟨#[]⟩, .int .i64 0, .int .i64 0, .slice A 0 c]) ∧ 0 ≤ c ∧ Rd w' A (fl []) := hd 4 (by decide)
        change SpecOp _ _ _ _ 5 (Act.put (canon _ v _ []) (some 56) (v 4)) w' _
        rw [e4]
        simp only [canon_nil, Act.put, List.setIfInBounds_toArray, List.set_cons_zero, List.set_cons_succ]
        refine spec_ofR rfl (fun KK hK => ?_)
        go_simp
        exact hK.out _ _ (Below.refl _ _) ⟨A4, k4, rfl, m4, r4⟩
      | 6, _, _ =>
        intro v w' hR hd
        obtain ⟨A5, k5, e5, m5, r5⟩ : ∃ A c, v 5 = (fun x => .tuple #[x, .int .i64 4]) (.agg #[.string ⟨#[]⟩, .int .i64 0, .int .i64 0, .slice A 0 c]) ∧ 0 ≤ c ∧ Rd w' A (fl []) := hd 5 (by decide)
        change SpecOp _ _ _ _ 6 (Act.put (canon _ v _ []) (some 51) (v 5)) w' _
        rw [e5]
        simp only [canon_nil, Act.put, List.setIfInBounds_toArray, List.set_cons_zero, List.set_cons_succ]
        refine spec_ofR rfl (fun KK hK => ?_)
        go_simp
        exact hK.out _ _ (Below.refl _ _) ⟨A5, k5, rfl, m5, r5⟩
      | 7, _, _ =>
        intro v w' hR hd
        obtain ⟨A5, k5, e5, m5, r5⟩ : ∃ A c, v 5 = (fun x => .tuple #[x, .int .i64 4]) (.agg #[.string ⟨#[]⟩, .int .i64 0, .int .i64 0, .slice A 0 c]) ∧ 0 ≤ c ∧ Rd w' A (fl []) := hd 5 (by decide)
        change SpecOp _ _ _ _ 7 (Act.put (canon _ v _ []) (some 51) (v 5)) w' _
        rw [e5]
        simp only [canon_nil, Act.put, List.setIfInBounds_toArray, List.set_cons_zero, List.set_cons_succ]
        refine spec_ofR rfl (fun KK hK => ?_)
        go_simp
        exact hK.out _ _ (Below.refl _ _) rfl
      | 8, _, _ =>
        intro v w' hR hd
        change SpecOp _ _ _ _ 8 (canon _ v _ []) w' _
        simp only [canon_nil]
        refine spec_ofR rfl (fun KK hK => ?_)
        go_simp
        exact hK.out _ _ ((Below.refl _ _).alloc (Nat.le_refl _) _) ⟨_, _, rfl, hR.size, Blk.new _ _ _, .four rfl rfl rfl rfl, rfl⟩
      | 9, _, h => exact absurd rfl h
      | 10, _, _ =>
        intro v w' hR hd
        have e7 : v 7 = .int .i64 (4) := hd 7 (by decide)
        change SpecOp _ _ _ _ 10 (Act.put (canon _ v _ []) (some 58) (v 7)) w' _
        rw [e7]
        simp only [canon_nil, Act.put, List.setIfInBounds_toArray, List.set_cons_zero, List.set_cons_succ]
        refine spec_ofR rfl (fun KK hK => ?_)
        go_simp
        exact hK.out _ _ (Below.refl _ _) rfl
      | i + 11, h, _ => exact absurd h (Nat.not_lt.2 (Nat.le_add_left 11 i))
  case hsto =>
    generalize Exit.then _ _ = QQ
    as_aux_lemma =>
      intro v w' hR hd
      obtain ⟨A6, k6, e6, m6, r6⟩ : ∃ A c, v 6 = (fun x => x) (.agg #[.string ⟨#[]⟩, .int .i64 0, .int .i64 0, .slice A 0 c]) ∧ 0 ≤ c ∧ Rd w' A (fl []) := hd 6 (by decide)
      obtain ⟨bb, cs, e8, hge, hblk, hnf, hcz⟩ : ∃ b cs, v 8 = .pointer (some ⟨b, 0, none⟩) ∧ u3w.heap.size ≤ b ∧ Blk w' b 50 cs ∧ NF cs ∧ cs.size = 4 := hd 8 (by decide)
      obtain ⟨x0, x1, x2, x3, rfl⟩ := four_of hcz
      change SpecOp _ _ _ _ 9 (Act.put (Act.put (canon _ v _ []) (some 7) (v 8)) (some 57) (v 6)) w' _
      rw [e6, e8]
      simp only [canon_nil, Act.put, List.setIfInBounds_toArray, List.set_cons_zero, List.set_cons_succ]
      have zb := hblk.lt
      have f0 := hblk.frozen 0; have f1 := hblk.frozen 1; have f2 := hblk.frozen 2; have f3 := hblk.frozen 3
      obtain ⟨y0, y1, y2, y3⟩ := box4 hblk
      refine spec_ofR rfl (fun KK hK => ?_)
      go_simp
      exact hK.out undef _ (rst_set4 hblk hnf hge (.string ⟨#[]⟩) (.int .i64 0) (.int .i64 0) (.slice A6 0 k6) rfl rfl rfl rfl) ⟨bb, A6, k6, rfl, hge, blk_set4' hblk (.string ⟨#[]⟩) (.int .i64 0) (.int .i64 0) (.slice A6 0 k6), rd_set4 r6 hblk hnf (.string ⟨#[]⟩) (.int .i64 0) (.int .i64 0) (.slice A6 0 k6) rfl rfl rfl⟩
  case hend =>
    intro v w' hR hall hfs
    simp only [putL, Act.put, List.setIfInBounds_toArray, List.set_cons_zero, List.set_cons_succ]
    obtain ⟨bX, AX, cX, e8, hge, hx, hrx⟩ := hfs
    have e10 : v 10 = .int .i64 (4) := hall 10 (by decide) (by decide)
    rw [e8, e10]
    clear hall e8 e10 hge
    have HXX := Lib.hid hx; have HRX := Lib.hid hrx; clear hx hrx
    clear cA0 cA1 cA2 cA3 zA cB0 cB1 cB2 cB3 zB
    obtain ⟨u4w, hwn⟩ : ∃ s, w' = s := ⟨_, rfl⟩
    rw [hwn] at hR HXX HRX ⊢
    clear hwn
    replace HXA := Lib.hid (HXA.out.below hR)
    replace HXB := Lib.hid (HXB.out.below hR)
    replace HXL := Lib.hid (HXL.out.below hR)
    replace HB := Lib.hid (HB.out.trans (hR.mono HB.out.size))
    clear hR
    go_upto_region 4 with fail
    obtain ⟨cB0, cB1, cB2, cB3⟩ := box4 HXB.out
    have zB := HXB.out.lt
    obtain ⟨cA0, cA1, cA2, cA3⟩ := box4 HXA.out
    have zA := HXA.out.lt
    refine wp_region_box [Fact2.is (.agg #[.string nm2, .int .i64 (W : Int), .int .i64 (H : Int), .slice B n c2]), Fact2.pic (fun x => x) nm2 (W : Int) (H : Int) n k n, Fact2.is (.agg #[.string nm, .int .i64 (W : Int), .int .i64 (H : Int), .slice A n c]), Fact2.pic (fun x => x) nm (W : Int) (H : Int) n l n, Fact2.pic (fun x => .tuple #[x, .int .i64 4]) ⟨#[]⟩ 0 0 0 [] 0, Fact2.pic (fun x => .tuple #[x, .int .i64 4]) ⟨#[]⟩ 0 0 0 [] 0, Fact2.pic (fun x => x) ⟨#[]⟩ 0 0 0 [] 0, Fact2.is (.int .i64 (4)), Fact2.box u4w.heap.size 50, Fact2.any, Fact2.is (.int .i64 (4))] 9 8 (PicBox u4w.heap.size 50 ⟨#[]⟩ 0 0 0 []) (fun _ _ _ h hb => h.grow hb) [[], [0], [], [2], [1, 3], [4], [5], [5], [], [6, 8], [7]] [(some 60, 0), (some 61, 1), (some 62, 2), (some 63, 3), (some 64, 4), (some 59, 5), (some 65, 6), (some 66, 7), (some 9, 8), (none, 9), (some 10, 10)] (by kernel_rfl) (by kernel_rfl) (by kernel_rfl) (by kernel_rfl) (by decide) (by decide) (fun _ _ _ _ e h => by have h1 : _ ∧ _ := h; exact ⟨e ▸ h1.1, h1.2⟩) ?hstep ?hsto ?hend (by decide)
    case hstep =>
      generalize Exit.then _ _ = QQ
      as_aux_lemma =>
        intro i hi hne
        match i, hi, hne with
        | 0, _, _ =>
          intro v w' hR hd
          change SpecOp _ _ _ _ 0 (canon _ v _ []) w' _
          simp only [canon_nil]
          have q0 := (hR.cell (p := ⟨bB, 0, none⟩) zB).trans cB0
          have q1 := (hR.cell (p := ⟨bB, 1, none⟩) zB).trans cB1
          have q2 := (hR.cell (p := ⟨bB, 2, none⟩) zB).trans cB2
          have q3 := (hR.cell (p := ⟨bB, 3, none⟩) zB).trans cB3
          refine spec_ofR rfl (fun KK hK => ?_)
          go_simp
          exact hK.out _ _ (Below.refl _ _) rfl
        | 1, _, _ =>
          intro v w' hR hd
          have e0 : v 0 = .agg #[.string nm2, .int .i64 (W : Int), .int .i64 (H : Int), .slice B n c2] := hd 0 (by decide)
          change SpecOp _ _ _ _ 1 (Act.put (canon _ v _ []) (some 60) (v 0)) w' _
          rw [e0]
          simp only [canon_nil, Act.put, List.setIfInBounds_toArray, List.set_cons_zero, List.set_cons_succ]
          refine spec_ofR rfl (fun KK hK => ?_)
          go_simp
          refine (Hhown2.out _ _ _ (Hhrb.out.below (HB.out.trans (hR.mono HB.out.size)))).mono ?_
          rintro e wn ⟨g, c', rfl, hcc, hro, hbn⟩
          exact hK.out _ _ hbn ⟨_, c', rfl, hcc, hro⟩
        | 2, _, _ =>
          intro v w' hR hd
          change SpecOp _ _ _ _ 2 (canon _ v _ []) w' _
          simp only [canon_nil]
          have q0 := (hR.cell (p := ⟨bA, 0, none⟩) zA).trans cA0
          have q1 := (hR.cell (p := ⟨bA, 1, none⟩) zA).trans cA1
          have q2 := (hR.cell (p := ⟨bA, 2, none⟩) zA).trans cA2
          have q3 := (hR.cell (p := ⟨bA, 3, none⟩) zA).trans cA3
          refine spec_ofR rfl (fun KK hK => ?_)
          go_simp
          exact hK.out _ _ (Below.refl _ _) rfl
        | 3, _, _ =>
          intro v w' hR hd
          have e2 : v 2 = .agg #[.string nm, .int .i64 (W : Int), .int .i64 (H : Int), .slice A n c] := hd 2 (by decide)
          change SpecOp _ _ _ _ 3 (Act.put (canon _ v _ []) (some 62) (v 2)) w' _
          rw [e2]
          simp only [canon_nil, Act.put, List.setIfInBounds_toArray, List.set_cons_zero, List.set_cons_succ]
          refine spec_ofR rfl (fun KK hK => ?_)
          go_simp
          refine (Hhown.out _ _ _ (Hhra.out.below (HB.out.trans (hR.mono HB.out.size)))).mono ?_
          rintro e wn ⟨g, c', rfl, hcc, hro, hbn⟩
          exact hK.out _ _ hbn ⟨_, c', rfl, hcc, hro⟩
        | 4, _, _ =>
          intro v w' hR hd
          obtain ⟨A1, k1, e1, m1, r1⟩ : ∃ A c, v 1 = (fun x => x) (.agg #[.string nm2, .int .i64 (W : Int), .int .i64 (H : Int), .slice A n c]) ∧ n ≤ c ∧ Rd w' A (fl k) := hd 1 (by decide)
          obtain ⟨A3, k3, e3, m3, r3⟩ : ∃ A c, v 3 = (fun x => x) (.agg #[.string nm, .int .i64 (W : Int), .int .i64 (H : Int), .slice A n c]) ∧ n ≤ c ∧ Rd w' A (fl l) := hd 3 (by decide)
          change SpecOp _ _ _ _ 4 (Act.put (Act.put (canon _ v _ []) (some 63) (v 3)) (some 61) (v 1)) w' _
          rw [e1, e3]
          simp only [canon_nil, Act.put, List.setIfInBounds_toArray, List.set_cons_zero, List.set_cons_succ]
          refine spec_ofR rfl (fun KK hK => ?_)
          go_simp
          refine (Hhs2.out A1 A3 k1 k3 _ r1 r3).mono ?_
          rintro e wn ⟨Ax, cx, rfl, hcx, hrx, hbn⟩
          exact hK.out _ _ hbn ⟨Ax, cx, rfl, hcx, hrx⟩
        | 5, _, _ =>
          intro v w' hR hd
          obtain ⟨A4, k4, e4, m4, r4⟩ : ∃ A c, v 4 = (fun x => .tuple #[x, .int .i64 4]) (.agg #[.string ⟨#[]⟩, .int .i64 0, .int .i64 0, .slice A 0 c]) ∧ 0 ≤ c ∧ Rd w' A (fl []) := hd 4 (by decide)
          change SpecOp _ _ _ _ 5 (Act.put (canon _ v _ []) (some 64) (v 4)) w' _
          rw [e4]
          simp only [canon_nil, Act.put, List.setIfInBounds_toArray, List.set_cons_zero, List.set_cons_succ]
          refine spec_ofR rfl (fun KK hK => ?_)
          go_simp
          exact hK.out _ _ (Below.refl _ _) ⟨A4, k4, rfl, m4, r4⟩
        | 6, _, _ =>
          intro v w' hR hd
          obtain ⟨A5, k5, e5, m5, r5⟩ : ∃ A c, v 5 = (fun x => .tuple #[x, .int .i64 4]) (.agg #[.string ⟨#[]⟩, .int .i64 0, .int .i64 0, .slice A 0 c]) ∧ 0 ≤ c ∧ Rd w' A (fl []) := hd 5 (by decide)
          change SpecOp _ _ _ _ 6 (Act.put (canon _ v _ []) (some 59) (v 5)) w' _
          rw [e5]
          simp only [canon_nil, Act.put, List.setIfInBounds_toArray, List.set_cons_zero, List.set_cons_succ]
          refine spec_ofR rfl (fun KK hK => ?_)
          go_simp
          exact hK.out _ _ (Below.refl _ _) ⟨A5, k5, rfl, m5, r5⟩
        | 7, _, _ =>
          intro v w' hR hd
          obtain ⟨A5, k5, e5, m5, r5⟩ : ∃ A c, v 5 = (fun x => .tuple #[x, .int .i64 4]) (.agg #[.string ⟨#[]⟩, .int .i64 0, .int .i64 0, .slice A 0 c]) ∧ 0 ≤ c ∧ Rd w' A (fl []) := hd 5 (by decide)
          change SpecOp _ _ _ _ 7 (Act.put (canon _ v _ []) (some 59) (v 5)) w' _
          rw [e5]
          simp only [canon_nil, Act.put, List.setIfInBounds_toArray, List.set_cons_zero, List.set_cons_succ]
          refine spec_ofR rfl (fun KK hK => ?_)
          go_simp
          exact hK.out _ _ (Below.refl _ _) rfl
        | 8, _, _ =>
          intro v w' hR hd
          change SpecOp _ _ _ _ 8 (canon _ v _ []) w' _
          simp only [canon_nil]
          refine spec_ofR rfl (fun KK hK => ?_)
          go_simp
          exact hK.out _ _ ((Below.refl _ _).alloc (Nat.le_refl _) _) ⟨_, _, rfl, hR.size, Blk.new _ _ _, .four rfl rfl rfl rfl, rfl⟩
        | 9, _, h => exact absurd rfl h
        | 10, _, _ =>
          intro v w' hR hd
          have e7 : v 7 = .int .i64 (4) := hd 7 (by decide)
          change SpecOp _ _ _ _ 10 (Act.put (canon _ v _ []) (some 66) (v 7)) w' _
          rw [e7]
          simp only [canon_nil, Act.put, List.setIfInBounds_toArray, List.set_cons_zero, List.set_cons_succ]
          refine spec_ofR rfl (fun KK hK => ?_)
          go_simp
          exact hK.out _ _ (Below.refl _ _) rfl
        | i + 11, h, _ => exact absurd h (Nat.not_lt.2 (Nat.le_add_left 11 i))
    case hsto =>
      generalize Exit.then _ _ = QQ
      as_aux_lemma =>
        intro v w' hR hd
        obtain ⟨A6, k6, e6, m6, r6⟩ : ∃ A c, v 6 = (fun x => x) (.agg #[.string ⟨#[]⟩, .int .i64 0, .int .i64 0, .slice A 0 c]) ∧ 0 ≤ c ∧ Rd w' A (fl []) := hd 6 (by decide)
        obtain ⟨bb, cs, e8, hge, hblk, hnf, hcz⟩ : ∃ b cs, v 8 = .pointer (some ⟨b, 0, none⟩) ∧ u4w.heap.size ≤ b ∧ Blk w' b 50 cs ∧ NF cs ∧ cs.size = 4 := hd 8 (by decide)
        obtain ⟨x0, x1, x2, x3, rfl⟩ := four_of hcz
        change SpecOp _ _ _ _ 9 (Act.put (Act.put (canon _ v _ []) (some 9) (v 8)) (some 65) (v 6)) w' _
        rw [e6, e8]
        simp only [canon_nil, Act.put, List.setIfInBounds_toArray, List.set_cons_zero, List.set_cons_succ]
        have zb := hblk.lt
        have f0 := hblk.frozen 0; have f1 := hblk.frozen 1; have f2 := hblk.frozen 2; have f3 := hblk.frozen 3
        obtain ⟨y0, y1, y2, y3⟩ := box4 hblk
        refine spec_ofR rfl (fun KK hK => ?_)
        go_simp
        exact hK.out undef _ (rst_set4 hblk hnf hge (.string ⟨#[]⟩) (.int .i64 0) (.int .i64 0) (.slice A6 0 k6) rfl rfl rfl rfl) ⟨bb, A6, k6, rfl, hge, blk_set4' hblk (.string ⟨#[]⟩) (.int .i64 0) (.int .i64 0) (.slice A6 0 k6), rd_set4 r6 hblk hnf (.string ⟨#[]⟩) (.int .i64 0) (.int .i64 0) (.slice A6 0 k6) rfl rfl rfl⟩
    case hend =>
      intro v w' hR hall hfs
      simp only [putL, Act.put, List.setIfInBounds_toArray, List.set_cons_zero, List.set_cons_succ]
      obtain ⟨bY, AY, cY, e8, hge, hx, hrx⟩ := hfs
      have e10 : v 10 = .int .i64 (4) := hall 10 (by decide) (by decide)
      rw [e8, e10]
      clear hall e8 e10 hge
      have HXY := Lib.hid hx; have HRY := Lib.hid hrx; clear hx hrx
      clear cB0 cB1 cB2 cB3 zB cA0 cA1 cA2 cA3 zA
      obtain ⟨u5w, hwn⟩ : ∃ s, w' = s := ⟨_, rfl⟩
      rw [hwn] at hR HXY HRY ⊢
      clear hwn
      replace HXA := Lib.hid (HXA.out.below hR)
      replace HXB := Lib.hid (HXB.out.below hR)
      replace HXL := Lib.hid (HXL.out.below hR)
      replace HXX := Lib.hid (HXX.out.below hR)
      replace HRX := Lib.hid (HRX.out.below hR)
      replace HB := Lib.hid (HB.out.trans (hR.mono HB.out.size))
      clear hR
      obtain ⟨cA0, cA1, cA2, cA3⟩ := box4 HXA.out
      have zA := HXA.out.lt
      obtain ⟨cB0, cB1, cB2, cB3⟩ := box4 HXB.out
      have zB := HXB.out.lt
      go_upto_region 15 with fail
      clear cA0 cA1 cA2 cA3 zA cB0 cB1 cB2 cB3 zB
      clear HXX HXY HRX HRY
      go_wp2_with (first | (refine wpList_load_box rfl 43 _ rfl bA _ _ HXA.out rfl _ Tryz.underlying43 rfl (by kernel_rfl) ?_))
      refine (Hhown.out _ _ _ (Hhra.out.below HB.out)).mono ?_
      rintro e u6w ⟨gO, cO, rfl, hcc, hro, hb⟩
      replace HXA := Lib.hid (HXA.out.below hb)
      replace HXB := Lib.hid (HXB.out.below hb)
      replace HXL := Lib.hid (HXL.out.below hb)
      replace HB := Lib.hid (HB.out.trans (hb.mono HB.out.size))
      clear hb
      have HRO := Lib.hid hro; clear hro
      clear hcc
      go_wp2_with fail
      refine (HhscM.out _ _ _ HRO.out).mono ?_
      rintro e u7w ⟨AMi, cMi, rfl, hcx, hrx, hb⟩
      replace HXA := Lib.hid (HXA.out.below hb)
      replace HXB := Lib.hid (HXB.out.below hb)
      replace HXL := Lib.hid (HXL.out.below hb)
      replace HRO := Lib.hid (HRO.out.below hb)
      replace HB := Lib.hid (HB.out.trans (hb.mono HB.out.size))
      clear hb
      have HRMi := Lib.hid hrx; clear hrx
      clear hcx
      clear HRO
      go_upto_region 16 with fail
      have hn := Blk.new u7w 50 #[.string nm, .int .i64 (W : Int), .int .i64 (H : Int), .slice AMi n cMi]
      have hb : Below u7w.heap.size u7w (u7w.alloc (.cells #[.string nm, .int .i64 (W : Int), .int .i64 (H : Int), .slice AMi n cMi] 50)) := (Below.refl _ _).alloc (Nat.le_refl _) _
      have hge := HB.out.size
      have hlt_A := HXA.out.lt
      have hlt_B := HXB.out.lt
      have hlt_L := HXL.out.lt
      obtain ⟨bMi, hl⟩ : ∃ b, u7w.heap.size = b := ⟨_, rfl⟩
      generalize u7w.alloc (.cells #[.string nm, .int .i64 (W : Int), .int .i64 (H : Int), .slice AMi n cMi] 50) = u8w at hn hb ⊢
      replace HXA := Lib.hid (HXA.out.below hb)
      replace HXB := Lib.hid (HXB.out.below hb)
      replace HXL := Lib.hid (HXL.out.below hb)
      replace HRMi := Lib.hid (HRMi.out.below hb)
      replace HB := Lib.hid (HB.out.trans (hb.mono HB.out.size))
      clear hb
      rw [hl] at hn hge hlt_A hlt_B hlt_L
      try rw [hl]
      have HXMi := Lib.hid hn; have HGMi := Lib.hid hge; clear hn hl hge
      have HNMiA : RowKit.Hid (bA < bMi) := Lib.hid (by omega); have HNMiB : RowKit.Hid (bB < bMi) := Lib.hid (by omega); have HNMiL : RowKit.Hid (bL < bMi) := Lib.hid (by omega)
      clear hlt_A hlt_B hlt_L
      go_upto_region 18 with fail
      obtain ⟨cA0, cA1, cA2, cA3⟩ := box4 HXA.out
      have zA := HXA.out.lt
      obtain ⟨cMi0, cMi1, cMi2, cMi3⟩ := box4 HXMi.out
      have zMi := HXMi.out.lt
      refine wp_region_box [Fact2.is (.agg #[.string nm, .int .i64 (W : Int), .int .i64 (H : Int), .slice A n c]), Fact2.pic (fun x => x) nm (W : Int) (H : Int) n l n, Fact2.is (.agg #[.string nm, .int .i64 (W : Int), .int .i64 (H : Int), .slice AMi n cMi]), Fact2.is (.agg #[.string nm, .int .i64 (W : Int), .int .i64 (H : Int), .slice AMi n cMi]), Fact2.pic (fun x => x) nm (W : Int) (H : Int) n M n, Fact2.pic (fun x => .tuple #[x, .int .i64 0]) nm (W : Int) (H : Int) n Z 0, Fact2.pic (fun x => .tuple #[x, .int .i64 0]) nm (W : Int) (H : Int) n Z 0, Fact2.pic (fun x => x) nm (W : Int) (H : Int) n Z 0, Fact2.is (.int .i64 (0)), Fact2.box u8w.heap.size 50, Fact2.any, Fact2.is (.int .i64 (0))] 10 9 (PicBox u8w.heap.size 50 nm (W : Int) (H : Int) n Z) (fun _ _ _ h hb => h.grow hb) [[], [0], [], [2], [3], [1, 4], [5], [6], [6], [], [7, 9], [8]] [(some 193, 0), (some 194, 1), (some 195, 2), (some 196, 3), (some 197, 4), (some 198, 5), (some 192, 6), (some 199, 7), (some 200, 8), (some 19, 9), (none, 10), (some 20, 11)] (by kernel_rfl) (by kernel_rfl) (by kernel_rfl) (by kernel_rfl) (by decide) (by decide) (fun _ _ _ _ e h => by have h1 : _ ∧ _ := h; exact ⟨e ▸ h1.1, h1.2⟩) ?hstep ?hsto ?hend (by decide)
      case hstep =>
        generalize Exit.then _ _ = QQ
        as_aux_lemma =>
          intro i hi hne
          match i, hi, hne with
          | 0, _, _ =>
            intro v w' hR hd
            change SpecOp _ _ _ _ 0 (canon _ v _ []) w' _
            simp only [canon_nil]
            have q0 := (hR.cell (p := ⟨bA, 0, none⟩) zA).trans cA0
            have q1 := (hR.cell (p := ⟨bA, 1, none⟩) zA).trans cA1
            have q2 := (hR.cell (p := ⟨bA, 2, none⟩) zA).trans cA2
            have q3 := (hR.cell (p := ⟨bA, 3, none⟩) zA).trans cA3
            refine spec_ofR rfl (fun KK hK => ?_)
            go_simp
            exact hK.out _ _ (Below.refl _ _) rfl
          | 1, _, _ =>
            intro v w' hR hd
            have e0 : v 0 = .agg #[.string nm, .int .i64 (W : Int), .int .i64 (H : Int), .slice A n c] := hd 0 (by decide)
            change SpecOp _ _ _ _ 1 (Act.put (canon _ v _ []) (some 193) (v 0)) w' _
            rw [e0]
            simp only [canon_nil, Act.put, List.setIfInBounds_toArray, List.set_cons_zero, List.set_cons_succ]
            refine spec_ofR rfl (fun KK hK => ?_)
            go_simp
            refine (Hhown.out _ _ _ (Hhra.out.below (HB.out.trans (hR.mono HB.out.size)))).mono ?_
            rintro e wn ⟨g, c', rfl, hcc, hro, hbn⟩
            exact hK.out _ _ hbn ⟨_, c', rfl, hcc, hro⟩
          | 2, _, _ =>
            intro v w' hR hd
            change SpecOp _ _ _ _ 2 (canon _ v _ []) w' _
            simp only [canon_nil]
            have q0 := (hR.cell (p := ⟨bMi, 0, none⟩) zMi).trans cMi0
            have q1 := (hR.cell (p := ⟨bMi, 1, none⟩) zMi).trans cMi1
            have q2 := (hR.cell (p := ⟨bMi, 2, none⟩) zMi).trans cMi2
            have q3 := (hR.cell (p := ⟨bMi, 3, none⟩) zMi).trans cMi3
            refine spec_ofR rfl (fun KK hK => ?_)
            go_simp
            exact hK.out _ _ (Below.refl _ _) rfl
          | 3, _, _ =>
            intro v w' hR hd
            have e2 : v 2 = .agg #[.string nm, .int .i64 (W : Int), .int .i64 (H : Int), .slice AMi n cMi] := hd 2 (by decide)
            change SpecOp _ _ _ _ 3 (Act.put (canon _ v _ []) (some 195) (v 2)) w' _
            rw [e2]
            simp only [canon_nil, Act.put, List.setIfInBounds_toArray, List.set_cons_zero, List.set_cons_succ]
            refine spec_ofR rfl (fun KK hK => ?_)
            go_simp
            refine (told_any _ _ _ _ _ _ _).mono ?_
            rintro e wn ⟨rfl, hbn⟩
            exact hK.out _ _ hbn rfl
          | 4, _, _ =>
            intro v w' hR hd
            have e3 : v 3 = .agg #[.string nm, .int .i64 (W : Int), .int .i64 (H : Int), .slice AMi n cMi] := hd 3 (by decide)
            change SpecOp _ _ _ _ 4 (Act.put (canon _ v _ []) (some 196) (v 3)) w' _
            rw [e3]
            simp only [canon_nil, Act.put, List.setIfInBounds_toArray, List.set_cons_zero, List.set_cons_succ]
            refine spec_ofR rfl (fun KK hK => ?_)
            go_simp
            refine (HhownM.out _ _ _ (HRMi.out.below hR)).mono ?_
            rintro e wn ⟨g, c', rfl, hcc, hro, hbn⟩
            exact hK.out _ _ hbn ⟨_, c', rfl, hcc, hro⟩
          | 5, _, _ =>
            intro v w' hR hd
            obtain ⟨A1, k1, e1, m1, r1⟩ : ∃ A c, v 1 = (fun x => x) (.agg #[.string nm, .int .i64 (W : Int), .int .i64 (H : Int), .slice A n c]) ∧ n ≤ c ∧ Rd w' A (fl l) := hd 1 (by decide)
            obtain ⟨A4, k4, e4, m4, r4⟩ : ∃ A c, v 4 = (fun x => x) (.agg #[.string nm, .int .i64 (W : Int), .int .i64 (H : Int), .slice A n c]) ∧ n ≤ c ∧ Rd w' A (fl M) := hd 4 (by decide)
            change SpecOp _ _ _ _ 5 (Act.put (Act.put (canon _ v _ []) (some 197) (v 4)) (some 194) (v 1)) w' _
            rw [e1, e4]
            simp only [canon_nil, Act.put, List.setIfInBounds_toArray, List.set_cons_zero, List.set_cons_succ]
            refine spec_ofR rfl (fun KK hK => ?_)
            go_simp
            refine (HhsZ.out A1 A4 k1 k4 _ r1 r4).mono ?_
            rintro e wn ⟨Ax, cx, rfl, hcx, hrx, hbn⟩
            exact hK.out _ _ hbn ⟨Ax, cx, rfl, hcx, hrx⟩
          | 6, _, _ =>
            intro v w' hR hd
            obtain ⟨A5, k5, e5, m5, r5⟩ : ∃ A c, v 5 = (fun x => .tuple #[x, .int .i64 0]) (.agg #[.string nm, .int .i64 (W : Int), .int .i64 (H : Int), .slice A n c]) ∧ 0 ≤ c ∧ Rd w' A (fl Z) := hd 5 (by decide)
            change SpecOp _ _ _ _ 6 (Act.put (canon _ v _ []) (some 198) (v 5)) w' _
            rw [e5]
            simp only [canon_nil, Act.put, List.setIfInBounds_toArray, List.set_cons_zero, List.set_cons_succ]
            refine spec_ofR rfl (fun KK hK => ?_)
            go_simp
            exact hK.out _ _ (Below.refl _ _) ⟨A5, k5, rfl, m5, r5⟩
          | 7, _, _ =>
            intro v w' hR hd
            obtain ⟨A6, k6, e6, m6, r6⟩ : ∃ A c, v 6 = (fun x => .tuple #[x, .int .i64 0]) (.agg #[.string nm, .int .i64 (W : Int), .int .i64 (H : Int), .slice A n c]) ∧ 0 ≤ c ∧ Rd w' A (fl Z) := hd 6 (by decide)
            change SpecOp _ _ _ _ 7 (Act.put (canon _ v _ []) (some 192) (v 6)) w' _
            rw [e6]
            simp only [canon_nil, Act.put, List.setIfInBounds_toArray, List.set_cons_zero, List.set_cons_succ]
            refine spec_ofR rfl (fun KK hK => ?_)
            go_simp
            exact hK.out _ _ (Below.refl _ _) ⟨A6, k6, rfl, m6, r6⟩
          | 8, _, _ =>
            intro v w' hR hd
            obtain ⟨A6, k6, e6, m6, r6⟩ : ∃ A c, v 6 = (fun x => .tuple #[x, .int .i64 0]) (.agg #[.string nm, .int .i64 (W : Int), .int .i64 (H : Int), .slice A n c]) ∧ 0 ≤ c ∧ Rd w' A (fl Z) := hd 6 (by decide)
            change SpecOp _ _ _ _ 8 (Act.put (canon _ v _ []) (some 192) (v 6)) w' _
            rw [e6]
            simp only [canon_nil, Act.put, List.setIfInBounds_toArray, List.set_cons_zero, List.set_cons_succ]
            refine spec_ofR rfl (fun KK hK => ?_)
            go_simp
            exact hK.out _ _ (Below.refl _ _) rfl
          | 9, _, _ =>
            intro v w' hR hd
            change SpecOp _ _ _ _ 9 (canon _ v _ []) w' _
            simp only [canon_nil]
            refine spec_ofR rfl (fun KK hK => ?_)
            go_simp
            exact hK.out _ _ ((Below.refl _ _).alloc (Nat.le_refl _) _) ⟨_, _, rfl, hR.size, Blk.new _ _ _, .four rfl rfl rfl rfl, rfl⟩
          | 10, _, h => exact absurd rfl h
          | 11, _, _ =>
            intro v w' hR hd
            have e8 : v 8 = .int .i64 (0) := hd 8 (by decide)
            change SpecOp _ _ _ _ 11 (Act.put (canon _ v _ []) (some 200) (v 8)) w' _
            rw [e8]
            simp only [canon_nil, Act.put, List.setIfInBounds_toArray, List.set_cons_zero, List.set_cons_succ]
            refine spec_ofR rfl (fun KK hK => ?_)
            go_simp
            exact hK.out _ _ (Below.refl _ _) rfl
          | i + 12, h, _ => exact absurd h (Nat.not_lt.2 (Nat.le_add_left 12 i))
      case hsto =>
        generalize Exit.then _ _ = QQ
        as_aux_lemma =>
          intro v w' hR hd
          obtain ⟨A7, k7, e7, m7, r7⟩ : ∃ A c, v 7 = (fun x => x) (.agg #[.string nm, .int .i64 (W : Int), .int .i64 (H : Int), .slice A n c]) ∧ 0 ≤ c ∧ Rd w' A (fl Z) := hd 7 (by decide)
          obtain ⟨bb, cs, e9, hge, hblk, hnf, hcz⟩ : ∃ b cs, v 9 = .pointer (some ⟨b, 0, none⟩) ∧ u8w.heap.size ≤ b ∧ Blk w' b 50 cs ∧ NF cs ∧ cs.size = 4 := hd 9 (by decide)
          obtain ⟨x0, x1, x2, x3, rfl⟩ := four_of hcz
          change SpecOp _ _ _ _ 10 (Act.put (Act.put (canon _ v _ []) (some 19) (v 9)) (some 199) (v 7)) w' _
          rw [e7, e9]
          simp only [canon_nil, Act.put, List.setIfInBounds_toArray, List.set_cons_zero, List.set_cons_succ]
          have zb := hblk.lt
          have f0 := hblk.frozen 0; have f1 := hblk.frozen 1; have f2 := hblk.frozen 2; have f3 := hblk.frozen 3
          obtain ⟨y0, y1, y2, y3⟩ := box4 hblk
          refine spec_ofR rfl (fun KK hK => ?_)
          go_simp
          exact hK.out undef _ (rst_set4 hblk hnf hge (.string nm) (.int .i64 (W : Int)) (.int .i64 (H : Int)) (.slice A7 n k7) rfl rfl rfl rfl) ⟨bb, A7, k7, rfl, hge, blk_set4' hblk (.string nm) (.int .i64 (W : Int)) (.int .i64 (H : Int)) (.slice A7 n k7), rd_set4 r7 hblk hnf (.string nm) (.int .i64 (W : Int)) (.int .i64 (H : Int)) (.slice A7 n k7) rfl rfl rfl⟩
      case hend =>
        intro v w' hR hall hfs
        simp only [putL, Act.put, List.setIfInBounds_toArray, List.set_cons_zero, List.set_cons_succ]
        obtain ⟨bZe, AZe, cZe, e9, hge, hx, hrx⟩ := hfs
        have e11 : v 11 = .int .i64 (0) := hall 11 (by decide) (by decide)
        rw [e9, e11]
        clear hall e9 e11 hge
        have HXZe := Lib.hid hx; have HRZe := Lib.hid hrx; clear hx hrx
        clear cA0 cA1 cA2 cA3 zA cMi0 cMi1 cMi2 cMi3 zMi
        obtain ⟨u9w, hwn⟩ : ∃ s, w' = s := ⟨_, rfl⟩
        rw [hwn] at hR HXZe HRZe ⊢
        clear hwn
        replace HXA := Lib.hid (HXA.out.below hR)
        replace HXB := Lib.hid (HXB.out.below hR)
        replace HXL := Lib.hid (HXL.out.below hR)
        replace HXMi := Lib.hid (HXMi.out.below hR)
        replace HRMi := Lib.hid (HRMi.out.below hR)
        replace HB := Lib.hid (HB.out.trans (hR.mono HB.out.size))
        clear hR
        clear HXMi HRMi
        go_wp2_with (first | (refine wpList_load_box rfl 50 _ rfl bZe _ _ HXZe.out rfl _ Tryz.underlying50 rfl (by kernel_rfl) ?_))
        refine (Hhpk.out _ _ _ HRZe.out).mono ?_
        rintro e u10w ⟨rfl, hb⟩
        replace HXA := Lib.hid (HXA.out.below hb)
        replace HXB := Lib.hid (HXB.out.below hb)
        replace HXL := Lib.hid (HXL.out.below hb)
        replace HXZe := Lib.hid (HXZe.out.below hb)
        replace HRZe := Lib.hid (HRZe.out.below hb)
        replace HB := Lib.hid (HB.out.trans (hb.mono HB.out.size))
        clear hb
        clear HXZe HRZe
        go_wp2_with (first | (refine wpList_load_box rfl 43 _ rfl bA _ _ HXA.out rfl _ Tryz.underlying43 rfl (by kernel_rfl) ?_))
        refine (Hhown.out _ _ _ (Hhra.out.below HB.out)).mono ?_
        rintro e u11w ⟨gO, cO, rfl, hcc, hro, hb⟩
        replace HXA := Lib.hid (HXA.out.below hb)
        replace HXB := Lib.hid (HXB.out.below hb)
        replace HXL := Lib.hid (HXL.out.below hb)
        replace HB := Lib.hid (HB.out.trans (hb.mono HB.out.size))
        clear hb
        have HRO := Lib.hid hro; clear hro
        clear hcc
        go_wp2_with fail
        refine (Hhsc2.out _ _ _ HRO.out).mono ?_
        rintro e u12w ⟨ATw, cTw, rfl, hcx, hrx, hb⟩
        replace HXA := Lib.hid (HXA.out.below hb)
        replace HXB := Lib.hid (HXB.out.below hb)
        replace HXL := Lib.hid (HXL.out.below hb)
        replace HRO := Lib.hid (HRO.out.below hb)
        replace HB := Lib.hid (HB.out.trans (hb.mono HB.out.size))
        clear hb
        have HRTw := Lib.hid hrx; clear hrx
        clear hcx
        clear HRO
        go_upto_region 21 with fail
        have hn := Blk.new u12w 50 #[.string tn, .int .i64 tw, .int .i64 th, .slice ATw tc cTw]
        have hb : Below u12w.heap.size u12w (u12w.alloc (.cells #[.string tn, .int .i64 tw, .int .i64 th, .slice ATw tc cTw] 50)) := (Below.refl _ _).alloc (Nat.le_refl _) _
        have hge := HB.out.size
        have hlt_A := HXA.out.lt
        have hlt_B := HXB.out.lt
        have hlt_L := HXL.out.lt
        obtain ⟨bTw, hl⟩ : ∃ b, u12w.heap.size = b := ⟨_, rfl⟩
        generalize u12w.alloc (.cells #[.string tn, .int .i64 tw, .int .i64 th, .slice ATw tc cTw] 50) = u13w at hn hb ⊢
        replace HXA := Lib.hid (HXA.out.below hb)
        replace HXB := Lib.hid (HXB.out.below hb)
        replace HXL := Lib.hid (HXL.out.below hb)
        replace HRTw := Lib.hid (HRTw.out.below hb)
        replace HB := Lib.hid (HB.out.trans (hb.mono HB.out.size))
        clear hb
        rw [hl] at hn hge hlt_A hlt_B hlt_L
        try rw [hl]
        have HXTw := Lib.hid hn; have HGTw := Lib.hid hge; clear hn hl hge
        have HNTwA : RowKit.Hid (bA < bTw) := Lib.hid (by omega); have HNTwB : RowKit.Hid (bB < bTw) := Lib.hid (by omega); have HNTwL : RowKit.Hid (bL < bTw) := Lib.hid (by omega)
        clear hlt_A hlt_B hlt_L
        obtain ⟨cA0, cA1, cA2, cA3⟩ := box4 HXA.out
        have zA := HXA.out.lt
        refine wp_region_box [Fact2.is (.agg #[.string nm, .int .i64 (W : Int), .int .i64 (H : Int), .slice A n c]), Fact2.pic (fun x => x) nm (W : Int) (H : Int) n l n, Fact2.is (.agg #[.string nm, .int .i64 (W : Int), .int .i64 (H : Int), .slice A n c]), Fact2.pic (fun x => x) nm (W : Int) (H : Int) n l n, Fact2.pic (fun x => .tuple #[x, .int .i64 tz]) tn tw th tc tl 0, Fact2.pic (fun x => .tuple #[x, .int .i64 tz]) tn tw th tc tl 0, Fact2.pic (fun x => x) tn tw th tc tl 0, Fact2.is (.int .i64 (tz)), Fact2.box u13w.heap.size 50, Fact2.any, Fact2.is (.int .i64 (tz))] 9 8 (PicBox u13w.heap.size 50 tn tw th tc tl) (fun _ _ _ h hb => h.grow hb) [[], [0], [], [2], [1, 3], [4], [5], [5], [], [6, 8], [7]] [(some 213, 0), (some 214, 1), (some 215, 2), (some 216, 3), (some 217, 4), (some 212, 5), (some 218, 6), (some 219, 7), (some 25, 8), (none, 9), (some 26, 10)] (by kernel_rfl) (by kernel_rfl) (by kernel_rfl) (by kernel_rfl) (by decide) (by decide) (fun _ _ _ _ e h => by have h1 : _ ∧ _ := h; exact ⟨e ▸ h1.1, h1.2⟩) ?hstep ?hsto ?hend (by decide)
        case hstep =>
          generalize Exit.then _ _ = QQ
          as_aux_lemma =>
            intro i hi hne
            match i, hi, hne with
            | 0, _, _ =>
              intro v w' hR hd
              change SpecOp _ _ _ _ 0 (canon _ v _ []) w' _
              simp only [canon_nil]
              have q0 := (hR.cell (p := ⟨bA, 0, none⟩) zA).trans cA0
              have q1 := (hR.cell (p := ⟨bA, 1, none⟩) zA).trans cA1
              have q2 := (hR.cell (p := ⟨bA, 2, none⟩) zA).trans cA2
              have q3 := (hR.cell (p := ⟨bA, 3, none⟩) zA).trans cA3
              refine spec_ofR rfl (fun KK hK => ?_)
              go_simp
              exact hK.out _ _ (Below.refl _ _) rfl
            | 1, _, _ =>
              intro v w' hR hd
              have e0 : v 0 = .agg #[.string nm, .int .i64 (W : Int), .int .i64 (H : Int), .slice A n c] := hd 0 (by decide)
              change SpecOp _ _ _ _ 1 (Act.put (canon _ v _ []) (some 213) (v 0)) w' _
              rw [e0]
              simp only [canon_nil, Act.put, List.setIfInBounds_toArray, List.set_cons_zero, List.set_cons_succ]
              refine spec_ofR rfl (fun KK hK => ?_)
              go_simp
              refine (Hhown.out _ _ _ (Hhra.out.below (HB.out.trans (hR.mono HB.out.size)))).mono ?_
              rintro e wn ⟨g, c', rfl, hcc, hro, hbn⟩
              exact hK.out _ _ hbn ⟨_, c', rfl, hcc, hro⟩
            | 2, _, _ =>
              intro v w' hR hd
              change SpecOp _ _ _ _ 2 (canon _ v _ []) w' _
              simp only [canon_nil]
              have q0 := (hR.cell (p := ⟨bA, 0, none⟩) zA).trans cA0
              have q1 := (hR.cell (p := ⟨bA, 1, none⟩) zA).trans cA1
              have q2 := (hR.cell (p := ⟨bA, 2, none⟩) zA).trans cA2
              have q3 := (hR.cell (p := ⟨bA, 3, none⟩) zA).trans cA3
              refine spec_ofR rfl (fun KK hK => ?_)
              go_simp
              exact hK.out _ _ (Below.refl _ _) rfl
            | 3, _, _ =>
              intro v w' hR hd
              have e2 : v 2 = .agg #[.string nm, .int .i64 (W : Int), .int .i64 (H : Int), .slice A n c] := hd 2 (by decide)
              change SpecOp _ _ _ _ 3 (Act.put (canon _ v _ []) (some 215) (v 2)) w' _
              rw [e2]
              simp only [canon_nil, Act.put, List.setIfInBounds_toArray, List.set_cons_zero, List.set_cons_succ]
              refine spec_ofR rfl (fun KK hK => ?_)
              go_simp
              refine (Hhown.out _ _ _ (Hhra.out.below (HB.out.trans (hR.mono HB.out.size)))).mono ?_
              rintro e wn ⟨g, c', rfl, hcc, hro, hbn⟩
              exact hK.out _ _ hbn ⟨_, c', rfl, hcc, hro⟩
            | 4, _, _ =>
              intro v w' hR hd
              obtain ⟨A1, k1, e1, m1, r1⟩ : ∃ A c, v 1 = (fun x => x) (.agg #[.string nm, .int .i64 (W : Int), .int .i64 (H : Int), .slice A n c]) ∧ n ≤ c ∧ Rd w' A (fl l) := hd 1 (by decide)
              obtain ⟨A3, k3, e3, m3, r3⟩ : ∃ A c, v 3 = (fun x => x) (.agg #[.string nm, .int .i64 (W : Int), .int .i64 (H : Int), .slice A n c]) ∧ n ≤ c ∧ Rd w' A (fl l) := hd 3 (by decide)
              change SpecOp _ _ _ _ 4 (Act.put (Act.put (canon _ v _ []) (some 216) (v 3)) (some 214) (v 1)) w' _
              rw [e1, e3]
              simp only [canon_nil, Act.put, List.setIfInBounds_toArray, List.set_cons_zero, List.set_cons_succ]
              refine spec_ofR rfl (fun KK hK => ?_)
              go_simp
              refine (Hhs3.out A1 A3 k1 k3 _ r1 r3).mono ?_
              rintro e wn ⟨Ax, cx, rfl, hcx, hrx, hbn⟩
              exact hK.out _ _ hbn ⟨Ax, cx, rfl, hcx, hrx⟩
            | 5, _, _ =>
              intro v w' hR hd
              obtain ⟨A4, k4, e4, m4, r4⟩ : ∃ A c, v 4 = (fun x => .tuple #[x, .int .i64 tz]) (.agg #[.string tn, .int .i64 tw, .int .i64 th, .slice A tc c]) ∧ 0 ≤ c ∧ Rd w' A (fl tl) := hd 4 (by decide)
              change SpecOp _ _ _ _ 5 (Act.put (canon _ v _ []) (some 217) (v 4)) w' _
              rw [e4]
              simp only [canon_nil, Act.put, List.setIfInBounds_toArray, List.set_cons_zero, List.set_cons_succ]
              refine spec_ofR rfl (fun KK hK => ?_)
              go_simp
              exact hK.out _ _ (Below.refl _ _) ⟨A4, k4, rfl, m4, r4⟩
            | 6, _, _ =>
              intro v w' hR hd
              obtain ⟨A5, k5, e5, m5, r5⟩ : ∃ A c, v 5 = (fun x => .tuple #[x, .int .i64 tz]) (.agg #[.string tn, .int .i64 tw, .int .i64 th, .slice A tc c]) ∧ 0 ≤ c ∧ Rd w' A (fl tl) := hd 5 (by decide)
              change SpecOp _ _ _ _ 6 (Act.put (canon _ v _ []) (some 212) (v 5)) w' _
              rw [e5]
              simp only [canon_nil, Act.put, List.setIfInBounds_toArray, List.set_cons_zero, List.set_cons_succ]
              refine spec_ofR rfl (fun KK hK => ?_)
              go_simp
              exact hK.out _ _ (Below.refl _ _) ⟨A5, k5, rfl, m5, r5⟩
            | 7, _, _ =>
              intro v w' hR hd
              obtain ⟨A5, k5, e5, m5, r5⟩ : ∃ A c, v 5 = (fun x => .tuple #[x, .int .i64 tz]) (.agg #[.string tn, .int .i64 tw, .int .i64 th, .slice A tc c]) ∧ 0 ≤ c ∧ Rd w' A (fl tl) := hd 5 (by decide)
              change SpecOp _ _ _ _ 7 (Act.put (canon _ v _ []) (some 212) (v 5)) w' _
              rw [e5]
              simp only [canon_nil, Act.put, List.setIfInBounds_toArray, List.set_cons_zero, List.set_cons_succ]
              refine spec_ofR rfl (fun KK hK => ?_)
              go_simp
              exact hK.out _ _ (Below.refl _ _) rfl
            | 8, _, _ =>
              intro v w' hR hd
              change SpecOp _ _ _ _ 8 (canon _ v _ []) w' _
              simp only [canon_nil]
              refine spec_ofR rfl (fun KK hK => ?_)
              go_simp
              exact hK.out _ _ ((Below.refl _ _).alloc (Nat.le_refl _) _) ⟨_, _, rfl, hR.size, Blk.new _ _ _, .four rfl rfl rfl rfl, rfl⟩
            | 9, _, h => exact absurd rfl h
            | 10, _, _ =>
              intro v w' hR hd
              have e7 : v 7 = .int .i64 (tz) := hd 7 (by decide)
              change SpecOp _ _ _ _ 10 (Act.put (canon _ v _ []) (some 219) (v 7)) w' _
              rw [e7]
              simp only [canon_nil, Act.put, List.setIfInBounds_toArray, List.set_cons_zero, List.set_cons_succ]
              refine spec_ofR rfl (fun KK hK => ?_)
              go_simp
              exact hK.out _ _ (Below.refl _ _) rfl
            | i + 11, h, _ => exact absurd h (Nat.not_lt.2 (Nat.le_add_left 11 i))
        case hsto =>
          generalize Exit.then _ _ = QQ
          as_aux_lemma =>
            intro v w' hR hd
            obtain ⟨A6, k6, e6, m6, r6⟩ : ∃ A c, v 6 = (fun x => x) (.agg #[.string tn, .int .i64 tw, .int .i64 th, .slice A tc c]) ∧ 0 ≤ c ∧ Rd w' A (fl tl) := hd 6 (by decide)
            obtain ⟨bb, cs, e8, hge, hblk, hnf, hcz⟩ : ∃ b cs, v 8 = .pointer (some ⟨b, 0, none⟩) ∧ u13w.heap.size ≤ b ∧ Blk w' b 50 cs ∧ NF cs ∧ cs.size = 4 := hd 8 (by decide)
            obtain ⟨x0, x1, x2, x3, rfl⟩ := four_of hcz
            change SpecOp _ _ _ _ 9 (Act.put (Act.put (canon _ v _ []) (some 25) (v 8)) (some 218) (v 6)) w' _
            rw [e6, e8]
            simp only [canon_nil, Act.put, List.setIfInBounds_toArray, List.set_cons_zero, List.set_cons_succ]
            have zb := hblk.lt
            have f0 := hblk.frozen 0; have f1 := hblk.frozen 1; have f2 := hblk.frozen 2; have f3 := hblk.frozen 3
            obtain ⟨y0, y1, y2, y3⟩ := box4 hblk
            refine spec_ofR rfl (fun KK hK => ?_)
            go_simp
            exact hK.out undef _ (rst_set4 hblk hnf hge (.string tn) (.int .i64 tw) (.int .i64 th) (.slice A6 tc k6) rfl rfl rfl rfl) ⟨bb, A6, k6, rfl, hge, blk_set4' hblk (.string tn) (.int .i64 tw) (.int .i64 th) (.slice A6 tc k6), rd_set4 r6 hblk hnf (.string tn) (.int .i64 tw) (.int .i64 th) (.slice A6 tc k6) rfl rfl rfl⟩
        case hend =>
          intro v w' hR hall hfs
          simp only [putL, Act.put, List.setIfInBounds_toArray, List.set_cons_zero, List.set_cons_succ]
          obtain ⟨bBo, ABo, cBo, e8, hge, hx, hrx⟩ := hfs
          have e10 : v 10 = .int .i64 (tz) := hall 10 (by decide) (by decide)
          rw [e8, e10]
          clear hall e8 e10 hge
          have HXBo := Lib.hid hx; have HRBo := Lib.hid hrx; clear hx hrx
          clear cA0 cA1 cA2 cA3 zA
          obtain ⟨u14w, hwn⟩ : ∃ s, w' = s := ⟨_, rfl⟩
          rw [hwn] at hR HXBo HRBo ⊢
          clear hwn
          replace HXA := Lib.hid (HXA.out.below hR)
          replace HXB := Lib.hid (HXB.out.below hR)
          replace HXL := Lib.hid (HXL.out.below hR)
          replace HXTw := Lib.hid (HXTw.out.below hR)
          replace HRTw := Lib.hid (HRTw.out.below hR)
          replace HB := Lib.hid (HB.out.trans (hR.mono HB.out.size))
          clear hR
          go_upto_region 22 with fail
          obtain ⟨cTw0, cTw1, cTw2, cTw3⟩ := box4 HXTw.out
          have zTw := HXTw.out.lt
          obtain ⟨cBo0, cBo1, cBo2, cBo3⟩ := box4 HXBo.out
          have zBo := HXBo.out.lt
          refine wp_region_facts [Fact.is (.int .i64 (0)), Fact.is (.int .i64 (0)), Fact.is (.int .i64 (0)), Fact.is (.bool false), Fact.is (.bool false), Fact.is (.int .i64 (0)), Fact.is (.bool false), Fact.is (.bool false), Fact.is (.bool false), Fact.is (.int .i64 (tz)), Fact.is (.int .i64 (tz)), Fact.is (.bool false), Fact.is (.bool false), Fact.is (.bool false), Fact.is (.agg #[.string tn, .int .i64 tw, .int .i64 th, .slice ATw tc cTw]), Fact.is (.agg #[.string tn, .int .i64 tw, .int .i64 th, .slice ATw tc cTw]), Fact.is (.agg #[.string tn, .int .i64 tw, .int .i64 th, .slice ABo tc cBo]), Fact.is (.agg #[.string tn, .int .i64 tw, .int .i64 th, .slice ABo tc cBo]), Fact.is (.bool true), Fact.is (.bool false), Fact.is (.bool false)] [[], [], [0, 1], [2], [3], [4], [4, 5], [4, 6], [7], [8], [8], [8, 9, 10], [8, 11], [12], [13], [13, 14], [13], [13, 16], [13, 15, 17], [13, 18], [13, 19]] [(some 220, 0), (some 221, 1), (some 222, 2), (some 223, 3), (some 224, 4), (some 225, 5), (some 226, 6), (some 227, 7), (some 228, 8), (some 229, 9), (some 230, 10), (some 231, 11), (some 232, 12), (some 233, 13), (some 234, 14), (some 235, 15), (some 236, 16), (some 237, 17), (some 238, 18), (some 239, 19), (some 240, 20)] (by kernel_rfl) (by kernel_rfl) (by kernel_rfl) (by kernel_rfl) (fun _ _ _ _ e h => by have h1 : _ ∧ _ := h; exact ⟨e ▸ h1.1, h1.2⟩) ?hstep ?hend
          case hstep =>
            generalize Exit.then _ _ = QQ
            as_aux_lemma =>
              intro i hi
              match i, hi with
              | 0, _ =>
                intro v w' hR hd
                change SpecOp _ _ _ _ 0 (canon _ v _ []) w' _
                simp only [canon_nil]
                refine spec_of rfl (fun KK hK => ?_)
                go_simp
                exact hK.out _ _ (Below.refl _ _) rfl
              | 1, _ =>
                intro v w' hR hd
                change SpecOp _ _ _ _ 1 (canon _ v _ []) w' _
                simp only [canon_nil]
                refine spec_of rfl (fun KK hK => ?_)
                go_simp
                exact hK.out _ _ (Below.refl _ _) rfl
              | 2, _ =>
                intro v w' hR hd
                have e0 : v 0 = .int .i64 (0) := hd 0 (by decide)
                have e1 : v 1 = .int .i64 (0) := hd 1 (by decide)
                change SpecOp _ _ _ _ 2 (Act.put (Act.put (canon _ v _ []) (some 221) (v 1)) (some 220) (v 0)) w' _
                rw [e0, e1]
                simp only [canon_nil, Act.put, List.setIfInBounds_toArray, List.set_cons_zero, List.set_cons_succ]
                refine spec_of rfl (fun KK hK => ?_)
                go_simp
                exact hK.out _ _ (Below.refl _ _) rfl
              | 3, _ =>
                intro v w' hR hd
                have e2 : v 2 = .int .i64 (0) := hd 2 (by decide)
                change SpecOp _ _ _ _ 3 (Act.put (canon _ v _ []) (some 222) (v 2)) w' _
                rw [e2]
                simp only [canon_nil, Act.put, List.setIfInBounds_toArray, List.set_cons_zero, List.set_cons_succ]
                refine spec_of rfl (fun KK hK => ?_)
                go_simp
                exact hK.out _ _ (Below.refl _ _) rfl
              | 4, _ =>
                intro v w' hR hd
                have e3 : v 3 = .bool false := hd 3 (by decide)
                change SpecOp _ _ _ _ 4 (Act.put (canon _ v _ []) (some 223) (v 3)) w' _
                rw [e3]
                simp only [canon_nil, Act.put, List.setIfInBounds_toArray, List.set_cons_zero, List.set_cons_succ]
                refine spec_of rfl (fun KK hK => ?_)
                go_simp
                exact hK.out _ _ (Below.refl _ _) rfl
              | 5, _ =>
                intro v w' hR hd
                have e4 : v 4 = .bool false := hd 4 (by decide)
                change SpecOp _ _ _ _ 5 (Act.put (canon _ v _ []) (some 224) (v 4)) w' _
                rw [e4]
                simp only [canon_nil, Act.put, List.setIfInBounds_toArray, List.set_cons_zero, List.set_cons_succ]
                refine spec_of rfl (fun KK hK => ?_)
                go_simp
                exact hK.out _ _ (Below.refl _ _) rfl
              | 6, _ =>
                intro v w' hR hd
                have e4 : v 4 = .bool false := hd 4 (by decide)
                have e5 : v 5 = .int .i64 (0) := hd 5 (by decide)
                change SpecOp _ _ _ _ 6 (Act.put (Act.put (canon _ v _ []) (some 225) (v 5)) (some 224) (v 4)) w' _
                rw [e4, e5]
                simp only [canon_nil, Act.put, List.setIfInBounds_toArray, List.set_cons_zero, List.set_cons_succ]
                refine spec_of rfl (fun KK hK => ?_)
                go_simp
                exact hK.out _ _ (Below.refl _ _) rfl
              | 7, _ =>
                intro v w' hR hd
                have e4 : v 4 = .bool false := hd 4 (by decide)
                have e6 : v 6 = .bool false := hd 6 (by decide)
                change SpecOp _ _ _ _ 7 (Act.put (Act.put (canon _ v _ []) (some 226) (v 6)) (some 224) (v 4)) w' _
                rw [e4, e6]
                simp only [canon_nil, Act.put, List.setIfInBounds_toArray, List.set_cons_zero, List.set_cons_succ]
                refine spec_of rfl (fun KK hK => ?_)
                go_simp
                exact hK.out _ _ (Below.refl _ _) rfl
              | 8, _ =>
                intro v w' hR hd
                have e7 : v 7 = .bool false := hd 7 (by decide)
                change SpecOp _ _ _ _ 8 (Act.put (canon _ v _ []) (some 227) (v 7)) w' _
                rw [e7]
                simp only [canon_nil, Act.put, List.setIfInBounds_toArray, List.set_cons_zero, List.set_cons_succ]
                refine spec_of rfl (fun KK hK => ?_)
                go_simp
                exact hK.out _ _ (Below.refl _ _) rfl
              | 9, _ =>
                intro v w' hR hd
                have e8 : v 8 = .bool false := hd 8 (by decide)
                change SpecOp _ _ _ _ 9 (Act.put (canon _ v _ []) (some 228) (v 8)) w' _
                rw [e8]
                simp only [canon_nil, Act.put, List.setIfInBounds_toArray, List.set_cons_zero, List.set_cons_succ]
                refine spec_of rfl (fun KK hK => ?_)
                go_simp
                exact hK.out _ _ (Below.refl _ _) rfl
              | 10, _ =>
                intro v w' hR hd
                have e8 : v 8 = .bool false := hd 8 (by decide)
                change SpecOp _ _ _ _ 10 (Act.put (canon _ v _ []) (some 228) (v 8)) w' _
                rw [e8]
                simp only [canon_nil, Act.put, List.setIfInBounds_toArray, List.set_cons_zero, List.set_cons_succ]
                refine spec_of rfl (fun KK hK => ?_)
                go_simp
                exact hK.out _ _ (Below.refl _ _) rfl
              | 11, _ =>
                intro v w' hR hd
                have e8 : v 8 = .bool false := hd 8 (by decide)
                have e9 : v 9 = .int .i64 (tz) := hd 9 (by decide)
                have e10 : v 10 = .int .i64 (tz) := hd 10 (by decide)
                change SpecOp _ _ _ _ 11 (Act.put (Act.put (Act.put (canon _ v _ []) (some 230) (v 10)) (some 229) (v 9)) (some 228) (v 8)) w' _
                rw [e8, e9, e10]
                simp only [canon_nil, Act.put, List.setIfInBounds_toArray, List.set_cons_zero, List.set_cons_succ]
                refine spec_of rfl (fun KK hK => ?_)
                go_simp
                exact hK.out _ _ (Below.refl _ _) rfl
              | 12, _ =>
                intro v w' hR hd
                have e8 : v 8 = .bool false := hd 8 (by decide)
                have e11 : v 11 = .bool false := hd 11 (by decide)
                change SpecOp _ _ _ _ 12 (Act.put (Act.put (canon _ v _ []) (some 231) (v 11)) (some 228) (v 8)) w' _
                rw [e8, e11]
                simp only [canon_nil, Act.put, List.setIfInBounds_toArray, List.set_cons_zero, List.set_cons_succ]
                refine spec_of rfl (fun KK hK => ?_)
                go_simp
                exact hK.out _ _ (Below.refl _ _) rfl
              | 13, _ =>
                intro v w' hR hd
                have e12 : v 12 = .bool false := hd 12 (by decide)
                change SpecOp _ _ _ _ 13 (Act.put (canon _ v _ []) (some 232) (v 12)) w' _
                rw [e12]
                simp only [canon_nil, Act.put, List.setIfInBounds_toArray, List.set_cons_zero, List.set_cons_succ]
                refine spec_of rfl (fun KK hK => ?_)
                go_simp
                exact hK.out _ _ (Below.refl _ _) rfl
              | 14, _ =>
                intro v w' hR hd
                have e13 : v 13 = .bool false := hd 13 (by decide)
                change SpecOp _ _ _ _ 14 (Act.put (canon _ v _ []) (some 233) (v 13)) w' _
                rw [e13]
                simp only [canon_nil, Act.put, List.setIfInBounds_toArray, List.set_cons_zero, List.set_cons_succ]
                have q0 := (hR.cell (p := ⟨bTw, 0, none⟩) zTw).trans cTw0
                have q1 := (hR.cell (p := ⟨bTw, 1, none⟩) zTw).trans cTw1
                have q2 := (hR.cell (p := ⟨bTw, 2, none⟩) zTw).trans cTw2
                have q3 := (hR.cell (p := ⟨bTw, 3, none⟩) zTw).trans cTw3
                refine spec_of rfl (fun KK hK => ?_)
                go_simp
                exact hK.out _ _ (Below.refl _ _) rfl
              | 15, _ =>
                intro v w' hR hd
                have e13 : v 13 = .bool false := hd 13 (by decide)
                have e14 : v 14 = .agg #[.string tn, .int .i64 tw, .int .i64 th, .slice ATw tc cTw] := hd 14 (by decide)
                change SpecOp _ _ _ _ 15 (Act.put (Act.put (canon _ v _ []) (some 234) (v 14)) (some 233) (v 13)) w' _
                rw [e13, e14]
                simp only [canon_nil, Act.put, List.setIfInBounds_toArray, List.set_cons_zero, List.set_cons_succ]
                refine spec_of rfl (fun KK hK => ?_)
                go_simp
                refine (told_any _ _ _ _ _ _ _).mono ?_
                rintro e wn ⟨rfl, hbn⟩
                exact hK.out _ _ hbn rfl
              | 16, _ =>
                intro v w' hR hd
                have e13 : v 13 = .bool false := hd 13 (by decide)
                change SpecOp _ _ _ _ 16 (Act.put (canon _ v _ []) (some 233) (v 13)) w' _
                rw [e13]
                simp only [canon_nil, Act.put, List.setIfInBounds_toArray, List.set_cons_zero, List.set_cons_succ]
                have q0 := (hR.cell (p := ⟨bBo, 0, none⟩) zBo).trans cBo0
                have q1 := (hR.cell (p := ⟨bBo, 1, none⟩) zBo).trans cBo1
                have q2 := (hR.cell (p := ⟨bBo, 2, none⟩) zBo).trans cBo2
                have q3 := (hR.cell (p := ⟨bBo, 3, none⟩) zBo).trans cBo3
                refine spec_of rfl (fun KK hK => ?_)
                go_simp
                exact hK.out _ _ (Below.refl _ _) rfl
              | 17, _ =>
                intro v w' hR hd
                have e13 : v 13 = .bool false := hd 13 (by decide)
                have e16 : v 16 = .agg #[.string tn, .int .i64 tw, .int .i64 th, .slice ABo tc cBo] := hd 16 (by decide)
                change SpecOp _ _ _ _ 17 (Act.put (Act.put (canon _ v _ []) (some 236) (v 16)) (some 233) (v 13)) w' _
                rw [e13, e16]
                simp only [canon_nil, Act.put, List.setIfInBounds_toArray, List.set_cons_zero, List.set_cons_succ]
                refine spec_of rfl (fun KK hK => ?_)
                go_simp
                refine (told_any _ _ _ _ _ _ _).mono ?_
                rintro e wn ⟨rfl, hbn⟩
                exact hK.out _ _ hbn rfl
              | 18, _ =>
                intro v w' hR hd
                have e13 : v 13 = .bool false := hd 13 (by decide)
                have e15 : v 15 = .agg #[.string tn, .int .i64 tw, .int .i64 th, .slice ATw tc cTw] := hd 15 (by decide)
                have e17 : v 17 = .agg #[.string tn, .int .i64 tw, .int .i64 th, .slice ABo tc cBo] := hd 17 (by decide)
                change SpecOp _ _ _ _ 18 (Act.put (Act.put (Act.put (canon _ v _ []) (some 237) (v 17)) (some 235) (v 15)) (some 233) (v 13)) w' _
                rw [e13, e15, e17]
                simp only [canon_nil, Act.put, List.setIfInBounds_toArray, List.set_cons_zero, List.set_cons_succ]
                refine spec_of rfl (fun KK hK => ?_)
                go_simp
                refine (Hhsame3.out _ _ _ _ _ (HRTw.out.below hR) (HRBo.out.below hR)).mono ?_
                rintro e wn ⟨rfl, hbn⟩
                exact hK.out _ _ hbn rfl
              | 19, _ =>
                intro v w' hR hd
                have e13 : v 13 = .bool false := hd 13 (by decide)
                have e18 : v 18 = .bool true := hd 18 (by decide)
                change SpecOp _ _ _ _ 19 (Act.put (Act.put (canon _ v _ []) (some 238) (v 18)) (some 233) (v 13)) w' _
                rw [e13, e18]
                simp only [canon_nil, Act.put, List.setIfInBounds_toArray, List.set_cons_zero, List.set_cons_succ]
                refine spec_of rfl (fun KK hK => ?_)
                go_simp
                exact hK.out _ _ (Below.refl _ _) rfl
              | 20, _ =>
                intro v w' hR hd
                have e13 : v 13 = .bool false := hd 13 (by decide)
                have e19 : v 19 = .bool false := hd 19 (by decide)
                change SpecOp _ _ _ _ 20 (Act.put (Act.put (canon _ v _ []) (some 239) (v 19)) (some 233) (v 13)) w' _
                rw [e13, e19]
                simp only [canon_nil, Act.put, List.setIfInBounds_toArray, List.set_cons_zero, List.set_cons_succ]
                refine spec_of rfl (fun KK hK => ?_)
                go_simp
                exact hK.out _ _ (Below.refl _ _) rfl
              | i + 21, h => exact absurd h (Nat.not_lt.2 (Nat.le_add_left 21 i))
          case hend =>
            intro v w' hR hall
            simp only [putL, Act.put, List.setIfInBounds_toArray, List.set_cons_zero, List.set_cons_succ]
            have e0 : v 0 = .int .i64 (0) := hall 0 (by decide)
            have e1 : v 1 = .int .i64 (0) := hall 1 (by decide)
            have e2 : v 2 = .int .i64 (0) := hall 2 (by decide)
            have e3 : v 3 = .bool false := hall 3 (by decide)
            have e4 : v 4 = .bool false := hall 4 (by decide)
            have e5 : v 5 = .int .i64 (0) := hall 5 (by decide)
            have e6 : v 6 = .bool false := hall 6 (by decide)
            have e7 : v 7 = .bool false := hall 7 (by decide)
            have e8 : v 8 = .bool false := hall 8 (by decide)
            have e9 : v 9 = .int .i64 (tz) := hall 9 (by decide)
            have e10 : v 10 = .int .i64 (tz) := hall 10 (by decide)
            have e11 : v 11 = .bool false := hall 11 (by decide)
            have e12 : v 12 = .bool false := hall 12 (by decide)
            have e13 : v 13 = .bool false := hall 13 (by decide)
            have e14 : v 14 = .agg #[.string tn, .int .i64 tw, .int .i64 th, .slice ATw tc cTw] := hall 14 (by decide)
            have e15 : v 15 = .agg #[.string tn, .int .i64 tw, .int .i64 th, .slice ATw tc cTw] := hall 15 (by decide)
            have e16 : v 16 = .agg #[.string tn, .int .i64 tw, .int .i64 th, .slice ABo tc cBo] := hall 16 (by decide)
            have e17 : v 17 = .agg #[.string tn, .int .i64 tw, .int .i64 th, .slice ABo tc cBo] := hall 17 (by decide)
            have e18 : v 18 = .bool true := hall 18 (by decide)
            have e19 : v 19 = .bool false := hall 19 (by decide)
            have e20 : v 20 = .bool false := hall 20 (by decide)
            rw [e0, e1, e2, e3, e4, e5, e6, e7, e8, e9, e10, e11, e12, e13, e14, e15, e16, e17, e18, e19, e20]
            clear hall e0 e1 e2 e3 e4 e5 e6 e7 e8 e9 e10 e11 e12 e13 e14 e15 e16 e17 e18 e19 e20
            clear cTw0 cTw1 cTw2 cTw3 zTw cBo0 cBo1 cBo2 cBo3 zBo
            obtain ⟨u15w, hwn⟩ : ∃ s, w' = s := ⟨_, rfl⟩
            rw [hwn] at hR ⊢
            clear hwn
            replace HXA := Lib.hid (HXA.out.below hR)
            replace HXB := Lib.hid (HXB.out.below hR)
            replace HXL := Lib.hid (HXL.out.below hR)
            replace HXTw := Lib.hid (HXTw.out.below hR)
            replace HXBo := Lib.hid (HXBo.out.below hR)
            replace HRTw := Lib.hid (HRTw.out.below hR)
            replace HRBo := Lib.hid (HRBo.out.below hR)
            replace HB := Lib.hid (HB.out.trans (hR.mono HB.out.size))
            clear hR
            clear HXBo HRBo
            by_cases h0 : 0 = tz
            · skip
              have hoY := HhownY.out h0; have hsH := HhscH.out h0
              have hz := Hhtz.out h0
              clear HhownY HhscH Hhtz
              obtain ⟨rfl, rfl, rfl, rfl, rfl⟩ := hz
              subst h0
              have HhownY := Lib.hid hoY; have HhscH := Lib.hid hsH; clear hoY hsH
              go_wp2_with (first | (refine wpList_load_box rfl 50 _ rfl bTw _ _ HXTw.out rfl _ Tryz.underlying50 rfl (by kernel_rfl) ?_))
              refine (told_any _ _ _ _ _ _ _).mono ?_
              rintro e u16w ⟨rfl, hb⟩
              replace HXA := Lib.hid (HXA.out.below hb)
              replace HXB := Lib.hid (HXB.out.below hb)
              replace HXL := Lib.hid (HXL.out.below hb)
              replace HXTw := Lib.hid (HXTw.out.below hb)
              replace HRTw := Lib.hid (HRTw.out.below hb)
              replace HB := Lib.hid (HB.out.trans (hb.mono HB.out.size))
              clear hb
              go_wp2_with fail
              refine (HhownY.out _ _ _ HRTw.out).mono ?_
              rintro e u17w ⟨gO, cO, rfl, hcc, hro, hb⟩
              replace HXA := Lib.hid (HXA.out.below hb)
              replace HXB := Lib.hid (HXB.out.below hb)
              replace HXL := Lib.hid (HXL.out.below hb)
              replace HXTw := Lib.hid (HXTw.out.below hb)
              replace HRTw := Lib.hid (HRTw.out.below hb)
              replace HB := Lib.hid (HB.out.trans (hb.mono HB.out.size))
              clear hb
              have HRO := Lib.hid hro; clear hro
              clear hcc
              go_wp2_with fail
              refine (HhscH.out _ _ _ HRO.out).mono ?_
              rintro e u18w ⟨AHa, cHa, rfl, hcx, hrx, hb⟩
              replace HXA := Lib.hid (HXA.out.below hb)
              replace HXB := Lib.hid (HXB.out.below hb)
              replace HXL := Lib.hid (HXL.out.below hb)
              replace HXTw := Lib.hid (HXTw.out.below hb)
              replace HRTw := Lib.hid (HRTw.out.below hb)
              replace HRO := Lib.hid (HRO.out.below hb)
              replace HB := Lib.hid (HB.out.trans (hb.mono HB.out.size))
              clear hb
              have HRHa := Lib.hid hrx; clear hrx
              clear hcx
              clear HRO
              go_upto_region 26 with fail
              have hn := Blk.new u18w 50 #[.string nm, .int .i64 (W : Int), .int .i64 (H : Int), .slice AHa n cHa]
              have hb : Below u18w.heap.size u18w (u18w.alloc (.cells #[.string nm, .int .i64 (W : Int), .int .i64 (H : Int), .slice AHa n cHa] 50)) := (Below.refl _ _).alloc (Nat.le_refl _) _
              have hge := HB.out.size
              have hlt_A := HXA.out.lt
              have hlt_B := HXB.out.lt
              have hlt_L := HXL.out.lt
              have hlt_Tw := HXTw.out.lt
              obtain ⟨bHa, hl⟩ : ∃ b, u18w.heap.size = b := ⟨_, rfl⟩
              generalize u18w.alloc (.cells #[.string nm, .int .i64 (W : Int), .int .i64 (H : Int), .slice AHa n cHa] 50) = u19w at hn hb ⊢
              replace HXA := Lib.hid (HXA.out.below hb)
              replace HXB := Lib.hid (HXB.out.below hb)
              replace HXL := Lib.hid (HXL.out.below hb)
              replace HXTw := Lib.hid (HXTw.out.below hb)
              replace HRTw := Lib.hid (HRTw.out.below hb)
              replace HRHa := Lib.hid (HRHa.out.below hb)
              replace HB := Lib.hid (HB.out.trans (hb.mono HB.out.size))
              clear hb
              rw [hl] at hn hge hlt_A hlt_B hlt_L hlt_Tw
              try rw [hl]
              have HXHa := Lib.hid hn; have HGHa := Lib.hid hge; clear hn hl hge
              have HNHaA : RowKit.Hid (bA < bHa) := Lib.hid (by omega); have HNHaB : RowKit.Hid (bB < bHa) := Lib.hid (by omega); have HNHaL : RowKit.Hid (bL < bHa) := Lib.hid (by omega); have HNHaTw : RowKit.Hid (bTw < bHa) := Lib.hid (by omega)
              clear hlt_A hlt_B hlt_L hlt_Tw
              obtain ⟨cHa0, cHa1, cHa2, cHa3⟩ := box4 HXHa.out
              have zHa := HXHa.out.lt
              obtain ⟨cA0, cA1, cA2, cA3⟩ := box4 HXA.out
              have zA := HXA.out.lt
              refine wp_region_facts [Fact.is (.int .i64 (0)), Fact.is (.bool false), Fact.is (.bool false), Fact.is (.agg #[.string nm, .int .i64 (W : Int), .int .i64 (H : Int), .slice AHa n cHa]), Fact.is (.agg #[.string nm, .int .i64 (W : Int), .int .i64 (H : Int), .slice AHa n cHa]), Fact.is (.agg #[.string nm, .int .i64 (W : Int), .int .i64 (H : Int), .slice A n c]), Fact.is (.bool true), Fact.is (.bool false), Fact.is (.bool false)] [[], [0], [1], [2], [2, 3], [2], [2, 4, 5], [2, 6], [2, 7]] [(some 250, 0), (some 251, 1), (some 252, 2), (some 253, 3), (some 254, 4), (some 255, 5), (some 256, 6), (some 257, 7), (some 258, 8)] (by kernel_rfl) (by kernel_rfl) (by kernel_rfl) (by kernel_rfl) (fun _ _ _ _ e h => by have h1 : _ ∧ _ := h; exact ⟨e ▸ h1.1, h1.2⟩) ?hstep ?hend
              case hstep =>
                generalize Exit.then _ _ = QQ
                as_aux_lemma =>
                  intro i hi
                  match i, hi with
                  | 0, _ =>
                    intro v w' hR hd
                    change SpecOp _ _ _ _ 0 (canon _ v _ []) w' _
                    simp only [canon_nil]
                    refine spec_of rfl (fun KK hK => ?_)
                    go_simp
                    exact hK.out _ _ (Below.refl _ _) rfl
                  | 1, _ =>
                    intro v w' hR hd
                    have e0 : v 0 = .int .i64 (0) := hd 0 (by decide)
                    change SpecOp _ _ _ _ 1 (Act.put (canon _ v _ []) (some 250) (v 0)) w' _
                    rw [e0]
                    simp only [canon_nil, Act.put, List.setIfInBounds_toArray, List.set_cons_zero, List.set_cons_succ]
                    refine spec_of rfl (fun KK hK => ?_)
                    go_simp
                    exact hK.out _ _ (Below.refl _ _) rfl
                  | 2, _ =>
                    intro v w' hR hd
                    have e1 : v 1 = .bool false := hd 1 (by decide)
                    change SpecOp _ _ _ _ 2 (Act.put (canon _ v _ []) (some 251) (v 1)) w' _
                    rw [e1]
                    simp only [canon_nil, Act.put, List.setIfInBounds_toArray, List.set_cons_zero, List.set_cons_succ]
                    refine spec_of rfl (fun KK hK => ?_)
                    go_simp
                    exact hK.out _ _ (Below.refl _ _) rfl
                  | 3, _ =>
                    intro v w' hR hd
                    have e2 : v 2 = .bool false := hd 2 (by decide)
                    change SpecOp _ _ _ _ 3 (Act.put (canon _ v _ []) (some 252) (v 2)) w' _
                    rw [e2]
                    simp only [canon_nil, Act.put, List.setIfInBounds_toArray, List.set_cons_zero, List.set_cons_succ]
                    have q0 := (hR.cell (p := ⟨bHa, 0, none⟩) zHa).trans cHa0
                    have q1 := (hR.cell (p := ⟨bHa, 1, none⟩) zHa).trans cHa1
                    have q2 := (hR.cell (p := ⟨bHa, 2, none⟩) zHa).trans cHa2
                    have q3 := (hR.cell (p := ⟨bHa, 3, none⟩) zHa).trans cHa3
                    refine spec_of rfl (fun KK hK => ?_)
                    go_simp
                    exact hK.out _ _ (Below.refl _ _) rfl
                  | 4, _ =>
                    intro v w' hR hd
                    have e2 : v 2 = .bool false := hd 2 (by decide)
                    have e3 : v 3 = .agg #[.string nm, .int .i64 (W : Int), .int .i64 (H : Int), .slice AHa n cHa] := hd 3 (by decide)
                    change SpecOp _ _ _ _ 4 (Act.put (Act.put (canon _ v _ []) (some 253) (v 3)) (some 252) (v 2)) w' _
                    rw [e2, e3]
                    simp only [canon_nil, Act.put, List.setIfInBounds_toArray, List.set_cons_zero, List.set_cons_succ]
                    refine spec_of rfl (fun KK hK => ?_)
                    go_simp
                    refine (told_any _ _ _ _ _ _ _).mono ?_
                    rintro e wn ⟨rfl, hbn⟩
                    exact hK.out _ _ hbn rfl
                  | 5, _ =>
                    intro v w' hR hd
                    have e2 : v 2 = .bool false := hd 2 (by decide)
                    change SpecOp _ _ _ _ 5 (Act.put (canon _ v _ []) (some 252) (v 2)) w' _
                    rw [e2]
                    simp only [canon_nil, Act.put, List.setIfInBounds_toArray, List.set_cons_zero, List.set_cons_succ]
                    have q0 := (hR.cell (p := ⟨bA, 0, none⟩) zA).trans cA0
                    have q1 := (hR.cell (p := ⟨bA, 1, none⟩) zA).trans cA1
                    have q2 := (hR.cell (p := ⟨bA, 2, none⟩) zA).trans cA2
                    have q3 := (hR.cell (p := ⟨bA, 3, none⟩) zA).trans cA3
                    refine spec_of rfl (fun KK hK => ?_)
                    go_simp
                    exact hK.out _ _ (Below.refl _ _) rfl
                  | 6, _ =>
                    intro v w' hR hd
                    have e2 : v 2 = .bool false := hd 2 (by decide)
                    have e4 : v 4 = .agg #[.string nm, .int .i64 (W : Int), .int .i64 (H : Int), .slice AHa n cHa] := hd 4 (by decide)
                    have e5 : v 5 = .agg #[.string nm, .int .i64 (W : Int), .int .i64 (H : Int), .slice A n c] := hd 5 (by decide)
                    change SpecOp _ _ _ _ 6 (Act.put (Act.put (Act.put (canon _ v _ []) (some 255) (v 5)) (some 254) (v 4)) (some 252) (v 2)) w' _
                    rw [e2, e4, e5]
                    simp only [canon_nil, Act.put, List.setIfInBounds_toArray, List.set_cons_zero, List.set_cons_succ]
                    refine spec_of rfl (fun KK hK => ?_)
                    go_simp
                    refine (HhsameH.out _ _ _ _ _ (HRHa.out.below hR) (Hhra.out.below (HB.out.trans (hR.mono HB.out.size)))).mono ?_
                    rintro e wn ⟨rfl, hbn⟩
                    exact hK.out _ _ hbn rfl
                  | 7, _ =>
                    intro v w' hR hd
                    have e2 : v 2 = .bool false := hd 2 (by decide)
                    have e6 : v 6 = .bool true := hd 6 (by decide)
                    change SpecOp _ _ _ _ 7 (Act.put (Act.put (canon _ v _ []) (some 256) (v 6)) (some 252) (v 2)) w' _
                    rw [e2, e6]
                    simp only [canon_nil, Act.put, List.setIfInBounds_toArray, List.set_cons_zero, List.set_cons_succ]
                    refine spec_of rfl (fun KK hK => ?_)
                    go_simp
                    exact hK.out _ _ (Below.refl _ _) rfl
                  | 8, _ =>
                    intro v w' hR hd
                    have e2 : v 2 = .bool false := hd 2 (by decide)
                    have e7 : v 7 = .bool false := hd 7 (by decide)
                    change SpecOp _ _ _ _ 8 (Act.put (Act.put (canon _ v _ []) (some 257) (v 7)) (some 252) (v 2)) w' _
                    rw [e2, e7]
                    simp only [canon_nil, Act.put, List.setIfInBounds_toArray, List.set_cons_zero, List.set_cons_succ]
                    refine spec_of rfl (fun KK hK => ?_)
                    go_simp
                    exact hK.out _ _ (Below.refl _ _) rfl
                  | i + 9, h => exact absurd h (Nat.not_lt.2 (Nat.le_add_left 9 i))
              case hend =>
                intro v w' hR hall
                simp only [putL, Act.put, List.setIfInBounds_toArray, List.set_cons_zero, List.set_cons_succ]
                have e0 : v 0 = .int .i64 (0) := hall 0 (by decide)
                have e1 : v 1 = .bool false := hall 1 (by decide)
                have e2 : v 2 = .bool false := hall 2 (by decide)
                have e3 : v 3 = .agg #[.string nm, .int .i64 (W : Int), .int .i64 (H : Int), .slice AHa n cHa] := hall 3 (by decide)
                have e4 : v 4 = .agg #[.string nm, .int .i64 (W : Int), .int .i64 (H : Int), .slice AHa n cHa] := hall 4 (by decide)
                have e5 : v 5 = .agg #[.string nm, .int .i64 (W : Int), .int .i64 (H : Int), .slice A n c] := hall 5 (by decide)
                have e6 : v 6 = .bool true := hall 6 (by decide)
                have e7 : v 7 = .bool false := hall 7 (by decide)
                have e8 : v 8 = .bool false := hall 8 (by decide)
                rw [e0, e1, e2, e3, e4, e5, e6, e7, e8]
                clear hall e0 e1 e2 e3 e4 e5 e6 e7 e8
                clear cHa0 cHa1 cHa2 cHa3 zHa cA0 cA1 cA2 cA3 zA
                obtain ⟨u20w, hwn⟩ : ∃ s, w' = s := ⟨_, rfl⟩
                rw [hwn] at hR ⊢
                clear hwn
                replace HXA := Lib.hid (HXA.out.below hR)
                replace HXB := Lib.hid (HXB.out.below hR)
                replace HXL := Lib.hid (HXL.out.below hR)
                replace HXTw := Lib.hid (HXTw.out.below hR)
                replace HXHa := Lib.hid (HXHa.out.below hR)
                replace HRTw := Lib.hid (HRTw.out.below hR)
                replace HRHa := Lib.hid (HRHa.out.below hR)
                replace HB := Lib.hid (HB.out.trans (hR.mono HB.out.size))
                clear hR
                clear HXHa HRHa
                clear HXTw HRTw
                go_upto_region 28 with fail
                go_wp2_with (first | (refine wpList_load_box rfl 135 _ rfl bL _ _ HXL.out rfl _ Tryz.underlying135 rfl (by kernel_rfl) ?_))
                refine (Hhfour.out _ HB.out).mono ?_
                rintro e u21w ⟨rfl, hb⟩
                replace HXA := Lib.hid (HXA.out.below hb)
                replace HXB := Lib.hid (HXB.out.below hb)
                replace HXL := Lib.hid (HXL.out.below hb)
                replace HB := Lib.hid (HB.out.trans (hb.mono HB.out.size))
                clear hb
                go_upto_region 29 with fail
                have hn := Blk.new u21w 138 #[.complex .f32 (P 0).1 (P 0).2, .complex .f32 (P 1).1 (P 1).2, .complex .f32 (P 2).1 (P 2).2, .complex .f32 (P 3).1 (P 3).2]
                have hb : Below u21w.heap.size u21w (u21w.alloc (.cells #[.complex .f32 (P 0).1 (P 0).2, .complex .f32 (P 1).1 (P 1).2, .complex .f32 (P 2).1 (P 2).2, .complex .f32 (P 3).1 (P 3).2] 138)) := (Below.refl _ _).alloc (Nat.le_refl _) _
                have hge := HB.out.size
                have hlt_A := HXA.out.lt
                have hlt_B := HXB.out.lt
                have hlt_L := HXL.out.lt
                obtain ⟨bPa, hl⟩ : ∃ b, u21w.heap.size = b := ⟨_, rfl⟩
                generalize u21w.alloc (.cells #[.complex .f32 (P 0).1 (P 0).2, .complex .f32 (P 1).1 (P 1).2, .complex .f32 (P 2).1 (P 2).2, .complex .f32 (P 3).1 (P 3).2] 138) = u22w at hn hb ⊢
                replace HXA := Lib.hid (HXA.out.below hb)
                replace HXB := Lib.hid (HXB.out.below hb)
                replace HXL := Lib.hid (HXL.out.below hb)
                replace HB := Lib.hid (HB.out.trans (hb.mono HB.out.size))
                clear hb
                rw [hl] at hn hge hlt_A hlt_B hlt_L
                try rw [hl]
                have HXPa := Lib.hid hn; have HGPa := Lib.hid hge; clear hn hl hge
                have HNPaA : RowKit.Hid (bA < bPa) := Lib.hid (by omega); have HNPaB : RowKit.Hid (bB < bPa) := Lib.hid (by omega); have HNPaL : RowKit.Hid (bL < bPa) := Lib.hid (by omega)
                clear hlt_A hlt_B hlt_L
                go_wp2_with (first | (refine wpList_load_box rfl 138 _ rfl bPa _ _ HXPa.out rfl _ Tryz.underlying138 rfl (by kernel_rfl) ?_))
                refine (Hhunf.out _ HB.out).mono ?_
                rintro e u23w ⟨rfl, hb⟩
                replace HXA := Lib.hid (HXA.out.below hb)
                replace HXB := Lib.hid (HXB.out.below hb)
                replace HXL := Lib.hid (HXL.out.below hb)
                replace HXPa := Lib.hid (HXPa.out.below hb)
                replace HB := Lib.hid (HB.out.trans (hb.mono HB.out.size))
                clear hb
                go_upto_region 30 with fail
                have hn := Blk.new u23w 135 #[.float .f32 (V 0), .float .f32 (V 1), .float .f32 (V 2), .float .f32 (V 3)]
                have hb : Below u23w.heap.size u23w (u23w.alloc (.cells #[.float .f32 (V 0), .float .f32 (V 1), .float .f32 (V 2), .float .f32 (V 3)] 135)) := (Below.refl _ _).alloc (Nat.le_refl _) _
                have hge := HB.out.size
                have hlt_A := HXA.out.lt
                have hlt_B := HXB.out.lt
                have hlt_L := HXL.out.lt
                have hlt_Pa := HXPa.out.lt
                obtain ⟨bBa, hl⟩ : ∃ b, u23w.heap.size = b := ⟨_, rfl⟩
                generalize u23w.alloc (.cells #[.float .f32 (V 0), .float .f32 (V 1), .float .f32 (V 2), .float .f32 (V 3)] 135) = u24w at hn hb ⊢
                replace HXA := Lib.hid (HXA.out.below hb)
                replace HXB := Lib.hid (HXB.out.below hb)
                replace HXL := Lib.hid (HXL.out.below hb)
                replace HXPa := Lib.hid (HXPa.out.below hb)
                replace HB := Lib.hid (HB.out.trans (hb.mono HB.out.size))
                clear hb
                rw [hl] at hn hge hlt_A hlt_B hlt_L hlt_Pa
                try rw [hl]
                have HXBa := Lib.hid hn; have HGBa := Lib.hid hge; clear hn hl hge
                have HNBaA : RowKit.Hid (bA < bBa) := Lib.hid (by omega); have HNBaB : RowKit.Hid (bB < bBa) := Lib.hid (by omega); have HNBaL : RowKit.Hid (bL < bBa) := Lib.hid (by omega); have HNBaPa : RowKit.Hid (bPa < bBa) := Lib.hid (by omega)
                clear hlt_A hlt_B hlt_L hlt_Pa
                have cPa0 := HXPa.out.cell 0; have cPa1 := HXPa.out.cell 1; have cPa2 := HXPa.out.cell 2; have cPa3 := HXPa.out.cell 3
                simp only [List.getElem?_toArray, List.getElem?_cons_zero, List.getElem?_cons_succ] at cPa0 cPa1 cPa2 cPa3
                have hp0 := Hhp0.out; have hp2 := Hhp2.out; have hp13 := Hhp13.out; have hng : ∀ W, (Op.unary .neg (.float .f32 (P 3).2)).run Tryz.prog W = .ok (.float .f32 ng) W := (fun W => by rw [← Hhng.out]; rfl); have hp13i := Hhp13i.out; have heqV := HheqV.out
                go_wp2_with (first | (refine wpList_load_box rfl 135 _ rfl bBa _ _ HXBa.out rfl _ Tryz.underlying135 rfl (by kernel_rfl) ?_) | (refine wpList_load_box rfl 135 _ rfl bL _ _ HXL.out rfl _ Tryz.underlying135 rfl (by kernel_rfl) ?_))
                clear cPa0 cPa1 cPa2 cPa3 hp0 hp2 hp13 hng hp13i heqV
                clear HXBa
                have HFM : RowKit.Hid (Blk u24w bL 135 (fm_b L L2 0)) := HXL
                go_loopw [309] (fun iv wr => ∃ i : Nat, i ≤ 4 ∧ iv = .int .i64 i ∧ RowKit.Hid (Blk wr bL 135 (fm_b L L2 i)) ∧ RowKit.Hid (Blk wr bPa 138 #[.complex .f32 (P 0).1 (P 0).2, .complex .f32 (P 1).1 (P 1).2, .complex .f32 (P 2).1 (P 2).2, .complex .f32 (P 3).1 (P 3).2]) ∧ RowKit.Hid (∀ j, j < i → big j = false) ∧ Below w.heap.size w wr) (fun iv _ => 4 - (intOf iv).toNat)
                case atStart => exact ⟨0, by omega, rfl, HFM, HXPa, Lib.hid (fun j hj => absurd hj (Nat.not_lt_zero j)), HB.out⟩
                case round =>
                  clear HFM HXPa HXL HXA HXB HB
                  obtain ⟨i, hi, rfl, HXL, HXPa, HLOW, hbel⟩ := hrel
                  have HB := Lib.hid hbel; clear hbel
                  by_cases hlt : i < 4
                  · skip
                    have cLi := (HXL.out.cell i).trans (fm_b_at L L2 i hlt)
                    have fLi := HXL.out.frozen i
                    obtain ⟨lv, hlv⟩ : ∃ z, L i = z := ⟨_, rfl⟩
                    have hbg := Hhbig.out i hlt
                    have hdb := Hhdbl.out i hlt
                    rw [hlv] at cLi hbg hdb
                    obtain ⟨pg, hpg⟩ : ∃ z, (FloatKind.f32.format.order lv 1140850688 == some .gt) = z := ⟨_, rfl⟩
                    obtain ⟨pl, hpl⟩ : ∃ z, (FloatKind.f32.format.order lv 3288334336 == some .lt) = z := ⟨_, rfl⟩
                    rw [hpg, hpl] at hbg
                    have HBG := Lib.hid hbg; clear hbg
                    have hmul : ∀ W, (binOp .mul 23 (.float .f32 1073741824) (.float .f32 lv)).run Tryz.prog W = .ok (.float .f32 (L2 i)) W := fun W => run_float_arith W .mul _ .f32 _ _ _ hdb
                    have HLV := Lib.hid hlv; clear hdb hlv
                    cases pg with
                    | true =>
                      go_wp2_with fail
                      refine (Hhaw.out _ HB.out).mono ?_
                      rintro e ww ⟨rfl, hb⟩
                      have HB2 := Lib.hid (HB.out.trans (hb.mono HB.out.size))
                      go_wp2
                      go_ret
                      exact ⟨rfl, HB2.out⟩
                    | false =>
                      cases pl with
                      | true =>
                        go_wp2_with fail
                        refine (Hhaw.out _ HB.out).mono ?_
                        rintro e ww ⟨rfl, hb⟩
                        have HB2 := Lib.hid (HB.out.trans (hb.mono HB.out.size))
                        go_wp2
                        go_ret
                        exact ⟨rfl, HB2.out⟩
                      | false =>
                        have hset := HXL.out.set_ i (.float .f32 (L2 i))
                        rw [fm_b_set L L2 i hlt] at hset
                        have hpa := HXPa.out.far (p := ⟨bL, i, none⟩) (by have := HNPaL.out; simp; omega) (.float .f32 (L2 i))
                        have hbs := HB.out.setCell (p := ⟨bL, i, none⟩) (by have := hAL.out; simp; omega) (.float .f32 (L2 i))
                        have HS1 := Lib.hid hset; have HS2 := Lib.hid hpa; have HS3 := Lib.hid hbs; clear hset hpa hbs
                        go_wp2
                        go_roundw
                        case rel => exact ⟨i + 1, hlt, by go_num, HS1, HS2, Lib.hid (fun j hj => by by_cases e : j = i; (· subst e; exact HBG.out.symm); (· exact HLOW.out j (by omega))), HS3.out⟩
                        case measure => simp [intOf]; omega
                  · skip
                    obtain rfl : i = 4 := by omega
                    clear hlt hi
                    have HXL4 : RowKit.Hid (Blk wr bL 135 #[.float .f32 (L2 0), .float .f32 (L2 1), .float .f32 (L2 2), .float .f32 (L2 3)]) := HXL
                    clear HXL
                    go_wp2_with (first | (refine wpList_load_box rfl 135 _ rfl bL _ _ HXL4.out rfl _ Tryz.underlying135 rfl (by kernel_rfl) ?_))
                    refine (Hhfour2.out _ HB.out HLOW.out).mono ?_
                    rintro e u25w ⟨rfl, hb⟩
                    replace HXL4 := Lib.hid (HXL4.out.below hb)
                    replace HXPa := Lib.hid (HXPa.out.below hb)
                    replace HB := Lib.hid (HB.out.trans (hb.mono HB.out.size))
                    clear hb
                    go_upto_region 40 with fail
                    have bL4 := bL
                    clear bL4 HXL4
                    have hn := Blk.new u25w 138 #[.complex .f32 (R 0).1 (R 0).2, .complex .f32 (R 1).1 (R 1).2, .complex .f32 (R 2).1 (R 2).2, .complex .f32 (R 3).1 (R 3).2]
                    have hb : Below u25w.heap.size u25w (u25w.alloc (.cells #[.complex .f32 (R 0).1 (R 0).2, .complex .f32 (R 1).1 (R 1).2, .complex .f32 (R 2).1 (R 2).2, .complex .f32 (R 3).1 (R 3).2] 138)) := (Below.refl _ _).alloc (Nat.le_refl _) _
                    have hge := HB.out.size
                    have hlt_Pa := HXPa.out.lt
                    obtain ⟨bQa, hl⟩ : ∃ b, u25w.heap.size = b := ⟨_, rfl⟩
                    generalize u25w.alloc (.cells #[.complex .f32 (R 0).1 (R 0).2, .complex .f32 (R 1).1 (R 1).2, .complex .f32 (R 2).1 (R 2).2, .complex .f32 (R 3).1 (R 3).2] 138) = u26w at hn hb ⊢
                    replace HXPa := Lib.hid (HXPa.out.below hb)
                    replace HB := Lib.hid (HB.out.trans (hb.mono HB.out.size))
                    clear hb
                    rw [hl] at hn hge hlt_Pa
                    try rw [hl]
                    have HXQa := Lib.hid hn; have HGQa := Lib.hid hge; clear hn hl hge
                    have HNQaPa : RowKit.Hid (bPa < bQa) := Lib.hid (by omega)
                    clear hlt_Pa
                    go_wp2_with fail
                    go_loopw [335] (fun iv wr => ∃ ii : Nat, ii ≤ 4 ∧ iv = .int .i64 ii ∧ RowKit.Hid (Blk wr bPa 138 #[.complex .f32 (P 0).1 (P 0).2, .complex .f32 (P 1).1 (P 1).2, .complex .f32 (P 2).1 (P 2).2, .complex .f32 (P 3).1 (P 3).2]) ∧ RowKit.Hid (Blk wr bQa 138 #[.complex .f32 (R 0).1 (R 0).2, .complex .f32 (R 1).1 (R 1).2, .complex .f32 (R 2).1 (R 2).2, .complex .f32 (R 3).1 (R 3).2]) ∧ Below w.heap.size w wr) (fun iv _ => 4 - (intOf iv).toNat)
                    case atStart => exact ⟨0, by omega, rfl, HXPa, HXQa, HB.out⟩
                    case round =>
                      clear HXPa HXQa HB
                      obtain ⟨ii, hi, rfl, HXPa, HXQa, hbel⟩ := hrel
                      have HB := Lib.hid hbel; clear hbel
                      by_cases hlt : ii < 4
                      · skip
                        have hid : decide ((ii : Int) < 4) = true := by simp; omega
                        go_upto_region 43 with fail
                        have cPi := (HXPa.out.cell ii).trans (cm_b_at P ii hlt)
                        have cQi := (HXQa.out.cell ii).trans (cm_b_at R ii hlt)
                        have zPa := HXPa.out.lt; have zQa := HXQa.out.lt
                        have hil : (ii : Int) < 4 := by omega
                        have hcm := Hhcm.out ii hlt; have hcr := Hhcr.out ii hlt
                        obtain ⟨p, hp⟩ : ∃ z, P ii = z := ⟨_, rfl⟩
                        obtain ⟨r, hr⟩ : ∃ z, R ii = z := ⟨_, rfl⟩
                        obtain ⟨d, hd⟩ : ∃ z, D ii = z := ⟨_, rfl⟩
                        rw [hp] at cPi hcm
                        rw [hr] at cQi hcr
                        rw [hd] at hcm hcr
                        obtain ⟨p1, p2⟩ := p
                        obtain ⟨r1, r2⟩ := r
                        obtain ⟨d1, d2⟩ := d
                        simp only [] at cPi cQi hcm hcr
                        obtain ⟨hcr1, hcr2⟩ := hcr
                        have hml : ∀ W, (binOp .mul 137 (.complex .f32 1073741824 0) (.complex .f32 p1 p2)).run Tryz.prog W = .ok (.complex .f32 d1 d2) W := fun W => run_complex64_mul W _ _ _ _ _ _ _ hcm
                        have HIL := Lib.hid hlt; clear hlt hp hr hd hcm
                        refine wp_region_facts [Fact.is (.int .i64 ((ii : Int))), Fact.is (.pointer (some ⟨bQa, ii, none⟩)), Fact.is (.complex .f32 r1 r2), Fact.is (.int .i64 ((ii : Int))), Fact.is (.pointer (some ⟨bPa, ii, none⟩)), Fact.is (.complex .f32 p1 p2), Fact.is (.complex .f32 d1 d2), Fact.is (.bool false)] [[], [0], [1], [], [3], [4], [5], [2, 6]] [(some 338, 0), (some 339, 1), (some 340, 2), (some 341, 3), (some 342, 4), (some 343, 5), (some 344, 6), (some 345, 7)] (by kernel_rfl) (by kernel_rfl) (by kernel_rfl) (by kernel_rfl) (fun _ _ _ _ e h => by have h1 : _ ∧ _ := h; exact ⟨e ▸ h1.1, h1.2⟩) ?hstep ?hend
                        case hstep =>
                          generalize Exit.then _ _ = QQ
                          as_aux_lemma =>
                            intro i hi
                            match i, hi with
                            | 0, _ =>
                              intro v w' hR hd
                              change SpecOp _ _ _ _ 0 (canon _ v _ []) w' _
                              simp only [canon_nil]
                              refine spec_of rfl (fun KK hK => ?_)
                              go_simp
                              exact hK.out _ _ (Below.refl _ _) rfl
                            | 1, _ =>
                              intro v w' hR hd
                              have e0 : v 0 = .int .i64 ((ii : Int)) := hd 0 (by decide)
                              change SpecOp _ _ _ _ 1 (Act.put (canon _ v _ []) (some 338) (v 0)) w' _
                              rw [e0]
                              simp only [canon_nil, Act.put, List.setIfInBounds_toArray, List.set_cons_zero, List.set_cons_succ]
                              refine spec_of rfl (fun KK hK => ?_)
                              go_simp
                              exact hK.out _ _ (Below.refl _ _) rfl
                            | 2, _ =>
                              intro v w' hR hd
                              have e1 : v 1 = .pointer (some ⟨bQa, ii, none⟩) := hd 1 (by decide)
                              change SpecOp _ _ _ _ 2 (Act.put (canon _ v _ []) (some 339) (v 1)) w' _
                              rw [e1]
                              simp only [canon_nil, Act.put, List.setIfInBounds_toArray, List.set_cons_zero, List.set_cons_succ]
                              have q0 := (hR.cell (p := ⟨bQa, ii, none⟩) zQa).trans cQi
                              refine spec_of rfl (fun KK hK => ?_)
                              go_simp
                              exact hK.out _ _ (Below.refl _ _) rfl
                            | 3, _ =>
                              intro v w' hR hd
                              change SpecOp _ _ _ _ 3 (canon _ v _ []) w' _
                              simp only [canon_nil]
                              refine spec_of rfl (fun KK hK => ?_)
                              go_simp
                              exact hK.out _ _ (Below.refl _ _) rfl
                            | 4, _ =>
                              intro v w' hR hd
                              have e3 : v 3 = .int .i64 ((ii : Int)) := hd 3 (by decide)
                              change SpecOp _ _ _ _ 4 (Act.put (canon _ v _ []) (some 341) (v 3)) w' _
                              rw [e3]
                              simp only [canon_nil, Act.put, List.setIfInBounds_toArray, List.set_cons_zero, List.set_cons_succ]
                              refine spec_of rfl (fun KK hK => ?_)
                              go_simp
                              exact hK.out _ _ (Below.refl _ _) rfl
                            | 5, _ =>
                              intro v w' hR hd
                              have e4 : v 4 = .pointer (some ⟨bPa, ii, none⟩) := hd 4 (by decide)
                              change SpecOp _ _ _ _ 5 (Act.put (canon _ v _ []) (some 342) (v 4)) w' _
                              rw [e4]
                              simp only [canon_nil, Act.put, List.setIfInBounds_toArray, List.set_cons_zero, List.set_cons_succ]
                              have q0 := (hR.cell (p := ⟨bPa, ii, none⟩) zPa).trans cPi
                              refine spec_of rfl (fun KK hK => ?_)
                              go_simp
                              exact hK.out _ _ (Below.refl _ _) rfl
                            | 6, _ =>
                              intro v w' hR hd
                              have e5 : v 5 = .complex .f32 p1 p2 := hd 5 (by decide)
                              change SpecOp _ _ _ _ 6 (Act.put (canon _ v _ []) (some 343) (v 5)) w' _
                              rw [e5]
                              simp only [canon_nil, Act.put, List.setIfInBounds_toArray, List.set_cons_zero, List.set_cons_succ]
                              refine spec_of rfl (fun KK hK => ?_)
                              go_simp
                              exact hK.out _ _ (Below.refl _ _) rfl
                            | 7, _ =>
                              intro v w' hR hd
                              have e2 : v 2 = .complex .f32 r1 r2 := hd 2 (by decide)
                              have e6 : v 6 = .complex .f32 d1 d2 := hd 6 (by decide)
                              change SpecOp _ _ _ _ 7 (Act.put (Act.put (canon _ v _ []) (some 344) (v 6)) (some 340) (v 2)) w' _
                              rw [e2, e6]
                              simp only [canon_nil, Act.put, List.setIfInBounds_toArray, List.set_cons_zero, List.set_cons_succ]
                              refine spec_of rfl (fun KK hK => ?_)
                              go_simp
                              exact hK.out _ _ (Below.refl _ _) rfl
                            | i + 8, h => exact absurd h (Nat.not_lt.2 (Nat.le_add_left 8 i))
                        case hend =>
                          intro v w' hR hall
                          simp only [putL, Act.put, List.setIfInBounds_toArray, List.set_cons_zero, List.set_cons_succ]
                          have e0 : v 0 = .int .i64 ((ii : Int)) := hall 0 (by decide)
                          have e1 : v 1 = .pointer (some ⟨bQa, ii, none⟩) := hall 1 (by decide)
                          have e2 : v 2 = .complex .f32 r1 r2 := hall 2 (by decide)
                          have e3 : v 3 = .int .i64 ((ii : Int)) := hall 3 (by decide)
                          have e4 : v 4 = .pointer (some ⟨bPa, ii, none⟩) := hall 4 (by decide)
                          have e5 : v 5 = .complex .f32 p1 p2 := hall 5 (by decide)
                          have e6 : v 6 = .complex .f32 d1 d2 := hall 6 (by decide)
                          have e7 : v 7 = .bool false := hall 7 (by decide)
                          rw [e0, e1, e2, e3, e4, e5, e6, e7]
                          clear hall e0 e1 e2 e3 e4 e5 e6 e7
                          obtain ⟨u27w, hwn⟩ : ∃ s, w' = s := ⟨_, rfl⟩
                          rw [hwn] at hR ⊢
                          clear hwn
                          replace HXPa := Lib.hid (HXPa.out.below hR)
                          replace HXQa := Lib.hid (HXQa.out.below hR)
                          replace HB := Lib.hid (HB.out.trans (hR.mono HB.out.size))
                          clear hR
                          have hlt := HIL.out
                          go_wp2_with fail
                          go_roundw
                          case rel => exact ⟨ii + 1, hlt, by go_num, HXPa, HXQa, HB.out⟩
                          case measure => simp [intOf]; omega
                      · skip
                        obtain rfl : ii = 4 := by omega
                        clear hlt hi
                        go_wp2_with fail
                        refine (Hhaw.out _ HB.out).mono ?_
                        rintro e ww ⟨rfl, hb⟩
                        have HB2 := Lib.hid (HB.out.trans (hb.mono HB.out.size))
                        go_wp2
                        go_ret
                        exact ⟨rfl, HB2.out⟩
            · skip
              have hz0 : (tz == 0) = false := by simp; exact fun h => h0 h.symm
              clear HhownY HhscH Hhtz
              clear HXTw HRTw
              go_upto_region 28 with fail
              go_wp2_with (first | (refine wpList_load_box rfl 135 _ rfl bL _ _ HXL.out rfl _ Tryz.underlying135 rfl (by kernel_rfl) ?_))
              refine (Hhfour.out _ HB.out).mono ?_
              rintro e u28w ⟨rfl, hb⟩
              replace HXA := Lib.hid (HXA.out.below hb)
              replace HXB := Lib.hid (HXB.out.below hb)
              replace HXL := Lib.hid (HXL.out.below hb)
              replace HB := Lib.hid (HB.out.trans (hb.mono HB.out.size))
              clear hb
              go_upto_region 29 with fail
              have hn := Blk.new u28w 138 #[.complex .f32 (P 0).1 (P 0).2, .complex .f32 (P 1).1 (P 1).2, .complex .f32 (P 2).1 (P 2).2, .complex .f32 (P 3).1 (P 3).2]
              have hb : Below u28w.heap.size u28w (u28w.alloc (.cells #[.complex .f32 (P 0).1 (P 0).2, .complex .f32 (P 1).1 (P 1).2, .complex .f32 (P 2).1 (P 2).2, .complex .f32 (P 3).1 (P 3).2] 138)) := (Below.refl _ _).alloc (Nat.le_refl _) _
              have hge := HB.out.size
              have hlt_A := HXA.out.lt
              have hlt_B := HXB.out.lt
              have hlt_L := HXL.out.lt
              obtain ⟨bPa, hl⟩ : ∃ b, u28w.heap.size = b := ⟨_, rfl⟩
              generalize u28w.alloc (.cells #[.complex .f32 (P 0).1 (P 0).2, .complex .f32 (P 1).1 (P 1).2, .complex .f32 (P 2).1 (P 2).2, .complex .f32 (P 3).1 (P 3).2] 138) = u29w at hn hb ⊢
              replace HXA := Lib.hid (HXA.out.below hb)
              replace HXB := Lib.hid (HXB.out.below hb)
              replace HXL := Lib.hid (HXL.out.below hb)
              replace HB := Lib.hid (HB.out.trans (hb.mono HB.out.size))
              clear hb
              rw [hl] at hn hge hlt_A hlt_B hlt_L
              try rw [hl]
              have HXPa := Lib.hid hn; have HGPa := Lib.hid hge; clear hn hl hge
              have HNPaA : RowKit.Hid (bA < bPa) := Lib.hid (by omega); have HNPaB : RowKit.Hid (bB < bPa) := Lib.hid (by omega); have HNPaL : RowKit.Hid (bL < bPa) := Lib.hid (by omega)
              clear hlt_A hlt_B hlt_L
              go_wp2_with (first | (refine wpList_load_box rfl 138 _ rfl bPa _ _ HXPa.out rfl _ Tryz.underlying138 rfl (by kernel_rfl) ?_))
              refine (Hhunf.out _ HB.out).mono ?_
              rintro e u30w ⟨rfl, hb⟩
              replace HXA := Lib.hid (HXA.out.below hb)
              replace HXB := Lib.hid (HXB.out.below hb)
              replace HXL := Lib.hid (HXL.out.below hb)
              replace HXPa := Lib.hid (HXPa.out.below hb)
              replace HB := Lib.hid (HB.out.trans (hb.mono HB.out.size))
              clear hb
              go_upto_region 30 with fail
              have hn := Blk.new u30w 135 #[.float .f32 (V 0), .float .f32 (V 1), .float .f32 (V 2), .float .f32 (V 3)]
              have hb : Below u30w.heap.size u30w (u30w.alloc (.cells #[.float .f32 (V 0), .float .f32 (V 1), .float .f32 (V 2), .float .f32 (V 3)] 135)) := (Below.refl _ _).alloc (Nat.le_refl _) _
              have hge := HB.out.size
              have hlt_A := HXA.out.lt
              have hlt_B := HXB.out.lt
              have hlt_L := HXL.out.lt
              have hlt_Pa := HXPa.out.lt
              obtain ⟨bBa, hl⟩ : ∃ b, u30w.heap.size = b := ⟨_, rfl⟩
              generalize u30w.alloc (.cells #[.float .f32 (V 0), .float .f32 (V 1), .float .f32 (V 2), .float .f32 (V 3)] 135) = u31w at hn hb ⊢
              replace HXA := Lib.hid (HXA.out.below hb)
              replace HXB := Lib.hid (HXB.out.below hb)
              replace HXL := Lib.hid (HXL.out.below hb)
              replace HXPa := Lib.hid (HXPa.out.below hb)
              replace HB := Lib.hid (HB.out.trans (hb.mono HB.out.size))
              clear hb
              rw [hl] at hn hge hlt_A hlt_B hlt_L hlt_Pa
              try rw [hl]
              have HXBa := Lib.hid hn; have HGBa := Lib.hid hge; clear hn hl hge
              have HNBaA : RowKit.Hid (bA < bBa) := Lib.hid (by omega); have HNBaB : RowKit.Hid (bB < bBa) := Lib.hid (by omega); have HNBaL : RowKit.Hid (bL < bBa) := Lib.hid (by omega); have HNBaPa : RowKit.Hid (bPa < bBa) := Lib.hid (by omega)
              clear hlt_A hlt_B hlt_L hlt_Pa
              have cPa0 := HXPa.out.cell 0; have cPa1 := HXPa.out.cell 1; have cPa2 := HXPa.out.cell 2; have cPa3 := HXPa.out.cell 3
              simp only [List.getElem?_toArray, List.getElem?_cons_zero, List.getElem?_cons_succ] at cPa0 cPa1 cPa2 cPa3
              have hp0 := Hhp0.out; have hp2 := Hhp2.out; have hp13 := Hhp13.out; have hng : ∀ W, (Op.unary .neg (.float .f32 (P 3).2)).run Tryz.prog W = .ok (.float .f32 ng) W := (fun W => by rw [← Hhng.out]; rfl); have hp13i := Hhp13i.out; have heqV := HheqV.out
              go_wp2_with (first | (refine wpList_load_box rfl 135 _ rfl bBa _ _ HXBa.out rfl _ Tryz.underlying135 rfl (by kernel_rfl) ?_) | (refine wpList_load_box rfl 135 _ rfl bL _ _ HXL.out rfl _ Tryz.underlying135 rfl (by kernel_rfl) ?_))
              clear cPa0 cPa1 cPa2 cPa3 hp0 hp2 hp13 hng hp13i heqV
              clear HXBa
              have HFM : RowKit.Hid (Blk u31w bL 135 (fm_b L L2 0)) := HXL
              go_loopw [309] (fun iv wr => ∃ i : Nat, i ≤ 4 ∧ iv = .int .i64 i ∧ RowKit.Hid (Blk wr bL 135 (fm_b L L2 i)) ∧ RowKit.Hid (Blk wr bPa 138 #[.complex .f32 (P 0).1 (P 0).2, .complex .f32 (P 1).1 (P 1).2, .complex .f32 (P 2).1 (P 2).2, .complex .f32 (P 3).1 (P 3).2]) ∧ RowKit.Hid (∀ j, j < i → big j = false) ∧ Below w.heap.size w wr) (fun iv _ => 4 - (intOf iv).toNat)
              case atStart => exact ⟨0, by omega, rfl, HFM, HXPa, Lib.hid (fun j hj => absurd hj (Nat.not_lt_zero j)), HB.out⟩
              case round =>
                clear HFM HXPa HXL HXA HXB HB
                obtain ⟨i, hi, rfl, HXL, HXPa, HLOW, hbel⟩ := hrel
                have HB := Lib.hid hbel; clear hbel
                by_cases hlt : i < 4
                · skip
                  have cLi := (HXL.out.cell i).trans (fm_b_at L L2 i hlt)
                  have fLi := HXL.out.frozen i
                  obtain ⟨lv, hlv⟩ : ∃ z, L i = z := ⟨_, rfl⟩
                  have hbg := Hhbig.out i hlt
                  have hdb := Hhdbl.out i hlt
                  rw [hlv] at cLi hbg hdb
                  obtain ⟨pg, hpg⟩ : ∃ z, (FloatKind.f32.format.order lv 1140850688 == some .gt) = z := ⟨_, rfl⟩
                  obtain ⟨pl, hpl⟩ : ∃ z, (FloatKind.f32.format.order lv 3288334336 == some .lt) = z := ⟨_, rfl⟩
                  rw [hpg, hpl] at hbg
                  have HBG := Lib.hid hbg; clear hbg
                  have hmul : ∀ W, (binOp .mul 23 (.float .f32 1073741824) (.float .f32 lv)).run Tryz.prog W = .ok (.float .f32 (L2 i)) W := fun W => run_float_arith W .mul _ .f32 _ _ _ hdb
                  have HLV := Lib.hid hlv; clear hdb hlv
                  cases pg with
                  | true =>
                    go_wp2_with fail
                    refine (Hhaw.out _ HB.out).mono ?_
                    rintro e ww ⟨rfl, hb⟩
                    have HB2 := Lib.hid (HB.out.trans (hb.mono HB.out.size))
                    go_wp2
                    go_ret
                    exact ⟨rfl, HB2.out⟩
                  | false =>
                    cases pl with
                    | true =>
                      go_wp2_with fail
                      refine (Hhaw.out _ HB.out).mono ?_
                      rintro e ww ⟨rfl, hb⟩
                      have HB2 := Lib.hid (HB.out.trans (hb.mono HB.out.size))
                      go_wp2
                      go_ret
                      exact ⟨rfl, HB2.out⟩
                    | false =>
                      have hset := HXL.out.set_ i (.float .f32 (L2 i))
                      rw [fm_b_set L L2 i hlt] at hset
                      have hpa := HXPa.out.far (p := ⟨bL, i, none⟩) (by have := HNPaL.out; simp; omega) (.float .f32 (L2 i))
                      have hbs := HB.out.setCell (p := ⟨bL, i, none⟩) (by have := hAL.out; simp; omega) (.float .f32 (L2 i))
                      have HS1 := Lib.hid hset; have HS2 := Lib.hid hpa; have HS3 := Lib.hid hbs; clear hset hpa hbs
                      go_wp2
                      go_roundw
                      case rel => exact ⟨i + 1, hlt, by go_num, HS1, HS2, Lib.hid (fun j hj => by by_cases e : j = i; (· subst e; exact HBG.out.symm); (· exact HLOW.out j (by omega))), HS3.out⟩
                      case measure => simp [intOf]; omega
                · skip
                  obtain rfl : i = 4 := by omega
                  clear hlt hi
                  have HXL4 : RowKit.Hid (Blk wr bL 135 #[.float .f32 (L2 0), .float .f32 (L2 1), .float .f32 (L2 2), .float .f32 (L2 3)]) := HXL
                  clear HXL
                  go_wp2_with (first | (refine wpList_load_box rfl 135 _ rfl bL _ _ HXL4.out rfl _ Tryz.underlying135 rfl (by kernel_rfl) ?_))
                  refine (Hhfour2.out _ HB.out HLOW.out).mono ?_
                  rintro e u32w ⟨rfl, hb⟩
                  replace HXL4 := Lib.hid (HXL4.out.below hb)
                  replace HXPa := Lib.hid (HXPa.out.below hb)
                  replace HB := Lib.hid (HB.out.trans (hb.mono HB.out.size))
                  clear hb
                  go_upto_region 40 with fail
                  have bL4 := bL
                  clear bL4 HXL4
                  have hn := Blk.new u32w 138 #[.complex .f32 (R 0).1 (R 0).2, .complex .f32 (R 1).1 (R 1).2, .complex .f32 (R 2).1 (R 2).2, .complex .f32 (R 3).1 (R 3).2]
                  have hb : Below u32w.heap.size u32w (u32w.alloc (.cells #[.complex .f32 (R 0).1 (R 0).2, .complex .f32 (R 1).1 (R 1).2, .complex .f32 (R 2).1 (R 2).2, .complex .f32 (R 3).1 (R 3).2] 138)) := (Below.refl _ _).alloc (Nat.le_refl _) _
                  have hge := HB.out.size
                  have hlt_Pa := HXPa.out.lt
                  obtain ⟨bQa, hl⟩ : ∃ b, u32w.heap.size = b := ⟨_, rfl⟩
                  generalize u32w.alloc (.cells #[.complex .f32 (R 0).1 (R 0).2, .complex .f32 (R 1).1 (R 1).2, .complex .f32 (R 2).1 (R 2).2, .complex .f32 (R 3).1 (R 3).2] 138) = u33w at hn hb ⊢
                  replace HXPa := Lib.hid (HXPa.out.below hb)
                  replace HB := Lib.hid (HB.out.trans (hb.mono HB.out.size))
                  clear hb
                  rw [hl] at hn hge hlt_Pa
                  try rw [hl]
                  have HXQa := Lib.hid hn; have HGQa := Lib.hid hge; clear hn hl hge
                  have HNQaPa : RowKit.Hid (bPa < bQa) := Lib.hid (by omega)
                  clear hlt_Pa
                  go_wp2_with fail
                  go_loopw [335] (fun iv wr => ∃ ii : Nat, ii ≤ 4 ∧ iv = .int .i64 ii ∧ RowKit.Hid (Blk wr bPa 138 #[.complex .f32 (P 0).1 (P 0).2, .complex .f32 (P 1).1 (P 1).2, .complex .f32 (P 2).1 (P 2).2, .complex .f32 (P 3).1 (P 3).2]) ∧ RowKit.Hid (Blk wr bQa 138 #[.complex .f32 (R 0).1 (R 0).2, .complex .f32 (R 1).1 (R 1).2, .complex .f32 (R 2).1 (R 2).2, .complex .f32 (R 3).1 (R 3).2]) ∧ Below w.heap.size w wr) (fun iv _ => 4 - (intOf iv).toNat)
                  case atStart => exact ⟨0, by omega, rfl, HXPa, HXQa, HB.out⟩
                  case round =>
                    clear HXPa HXQa HB
                    obtain ⟨ii, hi, rfl, HXPa, HXQa, hbel⟩ := hrel
                    have HB := Lib.hid hbel; clear hbel
                    by_cases hlt : ii < 4
                    · skip
                      have hid : decide ((ii : Int) < 4) = true := by simp; omega
                      go_upto_region 43 with fail
                      have cPi := (HXPa.out.cell ii).trans (cm_b_at P ii hlt)
                      have cQi := (HXQa.out.cell ii).trans (cm_b_at R ii hlt)
                      have zPa := HXPa.out.lt; have zQa := HXQa.out.lt
                      have hil : (ii : Int) < 4 := by omega
                      have hcm := Hhcm.out ii hlt; have hcr := Hhcr.out ii hlt
                      obtain ⟨p, hp⟩ : ∃ z, P ii = z := ⟨_, rfl⟩
                      obtain ⟨r, hr⟩ : ∃ z, R ii = z := ⟨_, rfl⟩
                      obtain ⟨d, hd⟩ : ∃ z, D ii = z := ⟨_, rfl⟩
                      rw [hp] at cPi hcm
                      rw [hr] at cQi hcr
                      rw [hd] at hcm hcr
                      obtain ⟨p1, p2⟩ := p
                      obtain ⟨r1, r2⟩ := r
                      obtain ⟨d1, d2⟩ := d
                      simp only [] at cPi cQi hcm hcr
                      obtain ⟨hcr1, hcr2⟩ := hcr
                      have hml : ∀ W, (binOp .mul 137 (.complex .f32 1073741824 0) (.complex .f32 p1 p2)).run Tryz.prog W = .ok (.complex .f32 d1 d2) W := fun W => run_complex64_mul W _ _ _ _ _ _ _ hcm
                      have HIL := Lib.hid hlt; clear hlt hp hr hd hcm
                      refine wp_region_facts [Fact.is (.int .i64 ((ii : Int))), Fact.is (.pointer (some ⟨bQa, ii, none⟩)), Fact.is (.complex .f32 r1 r2), Fact.is (.int .i64 ((ii : Int))), Fact.is (.pointer (some ⟨bPa, ii, none⟩)), Fact.is (.complex .f32 p1 p2), Fact.is (.complex .f32 d1 d2), Fact.is (.bool false)] [[], [0], [1], [], [3], [4], [5], [2, 6]] [(some 338, 0), (some 339, 1), (some 340, 2), (some 341, 3), (some 342, 4), (some 343, 5), (some 344, 6), (some 345, 7)] (by kernel_rfl) (by kernel_rfl) (by kernel_rfl) (by kernel_rfl) (fun _ _ _ _ e h => by have h1 : _ ∧ _ := h; exact ⟨e ▸ h1.1, h1.2⟩) ?hstep ?hend
                      case hstep =>
                        generalize Exit.then _ _ = QQ
                        as_aux_lemma =>
                          intro i hi
                          match i, hi with
                          | 0, _ =>
                            intro v w' hR hd
                            change SpecOp _ _ _ _ 0 (canon _ v _ []) w' _
                            simp only [canon_nil]
                            refine spec_of rfl (fun KK hK => ?_)
                            go_simp
                            exact hK.out _ _ (Below.refl _ _) rfl
                          | 1, _ =>
                            intro v w' hR hd
                            have e0 : v 0 = .int .i64 ((ii : Int)) := hd 0 (by decide)
                            change SpecOp _ _ _ _ 1 (Act.put (canon _ v _ []) (some 338) (v 0)) w' _
                            rw [e0]
                            simp only [canon_nil, Act.put, List.setIfInBounds_toArray, List.set_cons_zero, List.set_cons_succ]
                            refine spec_of rfl (fun KK hK => ?_)
                            go_simp
                            exact hK.out _ _ (Below.refl _ _) rfl
                          | 2, _ =>
                            intro v w' hR hd
                            have e1 : v 1 = .pointer (some ⟨bQa, ii, none⟩) := hd 1 (by decide)
                            change SpecOp _ _ _ _ 2 (Act.put (canon _ v _ []) (some 339) (v 1)) w' _
                            rw [e1]
                            simp only [canon_nil, Act.put, List.setIfInBounds_toArray, List.set_cons_zero, List.set_cons_succ]
                            have q0 := (hR.cell (p := ⟨bQa, ii, none⟩) zQa).trans cQi
                            refine spec_of rfl (fun KK hK => ?_)
                            go_simp
                            exact hK.out _ _ (Below.refl _ _) rfl
                          | 3, _ =>
                            intro v w' hR hd
                            change SpecOp _ _ _ _ 3 (canon _ v _ []) w' _
                            simp only [canon_nil]
                            refine spec_of rfl (fun KK hK => ?_)
                            go_simp
                            exact hK.out _ _ (Below.refl _ _) rfl
                          | 4, _ =>
                            intro v w' hR hd
                            have e3 : v 3 = .int .i64 ((ii : Int)) := hd 3 (by decide)
                            change SpecOp _ _ _ _ 4 (Act.put (canon _ v _ []) (some 341) (v 3)) w' _
                            rw [e3]
                            simp only [canon_nil, Act.put, List.setIfInBounds_toArray, List.set_cons_zero, List.set_cons_succ]
                            refine spec_of rfl (fun KK hK => ?_)
                            go_simp
                            exact hK.out _ _ (Below.refl _ _) rfl
                          | 5, _ =>
                            intro v w' hR hd
                            have e4 : v 4 = .pointer (some ⟨bPa, ii, none⟩) := hd 4 (by decide)
                            change SpecOp _ _ _ _ 5 (Act.put (canon _ v _ []) (some 342) (v 4)) w' _
                            rw [e4]
                            simp only [canon_nil, Act.put, List.setIfInBounds_toArray, List.set_cons_zero, List.set_cons_succ]
                            have q0 := (hR.cell (p := ⟨bPa, ii, none⟩) zPa).trans cPi
                            refine spec_of rfl (fun KK hK => ?_)
                            go_simp
                            exact hK.out _ _ (Below.refl _ _) rfl
                          | 6, _ =>
                            intro v w' hR hd
                            have e5 : v 5 = .complex .f32 p1 p2 := hd 5 (by decide)
                            change SpecOp _ _ _ _ 6 (Act.put (canon _ v _ []) (some 343) (v 5)) w' _
                            rw [e5]
                            simp only [canon_nil, Act.put, List.setIfInBounds_toArray, List.set_cons_zero, List.set_cons_succ]
                            refine spec_of rfl (fun KK hK => ?_)
                            go_simp
                            exact hK.out _ _ (Below.refl _ _) rfl
                          | 7, _ =>
                            intro v w' hR hd
                            have e2 : v 2 = .complex .f32 r1 r2 := hd 2 (by decide)
                            have e6 : v 6 = .complex .f32 d1 d2 := hd 6 (by decide)
                            change SpecOp _ _ _ _ 7 (Act.put (Act.put (canon _ v _ []) (some 344) (v 6)) (some 340) (v 2)) w' _
                            rw [e2, e6]
                            simp only [canon_nil, Act.put, List.setIfInBounds_toArray, List.set_cons_zero, List.set_cons_succ]
                            refine spec_of rfl (fun KK hK => ?_)
                            go_simp
                            exact hK.out _ _ (Below.refl _ _) rfl
                          | i + 8, h => exact absurd h (Nat.not_lt.2 (Nat.le_add_left 8 i))
                      case hend =>
                        intro v w' hR hall
                        simp only [putL, Act.put, List.setIfInBounds_toArray, List.set_cons_zero, List.set_cons_succ]
                        have e0 : v 0 = .int .i64 ((ii : Int)) := hall 0 (by decide)
                        have e1 : v 1 = .pointer (some ⟨bQa, ii, none⟩) := hall 1 (by decide)
                        have e2 : v 2 = .complex .f32 r1 r2 := hall 2 (by decide)
                        have e3 : v 3 = .int .i64 ((ii : Int)) := hall 3 (by decide)
                        have e4 : v 4 = .pointer (some ⟨bPa, ii, none⟩) := hall 4 (by decide)
                        have e5 : v 5 = .complex .f32 p1 p2 := hall 5 (by decide)
                        have e6 : v 6 = .complex .f32 d1 d2 := hall 6 (by decide)
                        have e7 : v 7 = .bool false := hall 7 (by decide)
                        rw [e0, e1, e2, e3, e4, e5, e6, e7]
                        clear hall e0 e1 e2 e3 e4 e5 e6 e7
                        obtain ⟨u34w, hwn⟩ : ∃ s, w' = s := ⟨_, rfl⟩
                        rw [hwn] at hR ⊢
                        clear hwn
                        replace HXPa := Lib.hid (HXPa.out.below hR)
                        replace HXQa := Lib.hid (HXQa.out.below hR)
                        replace HB := Lib.hid (HB.out.trans (hR.mono HB.out.size))
                        clear hR
                        have hlt := HIL.out
                        go_wp2_with fail
                        go_roundw
                        case rel => exact ⟨ii + 1, hlt, by go_num, HXPa, HXQa, HB.out⟩
                        case measure => simp [intOf]; omega
                    · skip
                      obtain rfl : ii = 4 := by omega
                      clear hlt hi
                      go_wp2_with fail
                      refine (Hhaw.out _ HB.out).mono ?_
                      rintro e ww ⟨rfl, hb⟩
                      have HB2 := Lib.hid (HB.out.trans (hb.mono HB.out.size))
                      go_wp2
                      go_ret
                      exact ⟨rfl, HB2.out⟩
end Go.Proofs.YtlicgblagkkcfaaGreatDoor
