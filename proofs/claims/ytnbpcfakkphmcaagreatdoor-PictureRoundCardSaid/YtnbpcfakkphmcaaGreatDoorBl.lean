/- PictureTurns: the walk of the law. -/
import Derived.Test.YtnbpcfakkphmcaaGreatDoorBk
import Derived.Test.YtnbpcfakkphmcaaGreatDoorP2
import Derived.Test.YtnbpcfakkphmcaaGreatDoorP2
import Derived.Test.YtnbpcfakkphmcaaGreatDoorP2
namespace Go.Proofs.YtnbpcfakkphmcaaGreatDoor
open Go.RowKit
set_option linter.unusedVariables false
set_option maxRecDepth 100000
/-- A law's end: true, and nothing of old turned. -/
def TrueEnd (w : World) (e : Ending) (w' : World) : Prop := e = .returned (.bool true) ∧ Below w.heap.size w w'
theorem trueEnd_mk {w w' : World} {e : Ending} (h : e = .returned (.bool true)) (hb : Below w.heap.size w w') : TrueEnd w e w' := ⟨h, hb⟩
theorem bl_far4 {w : World} {k g : Nat} {t : TypeId} {cs : Array Value} (h : Blk w k t cs) (hk : ¬ k = g) (a b c d : Value) : Blk ((((w.setCell ⟨g, 0, none⟩ a).setCell ⟨g, 1, none⟩ b).setCell ⟨g, 2, none⟩ c).setCell ⟨g, 3, none⟩ d) k t cs :=
  (((h.far (p := ⟨g, 0, none⟩) hk a).far (p := ⟨g, 1, none⟩) hk b).far (p := ⟨g, 2, none⟩) hk c).far (p := ⟨g, 3, none⟩) hk d
theorem blk_set4' {w : World} {g : Nat} {t : TypeId} {x0 x1 x2 x3 : Value} (h : Blk w g t #[x0, x1, x2, x3]) (a b c d : Value) : Blk ((((w.setCell ⟨g, 0, none⟩ a).setCell ⟨g, 1, none⟩ b).setCell ⟨g, 2, none⟩ c).setCell ⟨g, 3, none⟩ d) g t #[a, b, c, d] := by
  have := (((h.set_ 0 a).set_ 1 b).set_ 2 c).set_ 3 d
  simpa using this
theorem nf_four {a b c d : Value} (ha : fltV a = false) (hb : fltV b = false) (hc : fltV c = false) (hd : fltV d = false) : NF #[a, b, c, d] := fun k u hu => by
  match k with
  | 0 => cases hu; exact ha
  | 1 => cases hu; exact hb
  | 2 => cases hu; exact hc
  | 3 => cases hu; exact hd
  | k + 4 => simp at hu
theorem rdl_set4 {w : World} {A : Option Addr} {l : List Nat} {g : Nat} {t : TypeId} {cs : Array Value} (h : Rd w A (fl l)) (hb : Blk w g t cs) (hn : NF cs) (x0 x1 x2 x3 : Value) (f0 : fltV x0 = false) (f1 : fltV x1 = false) (f2 : fltV x2 = false) : Rd ((((w.setCell ⟨g, 0, none⟩ x0).setCell ⟨g, 1, none⟩ x1).setCell ⟨g, 2, none⟩ x2).setCell ⟨g, 3, none⟩ x3) A (fl l) :=
  rd_set (rd_set (rd_set (rd_set h hb hn 0 x0) (hb.set_ 0 x0) (hn.set 0 x0 f0) 1 x1) ((hb.set_ 0 x0).set_ 1 x1) ((hn.set 0 x0 f0).set 1 x1 f1) 2 x2) (((hb.set_ 0 x0).set_ 1 x1).set_ 2 x2) (((hn.set 0 x0 f0).set 1 x1 f1).set 2 x2 f2) 3 x3
/-- Both fields, by the code or by the reference. -/
def FieldsBoth (nm : ByteArray) (W K1 K2 m1 m2 : Nat) (L1 L2 : List Nat) (w : World) (e : Ending) (w' : World) : Prop := ∃ A1 e1 A2 e2, e = .returned (.tuple #[.agg #[.string nm, .int .i64 (W : Int), .int .i64 (K1 : Int), .slice A1 m1 e1, .string nm, .int .i64 (W : Int), .int .i64 (K2 : Int), .slice A2 m2 e2], .int .i64 0]) ∧ Rd w' A1 (fl L1) ∧ Rd w' A2 (fl L2) ∧ Below w.heap.size w w'
theorem fields_code (nm : ByteArray) (W H K1 K2 : Nat) (l : List Nat) (hp : (Pic.mk nm W H l).Ok) (he : (Pic.mk nm W H l).err = 0) (h2 : 2 ≤ H) (hK1 : (H + 1) / 2 = K1) (hK2 : H / 2 = K2) (A : Option Addr) (c : Nat) (w : World) (hcap : l.length ≤ c) (hr : Rd w A (fl l)) :
    Calls Tryz.prog 48 #[.agg #[.string nm, .int .i64 (W : Int), .int .i64 (H : Int), .slice A l.length c]] w (FieldsBoth nm W K1 K2 (W * K1) (W * K2) (pickL l (fieldN W 0) (W * K1)) (pickL l (fieldN W 1) (W * K2)) w) :=
  (fields_ok nm W H K1 K2 l hp he h2 hK1 hK2 A c w (ok_sizes hp).2.2.2.1 hcap hr).mono fun e w' ⟨ga, gb, h1, _, h3, h4, h5⟩ => ⟨some ⟨ga, 0, none⟩, _, some ⟨gb, 0, none⟩, _, h1, rd_pick h3 (fun i => rfl), rd_pick h4 (fun i => rfl), h5⟩
theorem fields_ref (nm : ByteArray) (W H K1 K2 : Nat) (l : List Nat) (hp : (Pic.mk nm W H l).Ok) (h2 : 2 ≤ H) (hK1 : (H + 1) / 2 = K1) (hK2 : H / 2 = K2) (ad : Addr) (c : Nat) (w : World) (hcap : l.length ≤ c) (hr : Rd w (some ad) (fl l)) :
    Calls Tryz.prog 51 #[.agg #[.string nm, .int .i64 (W : Int), .int .i64 (H : Int), .slice (some ad) l.length c]] w (FieldsBoth nm W K1 K2 (W * K1) (W * K2) (pickL l (fieldN W 0) (W * K1)) (pickL l (fieldN W 1) (W * K2)) w) := by
  have h := fieldsR_ok nm W H K1 K2 l (ok_sizes hp).1 ⟨h2, (ok_sizes hp).2.1.2⟩ (ok_sizes hp).2.2.1 hK1.symm hK2.symm ad c hcap w hr
  rw [Nat.mul_comm W K1, Nat.mul_comm W K2]
  exact h
def BoolEnd (b : Bool) (w : World) (e : Ending) (w' : World) : Prop := e = .returned (.bool b) ∧ Below w.heap.size w w'

set_option maxHeartbeats 1000000 in
theorem turns_long (p : Pic) (A : Option Addr) (c : Nat) (w : World) (hlaid : Laid w) (hsh : shortB p = false) : Calls Tryz.prog 6 #[p.val A c] w (TrueEnd w) := by
  have HS : RowKit.Hid (∀ w, Calls Tryz.prog 28 #[p.val A c] w (BoolEnd false w)) := Lib.hid (fun w => by have h := shortR_any p A c w; rw [hsh] at h; exact h)
  unfold Pic.val at HS ⊢
  have HL := Lib.hid hlaid; clear hlaid
  have HB := Lib.hid (Below.refl w.heap.size w)
  go_enter Tryz.func6, Tryz.ntmps6
  go_upto_region 1 with fail
  have hn := Blk.new w 43 #[.string p.name, .int .i64 p.w, .int .i64 p.h, .slice A p.l.length c]
  have hb : Below w.heap.size w (w.alloc (.cells #[.string p.name, .int .i64 p.w, .int .i64 p.h, .slice A p.l.length c] 43)) := (Below.refl _ _).alloc (Nat.le_refl _) _
  have hge := HB.out.size
  obtain ⟨bP, hl⟩ : ∃ b, w.heap.size = b := ⟨_, rfl⟩
  generalize w.alloc (.cells #[.string p.name, .int .i64 p.w, .int .i64 p.h, .slice A p.l.length c] 43) = u0 at hn hb ⊢
  replace HB := Lib.hid (HB.out.trans (hb.mono HB.out.size))
  clear hb
  rw [hl] at hn hge
  try rw [hl]
  have HXP := Lib.hid hn; have HGP := Lib.hid hge; clear hn hl hge
  obtain ⟨cHXP_0, cHXP_1, cHXP_2, cHXP_3⟩ := box4 HXP.out
  go_wp2_with fail
  refine (HS.out _).mono ?_
  rintro e u1 ⟨rfl, hb⟩
  replace HXP := Lib.hid (HXP.out.below hb); replace HB := Lib.hid (HB.out.trans (hb.mono HB.out.size))
  clear hb
  clear cHXP_0 cHXP_1 cHXP_2 cHXP_3
  obtain ⟨cHXP_0, cHXP_1, cHXP_2, cHXP_3⟩ := box4 HXP.out
  go_wp2_with fail
  refine (awake_laid _ (HL.out.below HB.out)).mono ?_
  rintro e uz ⟨rfl, hb⟩
  replace HXP := Lib.hid (HXP.out.below hb); replace HB := Lib.hid (HB.out.trans (hb.mono HB.out.size))
  clear hb
  go_wp2
  go_ret
  exact trueEnd_mk rfl HB.out

set_option maxHeartbeats 2000000 in
theorem turns_bad (p : Pic) (A : Option Addr) (c : Nat) (w : World) (hlaid : Laid w) (hsh : shortB p = true) (hne : p.err ≠ 0) (hA : A = none → p.l.length = 0 ∧ c = 0) (hr : Rd w A (fl p.l)) : Calls Tryz.prog 6 #[p.val A c] w (TrueEnd w) := by
  obtain ⟨hs0, hl0⟩ := short_facts hsh
  have hs : p.name.size ≤ maxLen := Nat.le_trans hs0 (by decide)
  have hl : p.l.length ≤ maxLen := Nat.le_trans hl0 (by decide)
  have hl4 : p.l.length ≤ 4096 := Nat.le_trans hl0 (by decide)
  have HS : RowKit.Hid (∀ w, Calls Tryz.prog 28 #[p.val A c] w (BoolEnd true w)) := Lib.hid (fun w => by have h := shortR_any p A c w; rw [hsh] at h; exact h)
  have HOWN := Lib.hid (fun w hr => own_any p A c w hl4 hA hr)
  have HCK := Lib.hid (fun w hr => checkPictureR_any p A c w hs hl4 hr)
  have HF1 := Lib.hid (fun (g c' : Nat) w hr => flipped_err p (some ⟨g, 0, none⟩) c' w hs hl hr hne)
  have HF2 := Lib.hid (fun (g c' : Nat) w hr => transposed_err p (some ⟨g, 0, none⟩) c' w hs hl hr hne)
  have hz3 : firstE [p.err, errIf (p.h == 1) 16] = p.err := by simp [firstE, hne]
  have HF3 := Lib.hid (fun (g c' : Nat) w hr => fields_err p (some ⟨g, 0, none⟩) c' w hs hl hr p.err hz3 hne)
  unfold OwnEnd at HOWN
  unfold Pic.val at HS HOWN HCK HF1 HF2 HF3 ⊢
  clear hs hl hl4 hz3 hs0 hl0 hA
  obtain ⟨n, hn⟩ : ∃ n, p.l.length = n := ⟨_, rfl⟩
  obtain ⟨z, hz⟩ : ∃ z, p.err = z := ⟨_, rfl⟩
  rw [hn] at HS HOWN HCK HF1 HF2 HF3 ⊢
  rw [hz] at HCK HF1 HF2 HF3 hne
  clear hn hz hsh
  have hz' : (z == 0) = false := by simpa using hne
  have HNE := Lib.hid hne; clear hne
  have HR := Lib.hid hr; clear hr
  have HL := Lib.hid hlaid; clear hlaid
  have HB := Lib.hid (Below.refl w.heap.size w)
  go_enter Tryz.func6, Tryz.ntmps6
  go_upto_region 1 with fail
  have hn := Blk.new w 43 #[.string p.name, .int .i64 p.w, .int .i64 p.h, .slice A n c]
  have hb : Below w.heap.size w (w.alloc (.cells #[.string p.name, .int .i64 p.w, .int .i64 p.h, .slice A n c] 43)) := (Below.refl _ _).alloc (Nat.le_refl _) _
  have hge := HB.out.size
  obtain ⟨bP, hl⟩ : ∃ b, w.heap.size = b := ⟨_, rfl⟩
  generalize w.alloc (.cells #[.string p.name, .int .i64 p.w, .int .i64 p.h, .slice A n c] 43) = u0 at hn hb ⊢
  replace HR := Lib.hid (HR.out.below hb); replace HB := Lib.hid (HB.out.trans (hb.mono HB.out.size))
  clear hb
  rw [hl] at hn hge
  try rw [hl]
  have HXP := Lib.hid hn; have HGP := Lib.hid hge; clear hn hl hge
  obtain ⟨cHXP_0, cHXP_1, cHXP_2, cHXP_3⟩ := box4 HXP.out
  go_wp2_with fail
  refine (HS.out _).mono ?_
  rintro e u1 ⟨rfl, hb⟩
  replace HR := Lib.hid (HR.out.below hb); replace HXP := Lib.hid (HXP.out.below hb); replace HB := Lib.hid (HB.out.trans (hb.mono HB.out.size))
  clear hb
  clear cHXP_0 cHXP_1 cHXP_2 cHXP_3
  obtain ⟨cHXP_0, cHXP_1, cHXP_2, cHXP_3⟩ := box4 HXP.out
  go_wp2_with fail
  refine (HOWN.out _ HR.out).mono ?_
  rintro e v0 ⟨g, c', rfl, hcc, hrd, hb⟩
  replace HR := Lib.hid (HR.out.below hb); replace HXP := Lib.hid (HXP.out.below hb); replace HB := Lib.hid (HB.out.trans (hb.mono HB.out.size))
  clear hb
  have HO := Lib.hid hrd; clear hrd
  clear cHXP_0 cHXP_1 cHXP_2 cHXP_3
  obtain ⟨cHXP_0, cHXP_1, cHXP_2, cHXP_3⟩ := box4 HXP.out
  go_wp2_with fail
  refine (HF1.out g c' _ HO.out).mono ?_
  rintro e x0 ⟨rfl, hb⟩
  replace HR := Lib.hid (HR.out.below hb); replace HO := Lib.hid (HO.out.below hb); replace HXP := Lib.hid (HXP.out.below hb); replace HB := Lib.hid (HB.out.trans (hb.mono HB.out.size))
  clear hb
  clear HO
  clear cHXP_0 cHXP_1 cHXP_2 cHXP_3
  obtain ⟨cHXP_0, cHXP_1, cHXP_2, cHXP_3⟩ := box4 HXP.out
  go_upto_region 4 with fail
  clear cHXP_0 cHXP_1 cHXP_2 cHXP_3
  have hn := Blk.new x0 50 #[.string ⟨#[]⟩, .int .i64 0, .int .i64 0, .slice none 0 0]
  have hb : Below x0.heap.size x0 (x0.alloc (.cells #[.string ⟨#[]⟩, .int .i64 0, .int .i64 0, .slice none 0 0] 50)) := (Below.refl _ _).alloc (Nat.le_refl _) _
  have hge := HB.out.size
  have hlt_HXP := HXP.out.lt
  obtain ⟨bY0, hl⟩ : ∃ b, x0.heap.size = b := ⟨_, rfl⟩
  generalize x0.alloc (.cells #[.string ⟨#[]⟩, .int .i64 0, .int .i64 0, .slice none 0 0] 50) = y0 at hn hb ⊢
  replace HR := Lib.hid (HR.out.below hb); replace HXP := Lib.hid (HXP.out.below hb); replace HB := Lib.hid (HB.out.trans (hb.mono HB.out.size))
  clear hb
  rw [hl] at hn hge hlt_HXP
  try rw [hl]
  have HXY0 := Lib.hid hn; have HGY0 := Lib.hid hge; clear hn hl hge
  have HNY0HXP : RowKit.Hid (¬ bP = bY0) := Lib.hid (by omega)
  clear hlt_HXP
  obtain ⟨cHXP_0, cHXP_1, cHXP_2, cHXP_3⟩ := box4 HXP.out
  obtain ⟨cHXY0_0, cHXY0_1, cHXY0_2, cHXY0_3⟩ := box4 HXY0.out
  go_wp2_with fail
  refine (HOWN.out _ HR.out).mono ?_
  rintro e v1 ⟨g, c', rfl, hcc, hrd, hb⟩
  replace HR := Lib.hid (HR.out.below hb); replace HXP := Lib.hid (HXP.out.below hb); replace HXY0 := Lib.hid (HXY0.out.below hb); replace HB := Lib.hid (HB.out.trans (hb.mono HB.out.size))
  clear hb
  have HO := Lib.hid hrd; clear hrd
  clear cHXP_0 cHXP_1 cHXP_2 cHXP_3 cHXY0_0 cHXY0_1 cHXY0_2 cHXY0_3
  obtain ⟨cHXP_0, cHXP_1, cHXP_2, cHXP_3⟩ := box4 HXP.out
  obtain ⟨cHXY0_0, cHXY0_1, cHXY0_2, cHXY0_3⟩ := box4 HXY0.out
  go_wp2_with fail
  refine (HF2.out g c' _ HO.out).mono ?_
  rintro e x1 ⟨rfl, hb⟩
  replace HR := Lib.hid (HR.out.below hb); replace HO := Lib.hid (HO.out.below hb); replace HXP := Lib.hid (HXP.out.below hb); replace HXY0 := Lib.hid (HXY0.out.below hb)
  replace HB := Lib.hid (HB.out.trans (hb.mono HB.out.size))
  clear hb
  clear HO
  clear cHXP_0 cHXP_1 cHXP_2 cHXP_3
  clear cHXY0_0 cHXY0_1 cHXY0_2 cHXY0_3
  obtain ⟨cHXP_0, cHXP_1, cHXP_2, cHXP_3⟩ := box4 HXP.out
  obtain ⟨cHXY0_0, cHXY0_1, cHXY0_2, cHXY0_3⟩ := box4 HXY0.out
  go_upto_region 5 with fail
  clear cHXP_0 cHXP_1 cHXP_2 cHXP_3
  clear cHXY0_0 cHXY0_1 cHXY0_2 cHXY0_3
  have hn := Blk.new x1 50 #[.string ⟨#[]⟩, .int .i64 0, .int .i64 0, .slice none 0 0]
  have hb : Below x1.heap.size x1 (x1.alloc (.cells #[.string ⟨#[]⟩, .int .i64 0, .int .i64 0, .slice none 0 0] 50)) := (Below.refl _ _).alloc (Nat.le_refl _) _
  have hge := HB.out.size
  have hlt_HXP := HXP.out.lt
  have hlt_HXY0 := HXY0.out.lt
  obtain ⟨bY1, hl⟩ : ∃ b, x1.heap.size = b := ⟨_, rfl⟩
  generalize x1.alloc (.cells #[.string ⟨#[]⟩, .int .i64 0, .int .i64 0, .slice none 0 0] 50) = y1 at hn hb ⊢
  replace HR := Lib.hid (HR.out.below hb); replace HXP := Lib.hid (HXP.out.below hb); replace HXY0 := Lib.hid (HXY0.out.below hb); replace HB := Lib.hid (HB.out.trans (hb.mono HB.out.size))
  clear hb
  rw [hl] at hn hge hlt_HXP hlt_HXY0
  try rw [hl]
  have HXY1 := Lib.hid hn; have HGY1 := Lib.hid hge; clear hn hl hge
  have HNY1HXP : RowKit.Hid (¬ bP = bY1) := Lib.hid (by omega); have HNY1HXY0 : RowKit.Hid (¬ bY0 = bY1) := Lib.hid (by omega)
  clear hlt_HXP hlt_HXY0
  obtain ⟨cHXP_0, cHXP_1, cHXP_2, cHXP_3⟩ := box4 HXP.out
  obtain ⟨cHXY0_0, cHXY0_1, cHXY0_2, cHXY0_3⟩ := box4 HXY0.out
  obtain ⟨cHXY1_0, cHXY1_1, cHXY1_2, cHXY1_3⟩ := box4 HXY1.out
  go_wp2_with fail
  refine (HOWN.out _ HR.out).mono ?_
  rintro e v2 ⟨g, c', rfl, hcc, hrd, hb⟩
  replace HR := Lib.hid (HR.out.below hb); replace HXP := Lib.hid (HXP.out.below hb); replace HXY0 := Lib.hid (HXY0.out.below hb); replace HXY1 := Lib.hid (HXY1.out.below hb)
  replace HB := Lib.hid (HB.out.trans (hb.mono HB.out.size))
  clear hb
  have HO := Lib.hid hrd; clear hrd
  clear cHXP_0 cHXP_1 cHXP_2 cHXP_3 cHXY0_0 cHXY0_1 cHXY0_2 cHXY0_3 cHXY1_0 cHXY1_1 cHXY1_2 cHXY1_3
  obtain ⟨cHXP_0, cHXP_1, cHXP_2, cHXP_3⟩ := box4 HXP.out
  obtain ⟨cHXY0_0, cHXY0_1, cHXY0_2, cHXY0_3⟩ := box4 HXY0.out
  obtain ⟨cHXY1_0, cHXY1_1, cHXY1_2, cHXY1_3⟩ := box4 HXY1.out
  go_wp2_with fail
  refine (HF3.out g c' _ HO.out).mono ?_
  rintro e x2 ⟨rfl, hb⟩
  replace HR := Lib.hid (HR.out.below hb); replace HO := Lib.hid (HO.out.below hb); replace HXP := Lib.hid (HXP.out.below hb); replace HXY0 := Lib.hid (HXY0.out.below hb)
  replace HXY1 := Lib.hid (HXY1.out.below hb); replace HB := Lib.hid (HB.out.trans (hb.mono HB.out.size))
  clear hb
  clear HO
  clear cHXP_0 cHXP_1 cHXP_2 cHXP_3
  clear cHXY0_0 cHXY0_1 cHXY0_2 cHXY0_3
  clear cHXY1_0 cHXY1_1 cHXY1_2 cHXY1_3
  obtain ⟨cHXP_0, cHXP_1, cHXP_2, cHXP_3⟩ := box4 HXP.out
  obtain ⟨cHXY0_0, cHXY0_1, cHXY0_2, cHXY0_3⟩ := box4 HXY0.out
  obtain ⟨cHXY1_0, cHXY1_1, cHXY1_2, cHXY1_3⟩ := box4 HXY1.out
  go_upto_region 6 with fail
  clear cHXP_0 cHXP_1 cHXP_2 cHXP_3
  clear cHXY0_0 cHXY0_1 cHXY0_2 cHXY0_3
  clear cHXY1_0 cHXY1_1 cHXY1_2 cHXY1_3
  have hn := Blk.new x2 67 #[.string ⟨#[]⟩, .int .i64 0, .int .i64 0, .slice none 0 0, .string ⟨#[]⟩, .int .i64 0, .int .i64 0, .slice none 0 0]
  have hb : Below x2.heap.size x2 (x2.alloc (.cells #[.string ⟨#[]⟩, .int .i64 0, .int .i64 0, .slice none 0 0, .string ⟨#[]⟩, .int .i64 0, .int .i64 0, .slice none 0 0] 67)) := (Below.refl _ _).alloc (Nat.le_refl _) _
  have hge := HB.out.size
  have hlt_HXP := HXP.out.lt
  have hlt_HXY0 := HXY0.out.lt
  have hlt_HXY1 := HXY1.out.lt
  obtain ⟨bY2, hl⟩ : ∃ b, x2.heap.size = b := ⟨_, rfl⟩
  generalize x2.alloc (.cells #[.string ⟨#[]⟩, .int .i64 0, .int .i64 0, .slice none 0 0, .string ⟨#[]⟩, .int .i64 0, .int .i64 0, .slice none 0 0] 67) = y2 at hn hb ⊢
  replace HR := Lib.hid (HR.out.below hb); replace HXP := Lib.hid (HXP.out.below hb); replace HXY0 := Lib.hid (HXY0.out.below hb); replace HXY1 := Lib.hid (HXY1.out.below hb)
  replace HB := Lib.hid (HB.out.trans (hb.mono HB.out.size))
  clear hb
  rw [hl] at hn hge hlt_HXP hlt_HXY0 hlt_HXY1
  try rw [hl]
  have HXY2 := Lib.hid hn; have HGY2 := Lib.hid hge; clear hn hl hge
  have HNY2HXP : RowKit.Hid (¬ bP = bY2) := Lib.hid (by omega); have HNY2HXY0 : RowKit.Hid (¬ bY0 = bY2) := Lib.hid (by omega); have HNY2HXY1 : RowKit.Hid (¬ bY1 = bY2) := Lib.hid (by omega)
  clear hlt_HXP hlt_HXY0 hlt_HXY1
  obtain ⟨cHXP_0, cHXP_1, cHXP_2, cHXP_3⟩ := box4 HXP.out
  obtain ⟨cHXY0_0, cHXY0_1, cHXY0_2, cHXY0_3⟩ := box4 HXY0.out
  obtain ⟨cHXY1_0, cHXY1_1, cHXY1_2, cHXY1_3⟩ := box4 HXY1.out
  obtain ⟨cHXY2_0, cHXY2_1, cHXY2_2, cHXY2_3, cHXY2_4, cHXY2_5, cHXY2_6, cHXY2_7⟩ := box8' HXY2.out
  go_wp2_with fail
  refine (HCK.out _ HR.out).mono ?_
  rintro e u2 ⟨rfl, hb⟩
  replace HR := Lib.hid (HR.out.below hb); replace HXP := Lib.hid (HXP.out.below hb); replace HXY0 := Lib.hid (HXY0.out.below hb); replace HXY1 := Lib.hid (HXY1.out.below hb)
  replace HXY2 := Lib.hid (HXY2.out.below hb); replace HB := Lib.hid (HB.out.trans (hb.mono HB.out.size))
  clear hb
  clear cHXP_0 cHXP_1 cHXP_2 cHXP_3 cHXY0_0 cHXY0_1 cHXY0_2 cHXY0_3 cHXY1_0 cHXY1_1 cHXY1_2 cHXY1_3 cHXY2_0 cHXY2_1 cHXY2_2 cHXY2_3 cHXY2_4 cHXY2_5 cHXY2_6 cHXY2_7
  obtain ⟨cHXP_0, cHXP_1, cHXP_2, cHXP_3⟩ := box4 HXP.out
  obtain ⟨cHXY0_0, cHXY0_1, cHXY0_2, cHXY0_3⟩ := box4 HXY0.out
  obtain ⟨cHXY1_0, cHXY1_1, cHXY1_2, cHXY1_3⟩ := box4 HXY1.out
  obtain ⟨cHXY2_0, cHXY2_1, cHXY2_2, cHXY2_3, cHXY2_4, cHXY2_5, cHXY2_6, cHXY2_7⟩ := box8' HXY2.out
  go_upto_region 9 with fail
  clear cHXP_0 cHXP_1 cHXP_2 cHXP_3 cHXY0_0 cHXY0_1 cHXY0_2 cHXY0_3 cHXY1_0 cHXY1_1 cHXY1_2 cHXY1_3 cHXY2_0 cHXY2_1 cHXY2_2 cHXY2_3 cHXY2_4 cHXY2_5 cHXY2_6 cHXY2_7
  have hn := Blk.new u2 43 #[.string ⟨#[]⟩, .int .i64 0, .int .i64 0, .slice none 0 0]
  have hb : Below u2.heap.size u2 (u2.alloc (.cells #[.string ⟨#[]⟩, .int .i64 0, .int .i64 0, .slice none 0 0] 43)) := (Below.refl _ _).alloc (Nat.le_refl _) _
  have hge := HB.out.size
  have hsz : (u2.alloc (.cells #[.string ⟨#[]⟩, .int .i64 0, .int .i64 0, .slice none 0 0] 43)).heap.size = u2.heap.size + 1 := by simp only [World.size_alloc]
  have hlt_HXP := HXP.out.lt
  have hlt_HXY0 := HXY0.out.lt
  have hlt_HXY1 := HXY1.out.lt
  have hlt_HXY2 := HXY2.out.lt
  obtain ⟨bT1, hl⟩ : ∃ b, u2.heap.size = b := ⟨_, rfl⟩
  generalize u2.alloc (.cells #[.string ⟨#[]⟩, .int .i64 0, .int .i64 0, .slice none 0 0] 43) = t1 at hn hb hsz ⊢
  rw [hl] at hsz
  replace HR := Lib.hid (HR.out.below hb); replace HXP := Lib.hid (HXP.out.below hb); replace HXY0 := Lib.hid (HXY0.out.below hb); replace HXY1 := Lib.hid (HXY1.out.below hb)
  replace HXY2 := Lib.hid (HXY2.out.below hb); replace HB := Lib.hid (HB.out.trans (hb.mono HB.out.size))
  clear hb
  rw [hl] at hn hge hlt_HXP hlt_HXY0 hlt_HXY1 hlt_HXY2
  try rw [hl]
  have HXT1 := Lib.hid hn; have HGT1 := Lib.hid hge; clear hn hl hge
  have HNT1HXP : RowKit.Hid (¬ bP = bT1) := Lib.hid (by omega); have HNT1HXY0 : RowKit.Hid (¬ bY0 = bT1) := Lib.hid (by omega); have HNT1HXY1 : RowKit.Hid (¬ bY1 = bT1) := Lib.hid (by omega); have HNT1HXY2 : RowKit.Hid (¬ bY2 = bT1) := Lib.hid (by omega)
  clear hlt_HXP hlt_HXY0 hlt_HXY1 hlt_HXY2
  have hn := Blk.new t1 43 #[.string ⟨#[]⟩, .int .i64 0, .int .i64 0, .slice none 0 0]
  have hb : Below t1.heap.size t1 (t1.alloc (.cells #[.string ⟨#[]⟩, .int .i64 0, .int .i64 0, .slice none 0 0] 43)) := (Below.refl _ _).alloc (Nat.le_refl _) _
  have hge := HB.out.size
  have hlt_HXP := HXP.out.lt
  have hlt_HXY0 := HXY0.out.lt
  have hlt_HXY1 := HXY1.out.lt
  have hlt_HXY2 := HXY2.out.lt
  have hlt_HXT1 := HXT1.out.lt
  obtain ⟨bT2, hl⟩ : ∃ b, t1.heap.size = b := ⟨_, rfl⟩
  generalize t1.alloc (.cells #[.string ⟨#[]⟩, .int .i64 0, .int .i64 0, .slice none 0 0] 43) = t2 at hn hb ⊢
  rw [hl] at hsz
  rw [← hsz]
  clear hsz
  replace HR := Lib.hid (HR.out.below hb); replace HXP := Lib.hid (HXP.out.below hb); replace HXY0 := Lib.hid (HXY0.out.below hb); replace HXY1 := Lib.hid (HXY1.out.below hb)
  replace HXY2 := Lib.hid (HXY2.out.below hb); replace HXT1 := Lib.hid (HXT1.out.below hb); replace HB := Lib.hid (HB.out.trans (hb.mono HB.out.size))
  clear hb
  rw [hl] at hn hge hlt_HXP hlt_HXY0 hlt_HXY1 hlt_HXY2 hlt_HXT1
  try rw [hl]
  have HXT2 := Lib.hid hn; have HGT2 := Lib.hid hge; clear hn hl hge
  have HNT2HXP : RowKit.Hid (¬ bP = bT2) := Lib.hid (by omega); have HNT2HXY0 : RowKit.Hid (¬ bY0 = bT2) := Lib.hid (by omega); have HNT2HXY1 : RowKit.Hid (¬ bY1 = bT2) := Lib.hid (by omega); have HNT2HXY2 : RowKit.Hid (¬ bY2 = bT2) := Lib.hid (by omega); have HNT2HXT1 : RowKit.Hid (¬ bT1 = bT2) := Lib.hid (by omega)
  clear hlt_HXP hlt_HXY0 hlt_HXY1 hlt_HXY2 hlt_HXT1
  obtain ⟨cHXP_0, cHXP_1, cHXP_2, cHXP_3⟩ := box4 HXP.out
  obtain ⟨cHXY0_0, cHXY0_1, cHXY0_2, cHXY0_3⟩ := box4 HXY0.out
  obtain ⟨cHXY1_0, cHXY1_1, cHXY1_2, cHXY1_3⟩ := box4 HXY1.out
  obtain ⟨cHXY2_0, cHXY2_1, cHXY2_2, cHXY2_3, cHXY2_4, cHXY2_5, cHXY2_6, cHXY2_7⟩ := box8' HXY2.out
  obtain ⟨cHXT1_0, cHXT1_1, cHXT1_2, cHXT1_3⟩ := box4 HXT1.out
  obtain ⟨cHXT2_0, cHXT2_1, cHXT2_2, cHXT2_3⟩ := box4 HXT2.out
  go_upto_region 10 with fail
  clear cHXP_0 cHXP_1 cHXP_2 cHXP_3 cHXY0_0 cHXY0_1 cHXY0_2 cHXY0_3 cHXY1_0 cHXY1_1 cHXY1_2 cHXY1_3 cHXY2_0 cHXY2_1 cHXY2_2 cHXY2_3 cHXY2_4 cHXY2_5 cHXY2_6 cHXY2_7 cHXT1_0 cHXT1_1 cHXT1_2 cHXT1_3 cHXT2_0 cHXT2_1 cHXT2_2 cHXT2_3
  have hn := Blk.new t2 70 #[.string ⟨#[]⟩, .int .i64 0, .int .i64 0, .slice none 0 0, .string ⟨#[]⟩, .int .i64 0, .int .i64 0, .slice none 0 0]
  have hb : Below t2.heap.size t2 (t2.alloc (.cells #[.string ⟨#[]⟩, .int .i64 0, .int .i64 0, .slice none 0 0, .string ⟨#[]⟩, .int .i64 0, .int .i64 0, .slice none 0 0] 70)) := (Below.refl _ _).alloc (Nat.le_refl _) _
  have hge := HB.out.size
  have hlt_HXP := HXP.out.lt
  have hlt_HXY0 := HXY0.out.lt
  have hlt_HXY1 := HXY1.out.lt
  have hlt_HXY2 := HXY2.out.lt
  have hlt_HXT1 := HXT1.out.lt
  have hlt_HXT2 := HXT2.out.lt
  obtain ⟨bT3, hl⟩ : ∃ b, t2.heap.size = b := ⟨_, rfl⟩
  generalize t2.alloc (.cells #[.string ⟨#[]⟩, .int .i64 0, .int .i64 0, .slice none 0 0, .string ⟨#[]⟩, .int .i64 0, .int .i64 0, .slice none 0 0] 70) = t3 at hn hb ⊢
  replace HR := Lib.hid (HR.out.below hb); replace HXP := Lib.hid (HXP.out.below hb); replace HXY0 := Lib.hid (HXY0.out.below hb); replace HXY1 := Lib.hid (HXY1.out.below hb)
  replace HXY2 := Lib.hid (HXY2.out.below hb); replace HXT1 := Lib.hid (HXT1.out.below hb); replace HXT2 := Lib.hid (HXT2.out.below hb); replace HB := Lib.hid (HB.out.trans (hb.mono HB.out.size))
  clear hb
  rw [hl] at hn hge hlt_HXP hlt_HXY0 hlt_HXY1 hlt_HXY2 hlt_HXT1 hlt_HXT2
  try rw [hl]
  have HXT3 := Lib.hid hn; have HGT3 := Lib.hid hge; clear hn hl hge
  have HNT3HXP : RowKit.Hid (¬ bP = bT3) := Lib.hid (by omega); have HNT3HXY0 : RowKit.Hid (¬ bY0 = bT3) := Lib.hid (by omega); have HNT3HXY1 : RowKit.Hid (¬ bY1 = bT3) := Lib.hid (by omega); have HNT3HXY2 : RowKit.Hid (¬ bY2 = bT3) := Lib.hid (by omega); have HNT3HXT1 : RowKit.Hid (¬ bT1 = bT3) := Lib.hid (by omega); have HNT3HXT2 : RowKit.Hid (¬ bT2 = bT3) := Lib.hid (by omega)
  clear hlt_HXP hlt_HXY0 hlt_HXY1 hlt_HXY2 hlt_HXT1 hlt_HXT2
  obtain ⟨cHXP_0, cHXP_1, cHXP_2, cHXP_3⟩ := box4 HXP.out
  obtain ⟨cHXY0_0, cHXY0_1, cHXY0_2, cHXY0_3⟩ := box4 HXY0.out
  obtain ⟨cHXY1_0, cHXY1_1, cHXY1_2, cHXY1_3⟩ := box4 HXY1.out
  obtain ⟨cHXY2_0, cHXY2_1, cHXY2_2, cHXY2_3, cHXY2_4, cHXY2_5, cHXY2_6, cHXY2_7⟩ := box8' HXY2.out
  obtain ⟨cHXT1_0, cHXT1_1, cHXT1_2, cHXT1_3⟩ := box4 HXT1.out
  obtain ⟨cHXT2_0, cHXT2_1, cHXT2_2, cHXT2_3⟩ := box4 HXT2.out
  obtain ⟨cHXT3_0, cHXT3_1, cHXT3_2, cHXT3_3, cHXT3_4, cHXT3_5, cHXT3_6, cHXT3_7⟩ := box8' HXT3.out
  go_wp2_with fail
  refine (one_bad ⟨#[]⟩ 0 0 none 0 0 z HNE.out _).mono ?_
  rintro e o0 ⟨rfl, hb⟩
  replace HR := Lib.hid (HR.out.below hb); replace HXP := Lib.hid (HXP.out.below hb); replace HXY0 := Lib.hid (HXY0.out.below hb); replace HXY1 := Lib.hid (HXY1.out.below hb)
  replace HXY2 := Lib.hid (HXY2.out.below hb); replace HXT1 := Lib.hid (HXT1.out.below hb); replace HXT2 := Lib.hid (HXT2.out.below hb); replace HXT3 := Lib.hid (HXT3.out.below hb)
  replace HB := Lib.hid (HB.out.trans (hb.mono HB.out.size))
  clear hb
  clear cHXP_0 cHXP_1 cHXP_2 cHXP_3 cHXY0_0 cHXY0_1 cHXY0_2 cHXY0_3 cHXY1_0 cHXY1_1 cHXY1_2 cHXY1_3 cHXY2_0 cHXY2_1 cHXY2_2 cHXY2_3 cHXY2_4 cHXY2_5 cHXY2_6 cHXY2_7 cHXT1_0 cHXT1_1 cHXT1_2 cHXT1_3 cHXT2_0 cHXT2_1 cHXT2_2 cHXT2_3 cHXT3_0 cHXT3_1 cHXT3_2 cHXT3_3 cHXT3_4 cHXT3_5 cHXT3_6 cHXT3_7
  obtain ⟨cHXP_0, cHXP_1, cHXP_2, cHXP_3⟩ := box4 HXP.out
  obtain ⟨cHXY0_0, cHXY0_1, cHXY0_2, cHXY0_3⟩ := box4 HXY0.out
  obtain ⟨cHXY1_0, cHXY1_1, cHXY1_2, cHXY1_3⟩ := box4 HXY1.out
  obtain ⟨cHXY2_0, cHXY2_1, cHXY2_2, cHXY2_3, cHXY2_4, cHXY2_5, cHXY2_6, cHXY2_7⟩ := box8' HXY2.out
  obtain ⟨cHXT1_0, cHXT1_1, cHXT1_2, cHXT1_3⟩ := box4 HXT1.out
  obtain ⟨cHXT2_0, cHXT2_1, cHXT2_2, cHXT2_3⟩ := box4 HXT2.out
  obtain ⟨cHXT3_0, cHXT3_1, cHXT3_2, cHXT3_3, cHXT3_4, cHXT3_5, cHXT3_6, cHXT3_7⟩ := box8' HXT3.out
  go_wp2_with fail
  refine (one_bad ⟨#[]⟩ 0 0 none 0 0 z HNE.out _).mono ?_
  rintro e o1 ⟨rfl, hb⟩
  replace HR := Lib.hid (HR.out.below hb); replace HXP := Lib.hid (HXP.out.below hb); replace HXY0 := Lib.hid (HXY0.out.below hb); replace HXY1 := Lib.hid (HXY1.out.below hb)
  replace HXY2 := Lib.hid (HXY2.out.below hb); replace HXT1 := Lib.hid (HXT1.out.below hb); replace HXT2 := Lib.hid (HXT2.out.below hb); replace HXT3 := Lib.hid (HXT3.out.below hb)
  replace HB := Lib.hid (HB.out.trans (hb.mono HB.out.size))
  clear hb
  clear cHXP_0 cHXP_1 cHXP_2 cHXP_3 cHXY0_0 cHXY0_1 cHXY0_2 cHXY0_3 cHXY1_0 cHXY1_1 cHXY1_2 cHXY1_3 cHXY2_0 cHXY2_1 cHXY2_2 cHXY2_3 cHXY2_4 cHXY2_5 cHXY2_6 cHXY2_7 cHXT1_0 cHXT1_1 cHXT1_2 cHXT1_3 cHXT2_0 cHXT2_1 cHXT2_2 cHXT2_3 cHXT3_0 cHXT3_1 cHXT3_2 cHXT3_3 cHXT3_4 cHXT3_5 cHXT3_6 cHXT3_7
  obtain ⟨cHXP_0, cHXP_1, cHXP_2, cHXP_3⟩ := box4 HXP.out
  obtain ⟨cHXY0_0, cHXY0_1, cHXY0_2, cHXY0_3⟩ := box4 HXY0.out
  obtain ⟨cHXY1_0, cHXY1_1, cHXY1_2, cHXY1_3⟩ := box4 HXY1.out
  obtain ⟨cHXY2_0, cHXY2_1, cHXY2_2, cHXY2_3, cHXY2_4, cHXY2_5, cHXY2_6, cHXY2_7⟩ := box8' HXY2.out
  obtain ⟨cHXT1_0, cHXT1_1, cHXT1_2, cHXT1_3⟩ := box4 HXT1.out
  obtain ⟨cHXT2_0, cHXT2_1, cHXT2_2, cHXT2_3⟩ := box4 HXT2.out
  obtain ⟨cHXT3_0, cHXT3_1, cHXT3_2, cHXT3_3, cHXT3_4, cHXT3_5, cHXT3_6, cHXT3_7⟩ := box8' HXT3.out
  go_wp2_with fail
  refine (one_bad ⟨#[]⟩ 0 0 none 0 0 z HNE.out _).mono ?_
  rintro e o2 ⟨rfl, hb⟩
  replace HR := Lib.hid (HR.out.below hb); replace HXP := Lib.hid (HXP.out.below hb); replace HXY0 := Lib.hid (HXY0.out.below hb); replace HXY1 := Lib.hid (HXY1.out.below hb)
  replace HXY2 := Lib.hid (HXY2.out.below hb); replace HXT1 := Lib.hid (HXT1.out.below hb); replace HXT2 := Lib.hid (HXT2.out.below hb); replace HXT3 := Lib.hid (HXT3.out.below hb)
  replace HB := Lib.hid (HB.out.trans (hb.mono HB.out.size))
  clear hb
  clear cHXP_0 cHXP_1 cHXP_2 cHXP_3 cHXY0_0 cHXY0_1 cHXY0_2 cHXY0_3 cHXY1_0 cHXY1_1 cHXY1_2 cHXY1_3 cHXY2_0 cHXY2_1 cHXY2_2 cHXY2_3 cHXY2_4 cHXY2_5 cHXY2_6 cHXY2_7 cHXT1_0 cHXT1_1 cHXT1_2 cHXT1_3 cHXT2_0 cHXT2_1 cHXT2_2 cHXT2_3 cHXT3_0 cHXT3_1 cHXT3_2 cHXT3_3 cHXT3_4 cHXT3_5 cHXT3_6 cHXT3_7
  obtain ⟨cHXP_0, cHXP_1, cHXP_2, cHXP_3⟩ := box4 HXP.out
  obtain ⟨cHXY0_0, cHXY0_1, cHXY0_2, cHXY0_3⟩ := box4 HXY0.out
  obtain ⟨cHXY1_0, cHXY1_1, cHXY1_2, cHXY1_3⟩ := box4 HXY1.out
  obtain ⟨cHXY2_0, cHXY2_1, cHXY2_2, cHXY2_3, cHXY2_4, cHXY2_5, cHXY2_6, cHXY2_7⟩ := box8' HXY2.out
  obtain ⟨cHXT1_0, cHXT1_1, cHXT1_2, cHXT1_3⟩ := box4 HXT1.out
  obtain ⟨cHXT2_0, cHXT2_1, cHXT2_2, cHXT2_3⟩ := box4 HXT2.out
  obtain ⟨cHXT3_0, cHXT3_1, cHXT3_2, cHXT3_3, cHXT3_4, cHXT3_5, cHXT3_6, cHXT3_7⟩ := box8' HXT3.out
  go_wp2_with fail
  refine (one_bad ⟨#[]⟩ 0 0 none 0 0 z HNE.out _).mono ?_
  rintro e o3 ⟨rfl, hb⟩
  replace HR := Lib.hid (HR.out.below hb); replace HXP := Lib.hid (HXP.out.below hb); replace HXY0 := Lib.hid (HXY0.out.below hb); replace HXY1 := Lib.hid (HXY1.out.below hb)
  replace HXY2 := Lib.hid (HXY2.out.below hb); replace HXT1 := Lib.hid (HXT1.out.below hb); replace HXT2 := Lib.hid (HXT2.out.below hb); replace HXT3 := Lib.hid (HXT3.out.below hb)
  replace HB := Lib.hid (HB.out.trans (hb.mono HB.out.size))
  clear hb
  clear cHXP_0 cHXP_1 cHXP_2 cHXP_3 cHXY0_0 cHXY0_1 cHXY0_2 cHXY0_3 cHXY1_0 cHXY1_1 cHXY1_2 cHXY1_3 cHXY2_0 cHXY2_1 cHXY2_2 cHXY2_3 cHXY2_4 cHXY2_5 cHXY2_6 cHXY2_7 cHXT1_0 cHXT1_1 cHXT1_2 cHXT1_3 cHXT2_0 cHXT2_1 cHXT2_2 cHXT2_3 cHXT3_0 cHXT3_1 cHXT3_2 cHXT3_3 cHXT3_4 cHXT3_5 cHXT3_6 cHXT3_7
  obtain ⟨cHXP_0, cHXP_1, cHXP_2, cHXP_3⟩ := box4 HXP.out
  obtain ⟨cHXY0_0, cHXY0_1, cHXY0_2, cHXY0_3⟩ := box4 HXY0.out
  obtain ⟨cHXY1_0, cHXY1_1, cHXY1_2, cHXY1_3⟩ := box4 HXY1.out
  obtain ⟨cHXY2_0, cHXY2_1, cHXY2_2, cHXY2_3, cHXY2_4, cHXY2_5, cHXY2_6, cHXY2_7⟩ := box8' HXY2.out
  obtain ⟨cHXT1_0, cHXT1_1, cHXT1_2, cHXT1_3⟩ := box4 HXT1.out
  obtain ⟨cHXT2_0, cHXT2_1, cHXT2_2, cHXT2_3⟩ := box4 HXT2.out
  obtain ⟨cHXT3_0, cHXT3_1, cHXT3_2, cHXT3_3, cHXT3_4, cHXT3_5, cHXT3_6, cHXT3_7⟩ := box8' HXT3.out
  go_wp2_with fail
  refine (awake_laid _ (HL.out.below HB.out)).mono ?_
  rintro e uz ⟨rfl, hb⟩
  replace HR := Lib.hid (HR.out.below hb); replace HXP := Lib.hid (HXP.out.below hb); replace HXY0 := Lib.hid (HXY0.out.below hb); replace HXY1 := Lib.hid (HXY1.out.below hb)
  replace HXY2 := Lib.hid (HXY2.out.below hb); replace HXT1 := Lib.hid (HXT1.out.below hb); replace HXT2 := Lib.hid (HXT2.out.below hb); replace HXT3 := Lib.hid (HXT3.out.below hb)
  replace HB := Lib.hid (HB.out.trans (hb.mono HB.out.size))
  clear hb
  go_wp2
  go_ret
  exact trueEnd_mk rfl HB.out

set_option maxHeartbeats 4000000 in
theorem turns_ok (nm : ByteArray) (W H : Nat) (l : List Nat) (hp : (Pic.mk nm W H l).Ok) (he : (Pic.mk nm W H l).err = 0) (hh : 2 ≤ H) (A : Option Addr) (c : Nat) (w : World) (hlaid : Laid w) (hsh : shortB (Pic.mk nm W H l) = true) (hcap : l.length ≤ c) (hr : Rd w A (fl l)) : Calls Tryz.prog 6 #[(Pic.mk nm W H l).val A c] w (TrueEnd w) := by
  obtain ⟨hs0, hl0⟩ := short_facts hsh
  obtain ⟨hW, hH, hlen, hs, hl⟩ := ok_sizes hp
  have hl4 : l.length ≤ 4096 := hp.big
  have hpos : 0 < (fl l).length := by have := prod_pos hW.1 hH.1; simp [fl]; omega
  obtain ⟨ad, rfl, _, _⟩ := hr.some_ hpos
  have hsm : ∀ b ∈ l, chk 1024 b = 0 := hp.ok
  obtain ⟨n, hn⟩ : ∃ n, l.length = n := ⟨_, rfl⟩
  have HS : RowKit.Hid (∀ w, Calls Tryz.prog 28 #[.agg #[.string nm, .int .i64 (W : Int), .int .i64 (H : Int), .slice (some ad) n c]] w (BoolEnd true w)) := Lib.hid (fun w => by have h := shortR_any (Pic.mk nm W H l) (some ad) c w; rw [hsh] at h; rw [← hn]; exact h)
  have HOWN : RowKit.Hid (∀ w, Rd w (some ad) (fl l) → Calls Tryz.prog 30 #[.agg #[.string nm, .int .i64 (W : Int), .int .i64 (H : Int), .slice (some ad) n c]] w fun e w' => ∃ g c', e = .returned (.agg #[.string nm, .int .i64 (W : Int), .int .i64 (H : Int), .slice (some ⟨g, 0, none⟩) n c']) ∧ n ≤ c' ∧ Rd w' (some ⟨g, 0, none⟩) (fl l) ∧ Below w.heap.size w w') := Lib.hid (fun w hr => by have h := own_any (Pic.mk nm W H l) (some ad) c w hl4 (fun h => by cases h) hr; rw [← hn]; exact h)
  have HCK : RowKit.Hid (∀ w, Rd w (some ad) (fl l) → Calls Tryz.prog 32 #[.agg #[.string nm, .int .i64 (W : Int), .int .i64 (H : Int), .slice (some ad) n c]] w fun e w' => e = .returned (.int .i64 0) ∧ Below w.heap.size w w') := Lib.hid (fun w hr => by have h := checkPictureR_any (Pic.mk nm W H l) (some ad) c w hs hl4 hr; rw [he] at h; rw [← hn]; exact h)
  obtain ⟨L1, hL1⟩ : ∃ L, pickL l (flipN W) l.length = L := ⟨_, rfl⟩
  obtain ⟨L2, hL2⟩ : ∃ L, pickL l (transN W H) l.length = L := ⟨_, rfl⟩
  have HN1 : RowKit.Hid (L1.length = n ∧ sameF L1 L1 = true) := Lib.hid (by rw [← hL1, ← hn]; exact ⟨pickL_len _ _ _, pickL_same hsm _ _⟩)
  have HN2 : RowKit.Hid (L2.length = n ∧ sameF L2 L2 = true) := Lib.hid (by rw [← hL2, ← hn]; exact ⟨pickL_len _ _ _, pickL_same hsm _ _⟩)
  have HF1 : RowKit.Hid (∀ g c' w, n ≤ c' → Rd w (some ⟨g, 0, none⟩) (fl l) → Calls Tryz.prog 46 #[.agg #[.string nm, .int .i64 (W : Int), .int .i64 (H : Int), .slice (some ⟨g, 0, none⟩) n c']] w (PickOk nm W H n L1 w)) := Lib.hid (fun g c' w h1 h2 => by rw [← hn] at h1; have h := flip_code nm W H l hp he (some ⟨g, 0, none⟩) c' w h1 h2; rw [hL1, hn] at h; exact h)
  have HF2 : RowKit.Hid (∀ g c' w, n ≤ c' → Rd w (some ⟨g, 0, none⟩) (fl l) → Calls Tryz.prog 47 #[.agg #[.string nm, .int .i64 (W : Int), .int .i64 (H : Int), .slice (some ⟨g, 0, none⟩) n c']] w (PickOk nm H W n L2 w)) := Lib.hid (fun g c' w h1 h2 => by rw [← hn] at h1; have h := trans_code nm W H l hp he (some ⟨g, 0, none⟩) c' w h1 h2; rw [hL2, hn] at h; exact h)
  have HQ1 : RowKit.Hid (∀ w, Rd w (some ad) (fl l) → Calls Tryz.prog 49 #[.agg #[.string nm, .int .i64 (W : Int), .int .i64 (H : Int), .slice (some ad) n c]] w (PickEnd nm W H n L1 w)) := Lib.hid (fun w h2 => by have h := flip_ref nm W H l hp (some ad) c w h2; rw [hL1, hn] at h; exact h)
  have HQ2 : RowKit.Hid (∀ w, Rd w (some ad) (fl l) → Calls Tryz.prog 50 #[.agg #[.string nm, .int .i64 (W : Int), .int .i64 (H : Int), .slice (some ad) n c]] w (PickEnd nm H W n L2 w)) := Lib.hid (fun w h2 => by have h := trans_ref nm W H l hp (some ad) c w h2; rw [hL2, hn] at h; exact h)
  have HN0 : RowKit.Hid (n ≤ maxLen) := Lib.hid (by rw [← hn]; exact hl)
  obtain ⟨K1, hK1⟩ : ∃ K, (H + 1) / 2 = K := ⟨_, rfl⟩
  obtain ⟨K2, hK2⟩ : ∃ K, H / 2 = K := ⟨_, rfl⟩
  have hkW : W * K1 ≤ 4096 ∧ W * K2 ≤ 4096 := ⟨Nat.le_trans (Nat.mul_le_mul hW.2 (show K1 ≤ 64 by omega)) (by decide), Nat.le_trans (Nat.mul_le_mul hW.2 (show K2 ≤ 64 by omega)) (by decide)⟩
  have hf3 := fun (g c' : Nat) w (h1 : n ≤ c') h2 => fields_code nm W H K1 K2 l hp he hh hK1 hK2 (some ⟨g, 0, none⟩) c' w (by rw [hn]; exact h1) h2
  have hq3 := fun w h2 => fields_ref nm W H K1 K2 l hp hh hK1 hK2 ad c w hcap h2
  rw [hn] at hf3 hq3
  obtain ⟨m1, hm1⟩ : ∃ m, W * K1 = m := ⟨_, rfl⟩
  obtain ⟨m2, hm2⟩ : ∃ m, W * K2 = m := ⟨_, rfl⟩
  rw [hm1, hm2] at hf3 hq3
  obtain ⟨L3, hL3⟩ : ∃ L, pickL l (fieldN W 0) m1 = L := ⟨_, rfl⟩
  obtain ⟨L4, hL4⟩ : ∃ L, pickL l (fieldN W 1) m2 = L := ⟨_, rfl⟩
  have HN3 : RowKit.Hid (L3.length = m1 ∧ m1 ≤ maxLen ∧ sameF L3 L3 = true) := Lib.hid (by rw [← hL3, ← hm1]; exact ⟨pickL_len _ _ _, Nat.le_trans hkW.1 (by decide), pickL_same hsm _ _⟩)
  have HN4 : RowKit.Hid (L4.length = m2 ∧ m2 ≤ maxLen ∧ sameF L4 L4 = true) := Lib.hid (by rw [← hL4, ← hm2]; exact ⟨pickL_len _ _ _, Nat.le_trans hkW.2 (by decide), pickL_same hsm _ _⟩)
  rw [hL3, hL4] at hf3 hq3
  have HF3 : RowKit.Hid (∀ g c' w, n ≤ c' → Rd w (some ⟨g, 0, none⟩) (fl l) → Calls Tryz.prog 48 #[.agg #[.string nm, .int .i64 (W : Int), .int .i64 (H : Int), .slice (some ⟨g, 0, none⟩) n c']] w (FieldsBoth nm W K1 K2 m1 m2 L3 L4 w)) := Lib.hid hf3
  have HQ3 : RowKit.Hid (∀ w, Rd w (some ad) (fl l) → Calls Tryz.prog 51 #[.agg #[.string nm, .int .i64 (W : Int), .int .i64 (H : Int), .slice (some ad) n c]] w (FieldsBoth nm W K1 K2 m1 m2 L3 L4 w)) := Lib.hid hq3
  rw [show (Pic.mk nm W H l).val (some ad) c = .agg #[.string nm, .int .i64 (W : Int), .int .i64 (H : Int), .slice (some ad) n c] by unfold Pic.val; rw [hn]]
  clear hf3 hq3 hL3 hL4 hm1 hm2 hkW hK1 hK2
  clear hs0 hl0 hlen hs hl hl4 hpos hsm hL1 hL2 hn hp he hsh hcap hW hH hh
  have HR := Lib.hid hr; clear hr
  have HL := Lib.hid hlaid; clear hlaid
  have HB := Lib.hid (Below.refl w.heap.size w)
  go_enter Tryz.func6, Tryz.ntmps6
  go_upto_region 1 with fail
  have hn := Blk.new w 43 #[.string nm, .int .i64 (W : Int), .int .i64 (H : Int), .slice (some ad) n c]
  have hb : Below w.heap.size w (w.alloc (.cells #[.string nm, .int .i64 (W : Int), .int .i64 (H : Int), .slice (some ad) n c] 43)) := (Below.refl _ _).alloc (Nat.le_refl _) _
  have hge := HB.out.size
  obtain ⟨bP, hl⟩ : ∃ b, w.heap.size = b := ⟨_, rfl⟩
  generalize w.alloc (.cells #[.string nm, .int .i64 (W : Int), .int .i64 (H : Int), .slice (some ad) n c] 43) = u0 at hn hb ⊢
  replace HR := Lib.hid (HR.out.below hb); replace HB := Lib.hid (HB.out.trans (hb.mono HB.out.size))
  clear hb
  rw [hl] at hn hge
  try rw [hl]
  have HXP := Lib.hid hn; have HGP := Lib.hid hge; clear hn hl hge
  obtain ⟨cHXP_0, cHXP_1, cHXP_2, cHXP_3⟩ := box4 HXP.out
  go_wp2_with fail
  refine (HS.out _).mono ?_
  rintro e u1 ⟨rfl, hb⟩
  replace HR := Lib.hid (HR.out.below hb); replace HXP := Lib.hid (HXP.out.below hb); replace HB := Lib.hid (HB.out.trans (hb.mono HB.out.size))
  clear hb
  clear cHXP_0 cHXP_1 cHXP_2 cHXP_3
  obtain ⟨cHXP_0, cHXP_1, cHXP_2, cHXP_3⟩ := box4 HXP.out
  go_wp2_with fail
  refine (HOWN.out _ HR.out).mono ?_
  rintro e v0 ⟨g, c', rfl, hcc, hrd, hb⟩
  replace HR := Lib.hid (HR.out.below hb); replace HXP := Lib.hid (HXP.out.below hb); replace HB := Lib.hid (HB.out.trans (hb.mono HB.out.size))
  clear hb
  have HO := Lib.hid hrd; clear hrd
  clear cHXP_0 cHXP_1 cHXP_2 cHXP_3
  obtain ⟨cHXP_0, cHXP_1, cHXP_2, cHXP_3⟩ := box4 HXP.out
  go_wp2_with fail
  refine (HF1.out g c' _ hcc HO.out).mono ?_
  rintro e x0 ⟨g0, rfl, hr1, hb⟩
  replace HR := Lib.hid (HR.out.below hb); replace HO := Lib.hid (HO.out.below hb); replace HXP := Lib.hid (HXP.out.below hb); replace HB := Lib.hid (HB.out.trans (hb.mono HB.out.size))
  clear hb
  have HL1 := Lib.hid hr1; clear hr1
  clear hcc
  clear HO
  clear cHXP_0 cHXP_1 cHXP_2 cHXP_3
  obtain ⟨cHXP_0, cHXP_1, cHXP_2, cHXP_3⟩ := box4 HXP.out
  go_upto_region 4 with fail
  clear cHXP_0 cHXP_1 cHXP_2 cHXP_3
  have hn := Blk.new x0 50 #[.string nm, .int .i64 (W : Int), .int .i64 (H : Int), .slice (some ⟨g0, 0, none⟩) n n]
  have hb : Below x0.heap.size x0 (x0.alloc (.cells #[.string nm, .int .i64 (W : Int), .int .i64 (H : Int), .slice (some ⟨g0, 0, none⟩) n n] 50)) := (Below.refl _ _).alloc (Nat.le_refl _) _
  have hge := HB.out.size
  have hlt_HXP := HXP.out.lt
  obtain ⟨bY0, hl⟩ : ∃ b, x0.heap.size = b := ⟨_, rfl⟩
  generalize x0.alloc (.cells #[.string nm, .int .i64 (W : Int), .int .i64 (H : Int), .slice (some ⟨g0, 0, none⟩) n n] 50) = y0 at hn hb ⊢
  replace HR := Lib.hid (HR.out.below hb); replace HL1 := Lib.hid (HL1.out.below hb); replace HXP := Lib.hid (HXP.out.below hb); replace HB := Lib.hid (HB.out.trans (hb.mono HB.out.size))
  clear hb
  rw [hl] at hn hge hlt_HXP
  try rw [hl]
  have HXY0 := Lib.hid hn; have HGY0 := Lib.hid hge; clear hn hl hge
  have HNY0HXP : RowKit.Hid (¬ bP = bY0) := Lib.hid (by omega)
  clear hlt_HXP
  obtain ⟨cHXP_0, cHXP_1, cHXP_2, cHXP_3⟩ := box4 HXP.out
  obtain ⟨cHXY0_0, cHXY0_1, cHXY0_2, cHXY0_3⟩ := box4 HXY0.out
  go_wp2_with fail
  refine (HOWN.out _ HR.out).mono ?_
  rintro e v1 ⟨g, c', rfl, hcc, hrd, hb⟩
  replace HR := Lib.hid (HR.out.below hb); replace HL1 := Lib.hid (HL1.out.below hb); replace HXP := Lib.hid (HXP.out.below hb); replace HXY0 := Lib.hid (HXY0.out.below hb)
  replace HB := Lib.hid (HB.out.trans (hb.mono HB.out.size))
  clear hb
  have HO := Lib.hid hrd; clear hrd
  clear cHXP_0 cHXP_1 cHXP_2 cHXP_3 cHXY0_0 cHXY0_1 cHXY0_2 cHXY0_3
  obtain ⟨cHXP_0, cHXP_1, cHXP_2, cHXP_3⟩ := box4 HXP.out
  obtain ⟨cHXY0_0, cHXY0_1, cHXY0_2, cHXY0_3⟩ := box4 HXY0.out
  go_wp2_with fail
  refine (HF2.out g c' _ hcc HO.out).mono ?_
  rintro e x1 ⟨g1, rfl, hr1, hb⟩
  replace HR := Lib.hid (HR.out.below hb); replace HL1 := Lib.hid (HL1.out.below hb); replace HO := Lib.hid (HO.out.below hb); replace HXP := Lib.hid (HXP.out.below hb)
  replace HXY0 := Lib.hid (HXY0.out.below hb); replace HB := Lib.hid (HB.out.trans (hb.mono HB.out.size))
  clear hb
  have HL2 := Lib.hid hr1; clear hr1
  clear hcc
  clear HO
  clear cHXP_0 cHXP_1 cHXP_2 cHXP_3 cHXY0_0 cHXY0_1 cHXY0_2 cHXY0_3
  obtain ⟨cHXP_0, cHXP_1, cHXP_2, cHXP_3⟩ := box4 HXP.out
  obtain ⟨cHXY0_0, cHXY0_1, cHXY0_2, cHXY0_3⟩ := box4 HXY0.out
  go_upto_region 5 with fail
  clear cHXP_0 cHXP_1 cHXP_2 cHXP_3 cHXY0_0 cHXY0_1 cHXY0_2 cHXY0_3
  have hn := Blk.new x1 50 #[.string nm, .int .i64 (H : Int), .int .i64 (W : Int), .slice (some ⟨g1, 0, none⟩) n n]
  have hb : Below x1.heap.size x1 (x1.alloc (.cells #[.string nm, .int .i64 (H : Int), .int .i64 (W : Int), .slice (some ⟨g1, 0, none⟩) n n] 50)) := (Below.refl _ _).alloc (Nat.le_refl _) _
  have hge := HB.out.size
  have hlt_HXP := HXP.out.lt
  have hlt_HXY0 := HXY0.out.lt
  obtain ⟨bY1, hl⟩ : ∃ b, x1.heap.size = b := ⟨_, rfl⟩
  generalize x1.alloc (.cells #[.string nm, .int .i64 (H : Int), .int .i64 (W : Int), .slice (some ⟨g1, 0, none⟩) n n] 50) = y1 at hn hb ⊢
  replace HR := Lib.hid (HR.out.below hb); replace HL1 := Lib.hid (HL1.out.below hb); replace HL2 := Lib.hid (HL2.out.below hb); replace HXP := Lib.hid (HXP.out.below hb)
  replace HXY0 := Lib.hid (HXY0.out.below hb); replace HB := Lib.hid (HB.out.trans (hb.mono HB.out.size))
  clear hb
  rw [hl] at hn hge hlt_HXP hlt_HXY0
  try rw [hl]
  have HXY1 := Lib.hid hn; have HGY1 := Lib.hid hge; clear hn hl hge
  have HNY1HXP : RowKit.Hid (¬ bP = bY1) := Lib.hid (by omega); have HNY1HXY0 : RowKit.Hid (¬ bY0 = bY1) := Lib.hid (by omega)
  clear hlt_HXP hlt_HXY0
  obtain ⟨cHXP_0, cHXP_1, cHXP_2, cHXP_3⟩ := box4 HXP.out
  obtain ⟨cHXY0_0, cHXY0_1, cHXY0_2, cHXY0_3⟩ := box4 HXY0.out
  obtain ⟨cHXY1_0, cHXY1_1, cHXY1_2, cHXY1_3⟩ := box4 HXY1.out
  go_wp2_with fail
  refine (HOWN.out _ HR.out).mono ?_
  rintro e v2 ⟨g, c', rfl, hcc, hrd, hb⟩
  replace HR := Lib.hid (HR.out.below hb); replace HL1 := Lib.hid (HL1.out.below hb); replace HL2 := Lib.hid (HL2.out.below hb); replace HXP := Lib.hid (HXP.out.below hb)
  replace HXY0 := Lib.hid (HXY0.out.below hb); replace HXY1 := Lib.hid (HXY1.out.below hb); replace HB := Lib.hid (HB.out.trans (hb.mono HB.out.size))
  clear hb
  have HO := Lib.hid hrd; clear hrd
  clear cHXP_0 cHXP_1 cHXP_2 cHXP_3 cHXY0_0 cHXY0_1 cHXY0_2 cHXY0_3 cHXY1_0 cHXY1_1 cHXY1_2 cHXY1_3
  obtain ⟨cHXP_0, cHXP_1, cHXP_2, cHXP_3⟩ := box4 HXP.out
  obtain ⟨cHXY0_0, cHXY0_1, cHXY0_2, cHXY0_3⟩ := box4 HXY0.out
  obtain ⟨cHXY1_0, cHXY1_1, cHXY1_2, cHXY1_3⟩ := box4 HXY1.out
  go_wp2_with fail
  refine (HF3.out g c' _ hcc HO.out).mono ?_
  rintro e x2 ⟨A1, e1, A2, e2, rfl, hr1, hr2, hb⟩
  replace HR := Lib.hid (HR.out.below hb); replace HL1 := Lib.hid (HL1.out.below hb); replace HL2 := Lib.hid (HL2.out.below hb); replace HO := Lib.hid (HO.out.below hb)
  replace HXP := Lib.hid (HXP.out.below hb); replace HXY0 := Lib.hid (HXY0.out.below hb); replace HXY1 := Lib.hid (HXY1.out.below hb); replace HB := Lib.hid (HB.out.trans (hb.mono HB.out.size))
  clear hb
  have HL3 := Lib.hid hr1; clear hr1
  have HL4 := Lib.hid hr2; clear hr2
  clear hcc
  clear HO
  clear cHXP_0 cHXP_1 cHXP_2 cHXP_3 cHXY0_0 cHXY0_1 cHXY0_2 cHXY0_3 cHXY1_0 cHXY1_1 cHXY1_2 cHXY1_3
  obtain ⟨cHXP_0, cHXP_1, cHXP_2, cHXP_3⟩ := box4 HXP.out
  obtain ⟨cHXY0_0, cHXY0_1, cHXY0_2, cHXY0_3⟩ := box4 HXY0.out
  obtain ⟨cHXY1_0, cHXY1_1, cHXY1_2, cHXY1_3⟩ := box4 HXY1.out
  go_upto_region 6 with fail
  clear cHXP_0 cHXP_1 cHXP_2 cHXP_3 cHXY0_0 cHXY0_1 cHXY0_2 cHXY0_3 cHXY1_0 cHXY1_1 cHXY1_2 cHXY1_3
  have hn := Blk.new x2 67 #[.string nm, .int .i64 (W : Int), .int .i64 (K1 : Int), .slice A1 m1 e1, .string nm, .int .i64 (W : Int), .int .i64 (K2 : Int), .slice A2 m2 e2]
  have hb : Below x2.heap.size x2 (x2.alloc (.cells #[.string nm, .int .i64 (W : Int), .int .i64 (K1 : Int), .slice A1 m1 e1, .string nm, .int .i64 (W : Int), .int .i64 (K2 : Int), .slice A2 m2 e2] 67)) := (Below.refl _ _).alloc (Nat.le_refl _) _
  have hge := HB.out.size
  have hlt_HXP := HXP.out.lt
  have hlt_HXY0 := HXY0.out.lt
  have hlt_HXY1 := HXY1.out.lt
  obtain ⟨bY2, hl⟩ : ∃ b, x2.heap.size = b := ⟨_, rfl⟩
  generalize x2.alloc (.cells #[.string nm, .int .i64 (W : Int), .int .i64 (K1 : Int), .slice A1 m1 e1, .string nm, .int .i64 (W : Int), .int .i64 (K2 : Int), .slice A2 m2 e2] 67) = y2 at hn hb ⊢
  replace HR := Lib.hid (HR.out.below hb); replace HL1 := Lib.hid (HL1.out.below hb); replace HL2 := Lib.hid (HL2.out.below hb); replace HL3 := Lib.hid (HL3.out.below hb)
  replace HL4 := Lib.hid (HL4.out.below hb); replace HXP := Lib.hid (HXP.out.below hb); replace HXY0 := Lib.hid (HXY0.out.below hb); replace HXY1 := Lib.hid (HXY1.out.below hb)
  replace HB := Lib.hid (HB.out.trans (hb.mono HB.out.size))
  clear hb
  rw [hl] at hn hge hlt_HXP hlt_HXY0 hlt_HXY1
  try rw [hl]
  have HXY2 := Lib.hid hn; have HGY2 := Lib.hid hge; clear hn hl hge
  have HNY2HXP : RowKit.Hid (¬ bP = bY2) := Lib.hid (by omega); have HNY2HXY0 : RowKit.Hid (¬ bY0 = bY2) := Lib.hid (by omega); have HNY2HXY1 : RowKit.Hid (¬ bY1 = bY2) := Lib.hid (by omega)
  clear hlt_HXP hlt_HXY0 hlt_HXY1
  obtain ⟨cHXP_0, cHXP_1, cHXP_2, cHXP_3⟩ := box4 HXP.out
  obtain ⟨cHXY0_0, cHXY0_1, cHXY0_2, cHXY0_3⟩ := box4 HXY0.out
  obtain ⟨cHXY1_0, cHXY1_1, cHXY1_2, cHXY1_3⟩ := box4 HXY1.out
  obtain ⟨cHXY2_0, cHXY2_1, cHXY2_2, cHXY2_3, cHXY2_4, cHXY2_5, cHXY2_6, cHXY2_7⟩ := box8' HXY2.out
  go_wp2_with fail
  refine (HCK.out _ HR.out).mono ?_
  rintro e u2 ⟨rfl, hb⟩
  replace HR := Lib.hid (HR.out.below hb); replace HL1 := Lib.hid (HL1.out.below hb); replace HL2 := Lib.hid (HL2.out.below hb); replace HL3 := Lib.hid (HL3.out.below hb)
  replace HL4 := Lib.hid (HL4.out.below hb); replace HXP := Lib.hid (HXP.out.below hb); replace HXY0 := Lib.hid (HXY0.out.below hb); replace HXY1 := Lib.hid (HXY1.out.below hb)
  replace HXY2 := Lib.hid (HXY2.out.below hb); replace HB := Lib.hid (HB.out.trans (hb.mono HB.out.size))
  clear hb
  clear cHXP_0 cHXP_1 cHXP_2 cHXP_3 cHXY0_0 cHXY0_1 cHXY0_2 cHXY0_3 cHXY1_0 cHXY1_1 cHXY1_2 cHXY1_3 cHXY2_0 cHXY2_1 cHXY2_2 cHXY2_3 cHXY2_4 cHXY2_5 cHXY2_6 cHXY2_7
  obtain ⟨cHXP_0, cHXP_1, cHXP_2, cHXP_3⟩ := box4 HXP.out
  obtain ⟨cHXY0_0, cHXY0_1, cHXY0_2, cHXY0_3⟩ := box4 HXY0.out
  obtain ⟨cHXY1_0, cHXY1_1, cHXY1_2, cHXY1_3⟩ := box4 HXY1.out
  obtain ⟨cHXY2_0, cHXY2_1, cHXY2_2, cHXY2_3, cHXY2_4, cHXY2_5, cHXY2_6, cHXY2_7⟩ := box8' HXY2.out
  go_upto_region 9 with fail
  clear cHXP_0 cHXP_1 cHXP_2 cHXP_3 cHXY0_0 cHXY0_1 cHXY0_2 cHXY0_3 cHXY1_0 cHXY1_1 cHXY1_2 cHXY1_3 cHXY2_0 cHXY2_1 cHXY2_2 cHXY2_3 cHXY2_4 cHXY2_5 cHXY2_6 cHXY2_7
  have hn := Blk.new u2 43 #[.string ⟨#[]⟩, .int .i64 0, .int .i64 0, .slice none 0 0]
  have hb : Below u2.heap.size u2 (u2.alloc (.cells #[.string ⟨#[]⟩, .int .i64 0, .int .i64 0, .slice none 0 0] 43)) := (Below.refl _ _).alloc (Nat.le_refl _) _
  have hge := HB.out.size
  have hsz : (u2.alloc (.cells #[.string ⟨#[]⟩, .int .i64 0, .int .i64 0, .slice none 0 0] 43)).heap.size = u2.heap.size + 1 := by simp only [World.size_alloc]
  have hlt_HXP := HXP.out.lt
  have hlt_HXY0 := HXY0.out.lt
  have hlt_HXY1 := HXY1.out.lt
  have hlt_HXY2 := HXY2.out.lt
  obtain ⟨bT1, hl⟩ : ∃ b, u2.heap.size = b := ⟨_, rfl⟩
  generalize u2.alloc (.cells #[.string ⟨#[]⟩, .int .i64 0, .int .i64 0, .slice none 0 0] 43) = t1 at hn hb hsz ⊢
  rw [hl] at hsz
  replace HR := Lib.hid (HR.out.below hb); replace HL1 := Lib.hid (HL1.out.below hb); replace HL2 := Lib.hid (HL2.out.below hb); replace HL3 := Lib.hid (HL3.out.below hb)
  replace HL4 := Lib.hid (HL4.out.below hb); replace HXP := Lib.hid (HXP.out.below hb); replace HXY0 := Lib.hid (HXY0.out.below hb); replace HXY1 := Lib.hid (HXY1.out.below hb)
  replace HXY2 := Lib.hid (HXY2.out.below hb); replace HB := Lib.hid (HB.out.trans (hb.mono HB.out.size))
  clear hb
  rw [hl] at hn hge hlt_HXP hlt_HXY0 hlt_HXY1 hlt_HXY2
  try rw [hl]
  have HXT1 := Lib.hid hn; have HGT1 := Lib.hid hge; clear hn hl hge
  have HNT1HXP : RowKit.Hid (¬ bP = bT1) := Lib.hid (by omega); have HNT1HXY0 : RowKit.Hid (¬ bY0 = bT1) := Lib.hid (by omega); have HNT1HXY1 : RowKit.Hid (¬ bY1 = bT1) := Lib.hid (by omega); have HNT1HXY2 : RowKit.Hid (¬ bY2 = bT1) := Lib.hid (by omega)
  clear hlt_HXP hlt_HXY0 hlt_HXY1 hlt_HXY2
  have hn := Blk.new t1 43 #[.string ⟨#[]⟩, .int .i64 0, .int .i64 0, .slice none 0 0]
  have hb : Below t1.heap.size t1 (t1.alloc (.cells #[.string ⟨#[]⟩, .int .i64 0, .int .i64 0, .slice none 0 0] 43)) := (Below.refl _ _).alloc (Nat.le_refl _) _
  have hge := HB.out.size
  have hlt_HXP := HXP.out.lt
  have hlt_HXY0 := HXY0.out.lt
  have hlt_HXY1 := HXY1.out.lt
  have hlt_HXY2 := HXY2.out.lt
  have hlt_HXT1 := HXT1.out.lt
  obtain ⟨bT2, hl⟩ : ∃ b, t1.heap.size = b := ⟨_, rfl⟩
  generalize t1.alloc (.cells #[.string ⟨#[]⟩, .int .i64 0, .int .i64 0, .slice none 0 0] 43) = t2 at hn hb ⊢
  rw [hl] at hsz
  rw [← hsz]
  clear hsz
  replace HR := Lib.hid (HR.out.below hb); replace HL1 := Lib.hid (HL1.out.below hb); replace HL2 := Lib.hid (HL2.out.below hb); replace HL3 := Lib.hid (HL3.out.below hb)
  replace HL4 := Lib.hid (HL4.out.below hb); replace HXP := Lib.hid (HXP.out.below hb); replace HXY0 := Lib.hid (HXY0.out.below hb); replace HXY1 := Lib.hid (HXY1.out.below hb)
  replace HXY2 := Lib.hid (HXY2.out.below hb); replace HXT1 := Lib.hid (HXT1.out.below hb); replace HB := Lib.hid (HB.out.trans (hb.mono HB.out.size))
  clear hb
  rw [hl] at hn hge hlt_HXP hlt_HXY0 hlt_HXY1 hlt_HXY2 hlt_HXT1
  try rw [hl]
  have HXT2 := Lib.hid hn; have HGT2 := Lib.hid hge; clear hn hl hge
  have HNT2HXP : RowKit.Hid (¬ bP = bT2) := Lib.hid (by omega); have HNT2HXY0 : RowKit.Hid (¬ bY0 = bT2) := Lib.hid (by omega); have HNT2HXY1 : RowKit.Hid (¬ bY1 = bT2) := Lib.hid (by omega); have HNT2HXY2 : RowKit.Hid (¬ bY2 = bT2) := Lib.hid (by omega); have HNT2HXT1 : RowKit.Hid (¬ bT1 = bT2) := Lib.hid (by omega)
  clear hlt_HXP hlt_HXY0 hlt_HXY1 hlt_HXY2 hlt_HXT1
  obtain ⟨cHXP_0, cHXP_1, cHXP_2, cHXP_3⟩ := box4 HXP.out
  obtain ⟨cHXY0_0, cHXY0_1, cHXY0_2, cHXY0_3⟩ := box4 HXY0.out
  obtain ⟨cHXY1_0, cHXY1_1, cHXY1_2, cHXY1_3⟩ := box4 HXY1.out
  obtain ⟨cHXY2_0, cHXY2_1, cHXY2_2, cHXY2_3, cHXY2_4, cHXY2_5, cHXY2_6, cHXY2_7⟩ := box8' HXY2.out
  obtain ⟨cHXT1_0, cHXT1_1, cHXT1_2, cHXT1_3⟩ := box4 HXT1.out
  obtain ⟨cHXT2_0, cHXT2_1, cHXT2_2, cHXT2_3⟩ := box4 HXT2.out
  go_upto_region 10 with fail
  clear cHXP_0 cHXP_1 cHXP_2 cHXP_3 cHXY0_0 cHXY0_1 cHXY0_2 cHXY0_3 cHXY1_0 cHXY1_1 cHXY1_2 cHXY1_3 cHXY2_0 cHXY2_1 cHXY2_2 cHXY2_3 cHXY2_4 cHXY2_5 cHXY2_6 cHXY2_7 cHXT1_0 cHXT1_1 cHXT1_2 cHXT1_3 cHXT2_0 cHXT2_1 cHXT2_2 cHXT2_3
  have hn := Blk.new t2 70 #[.string ⟨#[]⟩, .int .i64 0, .int .i64 0, .slice none 0 0, .string ⟨#[]⟩, .int .i64 0, .int .i64 0, .slice none 0 0]
  have hb : Below t2.heap.size t2 (t2.alloc (.cells #[.string ⟨#[]⟩, .int .i64 0, .int .i64 0, .slice none 0 0, .string ⟨#[]⟩, .int .i64 0, .int .i64 0, .slice none 0 0] 70)) := (Below.refl _ _).alloc (Nat.le_refl _) _
  have hge := HB.out.size
  have hlt_HXP := HXP.out.lt
  have hlt_HXY0 := HXY0.out.lt
  have hlt_HXY1 := HXY1.out.lt
  have hlt_HXY2 := HXY2.out.lt
  have hlt_HXT1 := HXT1.out.lt
  have hlt_HXT2 := HXT2.out.lt
  obtain ⟨bT3, hl⟩ : ∃ b, t2.heap.size = b := ⟨_, rfl⟩
  generalize t2.alloc (.cells #[.string ⟨#[]⟩, .int .i64 0, .int .i64 0, .slice none 0 0, .string ⟨#[]⟩, .int .i64 0, .int .i64 0, .slice none 0 0] 70) = t3 at hn hb ⊢
  replace HR := Lib.hid (HR.out.below hb); replace HL1 := Lib.hid (HL1.out.below hb); replace HL2 := Lib.hid (HL2.out.below hb); replace HL3 := Lib.hid (HL3.out.below hb)
  replace HL4 := Lib.hid (HL4.out.below hb); replace HXP := Lib.hid (HXP.out.below hb); replace HXY0 := Lib.hid (HXY0.out.below hb); replace HXY1 := Lib.hid (HXY1.out.below hb)
  replace HXY2 := Lib.hid (HXY2.out.below hb); replace HXT1 := Lib.hid (HXT1.out.below hb); replace HXT2 := Lib.hid (HXT2.out.below hb); replace HB := Lib.hid (HB.out.trans (hb.mono HB.out.size))
  clear hb
  rw [hl] at hn hge hlt_HXP hlt_HXY0 hlt_HXY1 hlt_HXY2 hlt_HXT1 hlt_HXT2
  try rw [hl]
  have HXT3 := Lib.hid hn; have HGT3 := Lib.hid hge; clear hn hl hge
  have HNT3HXP : RowKit.Hid (¬ bP = bT3) := Lib.hid (by omega); have HNT3HXY0 : RowKit.Hid (¬ bY0 = bT3) := Lib.hid (by omega); have HNT3HXY1 : RowKit.Hid (¬ bY1 = bT3) := Lib.hid (by omega); have HNT3HXY2 : RowKit.Hid (¬ bY2 = bT3) := Lib.hid (by omega); have HNT3HXT1 : RowKit.Hid (¬ bT1 = bT3) := Lib.hid (by omega); have HNT3HXT2 : RowKit.Hid (¬ bT2 = bT3) := Lib.hid (by omega)
  clear hlt_HXP hlt_HXY0 hlt_HXY1 hlt_HXY2 hlt_HXT1 hlt_HXT2
  obtain ⟨cHXP_0, cHXP_1, cHXP_2, cHXP_3⟩ := box4 HXP.out
  obtain ⟨cHXY0_0, cHXY0_1, cHXY0_2, cHXY0_3⟩ := box4 HXY0.out
  obtain ⟨cHXY1_0, cHXY1_1, cHXY1_2, cHXY1_3⟩ := box4 HXY1.out
  obtain ⟨cHXY2_0, cHXY2_1, cHXY2_2, cHXY2_3, cHXY2_4, cHXY2_5, cHXY2_6, cHXY2_7⟩ := box8' HXY2.out
  obtain ⟨cHXT1_0, cHXT1_1, cHXT1_2, cHXT1_3⟩ := box4 HXT1.out
  obtain ⟨cHXT2_0, cHXT2_1, cHXT2_2, cHXT2_3⟩ := box4 HXT2.out
  obtain ⟨cHXT3_0, cHXT3_1, cHXT3_2, cHXT3_3, cHXT3_4, cHXT3_5, cHXT3_6, cHXT3_7⟩ := box8' HXT3.out
  go_upto_region 11 with fail
  clear cHXY0_0 cHXY0_1 cHXY0_2 cHXY0_3 cHXY1_0 cHXY1_1 cHXY1_2 cHXY1_3 cHXY2_0 cHXY2_1 cHXY2_2 cHXY2_3 cHXY2_4 cHXY2_5 cHXY2_6 cHXY2_7 cHXT1_0 cHXT1_1 cHXT1_2 cHXT1_3 cHXT2_0 cHXT2_1 cHXT2_2 cHXT2_3 cHXT3_0 cHXT3_1 cHXT3_2 cHXT3_3 cHXT3_4 cHXT3_5 cHXT3_6 cHXT3_7
  have q1 := HNT2HXT1.out; have q2 : ¬ bT2 = bT1 := fun h => q1 h.symm
  go_region_with (first
    | (go_at_call 49; refine (HQ1.out _ (by exact HR.out.below (Below.refl _ _).drew)).mono ?_; rintro e wn ⟨ga, rfl, hr1, hbn⟩; have hbx := ((Below.refl t3.heap.size t3).drew).trans hbn; have HM1 := Lib.hid hr1; have HBX := Lib.hid hbx; obtain ⟨k0, k1, k2, k3⟩ := box4 (HXP.out.below hbx); clear hr1 hbn hbx)
    | (go_at_call 50; refine (HQ2.out _ (by exact HR.out.below HBX.out)).mono ?_; rintro e wm ⟨gb, rfl, hr2, hbn⟩; have hby := HBX.out.trans (hbn.mono HBX.out.size); have HBY := Lib.hid hby; have HBM := Lib.hid hbn; have HM2 := Lib.hid hr2; have hF := HXT1.out.below hby; have fF0 := hF.frozen 0; have fF1 := hF.frozen 1; have fF2 := hF.frozen 2; have fF3 := hF.frozen 3; have lF := hF.lt; obtain ⟨dF0, dF1, dF2, dF3⟩ := box4 hF; clear hF; have hG := HXT2.out.below hby; have fG0 := hG.frozen 0; have fG1 := hG.frozen 1; have fG2 := hG.frozen 2; have fG3 := hG.frozen 3; have lG := hG.lt; obtain ⟨dG0, dG1, dG2, dG3⟩ := box4 hG; clear hG; clear hr2 hbn hby))
  all_goals
    have hby := HBY.out; replace HM1 := Lib.hid (HM1.out.below HBM.out); clear HBM HBX HBY
    replace HR := Lib.hid (HR.out.below hby); replace HL1 := Lib.hid (HL1.out.below hby); replace HL2 := Lib.hid (HL2.out.below hby); replace HL3 := Lib.hid (HL3.out.below hby)
    replace HL4 := Lib.hid (HL4.out.below hby); replace HXP := Lib.hid (HXP.out.below hby); replace HXY0 := Lib.hid (HXY0.out.below hby); replace HXY1 := Lib.hid (HXY1.out.below hby)
    replace HXY2 := Lib.hid (HXY2.out.below hby); replace HXT1 := Lib.hid (HXT1.out.below hby); replace HXT2 := Lib.hid (HXT2.out.below hby); replace HXT3 := Lib.hid (HXT3.out.below hby)
    replace HB := Lib.hid (HB.out.trans (hby.mono HB.out.size))
    clear hby
    go_upto_region 12 with fail
    clear k0 k1 k2 k3 fF0 fF1 fF2 fF3 fG0 fG1 fG2 fG3 dF0 dF1 dF2 dF3 dG0 dG1 dG2 dG3 lF lG
    first
      | (obtain ⟨s0, hs0⟩ : ∃ s, ((((wm.setCell ⟨bT1, 0, none⟩ (.string nm)).setCell ⟨bT1, 1, none⟩ (.int .i64 (W : Int))).setCell ⟨bT1, 2, none⟩ (.int .i64 (H : Int))).setCell ⟨bT1, 3, none⟩ (.slice (some ⟨ga, 0, none⟩) n n)) = s := ⟨_, rfl⟩
         rw [hs0]
         rw [← hs0]
         clear hs0
         have h_HR := rdl_set4 HR.out HXT1.out (nf_four rfl rfl rfl rfl) (.string nm) (.int .i64 (W : Int)) (.int .i64 (H : Int)) (.slice (some ⟨ga, 0, none⟩) n n) rfl rfl rfl
         have h_HL1 := rdl_set4 HL1.out HXT1.out (nf_four rfl rfl rfl rfl) (.string nm) (.int .i64 (W : Int)) (.int .i64 (H : Int)) (.slice (some ⟨ga, 0, none⟩) n n) rfl rfl rfl
         have h_HL2 := rdl_set4 HL2.out HXT1.out (nf_four rfl rfl rfl rfl) (.string nm) (.int .i64 (W : Int)) (.int .i64 (H : Int)) (.slice (some ⟨ga, 0, none⟩) n n) rfl rfl rfl
         have h_HL3 := rdl_set4 HL3.out HXT1.out (nf_four rfl rfl rfl rfl) (.string nm) (.int .i64 (W : Int)) (.int .i64 (H : Int)) (.slice (some ⟨ga, 0, none⟩) n n) rfl rfl rfl
         have h_HL4 := rdl_set4 HL4.out HXT1.out (nf_four rfl rfl rfl rfl) (.string nm) (.int .i64 (W : Int)) (.int .i64 (H : Int)) (.slice (some ⟨ga, 0, none⟩) n n) rfl rfl rfl
         have h_HM1 := rdl_set4 HM1.out HXT1.out (nf_four rfl rfl rfl rfl) (.string nm) (.int .i64 (W : Int)) (.int .i64 (H : Int)) (.slice (some ⟨ga, 0, none⟩) n n) rfl rfl rfl
         have h_HM2 := rdl_set4 HM2.out HXT1.out (nf_four rfl rfl rfl rfl) (.string nm) (.int .i64 (W : Int)) (.int .i64 (H : Int)) (.slice (some ⟨ga, 0, none⟩) n n) rfl rfl rfl
         have h_HXP := bl_far4 HXP.out (by have h1 := HNT1HXP.out; exact h1) (.string nm) (.int .i64 (W : Int)) (.int .i64 (H : Int)) (.slice (some ⟨ga, 0, none⟩) n n)
         have h_HXY0 := bl_far4 HXY0.out (by have h1 := HNT1HXY0.out; exact h1) (.string nm) (.int .i64 (W : Int)) (.int .i64 (H : Int)) (.slice (some ⟨ga, 0, none⟩) n n)
         have h_HXY1 := bl_far4 HXY1.out (by have h1 := HNT1HXY1.out; exact h1) (.string nm) (.int .i64 (W : Int)) (.int .i64 (H : Int)) (.slice (some ⟨ga, 0, none⟩) n n)
         have h_HXY2 := bl_far4 HXY2.out (by have h1 := HNT1HXY2.out; exact h1) (.string nm) (.int .i64 (W : Int)) (.int .i64 (H : Int)) (.slice (some ⟨ga, 0, none⟩) n n)
         have h_HXT2 := bl_far4 HXT2.out (by have h1 := HNT2HXT1.out; exact fun h => h1 h.symm) (.string nm) (.int .i64 (W : Int)) (.int .i64 (H : Int)) (.slice (some ⟨ga, 0, none⟩) n n)
         have h_HXT3 := bl_far4 HXT3.out (by have h1 := HNT3HXT1.out; exact fun h => h1 h.symm) (.string nm) (.int .i64 (W : Int)) (.int .i64 (H : Int)) (.slice (some ⟨ga, 0, none⟩) n n)
         have h_HXT1 := blk_set4' HXT1.out (.string nm) (.int .i64 (W : Int)) (.int .i64 (H : Int)) (.slice (some ⟨ga, 0, none⟩) n n)
         have h_B := below_set4 HB.out HGT1.out (.string nm) (.int .i64 (W : Int)) (.int .i64 (H : Int)) (.slice (some ⟨ga, 0, none⟩) n n)
         generalize ((((wm.setCell ⟨bT1, 0, none⟩ (.string nm)).setCell ⟨bT1, 1, none⟩ (.int .i64 (W : Int))).setCell ⟨bT1, 2, none⟩ (.int .i64 (H : Int))).setCell ⟨bT1, 3, none⟩ (.slice (some ⟨ga, 0, none⟩) n n)) = s1 at h_HR h_HL1 h_HL2 h_HL3 h_HL4 h_HM1 h_HM2 h_HXP h_HXY0 h_HXY1 h_HXY2 h_HXT1 h_HXT2 h_HXT3 h_B ⊢
         replace HR := Lib.hid h_HR; replace HL1 := Lib.hid h_HL1; replace HL2 := Lib.hid h_HL2; replace HL3 := Lib.hid h_HL3; replace HL4 := Lib.hid h_HL4; replace HM1 := Lib.hid h_HM1
         replace HM2 := Lib.hid h_HM2; replace HXP := Lib.hid h_HXP; replace HXY0 := Lib.hid h_HXY0; replace HXY1 := Lib.hid h_HXY1; replace HXY2 := Lib.hid h_HXY2; replace HXT1 := Lib.hid h_HXT1
         replace HXT2 := Lib.hid h_HXT2; replace HXT3 := Lib.hid h_HXT3; replace HB := Lib.hid h_B
         clear h_HR h_HL1 h_HL2 h_HL3 h_HL4 h_HM1 h_HM2 h_HXP h_HXY0 h_HXY1 h_HXY2 h_HXT1 h_HXT2 h_HXT3 h_B
         have h_HR := rdl_set4 HR.out HXT2.out (nf_four rfl rfl rfl rfl) (.string nm) (.int .i64 (H : Int)) (.int .i64 (W : Int)) (.slice (some ⟨gb, 0, none⟩) n n) rfl rfl rfl
         have h_HL1 := rdl_set4 HL1.out HXT2.out (nf_four rfl rfl rfl rfl) (.string nm) (.int .i64 (H : Int)) (.int .i64 (W : Int)) (.slice (some ⟨gb, 0, none⟩) n n) rfl rfl rfl
         have h_HL2 := rdl_set4 HL2.out HXT2.out (nf_four rfl rfl rfl rfl) (.string nm) (.int .i64 (H : Int)) (.int .i64 (W : Int)) (.slice (some ⟨gb, 0, none⟩) n n) rfl rfl rfl
         have h_HL3 := rdl_set4 HL3.out HXT2.out (nf_four rfl rfl rfl rfl) (.string nm) (.int .i64 (H : Int)) (.int .i64 (W : Int)) (.slice (some ⟨gb, 0, none⟩) n n) rfl rfl rfl
         have h_HL4 := rdl_set4 HL4.out HXT2.out (nf_four rfl rfl rfl rfl) (.string nm) (.int .i64 (H : Int)) (.int .i64 (W : Int)) (.slice (some ⟨gb, 0, none⟩) n n) rfl rfl rfl
         have h_HM1 := rdl_set4 HM1.out HXT2.out (nf_four rfl rfl rfl rfl) (.string nm) (.int .i64 (H : Int)) (.int .i64 (W : Int)) (.slice (some ⟨gb, 0, none⟩) n n) rfl rfl rfl
         have h_HM2 := rdl_set4 HM2.out HXT2.out (nf_four rfl rfl rfl rfl) (.string nm) (.int .i64 (H : Int)) (.int .i64 (W : Int)) (.slice (some ⟨gb, 0, none⟩) n n) rfl rfl rfl
         have h_HXP := bl_far4 HXP.out (by have h1 := HNT2HXP.out; exact h1) (.string nm) (.int .i64 (H : Int)) (.int .i64 (W : Int)) (.slice (some ⟨gb, 0, none⟩) n n)
         have h_HXY0 := bl_far4 HXY0.out (by have h1 := HNT2HXY0.out; exact h1) (.string nm) (.int .i64 (H : Int)) (.int .i64 (W : Int)) (.slice (some ⟨gb, 0, none⟩) n n)
         have h_HXY1 := bl_far4 HXY1.out (by have h1 := HNT2HXY1.out; exact h1) (.string nm) (.int .i64 (H : Int)) (.int .i64 (W : Int)) (.slice (some ⟨gb, 0, none⟩) n n)
         have h_HXY2 := bl_far4 HXY2.out (by have h1 := HNT2HXY2.out; exact h1) (.string nm) (.int .i64 (H : Int)) (.int .i64 (W : Int)) (.slice (some ⟨gb, 0, none⟩) n n)
         have h_HXT1 := bl_far4 HXT1.out (by have h1 := HNT2HXT1.out; exact h1) (.string nm) (.int .i64 (H : Int)) (.int .i64 (W : Int)) (.slice (some ⟨gb, 0, none⟩) n n)
         have h_HXT3 := bl_far4 HXT3.out (by have h1 := HNT3HXT2.out; exact fun h => h1 h.symm) (.string nm) (.int .i64 (H : Int)) (.int .i64 (W : Int)) (.slice (some ⟨gb, 0, none⟩) n n)
         have h_HXT2 := blk_set4' HXT2.out (.string nm) (.int .i64 (H : Int)) (.int .i64 (W : Int)) (.slice (some ⟨gb, 0, none⟩) n n)
         have h_B := below_set4 HB.out HGT2.out (.string nm) (.int .i64 (H : Int)) (.int .i64 (W : Int)) (.slice (some ⟨gb, 0, none⟩) n n)
         generalize ((((s1.setCell ⟨bT2, 0, none⟩ (.string nm)).setCell ⟨bT2, 1, none⟩ (.int .i64 (H : Int))).setCell ⟨bT2, 2, none⟩ (.int .i64 (W : Int))).setCell ⟨bT2, 3, none⟩ (.slice (some ⟨gb, 0, none⟩) n n)) = s2 at h_HR h_HL1 h_HL2 h_HL3 h_HL4 h_HM1 h_HM2 h_HXP h_HXY0 h_HXY1 h_HXY2 h_HXT1 h_HXT2 h_HXT3 h_B ⊢
         replace HR := Lib.hid h_HR; replace HL1 := Lib.hid h_HL1; replace HL2 := Lib.hid h_HL2; replace HL3 := Lib.hid h_HL3; replace HL4 := Lib.hid h_HL4; replace HM1 := Lib.hid h_HM1
         replace HM2 := Lib.hid h_HM2; replace HXP := Lib.hid h_HXP; replace HXY0 := Lib.hid h_HXY0; replace HXY1 := Lib.hid h_HXY1; replace HXY2 := Lib.hid h_HXY2; replace HXT1 := Lib.hid h_HXT1
         replace HXT2 := Lib.hid h_HXT2; replace HXT3 := Lib.hid h_HXT3; replace HB := Lib.hid h_B
         clear h_HR h_HL1 h_HL2 h_HL3 h_HL4 h_HM1 h_HM2 h_HXP h_HXY0 h_HXY1 h_HXY2 h_HXT1 h_HXT2 h_HXT3 h_B)
      | (obtain ⟨s0, hs0⟩ : ∃ s, ((((wm.setCell ⟨bT2, 0, none⟩ (.string nm)).setCell ⟨bT2, 1, none⟩ (.int .i64 (H : Int))).setCell ⟨bT2, 2, none⟩ (.int .i64 (W : Int))).setCell ⟨bT2, 3, none⟩ (.slice (some ⟨gb, 0, none⟩) n n)) = s := ⟨_, rfl⟩
         rw [hs0]
         rw [← hs0]
         clear hs0
         have h_HR := rdl_set4 HR.out HXT2.out (nf_four rfl rfl rfl rfl) (.string nm) (.int .i64 (H : Int)) (.int .i64 (W : Int)) (.slice (some ⟨gb, 0, none⟩) n n) rfl rfl rfl
         have h_HL1 := rdl_set4 HL1.out HXT2.out (nf_four rfl rfl rfl rfl) (.string nm) (.int .i64 (H : Int)) (.int .i64 (W : Int)) (.slice (some ⟨gb, 0, none⟩) n n) rfl rfl rfl
         have h_HL2 := rdl_set4 HL2.out HXT2.out (nf_four rfl rfl rfl rfl) (.string nm) (.int .i64 (H : Int)) (.int .i64 (W : Int)) (.slice (some ⟨gb, 0, none⟩) n n) rfl rfl rfl
         have h_HL3 := rdl_set4 HL3.out HXT2.out (nf_four rfl rfl rfl rfl) (.string nm) (.int .i64 (H : Int)) (.int .i64 (W : Int)) (.slice (some ⟨gb, 0, none⟩) n n) rfl rfl rfl
         have h_HL4 := rdl_set4 HL4.out HXT2.out (nf_four rfl rfl rfl rfl) (.string nm) (.int .i64 (H : Int)) (.int .i64 (W : Int)) (.slice (some ⟨gb, 0, none⟩) n n) rfl rfl rfl
         have h_HM1 := rdl_set4 HM1.out HXT2.out (nf_four rfl rfl rfl rfl) (.string nm) (.int .i64 (H : Int)) (.int .i64 (W : Int)) (.slice (some ⟨gb, 0, none⟩) n n) rfl rfl rfl
         have h_HM2 := rdl_set4 HM2.out HXT2.out (nf_four rfl rfl rfl rfl) (.string nm) (.int .i64 (H : Int)) (.int .i64 (W : Int)) (.slice (some ⟨gb, 0, none⟩) n n) rfl rfl rfl
         have h_HXP := bl_far4 HXP.out (by have h1 := HNT2HXP.out; exact h1) (.string nm) (.int .i64 (H : Int)) (.int .i64 (W : Int)) (.slice (some ⟨gb, 0, none⟩) n n)
         have h_HXY0 := bl_far4 HXY0.out (by have h1 := HNT2HXY0.out; exact h1) (.string nm) (.int .i64 (H : Int)) (.int .i64 (W : Int)) (.slice (some ⟨gb, 0, none⟩) n n)
         have h_HXY1 := bl_far4 HXY1.out (by have h1 := HNT2HXY1.out; exact h1) (.string nm) (.int .i64 (H : Int)) (.int .i64 (W : Int)) (.slice (some ⟨gb, 0, none⟩) n n)
         have h_HXY2 := bl_far4 HXY2.out (by have h1 := HNT2HXY2.out; exact h1) (.string nm) (.int .i64 (H : Int)) (.int .i64 (W : Int)) (.slice (some ⟨gb, 0, none⟩) n n)
         have h_HXT1 := bl_far4 HXT1.out (by have h1 := HNT2HXT1.out; exact h1) (.string nm) (.int .i64 (H : Int)) (.int .i64 (W : Int)) (.slice (some ⟨gb, 0, none⟩) n n)
         have h_HXT3 := bl_far4 HXT3.out (by have h1 := HNT3HXT2.out; exact fun h => h1 h.symm) (.string nm) (.int .i64 (H : Int)) (.int .i64 (W : Int)) (.slice (some ⟨gb, 0, none⟩) n n)
         have h_HXT2 := blk_set4' HXT2.out (.string nm) (.int .i64 (H : Int)) (.int .i64 (W : Int)) (.slice (some ⟨gb, 0, none⟩) n n)
         have h_B := below_set4 HB.out HGT2.out (.string nm) (.int .i64 (H : Int)) (.int .i64 (W : Int)) (.slice (some ⟨gb, 0, none⟩) n n)
         generalize ((((wm.setCell ⟨bT2, 0, none⟩ (.string nm)).setCell ⟨bT2, 1, none⟩ (.int .i64 (H : Int))).setCell ⟨bT2, 2, none⟩ (.int .i64 (W : Int))).setCell ⟨bT2, 3, none⟩ (.slice (some ⟨gb, 0, none⟩) n n)) = s1 at h_HR h_HL1 h_HL2 h_HL3 h_HL4 h_HM1 h_HM2 h_HXP h_HXY0 h_HXY1 h_HXY2 h_HXT1 h_HXT2 h_HXT3 h_B ⊢
         replace HR := Lib.hid h_HR; replace HL1 := Lib.hid h_HL1; replace HL2 := Lib.hid h_HL2; replace HL3 := Lib.hid h_HL3; replace HL4 := Lib.hid h_HL4; replace HM1 := Lib.hid h_HM1
         replace HM2 := Lib.hid h_HM2; replace HXP := Lib.hid h_HXP; replace HXY0 := Lib.hid h_HXY0; replace HXY1 := Lib.hid h_HXY1; replace HXY2 := Lib.hid h_HXY2; replace HXT1 := Lib.hid h_HXT1
         replace HXT2 := Lib.hid h_HXT2; replace HXT3 := Lib.hid h_HXT3; replace HB := Lib.hid h_B
         clear h_HR h_HL1 h_HL2 h_HL3 h_HL4 h_HM1 h_HM2 h_HXP h_HXY0 h_HXY1 h_HXY2 h_HXT1 h_HXT2 h_HXT3 h_B
         have h_HR := rdl_set4 HR.out HXT1.out (nf_four rfl rfl rfl rfl) (.string nm) (.int .i64 (W : Int)) (.int .i64 (H : Int)) (.slice (some ⟨ga, 0, none⟩) n n) rfl rfl rfl
         have h_HL1 := rdl_set4 HL1.out HXT1.out (nf_four rfl rfl rfl rfl) (.string nm) (.int .i64 (W : Int)) (.int .i64 (H : Int)) (.slice (some ⟨ga, 0, none⟩) n n) rfl rfl rfl
         have h_HL2 := rdl_set4 HL2.out HXT1.out (nf_four rfl rfl rfl rfl) (.string nm) (.int .i64 (W : Int)) (.int .i64 (H : Int)) (.slice (some ⟨ga, 0, none⟩) n n) rfl rfl rfl
         have h_HL3 := rdl_set4 HL3.out HXT1.out (nf_four rfl rfl rfl rfl) (.string nm) (.int .i64 (W : Int)) (.int .i64 (H : Int)) (.slice (some ⟨ga, 0, none⟩) n n) rfl rfl rfl
         have h_HL4 := rdl_set4 HL4.out HXT1.out (nf_four rfl rfl rfl rfl) (.string nm) (.int .i64 (W : Int)) (.int .i64 (H : Int)) (.slice (some ⟨ga, 0, none⟩) n n) rfl rfl rfl
         have h_HM1 := rdl_set4 HM1.out HXT1.out (nf_four rfl rfl rfl rfl) (.string nm) (.int .i64 (W : Int)) (.int .i64 (H : Int)) (.slice (some ⟨ga, 0, none⟩) n n) rfl rfl rfl
         have h_HM2 := rdl_set4 HM2.out HXT1.out (nf_four rfl rfl rfl rfl) (.string nm) (.int .i64 (W : Int)) (.int .i64 (H : Int)) (.slice (some ⟨ga, 0, none⟩) n n) rfl rfl rfl
         have h_HXP := bl_far4 HXP.out (by have h1 := HNT1HXP.out; exact h1) (.string nm) (.int .i64 (W : Int)) (.int .i64 (H : Int)) (.slice (some ⟨ga, 0, none⟩) n n)
         have h_HXY0 := bl_far4 HXY0.out (by have h1 := HNT1HXY0.out; exact h1) (.string nm) (.int .i64 (W : Int)) (.int .i64 (H : Int)) (.slice (some ⟨ga, 0, none⟩) n n)
         have h_HXY1 := bl_far4 HXY1.out (by have h1 := HNT1HXY1.out; exact h1) (.string nm) (.int .i64 (W : Int)) (.int .i64 (H : Int)) (.slice (some ⟨ga, 0, none⟩) n n)
         have h_HXY2 := bl_far4 HXY2.out (by have h1 := HNT1HXY2.out; exact h1) (.string nm) (.int .i64 (W : Int)) (.int .i64 (H : Int)) (.slice (some ⟨ga, 0, none⟩) n n)
         have h_HXT2 := bl_far4 HXT2.out (by have h1 := HNT2HXT1.out; exact fun h => h1 h.symm) (.string nm) (.int .i64 (W : Int)) (.int .i64 (H : Int)) (.slice (some ⟨ga, 0, none⟩) n n)
         have h_HXT3 := bl_far4 HXT3.out (by have h1 := HNT3HXT1.out; exact fun h => h1 h.symm) (.string nm) (.int .i64 (W : Int)) (.int .i64 (H : Int)) (.slice (some ⟨ga, 0, none⟩) n n)
         have h_HXT1 := blk_set4' HXT1.out (.string nm) (.int .i64 (W : Int)) (.int .i64 (H : Int)) (.slice (some ⟨ga, 0, none⟩) n n)
         have h_B := below_set4 HB.out HGT1.out (.string nm) (.int .i64 (W : Int)) (.int .i64 (H : Int)) (.slice (some ⟨ga, 0, none⟩) n n)
         generalize ((((s1.setCell ⟨bT1, 0, none⟩ (.string nm)).setCell ⟨bT1, 1, none⟩ (.int .i64 (W : Int))).setCell ⟨bT1, 2, none⟩ (.int .i64 (H : Int))).setCell ⟨bT1, 3, none⟩ (.slice (some ⟨ga, 0, none⟩) n n)) = s2 at h_HR h_HL1 h_HL2 h_HL3 h_HL4 h_HM1 h_HM2 h_HXP h_HXY0 h_HXY1 h_HXY2 h_HXT1 h_HXT2 h_HXT3 h_B ⊢
         replace HR := Lib.hid h_HR; replace HL1 := Lib.hid h_HL1; replace HL2 := Lib.hid h_HL2; replace HL3 := Lib.hid h_HL3; replace HL4 := Lib.hid h_HL4; replace HM1 := Lib.hid h_HM1
         replace HM2 := Lib.hid h_HM2; replace HXP := Lib.hid h_HXP; replace HXY0 := Lib.hid h_HXY0; replace HXY1 := Lib.hid h_HXY1; replace HXY2 := Lib.hid h_HXY2; replace HXT1 := Lib.hid h_HXT1
         replace HXT2 := Lib.hid h_HXT2; replace HXT3 := Lib.hid h_HXT3; replace HB := Lib.hid h_B
         clear h_HR h_HL1 h_HL2 h_HL3 h_HL4 h_HM1 h_HM2 h_HXP h_HXY0 h_HXY1 h_HXY2 h_HXT1 h_HXT2 h_HXT3 h_B)
    obtain ⟨cHXP_0, cHXP_1, cHXP_2, cHXP_3⟩ := box4 HXP.out
    go_wp2_with fail
    refine (HQ3.out _ HR.out).mono ?_
    rintro e r1 ⟨B1, d1, B2, d2, rfl, hr1, hr2, hb⟩
    replace HR := Lib.hid (HR.out.below hb); replace HL1 := Lib.hid (HL1.out.below hb); replace HL2 := Lib.hid (HL2.out.below hb); replace HL3 := Lib.hid (HL3.out.below hb)
    replace HL4 := Lib.hid (HL4.out.below hb); replace HM1 := Lib.hid (HM1.out.below hb); replace HM2 := Lib.hid (HM2.out.below hb); replace HXP := Lib.hid (HXP.out.below hb)
    replace HXY0 := Lib.hid (HXY0.out.below hb); replace HXY1 := Lib.hid (HXY1.out.below hb); replace HXY2 := Lib.hid (HXY2.out.below hb); replace HXT1 := Lib.hid (HXT1.out.below hb)
    replace HXT2 := Lib.hid (HXT2.out.below hb); replace HXT3 := Lib.hid (HXT3.out.below hb); replace HB := Lib.hid (HB.out.trans (hb.mono HB.out.size))
    clear hb
    have HM3 := Lib.hid hr1; clear hr1
    have HM4 := Lib.hid hr2; clear hr2
    clear cHXP_0 cHXP_1 cHXP_2 cHXP_3
    have lG := HXT3.out.lt
    obtain ⟨d0, d1_, d2_, d3, d4, d5, d6, d7⟩ := box8' HXT3.out
    have f0 := HXT3.out.frozen 0; have f1 := HXT3.out.frozen 1; have f2 := HXT3.out.frozen 2; have f3 := HXT3.out.frozen 3; have f4 := HXT3.out.frozen 4; have f5 := HXT3.out.frozen 5; have f6 := HXT3.out.frozen 6; have f7 := HXT3.out.frozen 7
    go_upto_region 13 with fail
    clear d0 d1_ d2_ d3 d4 d5 d6 d7 f0 f1 f2 f3 f4 f5 f6 f7 lG
    have h_HR := rd_set8 HR.out HXT3.out (nf_eight rfl rfl rfl rfl rfl rfl rfl rfl) (.string nm) (.int .i64 (W : Int)) (.int .i64 (K1 : Int)) (.slice B1 m1 d1) (.string nm) (.int .i64 (W : Int)) (.int .i64 (K2 : Int)) (.slice B2 m2 d2) rfl rfl rfl rfl rfl rfl rfl
    have h_HL1 := rd_set8 HL1.out HXT3.out (nf_eight rfl rfl rfl rfl rfl rfl rfl rfl) (.string nm) (.int .i64 (W : Int)) (.int .i64 (K1 : Int)) (.slice B1 m1 d1) (.string nm) (.int .i64 (W : Int)) (.int .i64 (K2 : Int)) (.slice B2 m2 d2) rfl rfl rfl rfl rfl rfl rfl
    have h_HL2 := rd_set8 HL2.out HXT3.out (nf_eight rfl rfl rfl rfl rfl rfl rfl rfl) (.string nm) (.int .i64 (W : Int)) (.int .i64 (K1 : Int)) (.slice B1 m1 d1) (.string nm) (.int .i64 (W : Int)) (.int .i64 (K2 : Int)) (.slice B2 m2 d2) rfl rfl rfl rfl rfl rfl rfl
    have h_HL3 := rd_set8 HL3.out HXT3.out (nf_eight rfl rfl rfl rfl rfl rfl rfl rfl) (.string nm) (.int .i64 (W : Int)) (.int .i64 (K1 : Int)) (.slice B1 m1 d1) (.string nm) (.int .i64 (W : Int)) (.int .i64 (K2 : Int)) (.slice B2 m2 d2) rfl rfl rfl rfl rfl rfl rfl
    have h_HL4 := rd_set8 HL4.out HXT3.out (nf_eight rfl rfl rfl rfl rfl rfl rfl rfl) (.string nm) (.int .i64 (W : Int)) (.int .i64 (K1 : Int)) (.slice B1 m1 d1) (.string nm) (.int .i64 (W : Int)) (.int .i64 (K2 : Int)) (.slice B2 m2 d2) rfl rfl rfl rfl rfl rfl rfl
    have h_HM1 := rd_set8 HM1.out HXT3.out (nf_eight rfl rfl rfl rfl rfl rfl rfl rfl) (.string nm) (.int .i64 (W : Int)) (.int .i64 (K1 : Int)) (.slice B1 m1 d1) (.string nm) (.int .i64 (W : Int)) (.int .i64 (K2 : Int)) (.slice B2 m2 d2) rfl rfl rfl rfl rfl rfl rfl
    have h_HM2 := rd_set8 HM2.out HXT3.out (nf_eight rfl rfl rfl rfl rfl rfl rfl rfl) (.string nm) (.int .i64 (W : Int)) (.int .i64 (K1 : Int)) (.slice B1 m1 d1) (.string nm) (.int .i64 (W : Int)) (.int .i64 (K2 : Int)) (.slice B2 m2 d2) rfl rfl rfl rfl rfl rfl rfl
    have h_HM3 := rd_set8 HM3.out HXT3.out (nf_eight rfl rfl rfl rfl rfl rfl rfl rfl) (.string nm) (.int .i64 (W : Int)) (.int .i64 (K1 : Int)) (.slice B1 m1 d1) (.string nm) (.int .i64 (W : Int)) (.int .i64 (K2 : Int)) (.slice B2 m2 d2) rfl rfl rfl rfl rfl rfl rfl
    have h_HM4 := rd_set8 HM4.out HXT3.out (nf_eight rfl rfl rfl rfl rfl rfl rfl rfl) (.string nm) (.int .i64 (W : Int)) (.int .i64 (K1 : Int)) (.slice B1 m1 d1) (.string nm) (.int .i64 (W : Int)) (.int .i64 (K2 : Int)) (.slice B2 m2 d2) rfl rfl rfl rfl rfl rfl rfl
    have h_HXP := blk_far8 HXP.out (by have h1 := HNT3HXP.out; exact h1) (.string nm) (.int .i64 (W : Int)) (.int .i64 (K1 : Int)) (.slice B1 m1 d1) (.string nm) (.int .i64 (W : Int)) (.int .i64 (K2 : Int)) (.slice B2 m2 d2)
    have h_HXY0 := blk_far8 HXY0.out (by have h1 := HNT3HXY0.out; exact h1) (.string nm) (.int .i64 (W : Int)) (.int .i64 (K1 : Int)) (.slice B1 m1 d1) (.string nm) (.int .i64 (W : Int)) (.int .i64 (K2 : Int)) (.slice B2 m2 d2)
    have h_HXY1 := blk_far8 HXY1.out (by have h1 := HNT3HXY1.out; exact h1) (.string nm) (.int .i64 (W : Int)) (.int .i64 (K1 : Int)) (.slice B1 m1 d1) (.string nm) (.int .i64 (W : Int)) (.int .i64 (K2 : Int)) (.slice B2 m2 d2)
    have h_HXY2 := blk_far8 HXY2.out (by have h1 := HNT3HXY2.out; exact h1) (.string nm) (.int .i64 (W : Int)) (.int .i64 (K1 : Int)) (.slice B1 m1 d1) (.string nm) (.int .i64 (W : Int)) (.int .i64 (K2 : Int)) (.slice B2 m2 d2)
    have h_HXT1 := blk_far8 HXT1.out (by have h1 := HNT3HXT1.out; exact h1) (.string nm) (.int .i64 (W : Int)) (.int .i64 (K1 : Int)) (.slice B1 m1 d1) (.string nm) (.int .i64 (W : Int)) (.int .i64 (K2 : Int)) (.slice B2 m2 d2)
    have h_HXT2 := blk_far8 HXT2.out (by have h1 := HNT3HXT2.out; exact h1) (.string nm) (.int .i64 (W : Int)) (.int .i64 (K1 : Int)) (.slice B1 m1 d1) (.string nm) (.int .i64 (W : Int)) (.int .i64 (K2 : Int)) (.slice B2 m2 d2)
    have h_HXT3 := blk_set8 HXT3.out (.string nm) (.int .i64 (W : Int)) (.int .i64 (K1 : Int)) (.slice B1 m1 d1) (.string nm) (.int .i64 (W : Int)) (.int .i64 (K2 : Int)) (.slice B2 m2 d2)
    have h_B := below_set8 HB.out HGT3.out (.string nm) (.int .i64 (W : Int)) (.int .i64 (K1 : Int)) (.slice B1 m1 d1) (.string nm) (.int .i64 (W : Int)) (.int .i64 (K2 : Int)) (.slice B2 m2 d2)
    generalize ((((((((r1.setCell ⟨bT3, 0, none⟩ (.string nm)).setCell ⟨bT3, 1, none⟩ (.int .i64 (W : Int))).setCell ⟨bT3, 2, none⟩ (.int .i64 (K1 : Int))).setCell ⟨bT3, 3, none⟩ (.slice B1 m1 d1)).setCell ⟨bT3, 4, none⟩ (.string nm)).setCell ⟨bT3, 5, none⟩ (.int .i64 (W : Int))).setCell ⟨bT3, 6, none⟩ (.int .i64 (K2 : Int))).setCell ⟨bT3, 7, none⟩ (.slice B2 m2 d2)) = s3 at h_HR h_HL1 h_HL2 h_HL3 h_HL4 h_HM1 h_HM2 h_HM3 h_HM4 h_HXP h_HXY0 h_HXY1 h_HXY2 h_HXT1 h_HXT2 h_HXT3 h_B ⊢
    replace HR := Lib.hid h_HR; replace HL1 := Lib.hid h_HL1; replace HL2 := Lib.hid h_HL2; replace HL3 := Lib.hid h_HL3; replace HL4 := Lib.hid h_HL4; replace HM1 := Lib.hid h_HM1
    replace HM2 := Lib.hid h_HM2; replace HM3 := Lib.hid h_HM3; replace HM4 := Lib.hid h_HM4; replace HXP := Lib.hid h_HXP; replace HXY0 := Lib.hid h_HXY0; replace HXY1 := Lib.hid h_HXY1
    replace HXY2 := Lib.hid h_HXY2; replace HXT1 := Lib.hid h_HXT1; replace HXT2 := Lib.hid h_HXT2; replace HXT3 := Lib.hid h_HXT3; replace HB := Lib.hid h_B
    clear h_HR h_HL1 h_HL2 h_HL3 h_HL4 h_HM1 h_HM2 h_HM3 h_HM4 h_HXP h_HXY0 h_HXY1 h_HXY2 h_HXT1 h_HXT2 h_HXT3 h_B
    obtain ⟨cHXP_0, cHXP_1, cHXP_2, cHXP_3⟩ := box4 HXP.out
    obtain ⟨cHXY0_0, cHXY0_1, cHXY0_2, cHXY0_3⟩ := box4 HXY0.out
    obtain ⟨cHXY1_0, cHXY1_1, cHXY1_2, cHXY1_3⟩ := box4 HXY1.out
    obtain ⟨cHXY2_0, cHXY2_1, cHXY2_2, cHXY2_3, cHXY2_4, cHXY2_5, cHXY2_6, cHXY2_7⟩ := box8' HXY2.out
    obtain ⟨cHXT1_0, cHXT1_1, cHXT1_2, cHXT1_3⟩ := box4 HXT1.out
    obtain ⟨cHXT2_0, cHXT2_1, cHXT2_2, cHXT2_3⟩ := box4 HXT2.out
    obtain ⟨cHXT3_0, cHXT3_1, cHXT3_2, cHXT3_3, cHXT3_4, cHXT3_5, cHXT3_6, cHXT3_7⟩ := box8' HXT3.out
    go_wp2_with fail
    refine (one_true nm W H _ _ n n n L1 L1 _ HN1.out.1 HN1.out.1 HN0.out HN1.out.2 HL1.out HM1.out).mono ?_
    rintro e o0 ⟨rfl, hb⟩
    replace HR := Lib.hid (HR.out.below hb); replace HL1 := Lib.hid (HL1.out.below hb); replace HL2 := Lib.hid (HL2.out.below hb); replace HL3 := Lib.hid (HL3.out.below hb)
    replace HL4 := Lib.hid (HL4.out.below hb); replace HM1 := Lib.hid (HM1.out.below hb); replace HM2 := Lib.hid (HM2.out.below hb); replace HM3 := Lib.hid (HM3.out.below hb)
    replace HM4 := Lib.hid (HM4.out.below hb); replace HXP := Lib.hid (HXP.out.below hb); replace HXY0 := Lib.hid (HXY0.out.below hb); replace HXY1 := Lib.hid (HXY1.out.below hb)
    replace HXY2 := Lib.hid (HXY2.out.below hb); replace HXT1 := Lib.hid (HXT1.out.below hb); replace HXT2 := Lib.hid (HXT2.out.below hb); replace HXT3 := Lib.hid (HXT3.out.below hb)
    replace HB := Lib.hid (HB.out.trans (hb.mono HB.out.size))
    clear hb
    clear cHXP_0 cHXP_1 cHXP_2 cHXP_3 cHXY0_0 cHXY0_1 cHXY0_2 cHXY0_3 cHXY1_0 cHXY1_1 cHXY1_2 cHXY1_3 cHXY2_0 cHXY2_1 cHXY2_2 cHXY2_3 cHXY2_4 cHXY2_5 cHXY2_6 cHXY2_7 cHXT1_0 cHXT1_1 cHXT1_2 cHXT1_3 cHXT2_0 cHXT2_1 cHXT2_2 cHXT2_3 cHXT3_0 cHXT3_1 cHXT3_2 cHXT3_3 cHXT3_4 cHXT3_5 cHXT3_6 cHXT3_7
    obtain ⟨cHXP_0, cHXP_1, cHXP_2, cHXP_3⟩ := box4 HXP.out
    obtain ⟨cHXY0_0, cHXY0_1, cHXY0_2, cHXY0_3⟩ := box4 HXY0.out
    obtain ⟨cHXY1_0, cHXY1_1, cHXY1_2, cHXY1_3⟩ := box4 HXY1.out
    obtain ⟨cHXY2_0, cHXY2_1, cHXY2_2, cHXY2_3, cHXY2_4, cHXY2_5, cHXY2_6, cHXY2_7⟩ := box8' HXY2.out
    obtain ⟨cHXT1_0, cHXT1_1, cHXT1_2, cHXT1_3⟩ := box4 HXT1.out
    obtain ⟨cHXT2_0, cHXT2_1, cHXT2_2, cHXT2_3⟩ := box4 HXT2.out
    obtain ⟨cHXT3_0, cHXT3_1, cHXT3_2, cHXT3_3, cHXT3_4, cHXT3_5, cHXT3_6, cHXT3_7⟩ := box8' HXT3.out
    go_wp2_with fail
    refine (one_true nm H W _ _ n n n L2 L2 _ HN2.out.1 HN2.out.1 HN0.out HN2.out.2 HL2.out HM2.out).mono ?_
    rintro e o1 ⟨rfl, hb⟩
    replace HR := Lib.hid (HR.out.below hb); replace HL1 := Lib.hid (HL1.out.below hb); replace HL2 := Lib.hid (HL2.out.below hb); replace HL3 := Lib.hid (HL3.out.below hb)
    replace HL4 := Lib.hid (HL4.out.below hb); replace HM1 := Lib.hid (HM1.out.below hb); replace HM2 := Lib.hid (HM2.out.below hb); replace HM3 := Lib.hid (HM3.out.below hb)
    replace HM4 := Lib.hid (HM4.out.below hb); replace HXP := Lib.hid (HXP.out.below hb); replace HXY0 := Lib.hid (HXY0.out.below hb); replace HXY1 := Lib.hid (HXY1.out.below hb)
    replace HXY2 := Lib.hid (HXY2.out.below hb); replace HXT1 := Lib.hid (HXT1.out.below hb); replace HXT2 := Lib.hid (HXT2.out.below hb); replace HXT3 := Lib.hid (HXT3.out.below hb)
    replace HB := Lib.hid (HB.out.trans (hb.mono HB.out.size))
    clear hb
    clear cHXP_0 cHXP_1 cHXP_2 cHXP_3 cHXY0_0 cHXY0_1 cHXY0_2 cHXY0_3 cHXY1_0 cHXY1_1 cHXY1_2 cHXY1_3 cHXY2_0 cHXY2_1 cHXY2_2 cHXY2_3 cHXY2_4 cHXY2_5 cHXY2_6 cHXY2_7 cHXT1_0 cHXT1_1 cHXT1_2 cHXT1_3 cHXT2_0 cHXT2_1 cHXT2_2 cHXT2_3 cHXT3_0 cHXT3_1 cHXT3_2 cHXT3_3 cHXT3_4 cHXT3_5 cHXT3_6 cHXT3_7
    obtain ⟨cHXP_0, cHXP_1, cHXP_2, cHXP_3⟩ := box4 HXP.out
    obtain ⟨cHXY0_0, cHXY0_1, cHXY0_2, cHXY0_3⟩ := box4 HXY0.out
    obtain ⟨cHXY1_0, cHXY1_1, cHXY1_2, cHXY1_3⟩ := box4 HXY1.out
    obtain ⟨cHXY2_0, cHXY2_1, cHXY2_2, cHXY2_3, cHXY2_4, cHXY2_5, cHXY2_6, cHXY2_7⟩ := box8' HXY2.out
    obtain ⟨cHXT1_0, cHXT1_1, cHXT1_2, cHXT1_3⟩ := box4 HXT1.out
    obtain ⟨cHXT2_0, cHXT2_1, cHXT2_2, cHXT2_3⟩ := box4 HXT2.out
    obtain ⟨cHXT3_0, cHXT3_1, cHXT3_2, cHXT3_3, cHXT3_4, cHXT3_5, cHXT3_6, cHXT3_7⟩ := box8' HXT3.out
    go_wp2_with fail
    refine (one_true nm W K1 _ _ m1 _ _ L3 L3 _ HN3.out.1 HN3.out.1 HN3.out.2.1 HN3.out.2.2 HL3.out HM3.out).mono ?_
    rintro e o2 ⟨rfl, hb⟩
    replace HR := Lib.hid (HR.out.below hb); replace HL1 := Lib.hid (HL1.out.below hb); replace HL2 := Lib.hid (HL2.out.below hb); replace HL3 := Lib.hid (HL3.out.below hb)
    replace HL4 := Lib.hid (HL4.out.below hb); replace HM1 := Lib.hid (HM1.out.below hb); replace HM2 := Lib.hid (HM2.out.below hb); replace HM3 := Lib.hid (HM3.out.below hb)
    replace HM4 := Lib.hid (HM4.out.below hb); replace HXP := Lib.hid (HXP.out.below hb); replace HXY0 := Lib.hid (HXY0.out.below hb); replace HXY1 := Lib.hid (HXY1.out.below hb)
    replace HXY2 := Lib.hid (HXY2.out.below hb); replace HXT1 := Lib.hid (HXT1.out.below hb); replace HXT2 := Lib.hid (HXT2.out.below hb); replace HXT3 := Lib.hid (HXT3.out.below hb)
    replace HB := Lib.hid (HB.out.trans (hb.mono HB.out.size))
    clear hb
    clear cHXP_0 cHXP_1 cHXP_2 cHXP_3 cHXY0_0 cHXY0_1 cHXY0_2 cHXY0_3 cHXY1_0 cHXY1_1 cHXY1_2 cHXY1_3 cHXY2_0 cHXY2_1 cHXY2_2 cHXY2_3 cHXY2_4 cHXY2_5 cHXY2_6 cHXY2_7 cHXT1_0 cHXT1_1 cHXT1_2 cHXT1_3 cHXT2_0 cHXT2_1 cHXT2_2 cHXT2_3 cHXT3_0 cHXT3_1 cHXT3_2 cHXT3_3 cHXT3_4 cHXT3_5 cHXT3_6 cHXT3_7
    obtain ⟨cHXP_0, cHXP_1, cHXP_2, cHXP_3⟩ := box4 HXP.out
    obtain ⟨cHXY0_0, cHXY0_1, cHXY0_2, cHXY0_3⟩ := box4 HXY0.out
    obtain ⟨cHXY1_0, cHXY1_1, cHXY1_2, cHXY1_3⟩ := box4 HXY1.out
    obtain ⟨cHXY2_0, cHXY2_1, cHXY2_2, cHXY2_3, cHXY2_4, cHXY2_5, cHXY2_6, cHXY2_7⟩ := box8' HXY2.out
    obtain ⟨cHXT1_0, cHXT1_1, cHXT1_2, cHXT1_3⟩ := box4 HXT1.out
    obtain ⟨cHXT2_0, cHXT2_1, cHXT2_2, cHXT2_3⟩ := box4 HXT2.out
    obtain ⟨cHXT3_0, cHXT3_1, cHXT3_2, cHXT3_3, cHXT3_4, cHXT3_5, cHXT3_6, cHXT3_7⟩ := box8' HXT3.out
    go_wp2_with fail
    refine (one_true nm W K2 _ _ m2 _ _ L4 L4 _ HN4.out.1 HN4.out.1 HN4.out.2.1 HN4.out.2.2 HL4.out HM4.out).mono ?_
    rintro e o3 ⟨rfl, hb⟩
    replace HR := Lib.hid (HR.out.below hb); replace HL1 := Lib.hid (HL1.out.below hb); replace HL2 := Lib.hid (HL2.out.below hb); replace HL3 := Lib.hid (HL3.out.below hb)
    replace HL4 := Lib.hid (HL4.out.below hb); replace HM1 := Lib.hid (HM1.out.below hb); replace HM2 := Lib.hid (HM2.out.below hb); replace HM3 := Lib.hid (HM3.out.below hb)
    replace HM4 := Lib.hid (HM4.out.below hb); replace HXP := Lib.hid (HXP.out.below hb); replace HXY0 := Lib.hid (HXY0.out.below hb); replace HXY1 := Lib.hid (HXY1.out.below hb)
    replace HXY2 := Lib.hid (HXY2.out.below hb); replace HXT1 := Lib.hid (HXT1.out.below hb); replace HXT2 := Lib.hid (HXT2.out.below hb); replace HXT3 := Lib.hid (HXT3.out.below hb)
    replace HB := Lib.hid (HB.out.trans (hb.mono HB.out.size))
    clear hb
    clear cHXP_0 cHXP_1 cHXP_2 cHXP_3 cHXY0_0 cHXY0_1 cHXY0_2 cHXY0_3 cHXY1_0 cHXY1_1 cHXY1_2 cHXY1_3 cHXY2_0 cHXY2_1 cHXY2_2 cHXY2_3 cHXY2_4 cHXY2_5 cHXY2_6 cHXY2_7 cHXT1_0 cHXT1_1 cHXT1_2 cHXT1_3 cHXT2_0 cHXT2_1 cHXT2_2 cHXT2_3 cHXT3_0 cHXT3_1 cHXT3_2 cHXT3_3 cHXT3_4 cHXT3_5 cHXT3_6 cHXT3_7
    obtain ⟨cHXP_0, cHXP_1, cHXP_2, cHXP_3⟩ := box4 HXP.out
    obtain ⟨cHXY0_0, cHXY0_1, cHXY0_2, cHXY0_3⟩ := box4 HXY0.out
    obtain ⟨cHXY1_0, cHXY1_1, cHXY1_2, cHXY1_3⟩ := box4 HXY1.out
    obtain ⟨cHXY2_0, cHXY2_1, cHXY2_2, cHXY2_3, cHXY2_4, cHXY2_5, cHXY2_6, cHXY2_7⟩ := box8' HXY2.out
    obtain ⟨cHXT1_0, cHXT1_1, cHXT1_2, cHXT1_3⟩ := box4 HXT1.out
    obtain ⟨cHXT2_0, cHXT2_1, cHXT2_2, cHXT2_3⟩ := box4 HXT2.out
    obtain ⟨cHXT3_0, cHXT3_1, cHXT3_2, cHXT3_3, cHXT3_4, cHXT3_5, cHXT3_6, cHXT3_7⟩ := box8' HXT3.out
    go_wp2_with fail
    refine (awake_laid _ (HL.out.below HB.out)).mono ?_
    rintro e uz ⟨rfl, hb⟩
    replace HR := Lib.hid (HR.out.below hb); replace HL1 := Lib.hid (HL1.out.below hb); replace HL2 := Lib.hid (HL2.out.below hb); replace HL3 := Lib.hid (HL3.out.below hb)
    replace HL4 := Lib.hid (HL4.out.below hb); replace HM1 := Lib.hid (HM1.out.below hb); replace HM2 := Lib.hid (HM2.out.below hb); replace HM3 := Lib.hid (HM3.out.below hb)
    replace HM4 := Lib.hid (HM4.out.below hb); replace HXP := Lib.hid (HXP.out.below hb); replace HXY0 := Lib.hid (HXY0.out.below hb); replace HXY1 := Lib.hid (HXY1.out.below hb)
    replace HXY2 := Lib.hid (HXY2.out.below hb); replace HXT1 := Lib.hid (HXT1.out.below hb); replace HXT2 := Lib.hid (HXT2.out.below hb); replace HXT3 := Lib.hid (HXT3.out.below hb)
    replace HB := Lib.hid (HB.out.trans (hb.mono HB.out.size))
    clear hb
    go_wp2
    go_ret
    exact trueEnd_mk rfl HB.out

set_option maxHeartbeats 4000000 in
theorem turns_one (nm : ByteArray) (W H : Nat) (l : List Nat) (hp : (Pic.mk nm W H l).Ok) (he : (Pic.mk nm W H l).err = 0) (hh : H = 1) (A : Option Addr) (c : Nat) (w : World) (hlaid : Laid w) (hsh : shortB (Pic.mk nm W H l) = true) (hcap : l.length ≤ c) (hr : Rd w A (fl l)) : Calls Tryz.prog 6 #[(Pic.mk nm W H l).val A c] w (TrueEnd w) := by
  obtain ⟨hs0, hl0⟩ := short_facts hsh
  obtain ⟨hW, hH, hlen, hs, hl⟩ := ok_sizes hp
  have hl4 : l.length ≤ 4096 := hp.big
  have hpos : 0 < (fl l).length := by have := prod_pos hW.1 hH.1; simp [fl]; omega
  obtain ⟨ad, rfl, _, _⟩ := hr.some_ hpos
  have hsm : ∀ b ∈ l, chk 1024 b = 0 := hp.ok
  obtain ⟨n, hn⟩ : ∃ n, l.length = n := ⟨_, rfl⟩
  have HS : RowKit.Hid (∀ w, Calls Tryz.prog 28 #[.agg #[.string nm, .int .i64 (W : Int), .int .i64 (H : Int), .slice (some ad) n c]] w (BoolEnd true w)) := Lib.hid (fun w => by have h := shortR_any (Pic.mk nm W H l) (some ad) c w; rw [hsh] at h; rw [← hn]; exact h)
  have HOWN : RowKit.Hid (∀ w, Rd w (some ad) (fl l) → Calls Tryz.prog 30 #[.agg #[.string nm, .int .i64 (W : Int), .int .i64 (H : Int), .slice (some ad) n c]] w fun e w' => ∃ g c', e = .returned (.agg #[.string nm, .int .i64 (W : Int), .int .i64 (H : Int), .slice (some ⟨g, 0, none⟩) n c']) ∧ n ≤ c' ∧ Rd w' (some ⟨g, 0, none⟩) (fl l) ∧ Below w.heap.size w w') := Lib.hid (fun w hr => by have h := own_any (Pic.mk nm W H l) (some ad) c w hl4 (fun h => by cases h) hr; rw [← hn]; exact h)
  have HCK : RowKit.Hid (∀ w, Rd w (some ad) (fl l) → Calls Tryz.prog 32 #[.agg #[.string nm, .int .i64 (W : Int), .int .i64 (H : Int), .slice (some ad) n c]] w fun e w' => e = .returned (.int .i64 0) ∧ Below w.heap.size w w') := Lib.hid (fun w hr => by have h := checkPictureR_any (Pic.mk nm W H l) (some ad) c w hs hl4 hr; rw [he] at h; rw [← hn]; exact h)
  obtain ⟨L1, hL1⟩ : ∃ L, pickL l (flipN W) l.length = L := ⟨_, rfl⟩
  obtain ⟨L2, hL2⟩ : ∃ L, pickL l (transN W H) l.length = L := ⟨_, rfl⟩
  have HN1 : RowKit.Hid (L1.length = n ∧ sameF L1 L1 = true) := Lib.hid (by rw [← hL1, ← hn]; exact ⟨pickL_len _ _ _, pickL_same hsm _ _⟩)
  have HN2 : RowKit.Hid (L2.length = n ∧ sameF L2 L2 = true) := Lib.hid (by rw [← hL2, ← hn]; exact ⟨pickL_len _ _ _, pickL_same hsm _ _⟩)
  have HF1 : RowKit.Hid (∀ g c' w, n ≤ c' → Rd w (some ⟨g, 0, none⟩) (fl l) → Calls Tryz.prog 46 #[.agg #[.string nm, .int .i64 (W : Int), .int .i64 (H : Int), .slice (some ⟨g, 0, none⟩) n c']] w (PickOk nm W H n L1 w)) := Lib.hid (fun g c' w h1 h2 => by rw [← hn] at h1; have h := flip_code nm W H l hp he (some ⟨g, 0, none⟩) c' w h1 h2; rw [hL1, hn] at h; exact h)
  have HF2 : RowKit.Hid (∀ g c' w, n ≤ c' → Rd w (some ⟨g, 0, none⟩) (fl l) → Calls Tryz.prog 47 #[.agg #[.string nm, .int .i64 (W : Int), .int .i64 (H : Int), .slice (some ⟨g, 0, none⟩) n c']] w (PickOk nm H W n L2 w)) := Lib.hid (fun g c' w h1 h2 => by rw [← hn] at h1; have h := trans_code nm W H l hp he (some ⟨g, 0, none⟩) c' w h1 h2; rw [hL2, hn] at h; exact h)
  have HQ1 : RowKit.Hid (∀ w, Rd w (some ad) (fl l) → Calls Tryz.prog 49 #[.agg #[.string nm, .int .i64 (W : Int), .int .i64 (H : Int), .slice (some ad) n c]] w (PickEnd nm W H n L1 w)) := Lib.hid (fun w h2 => by have h := flip_ref nm W H l hp (some ad) c w h2; rw [hL1, hn] at h; exact h)
  have HQ2 : RowKit.Hid (∀ w, Rd w (some ad) (fl l) → Calls Tryz.prog 50 #[.agg #[.string nm, .int .i64 (W : Int), .int .i64 (H : Int), .slice (some ad) n c]] w (PickEnd nm H W n L2 w)) := Lib.hid (fun w h2 => by have h := trans_ref nm W H l hp (some ad) c w h2; rw [hL2, hn] at h; exact h)
  have HN0 : RowKit.Hid (n ≤ maxLen) := Lib.hid (by rw [← hn]; exact hl)
  have hfe : firstE [(Pic.mk nm W H l).err, errIf ((Pic.mk nm W H l).h == 1) 16] = 16 := by rw [he]; simp [firstE, errIf, hh]
  have HF3 : RowKit.Hid (∀ g c' w, Rd w (some ⟨g, 0, none⟩) (fl l) → Calls Tryz.prog 48 #[.agg #[.string nm, .int .i64 (W : Int), .int .i64 (H : Int), .slice (some ⟨g, 0, none⟩) n c']] w fun e w' => e = .returned (.tuple #[.agg #[.string ⟨#[]⟩, .int .i64 0, .int .i64 0, .slice none 0 0, .string ⟨#[]⟩, .int .i64 0, .int .i64 0, .slice none 0 0], .int .i64 16]) ∧ Below w.heap.size w w') := Lib.hid (fun g c' w h2 => by have h := fields_err (Pic.mk nm W H l) (some ⟨g, 0, none⟩) c' w hs hl h2 16 hfe (by decide); rw [← hn]; exact h)
  have HQ3 : RowKit.Hid (∀ w, Calls Tryz.prog 51 #[.agg #[.string nm, .int .i64 (W : Int), .int .i64 (H : Int), .slice (some ad) n c]] w fun e w' => e = .returned (.tuple #[.agg #[.string ⟨#[]⟩, .int .i64 0, .int .i64 0, .slice none 0 0, .string ⟨#[]⟩, .int .i64 0, .int .i64 0, .slice none 0 0], .int .i64 16]) ∧ Below w.heap.size w w') := Lib.hid (fun w => fieldsR_short nm W H 0 (by omega) (some ad) n c w)
  rw [show (Pic.mk nm W H l).val (some ad) c = .agg #[.string nm, .int .i64 (W : Int), .int .i64 (H : Int), .slice (some ad) n c] by unfold Pic.val; rw [hn]]
  clear hfe
  clear hs0 hl0 hlen hs hl hl4 hpos hsm hL1 hL2 hn hp he hsh hcap hW hH hh
  have HR := Lib.hid hr; clear hr
  have HL := Lib.hid hlaid; clear hlaid
  have HB := Lib.hid (Below.refl w.heap.size w)
  go_enter Tryz.func6, Tryz.ntmps6
  go_upto_region 1 with fail
  have hn := Blk.new w 43 #[.string nm, .int .i64 (W : Int), .int .i64 (H : Int), .slice (some ad) n c]
  have hb : Below w.heap.size w (w.alloc (.cells #[.string nm, .int .i64 (W : Int), .int .i64 (H : Int), .slice (some ad) n c] 43)) := (Below.refl _ _).alloc (Nat.le_refl _) _
  have hge := HB.out.size
  obtain ⟨bP, hl⟩ : ∃ b, w.heap.size = b := ⟨_, rfl⟩
  generalize w.alloc (.cells #[.string nm, .int .i64 (W : Int), .int .i64 (H : Int), .slice (some ad) n c] 43) = u0 at hn hb ⊢
  replace HR := Lib.hid (HR.out.below hb); replace HB := Lib.hid (HB.out.trans (hb.mono HB.out.size))
  clear hb
  rw [hl] at hn hge
  try rw [hl]
  have HXP := Lib.hid hn; have HGP := Lib.hid hge; clear hn hl hge
  obtain ⟨cHXP_0, cHXP_1, cHXP_2, cHXP_3⟩ := box4 HXP.out
  go_wp2_with fail
  refine (HS.out _).mono ?_
  rintro e u1 ⟨rfl, hb⟩
  replace HR := Lib.hid (HR.out.below hb); replace HXP := Lib.hid (HXP.out.below hb); replace HB := Lib.hid (HB.out.trans (hb.mono HB.out.size))
  clear hb
  clear cHXP_0 cHXP_1 cHXP_2 cHXP_3
  obtain ⟨cHXP_0, cHXP_1, cHXP_2, cHXP_3⟩ := box4 HXP.out
  go_wp2_with fail
  refine (HOWN.out _ HR.out).mono ?_
  rintro e v0 ⟨g, c', rfl, hcc, hrd, hb⟩
  replace HR := Lib.hid (HR.out.below hb); replace HXP := Lib.hid (HXP.out.below hb); replace HB := Lib.hid (HB.out.trans (hb.mono HB.out.size))
  clear hb
  have HO := Lib.hid hrd; clear hrd
  clear cHXP_0 cHXP_1 cHXP_2 cHXP_3
  obtain ⟨cHXP_0, cHXP_1, cHXP_2, cHXP_3⟩ := box4 HXP.out
  go_wp2_with fail
  refine (HF1.out g c' _ hcc HO.out).mono ?_
  rintro e x0 ⟨g0, rfl, hr1, hb⟩
  replace HR := Lib.hid (HR.out.below hb); replace HO := Lib.hid (HO.out.below hb); replace HXP := Lib.hid (HXP.out.below hb); replace HB := Lib.hid (HB.out.trans (hb.mono HB.out.size))
  clear hb
  have HL1 := Lib.hid hr1; clear hr1
  clear hcc
  clear HO
  clear cHXP_0 cHXP_1 cHXP_2 cHXP_3
  obtain ⟨cHXP_0, cHXP_1, cHXP_2, cHXP_3⟩ := box4 HXP.out
  go_upto_region 4 with fail
  clear cHXP_0 cHXP_1 cHXP_2 cHXP_3
  have hn := Blk.new x0 50 #[.string nm, .int .i64 (W : Int), .int .i64 (H : Int), .slice (some ⟨g0, 0, none⟩) n n]
  have hb : Below x0.heap.size x0 (x0.alloc (.cells #[.string nm, .int .i64 (W : Int), .int .i64 (H : Int), .slice (some ⟨g0, 0, none⟩) n n] 50)) := (Below.refl _ _).alloc (Nat.le_refl _) _
  have hge := HB.out.size
  have hlt_HXP := HXP.out.lt
  obtain ⟨bY0, hl⟩ : ∃ b, x0.heap.size = b := ⟨_, rfl⟩
  generalize x0.alloc (.cells #[.string nm, .int .i64 (W : Int), .int .i64 (H : Int), .slice (some ⟨g0, 0, none⟩) n n] 50) = y0 at hn hb ⊢
  replace HR := Lib.hid (HR.out.below hb); replace HL1 := Lib.hid (HL1.out.below hb); replace HXP := Lib.hid (HXP.out.below hb); replace HB := Lib.hid (HB.out.trans (hb.mono HB.out.size))
  clear hb
  rw [hl] at hn hge hlt_HXP
  try rw [hl]
  have HXY0 := Lib.hid hn; have HGY0 := Lib.hid hge; clear hn hl hge
  have HNY0HXP : RowKit.Hid (¬ bP = bY0) := Lib.hid (by omega)
  clear hlt_HXP
  obtain ⟨cHXP_0, cHXP_1, cHXP_2, cHXP_3⟩ := box4 HXP.out
  obtain ⟨cHXY0_0, cHXY0_1, cHXY0_2, cHXY0_3⟩ := box4 HXY0.out
  go_wp2_with fail
  refine (HOWN.out _ HR.out).mono ?_
  rintro e v1 ⟨g, c', rfl, hcc, hrd, hb⟩
  replace HR := Lib.hid (HR.out.below hb); replace HL1 := Lib.hid (HL1.out.below hb); replace HXP := Lib.hid (HXP.out.below hb); replace HXY0 := Lib.hid (HXY0.out.below hb)
  replace HB := Lib.hid (HB.out.trans (hb.mono HB.out.size))
  clear hb
  have HO := Lib.hid hrd; clear hrd
  clear cHXP_0 cHXP_1 cHXP_2 cHXP_3 cHXY0_0 cHXY0_1 cHXY0_2 cHXY0_3
  obtain ⟨cHXP_0, cHXP_1, cHXP_2, cHXP_3⟩ := box4 HXP.out
  obtain ⟨cHXY0_0, cHXY0_1, cHXY0_2, cHXY0_3⟩ := box4 HXY0.out
  go_wp2_with fail
  refine (HF2.out g c' _ hcc HO.out).mono ?_
  rintro e x1 ⟨g1, rfl, hr1, hb⟩
  replace HR := Lib.hid (HR.out.below hb); replace HL1 := Lib.hid (HL1.out.below hb); replace HO := Lib.hid (HO.out.below hb); replace HXP := Lib.hid (HXP.out.below hb)
  replace HXY0 := Lib.hid (HXY0.out.below hb); replace HB := Lib.hid (HB.out.trans (hb.mono HB.out.size))
  clear hb
  have HL2 := Lib.hid hr1; clear hr1
  clear hcc
  clear HO
  clear cHXP_0 cHXP_1 cHXP_2 cHXP_3 cHXY0_0 cHXY0_1 cHXY0_2 cHXY0_3
  obtain ⟨cHXP_0, cHXP_1, cHXP_2, cHXP_3⟩ := box4 HXP.out
  obtain ⟨cHXY0_0, cHXY0_1, cHXY0_2, cHXY0_3⟩ := box4 HXY0.out
  go_upto_region 5 with fail
  clear cHXP_0 cHXP_1 cHXP_2 cHXP_3 cHXY0_0 cHXY0_1 cHXY0_2 cHXY0_3
  have hn := Blk.new x1 50 #[.string nm, .int .i64 (H : Int), .int .i64 (W : Int), .slice (some ⟨g1, 0, none⟩) n n]
  have hb : Below x1.heap.size x1 (x1.alloc (.cells #[.string nm, .int .i64 (H : Int), .int .i64 (W : Int), .slice (some ⟨g1, 0, none⟩) n n] 50)) := (Below.refl _ _).alloc (Nat.le_refl _) _
  have hge := HB.out.size
  have hlt_HXP := HXP.out.lt
  have hlt_HXY0 := HXY0.out.lt
  obtain ⟨bY1, hl⟩ : ∃ b, x1.heap.size = b := ⟨_, rfl⟩
  generalize x1.alloc (.cells #[.string nm, .int .i64 (H : Int), .int .i64 (W : Int), .slice (some ⟨g1, 0, none⟩) n n] 50) = y1 at hn hb ⊢
  replace HR := Lib.hid (HR.out.below hb); replace HL1 := Lib.hid (HL1.out.below hb); replace HL2 := Lib.hid (HL2.out.below hb); replace HXP := Lib.hid (HXP.out.below hb)
  replace HXY0 := Lib.hid (HXY0.out.below hb); replace HB := Lib.hid (HB.out.trans (hb.mono HB.out.size))
  clear hb
  rw [hl] at hn hge hlt_HXP hlt_HXY0
  try rw [hl]
  have HXY1 := Lib.hid hn; have HGY1 := Lib.hid hge; clear hn hl hge
  have HNY1HXP : RowKit.Hid (¬ bP = bY1) := Lib.hid (by omega); have HNY1HXY0 : RowKit.Hid (¬ bY0 = bY1) := Lib.hid (by omega)
  clear hlt_HXP hlt_HXY0
  obtain ⟨cHXP_0, cHXP_1, cHXP_2, cHXP_3⟩ := box4 HXP.out
  obtain ⟨cHXY0_0, cHXY0_1, cHXY0_2, cHXY0_3⟩ := box4 HXY0.out
  obtain ⟨cHXY1_0, cHXY1_1, cHXY1_2, cHXY1_3⟩ := box4 HXY1.out
  go_wp2_with fail
  refine (HOWN.out _ HR.out).mono ?_
  rintro e v2 ⟨g, c', rfl, hcc, hrd, hb⟩
  replace HR := Lib.hid (HR.out.below hb); replace HL1 := Lib.hid (HL1.out.below hb); replace HL2 := Lib.hid (HL2.out.below hb); replace HXP := Lib.hid (HXP.out.below hb)
  replace HXY0 := Lib.hid (HXY0.out.below hb); replace HXY1 := Lib.hid (HXY1.out.below hb); replace HB := Lib.hid (HB.out.trans (hb.mono HB.out.size))
  clear hb
  have HO := Lib.hid hrd; clear hrd
  clear cHXP_0 cHXP_1 cHXP_2 cHXP_3 cHXY0_0 cHXY0_1 cHXY0_2 cHXY0_3 cHXY1_0 cHXY1_1 cHXY1_2 cHXY1_3
  obtain ⟨cHXP_0, cHXP_1, cHXP_2, cHXP_3⟩ := box4 HXP.out
  obtain ⟨cHXY0_0, cHXY0_1, cHXY0_2, cHXY0_3⟩ := box4 HXY0.out
  obtain ⟨cHXY1_0, cHXY1_1, cHXY1_2, cHXY1_3⟩ := box4 HXY1.out
  go_wp2_with fail
  refine (HF3.out g c' _ HO.out).mono ?_
  rintro e x2 ⟨rfl, hb⟩
  replace HR := Lib.hid (HR.out.below hb); replace HL1 := Lib.hid (HL1.out.below hb); replace HL2 := Lib.hid (HL2.out.below hb); replace HO := Lib.hid (HO.out.below hb)
  replace HXP := Lib.hid (HXP.out.below hb); replace HXY0 := Lib.hid (HXY0.out.below hb); replace HXY1 := Lib.hid (HXY1.out.below hb); replace HB := Lib.hid (HB.out.trans (hb.mono HB.out.size))
  clear hb
  clear hcc
  clear HO
  clear cHXP_0 cHXP_1 cHXP_2 cHXP_3 cHXY0_0 cHXY0_1 cHXY0_2 cHXY0_3 cHXY1_0 cHXY1_1 cHXY1_2 cHXY1_3
  obtain ⟨cHXP_0, cHXP_1, cHXP_2, cHXP_3⟩ := box4 HXP.out
  obtain ⟨cHXY0_0, cHXY0_1, cHXY0_2, cHXY0_3⟩ := box4 HXY0.out
  obtain ⟨cHXY1_0, cHXY1_1, cHXY1_2, cHXY1_3⟩ := box4 HXY1.out
  go_upto_region 6 with fail
  clear cHXP_0 cHXP_1 cHXP_2 cHXP_3 cHXY0_0 cHXY0_1 cHXY0_2 cHXY0_3 cHXY1_0 cHXY1_1 cHXY1_2 cHXY1_3
  have hn := Blk.new x2 67 #[.string ⟨#[]⟩, .int .i64 0, .int .i64 0, .slice none 0 0, .string ⟨#[]⟩, .int .i64 0, .int .i64 0, .slice none 0 0]
  have hb : Below x2.heap.size x2 (x2.alloc (.cells #[.string ⟨#[]⟩, .int .i64 0, .int .i64 0, .slice none 0 0, .string ⟨#[]⟩, .int .i64 0, .int .i64 0, .slice none 0 0] 67)) := (Below.refl _ _).alloc (Nat.le_refl _) _
  have hge := HB.out.size
  have hlt_HXP := HXP.out.lt
  have hlt_HXY0 := HXY0.out.lt
  have hlt_HXY1 := HXY1.out.lt
  obtain ⟨bY2, hl⟩ : ∃ b, x2.heap.size = b := ⟨_, rfl⟩
  generalize x2.alloc (.cells #[.string ⟨#[]⟩, .int .i64 0, .int .i64 0, .slice none 0 0, .string ⟨#[]⟩, .int .i64 0, .int .i64 0, .slice none 0 0] 67) = y2 at hn hb ⊢
  replace HR := Lib.hid (HR.out.below hb); replace HL1 := Lib.hid (HL1.out.below hb); replace HL2 := Lib.hid (HL2.out.below hb); replace HXP := Lib.hid (HXP.out.below hb)
  replace HXY0 := Lib.hid (HXY0.out.below hb); replace HXY1 := Lib.hid (HXY1.out.below hb); replace HB := Lib.hid (HB.out.trans (hb.mono HB.out.size))
  clear hb
  rw [hl] at hn hge hlt_HXP hlt_HXY0 hlt_HXY1
  try rw [hl]
  have HXY2 := Lib.hid hn; have HGY2 := Lib.hid hge; clear hn hl hge
  have HNY2HXP : RowKit.Hid (¬ bP = bY2) := Lib.hid (by omega); have HNY2HXY0 : RowKit.Hid (¬ bY0 = bY2) := Lib.hid (by omega); have HNY2HXY1 : RowKit.Hid (¬ bY1 = bY2) := Lib.hid (by omega)
  clear hlt_HXP hlt_HXY0 hlt_HXY1
  obtain ⟨cHXP_0, cHXP_1, cHXP_2, cHXP_3⟩ := box4 HXP.out
  obtain ⟨cHXY0_0, cHXY0_1, cHXY0_2, cHXY0_3⟩ := box4 HXY0.out
  obtain ⟨cHXY1_0, cHXY1_1, cHXY1_2, cHXY1_3⟩ := box4 HXY1.out
  obtain ⟨cHXY2_0, cHXY2_1, cHXY2_2, cHXY2_3, cHXY2_4, cHXY2_5, cHXY2_6, cHXY2_7⟩ := box8' HXY2.out
  go_wp2_with fail
  refine (HCK.out _ HR.out).mono ?_
  rintro e u2 ⟨rfl, hb⟩
  replace HR := Lib.hid (HR.out.below hb); replace HL1 := Lib.hid (HL1.out.below hb); replace HL2 := Lib.hid (HL2.out.below hb); replace HXP := Lib.hid (HXP.out.below hb)
  replace HXY0 := Lib.hid (HXY0.out.below hb); replace HXY1 := Lib.hid (HXY1.out.below hb); replace HXY2 := Lib.hid (HXY2.out.below hb); replace HB := Lib.hid (HB.out.trans (hb.mono HB.out.size))
  clear hb
  clear cHXP_0 cHXP_1 cHXP_2 cHXP_3 cHXY0_0 cHXY0_1 cHXY0_2 cHXY0_3 cHXY1_0 cHXY1_1 cHXY1_2 cHXY1_3 cHXY2_0 cHXY2_1 cHXY2_2 cHXY2_3 cHXY2_4 cHXY2_5 cHXY2_6 cHXY2_7
  obtain ⟨cHXP_0, cHXP_1, cHXP_2, cHXP_3⟩ := box4 HXP.out
  obtain ⟨cHXY0_0, cHXY0_1, cHXY0_2, cHXY0_3⟩ := box4 HXY0.out
  obtain ⟨cHXY1_0, cHXY1_1, cHXY1_2, cHXY1_3⟩ := box4 HXY1.out
  obtain ⟨cHXY2_0, cHXY2_1, cHXY2_2, cHXY2_3, cHXY2_4, cHXY2_5, cHXY2_6, cHXY2_7⟩ := box8' HXY2.out
  go_upto_region 9 with fail
  clear cHXP_0 cHXP_1 cHXP_2 cHXP_3 cHXY0_0 cHXY0_1 cHXY0_2 cHXY0_3 cHXY1_0 cHXY1_1 cHXY1_2 cHXY1_3 cHXY2_0 cHXY2_1 cHXY2_2 cHXY2_3 cHXY2_4 cHXY2_5 cHXY2_6 cHXY2_7
  have hn := Blk.new u2 43 #[.string ⟨#[]⟩, .int .i64 0, .int .i64 0, .slice none 0 0]
  have hb : Below u2.heap.size u2 (u2.alloc (.cells #[.string ⟨#[]⟩, .int .i64 0, .int .i64 0, .slice none 0 0] 43)) := (Below.refl _ _).alloc (Nat.le_refl _) _
  have hge := HB.out.size
  have hsz : (u2.alloc (.cells #[.string ⟨#[]⟩, .int .i64 0, .int .i64 0, .slice none 0 0] 43)).heap.size = u2.heap.size + 1 := by simp only [World.size_alloc]
  have hlt_HXP := HXP.out.lt
  have hlt_HXY0 := HXY0.out.lt
  have hlt_HXY1 := HXY1.out.lt
  have hlt_HXY2 := HXY2.out.lt
  obtain ⟨bT1, hl⟩ : ∃ b, u2.heap.size = b := ⟨_, rfl⟩
  generalize u2.alloc (.cells #[.string ⟨#[]⟩, .int .i64 0, .int .i64 0, .slice none 0 0] 43) = t1 at hn hb hsz ⊢
  rw [hl] at hsz
  replace HR := Lib.hid (HR.out.below hb); replace HL1 := Lib.hid (HL1.out.below hb); replace HL2 := Lib.hid (HL2.out.below hb); replace HXP := Lib.hid (HXP.out.below hb)
  replace HXY0 := Lib.hid (HXY0.out.below hb); replace HXY1 := Lib.hid (HXY1.out.below hb); replace HXY2 := Lib.hid (HXY2.out.below hb); replace HB := Lib.hid (HB.out.trans (hb.mono HB.out.size))
  clear hb
  rw [hl] at hn hge hlt_HXP hlt_HXY0 hlt_HXY1 hlt_HXY2
  try rw [hl]
  have HXT1 := Lib.hid hn; have HGT1 := Lib.hid hge; clear hn hl hge
  have HNT1HXP : RowKit.Hid (¬ bP = bT1) := Lib.hid (by omega); have HNT1HXY0 : RowKit.Hid (¬ bY0 = bT1) := Lib.hid (by omega); have HNT1HXY1 : RowKit.Hid (¬ bY1 = bT1) := Lib.hid (by omega); have HNT1HXY2 : RowKit.Hid (¬ bY2 = bT1) := Lib.hid (by omega)
  clear hlt_HXP hlt_HXY0 hlt_HXY1 hlt_HXY2
  have hn := Blk.new t1 43 #[.string ⟨#[]⟩, .int .i64 0, .int .i64 0, .slice none 0 0]
  have hb : Below t1.heap.size t1 (t1.alloc (.cells #[.string ⟨#[]⟩, .int .i64 0, .int .i64 0, .slice none 0 0] 43)) := (Below.refl _ _).alloc (Nat.le_refl _) _
  have hge := HB.out.size
  have hlt_HXP := HXP.out.lt
  have hlt_HXY0 := HXY0.out.lt
  have hlt_HXY1 := HXY1.out.lt
  have hlt_HXY2 := HXY2.out.lt
  have hlt_HXT1 := HXT1.out.lt
  obtain ⟨bT2, hl⟩ : ∃ b, t1.heap.size = b := ⟨_, rfl⟩
  generalize t1.alloc (.cells #[.string ⟨#[]⟩, .int .i64 0, .int .i64 0, .slice none 0 0] 43) = t2 at hn hb ⊢
  rw [hl] at hsz
  rw [← hsz]
  clear hsz
  replace HR := Lib.hid (HR.out.below hb); replace HL1 := Lib.hid (HL1.out.below hb); replace HL2 := Lib.hid (HL2.out.below hb); replace HXP := Lib.hid (HXP.out.below hb)
  replace HXY0 := Lib.hid (HXY0.out.below hb); replace HXY1 := Lib.hid (HXY1.out.below hb); replace HXY2 := Lib.hid (HXY2.out.below hb); replace HXT1 := Lib.hid (HXT1.out.below hb)
  replace HB := Lib.hid (HB.out.trans (hb.mono HB.out.size))
  clear hb
  rw [hl] at hn hge hlt_HXP hlt_HXY0 hlt_HXY1 hlt_HXY2 hlt_HXT1
  try rw [hl]
  have HXT2 := Lib.hid hn; have HGT2 := Lib.hid hge; clear hn hl hge
  have HNT2HXP : RowKit.Hid (¬ bP = bT2) := Lib.hid (by omega); have HNT2HXY0 : RowKit.Hid (¬ bY0 = bT2) := Lib.hid (by omega); have HNT2HXY1 : RowKit.Hid (¬ bY1 = bT2) := Lib.hid (by omega); have HNT2HXY2 : RowKit.Hid (¬ bY2 = bT2) := Lib.hid (by omega); have HNT2HXT1 : RowKit.Hid (¬ bT1 = bT2) := Lib.hid (by omega)
  clear hlt_HXP hlt_HXY0 hlt_HXY1 hlt_HXY2 hlt_HXT1
  obtain ⟨cHXP_0, cHXP_1, cHXP_2, cHXP_3⟩ := box4 HXP.out
  obtain ⟨cHXY0_0, cHXY0_1, cHXY0_2, cHXY0_3⟩ := box4 HXY0.out
  obtain ⟨cHXY1_0, cHXY1_1, cHXY1_2, cHXY1_3⟩ := box4 HXY1.out
  obtain ⟨cHXY2_0, cHXY2_1, cHXY2_2, cHXY2_3, cHXY2_4, cHXY2_5, cHXY2_6, cHXY2_7⟩ := box8' HXY2.out
  obtain ⟨cHXT1_0, cHXT1_1, cHXT1_2, cHXT1_3⟩ := box4 HXT1.out
  obtain ⟨cHXT2_0, cHXT2_1, cHXT2_2, cHXT2_3⟩ := box4 HXT2.out
  go_upto_region 10 with fail
  clear cHXP_0 cHXP_1 cHXP_2 cHXP_3 cHXY0_0 cHXY0_1 cHXY0_2 cHXY0_3 cHXY1_0 cHXY1_1 cHXY1_2 cHXY1_3 cHXY2_0 cHXY2_1 cHXY2_2 cHXY2_3 cHXY2_4 cHXY2_5 cHXY2_6 cHXY2_7 cHXT1_0 cHXT1_1 cHXT1_2 cHXT1_3 cHXT2_0 cHXT2_1 cHXT2_2 cHXT2_3
  have hn := Blk.new t2 70 #[.string ⟨#[]⟩, .int .i64 0, .int .i64 0, .slice none 0 0, .string ⟨#[]⟩, .int .i64 0, .int .i64 0, .slice none 0 0]
  have hb : Below t2.heap.size t2 (t2.alloc (.cells #[.string ⟨#[]⟩, .int .i64 0, .int .i64 0, .slice none 0 0, .string ⟨#[]⟩, .int .i64 0, .int .i64 0, .slice none 0 0] 70)) := (Below.refl _ _).alloc (Nat.le_refl _) _
  have hge := HB.out.size
  have hlt_HXP := HXP.out.lt
  have hlt_HXY0 := HXY0.out.lt
  have hlt_HXY1 := HXY1.out.lt
  have hlt_HXY2 := HXY2.out.lt
  have hlt_HXT1 := HXT1.out.lt
  have hlt_HXT2 := HXT2.out.lt
  obtain ⟨bT3, hl⟩ : ∃ b, t2.heap.size = b := ⟨_, rfl⟩
  generalize t2.alloc (.cells #[.string ⟨#[]⟩, .int .i64 0, .int .i64 0, .slice none 0 0, .string ⟨#[]⟩, .int .i64 0, .int .i64 0, .slice none 0 0] 70) = t3 at hn hb ⊢
  replace HR := Lib.hid (HR.out.below hb); replace HL1 := Lib.hid (HL1.out.below hb); replace HL2 := Lib.hid (HL2.out.below hb); replace HXP := Lib.hid (HXP.out.below hb)
  replace HXY0 := Lib.hid (HXY0.out.below hb); replace HXY1 := Lib.hid (HXY1.out.below hb); replace HXY2 := Lib.hid (HXY2.out.below hb); replace HXT1 := Lib.hid (HXT1.out.below hb)
  replace HXT2 := Lib.hid (HXT2.out.below hb); replace HB := Lib.hid (HB.out.trans (hb.mono HB.out.size))
  clear hb
  rw [hl] at hn hge hlt_HXP hlt_HXY0 hlt_HXY1 hlt_HXY2 hlt_HXT1 hlt_HXT2
  try rw [hl]
  have HXT3 := Lib.hid hn; have HGT3 := Lib.hid hge; clear hn hl hge
  have HNT3HXP : RowKit.Hid (¬ bP = bT3) := Lib.hid (by omega); have HNT3HXY0 : RowKit.Hid (¬ bY0 = bT3) := Lib.hid (by omega); have HNT3HXY1 : RowKit.Hid (¬ bY1 = bT3) := Lib.hid (by omega); have HNT3HXY2 : RowKit.Hid (¬ bY2 = bT3) := Lib.hid (by omega); have HNT3HXT1 : RowKit.Hid (¬ bT1 = bT3) := Lib.hid (by omega); have HNT3HXT2 : RowKit.Hid (¬ bT2 = bT3) := Lib.hid (by omega)
  clear hlt_HXP hlt_HXY0 hlt_HXY1 hlt_HXY2 hlt_HXT1 hlt_HXT2
  obtain ⟨cHXP_0, cHXP_1, cHXP_2, cHXP_3⟩ := box4 HXP.out
  obtain ⟨cHXY0_0, cHXY0_1, cHXY0_2, cHXY0_3⟩ := box4 HXY0.out
  obtain ⟨cHXY1_0, cHXY1_1, cHXY1_2, cHXY1_3⟩ := box4 HXY1.out
  obtain ⟨cHXY2_0, cHXY2_1, cHXY2_2, cHXY2_3, cHXY2_4, cHXY2_5, cHXY2_6, cHXY2_7⟩ := box8' HXY2.out
  obtain ⟨cHXT1_0, cHXT1_1, cHXT1_2, cHXT1_3⟩ := box4 HXT1.out
  obtain ⟨cHXT2_0, cHXT2_1, cHXT2_2, cHXT2_3⟩ := box4 HXT2.out
  obtain ⟨cHXT3_0, cHXT3_1, cHXT3_2, cHXT3_3, cHXT3_4, cHXT3_5, cHXT3_6, cHXT3_7⟩ := box8' HXT3.out
  go_upto_region 11 with fail
  clear cHXY0_0 cHXY0_1 cHXY0_2 cHXY0_3 cHXY1_0 cHXY1_1 cHXY1_2 cHXY1_3 cHXY2_0 cHXY2_1 cHXY2_2 cHXY2_3 cHXY2_4 cHXY2_5 cHXY2_6 cHXY2_7 cHXT1_0 cHXT1_1 cHXT1_2 cHXT1_3 cHXT2_0 cHXT2_1 cHXT2_2 cHXT2_3 cHXT3_0 cHXT3_1 cHXT3_2 cHXT3_3 cHXT3_4 cHXT3_5 cHXT3_6 cHXT3_7
  have q1 := HNT2HXT1.out; have q2 : ¬ bT2 = bT1 := fun h => q1 h.symm
  go_region_with (first
    | (go_at_call 49; refine (HQ1.out _ (by exact HR.out.below (Below.refl _ _).drew)).mono ?_; rintro e wn ⟨ga, rfl, hr1, hbn⟩; have hbx := ((Below.refl t3.heap.size t3).drew).trans hbn; have HM1 := Lib.hid hr1; have HBX := Lib.hid hbx; obtain ⟨k0, k1, k2, k3⟩ := box4 (HXP.out.below hbx); clear hr1 hbn hbx)
    | (go_at_call 50; refine (HQ2.out _ (by exact HR.out.below HBX.out)).mono ?_; rintro e wm ⟨gb, rfl, hr2, hbn⟩; have hby := HBX.out.trans (hbn.mono HBX.out.size); have HBY := Lib.hid hby; have HBM := Lib.hid hbn; have HM2 := Lib.hid hr2; have hF := HXT1.out.below hby; have fF0 := hF.frozen 0; have fF1 := hF.frozen 1; have fF2 := hF.frozen 2; have fF3 := hF.frozen 3; have lF := hF.lt; obtain ⟨dF0, dF1, dF2, dF3⟩ := box4 hF; clear hF; have hG := HXT2.out.below hby; have fG0 := hG.frozen 0; have fG1 := hG.frozen 1; have fG2 := hG.frozen 2; have fG3 := hG.frozen 3; have lG := hG.lt; obtain ⟨dG0, dG1, dG2, dG3⟩ := box4 hG; clear hG; clear hr2 hbn hby))
  all_goals
    have hby := HBY.out; replace HM1 := Lib.hid (HM1.out.below HBM.out); clear HBM HBX HBY
    replace HR := Lib.hid (HR.out.below hby); replace HL1 := Lib.hid (HL1.out.below hby); replace HL2 := Lib.hid (HL2.out.below hby); replace HXP := Lib.hid (HXP.out.below hby)
    replace HXY0 := Lib.hid (HXY0.out.below hby); replace HXY1 := Lib.hid (HXY1.out.below hby); replace HXY2 := Lib.hid (HXY2.out.below hby); replace HXT1 := Lib.hid (HXT1.out.below hby)
    replace HXT2 := Lib.hid (HXT2.out.below hby); replace HXT3 := Lib.hid (HXT3.out.below hby); replace HB := Lib.hid (HB.out.trans (hby.mono HB.out.size))
    clear hby
    go_upto_region 12 with fail
    clear k0 k1 k2 k3 fF0 fF1 fF2 fF3 fG0 fG1 fG2 fG3 dF0 dF1 dF2 dF3 dG0 dG1 dG2 dG3 lF lG
    first
      | (obtain ⟨s0, hs0⟩ : ∃ s, ((((wm.setCell ⟨bT1, 0, none⟩ (.string nm)).setCell ⟨bT1, 1, none⟩ (.int .i64 (W : Int))).setCell ⟨bT1, 2, none⟩ (.int .i64 (H : Int))).setCell ⟨bT1, 3, none⟩ (.slice (some ⟨ga, 0, none⟩) n n)) = s := ⟨_, rfl⟩
         rw [hs0]
         rw [← hs0]
         clear hs0
         have h_HR := rdl_set4 HR.out HXT1.out (nf_four rfl rfl rfl rfl) (.string nm) (.int .i64 (W : Int)) (.int .i64 (H : Int)) (.slice (some ⟨ga, 0, none⟩) n n) rfl rfl rfl
         have h_HL1 := rdl_set4 HL1.out HXT1.out (nf_four rfl rfl rfl rfl) (.string nm) (.int .i64 (W : Int)) (.int .i64 (H : Int)) (.slice (some ⟨ga, 0, none⟩) n n) rfl rfl rfl
         have h_HL2 := rdl_set4 HL2.out HXT1.out (nf_four rfl rfl rfl rfl) (.string nm) (.int .i64 (W : Int)) (.int .i64 (H : Int)) (.slice (some ⟨ga, 0, none⟩) n n) rfl rfl rfl
         have h_HM1 := rdl_set4 HM1.out HXT1.out (nf_four rfl rfl rfl rfl) (.string nm) (.int .i64 (W : Int)) (.int .i64 (H : Int)) (.slice (some ⟨ga, 0, none⟩) n n) rfl rfl rfl
         have h_HM2 := rdl_set4 HM2.out HXT1.out (nf_four rfl rfl rfl rfl) (.string nm) (.int .i64 (W : Int)) (.int .i64 (H : Int)) (.slice (some ⟨ga, 0, none⟩) n n) rfl rfl rfl
         have h_HXP := bl_far4 HXP.out (by have h1 := HNT1HXP.out; exact h1) (.string nm) (.int .i64 (W : Int)) (.int .i64 (H : Int)) (.slice (some ⟨ga, 0, none⟩) n n)
         have h_HXY0 := bl_far4 HXY0.out (by have h1 := HNT1HXY0.out; exact h1) (.string nm) (.int .i64 (W : Int)) (.int .i64 (H : Int)) (.slice (some ⟨ga, 0, none⟩) n n)
         have h_HXY1 := bl_far4 HXY1.out (by have h1 := HNT1HXY1.out; exact h1) (.string nm) (.int .i64 (W : Int)) (.int .i64 (H : Int)) (.slice (some ⟨ga, 0, none⟩) n n)
         have h_HXY2 := bl_far4 HXY2.out (by have h1 := HNT1HXY2.out; exact h1) (.string nm) (.int .i64 (W : Int)) (.int .i64 (H : Int)) (.slice (some ⟨ga, 0, none⟩) n n)
         have h_HXT2 := bl_far4 HXT2.out (by have h1 := HNT2HXT1.out; exact fun h => h1 h.symm) (.string nm) (.int .i64 (W : Int)) (.int .i64 (H : Int)) (.slice (some ⟨ga, 0, none⟩) n n)
         have h_HXT3 := bl_far4 HXT3.out (by have h1 := HNT3HXT1.out; exact fun h => h1 h.symm) (.string nm) (.int .i64 (W : Int)) (.int .i64 (H : Int)) (.slice (some ⟨ga, 0, none⟩) n n)
         have h_HXT1 := blk_set4' HXT1.out (.string nm) (.int .i64 (W : Int)) (.int .i64 (H : Int)) (.slice (some ⟨ga, 0, none⟩) n n)
         have h_B := below_set4 HB.out HGT1.out (.string nm) (.int .i64 (W : Int)) (.int .i64 (H : Int)) (.slice (some ⟨ga, 0, none⟩) n n)
         generalize ((((wm.setCell ⟨bT1, 0, none⟩ (.string nm)).setCell ⟨bT1, 1, none⟩ (.int .i64 (W : Int))).setCell ⟨bT1, 2, none⟩ (.int .i64 (H : Int))).setCell ⟨bT1, 3, none⟩ (.slice (some ⟨ga, 0, none⟩) n n)) = s1 at h_HR h_HL1 h_HL2 h_HM1 h_HM2 h_HXP h_HXY0 h_HXY1 h_HXY2 h_HXT1 h_HXT2 h_HXT3 h_B ⊢
         replace HR := Lib.hid h_HR; replace HL1 := Lib.hid h_HL1; replace HL2 := Lib.hid h_HL2; replace HM1 := Lib.hid h_HM1; replace HM2 := Lib.hid h_HM2; replace HXP := Lib.hid h_HXP
         replace HXY0 := Lib.hid h_HXY0; replace HXY1 := Lib.hid h_HXY1; replace HXY2 := Lib.hid h_HXY2; replace HXT1 := Lib.hid h_HXT1; replace HXT2 := Lib.hid h_HXT2; replace HXT3 := Lib.hid h_HXT3
         replace HB := Lib.hid h_B
         clear h_HR h_HL1 h_HL2 h_HM1 h_HM2 h_HXP h_HXY0 h_HXY1 h_HXY2 h_HXT1 h_HXT2 h_HXT3 h_B
         have h_HR := rdl_set4 HR.out HXT2.out (nf_four rfl rfl rfl rfl) (.string nm) (.int .i64 (H : Int)) (.int .i64 (W : Int)) (.slice (some ⟨gb, 0, none⟩) n n) rfl rfl rfl
         have h_HL1 := rdl_set4 HL1.out HXT2.out (nf_four rfl rfl rfl rfl) (.string nm) (.int .i64 (H : Int)) (.int .i64 (W : Int)) (.slice (some ⟨gb, 0, none⟩) n n) rfl rfl rfl
         have h_HL2 := rdl_set4 HL2.out HXT2.out (nf_four rfl rfl rfl rfl) (.string nm) (.int .i64 (H : Int)) (.int .i64 (W : Int)) (.slice (some ⟨gb, 0, none⟩) n n) rfl rfl rfl
         have h_HM1 := rdl_set4 HM1.out HXT2.out (nf_four rfl rfl rfl rfl) (.string nm) (.int .i64 (H : Int)) (.int .i64 (W : Int)) (.slice (some ⟨gb, 0, none⟩) n n) rfl rfl rfl
         have h_HM2 := rdl_set4 HM2.out HXT2.out (nf_four rfl rfl rfl rfl) (.string nm) (.int .i64 (H : Int)) (.int .i64 (W : Int)) (.slice (some ⟨gb, 0, none⟩) n n) rfl rfl rfl
         have h_HXP := bl_far4 HXP.out (by have h1 := HNT2HXP.out; exact h1) (.string nm) (.int .i64 (H : Int)) (.int .i64 (W : Int)) (.slice (some ⟨gb, 0, none⟩) n n)
         have h_HXY0 := bl_far4 HXY0.out (by have h1 := HNT2HXY0.out; exact h1) (.string nm) (.int .i64 (H : Int)) (.int .i64 (W : Int)) (.slice (some ⟨gb, 0, none⟩) n n)
         have h_HXY1 := bl_far4 HXY1.out (by have h1 := HNT2HXY1.out; exact h1) (.string nm) (.int .i64 (H : Int)) (.int .i64 (W : Int)) (.slice (some ⟨gb, 0, none⟩) n n)
         have h_HXY2 := bl_far4 HXY2.out (by have h1 := HNT2HXY2.out; exact h1) (.string nm) (.int .i64 (H : Int)) (.int .i64 (W : Int)) (.slice (some ⟨gb, 0, none⟩) n n)
         have h_HXT1 := bl_far4 HXT1.out (by have h1 := HNT2HXT1.out; exact h1) (.string nm) (.int .i64 (H : Int)) (.int .i64 (W : Int)) (.slice (some ⟨gb, 0, none⟩) n n)
         have h_HXT3 := bl_far4 HXT3.out (by have h1 := HNT3HXT2.out; exact fun h => h1 h.symm) (.string nm) (.int .i64 (H : Int)) (.int .i64 (W : Int)) (.slice (some ⟨gb, 0, none⟩) n n)
         have h_HXT2 := blk_set4' HXT2.out (.string nm) (.int .i64 (H : Int)) (.int .i64 (W : Int)) (.slice (some ⟨gb, 0, none⟩) n n)
         have h_B := below_set4 HB.out HGT2.out (.string nm) (.int .i64 (H : Int)) (.int .i64 (W : Int)) (.slice (some ⟨gb, 0, none⟩) n n)
         generalize ((((s1.setCell ⟨bT2, 0, none⟩ (.string nm)).setCell ⟨bT2, 1, none⟩ (.int .i64 (H : Int))).setCell ⟨bT2, 2, none⟩ (.int .i64 (W : Int))).setCell ⟨bT2, 3, none⟩ (.slice (some ⟨gb, 0, none⟩) n n)) = s2 at h_HR h_HL1 h_HL2 h_HM1 h_HM2 h_HXP h_HXY0 h_HXY1 h_HXY2 h_HXT1 h_HXT2 h_HXT3 h_B ⊢
         replace HR := Lib.hid h_HR; replace HL1 := Lib.hid h_HL1; replace HL2 := Lib.hid h_HL2; replace HM1 := Lib.hid h_HM1; replace HM2 := Lib.hid h_HM2; replace HXP := Lib.hid h_HXP
         replace HXY0 := Lib.hid h_HXY0; replace HXY1 := Lib.hid h_HXY1; replace HXY2 := Lib.hid h_HXY2; replace HXT1 := Lib.hid h_HXT1; replace HXT2 := Lib.hid h_HXT2; replace HXT3 := Lib.hid h_HXT3
         replace HB := Lib.hid h_B
         clear h_HR h_HL1 h_HL2 h_HM1 h_HM2 h_HXP h_HXY0 h_HXY1 h_HXY2 h_HXT1 h_HXT2 h_HXT3 h_B)
      | (obtain ⟨s0, hs0⟩ : ∃ s, ((((wm.setCell ⟨bT2, 0, none⟩ (.string nm)).setCell ⟨bT2, 1, none⟩ (.int .i64 (H : Int))).setCell ⟨bT2, 2, none⟩ (.int .i64 (W : Int))).setCell ⟨bT2, 3, none⟩ (.slice (some ⟨gb, 0, none⟩) n n)) = s := ⟨_, rfl⟩
         rw [hs0]
         rw [← hs0]
         clear hs0
         have h_HR := rdl_set4 HR.out HXT2.out (nf_four rfl rfl rfl rfl) (.string nm) (.int .i64 (H : Int)) (.int .i64 (W : Int)) (.slice (some ⟨gb, 0, none⟩) n n) rfl rfl rfl
         have h_HL1 := rdl_set4 HL1.out HXT2.out (nf_four rfl rfl rfl rfl) (.string nm) (.int .i64 (H : Int)) (.int .i64 (W : Int)) (.slice (some ⟨gb, 0, none⟩) n n) rfl rfl rfl
         have h_HL2 := rdl_set4 HL2.out HXT2.out (nf_four rfl rfl rfl rfl) (.string nm) (.int .i64 (H : Int)) (.int .i64 (W : Int)) (.slice (some ⟨gb, 0, none⟩) n n) rfl rfl rfl
         have h_HM1 := rdl_set4 HM1.out HXT2.out (nf_four rfl rfl rfl rfl) (.string nm) (.int .i64 (H : Int)) (.int .i64 (W : Int)) (.slice (some ⟨gb, 0, none⟩) n n) rfl rfl rfl
         have h_HM2 := rdl_set4 HM2.out HXT2.out (nf_four rfl rfl rfl rfl) (.string nm) (.int .i64 (H : Int)) (.int .i64 (W : Int)) (.slice (some ⟨gb, 0, none⟩) n n) rfl rfl rfl
         have h_HXP := bl_far4 HXP.out (by have h1 := HNT2HXP.out; exact h1) (.string nm) (.int .i64 (H : Int)) (.int .i64 (W : Int)) (.slice (some ⟨gb, 0, none⟩) n n)
         have h_HXY0 := bl_far4 HXY0.out (by have h1 := HNT2HXY0.out; exact h1) (.string nm) (.int .i64 (H : Int)) (.int .i64 (W : Int)) (.slice (some ⟨gb, 0, none⟩) n n)
         have h_HXY1 := bl_far4 HXY1.out (by have h1 := HNT2HXY1.out; exact h1) (.string nm) (.int .i64 (H : Int)) (.int .i64 (W : Int)) (.slice (some ⟨gb, 0, none⟩) n n)
         have h_HXY2 := bl_far4 HXY2.out (by have h1 := HNT2HXY2.out; exact h1) (.string nm) (.int .i64 (H : Int)) (.int .i64 (W : Int)) (.slice (some ⟨gb, 0, none⟩) n n)
         have h_HXT1 := bl_far4 HXT1.out (by have h1 := HNT2HXT1.out; exact h1) (.string nm) (.int .i64 (H : Int)) (.int .i64 (W : Int)) (.slice (some ⟨gb, 0, none⟩) n n)
         have h_HXT3 := bl_far4 HXT3.out (by have h1 := HNT3HXT2.out; exact fun h => h1 h.symm) (.string nm) (.int .i64 (H : Int)) (.int .i64 (W : Int)) (.slice (some ⟨gb, 0, none⟩) n n)
         have h_HXT2 := blk_set4' HXT2.out (.string nm) (.int .i64 (H : Int)) (.int .i64 (W : Int)) (.slice (some ⟨gb, 0, none⟩) n n)
         have h_B := below_set4 HB.out HGT2.out (.string nm) (.int .i64 (H : Int)) (.int .i64 (W : Int)) (.slice (some ⟨gb, 0, none⟩) n n)
         generalize ((((wm.setCell ⟨bT2, 0, none⟩ (.string nm)).setCell ⟨bT2, 1, none⟩ (.int .i64 (H : Int))).setCell ⟨bT2, 2, none⟩ (.int .i64 (W : Int))).setCell ⟨bT2, 3, none⟩ (.slice (some ⟨gb, 0, none⟩) n n)) = s1 at h_HR h_HL1 h_HL2 h_HM1 h_HM2 h_HXP h_HXY0 h_HXY1 h_HXY2 h_HXT1 h_HXT2 h_HXT3 h_B ⊢
         replace HR := Lib.hid h_HR; replace HL1 := Lib.hid h_HL1; replace HL2 := Lib.hid h_HL2; replace HM1 := Lib.hid h_HM1; replace HM2 := Lib.hid h_HM2; replace HXP := Lib.hid h_HXP
         replace HXY0 := Lib.hid h_HXY0; replace HXY1 := Lib.hid h_HXY1; replace HXY2 := Lib.hid h_HXY2; replace HXT1 := Lib.hid h_HXT1; replace HXT2 := Lib.hid h_HXT2; replace HXT3 := Lib.hid h_HXT3
         replace HB := Lib.hid h_B
         clear h_HR h_HL1 h_HL2 h_HM1 h_HM2 h_HXP h_HXY0 h_HXY1 h_HXY2 h_HXT1 h_HXT2 h_HXT3 h_B
         have h_HR := rdl_set4 HR.out HXT1.out (nf_four rfl rfl rfl rfl) (.string nm) (.int .i64 (W : Int)) (.int .i64 (H : Int)) (.slice (some ⟨ga, 0, none⟩) n n) rfl rfl rfl
         have h_HL1 := rdl_set4 HL1.out HXT1.out (nf_four rfl rfl rfl rfl) (.string nm) (.int .i64 (W : Int)) (.int .i64 (H : Int)) (.slice (some ⟨ga, 0, none⟩) n n) rfl rfl rfl
         have h_HL2 := rdl_set4 HL2.out HXT1.out (nf_four rfl rfl rfl rfl) (.string nm) (.int .i64 (W : Int)) (.int .i64 (H : Int)) (.slice (some ⟨ga, 0, none⟩) n n) rfl rfl rfl
         have h_HM1 := rdl_set4 HM1.out HXT1.out (nf_four rfl rfl rfl rfl) (.string nm) (.int .i64 (W : Int)) (.int .i64 (H : Int)) (.slice (some ⟨ga, 0, none⟩) n n) rfl rfl rfl
         have h_HM2 := rdl_set4 HM2.out HXT1.out (nf_four rfl rfl rfl rfl) (.string nm) (.int .i64 (W : Int)) (.int .i64 (H : Int)) (.slice (some ⟨ga, 0, none⟩) n n) rfl rfl rfl
         have h_HXP := bl_far4 HXP.out (by have h1 := HNT1HXP.out; exact h1) (.string nm) (.int .i64 (W : Int)) (.int .i64 (H : Int)) (.slice (some ⟨ga, 0, none⟩) n n)
         have h_HXY0 := bl_far4 HXY0.out (by have h1 := HNT1HXY0.out; exact h1) (.string nm) (.int .i64 (W : Int)) (.int .i64 (H : Int)) (.slice (some ⟨ga, 0, none⟩) n n)
         have h_HXY1 := bl_far4 HXY1.out (by have h1 := HNT1HXY1.out; exact h1) (.string nm) (.int .i64 (W : Int)) (.int .i64 (H : Int)) (.slice (some ⟨ga, 0, none⟩) n n)
         have h_HXY2 := bl_far4 HXY2.out (by have h1 := HNT1HXY2.out; exact h1) (.string nm) (.int .i64 (W : Int)) (.int .i64 (H : Int)) (.slice (some ⟨ga, 0, none⟩) n n)
         have h_HXT2 := bl_far4 HXT2.out (by have h1 := HNT2HXT1.out; exact fun h => h1 h.symm) (.string nm) (.int .i64 (W : Int)) (.int .i64 (H : Int)) (.slice (some ⟨ga, 0, none⟩) n n)
         have h_HXT3 := bl_far4 HXT3.out (by have h1 := HNT3HXT1.out; exact fun h => h1 h.symm) (.string nm) (.int .i64 (W : Int)) (.int .i64 (H : Int)) (.slice (some ⟨ga, 0, none⟩) n n)
         have h_HXT1 := blk_set4' HXT1.out (.string nm) (.int .i64 (W : Int)) (.int .i64 (H : Int)) (.slice (some ⟨ga, 0, none⟩) n n)
         have h_B := below_set4 HB.out HGT1.out (.string nm) (.int .i64 (W : Int)) (.int .i64 (H : Int)) (.slice (some ⟨ga, 0, none⟩) n n)
         generalize ((((s1.setCell ⟨bT1, 0, none⟩ (.string nm)).setCell ⟨bT1, 1, none⟩ (.int .i64 (W : Int))).setCell ⟨bT1, 2, none⟩ (.int .i64 (H : Int))).setCell ⟨bT1, 3, none⟩ (.slice (some ⟨ga, 0, none⟩) n n)) = s2 at h_HR h_HL1 h_HL2 h_HM1 h_HM2 h_HXP h_HXY0 h_HXY1 h_HXY2 h_HXT1 h_HXT2 h_HXT3 h_B ⊢
         replace HR := Lib.hid h_HR; replace HL1 := Lib.hid h_HL1; replace HL2 := Lib.hid h_HL2; replace HM1 := Lib.hid h_HM1; replace HM2 := Lib.hid h_HM2; replace HXP := Lib.hid h_HXP
         replace HXY0 := Lib.hid h_HXY0; replace HXY1 := Lib.hid h_HXY1; replace HXY2 := Lib.hid h_HXY2; replace HXT1 := Lib.hid h_HXT1; replace HXT2 := Lib.hid h_HXT2; replace HXT3 := Lib.hid h_HXT3
         replace HB := Lib.hid h_B
         clear h_HR h_HL1 h_HL2 h_HM1 h_HM2 h_HXP h_HXY0 h_HXY1 h_HXY2 h_HXT1 h_HXT2 h_HXT3 h_B)
    obtain ⟨cHXP_0, cHXP_1, cHXP_2, cHXP_3⟩ := box4 HXP.out
    go_wp2_with fail
    refine (HQ3.out _).mono ?_
    rintro e r1 ⟨rfl, hb⟩
    replace HR := Lib.hid (HR.out.below hb); replace HL1 := Lib.hid (HL1.out.below hb); replace HL2 := Lib.hid (HL2.out.below hb); replace HM1 := Lib.hid (HM1.out.below hb)
    replace HM2 := Lib.hid (HM2.out.below hb); replace HXP := Lib.hid (HXP.out.below hb); replace HXY0 := Lib.hid (HXY0.out.below hb); replace HXY1 := Lib.hid (HXY1.out.below hb)
    replace HXY2 := Lib.hid (HXY2.out.below hb); replace HXT1 := Lib.hid (HXT1.out.below hb); replace HXT2 := Lib.hid (HXT2.out.below hb); replace HXT3 := Lib.hid (HXT3.out.below hb)
    replace HB := Lib.hid (HB.out.trans (hb.mono HB.out.size))
    clear hb
    clear cHXP_0 cHXP_1 cHXP_2 cHXP_3
    have lG := HXT3.out.lt
    obtain ⟨d0, d1_, d2_, d3, d4, d5, d6, d7⟩ := box8' HXT3.out
    have f0 := HXT3.out.frozen 0; have f1 := HXT3.out.frozen 1; have f2 := HXT3.out.frozen 2; have f3 := HXT3.out.frozen 3; have f4 := HXT3.out.frozen 4; have f5 := HXT3.out.frozen 5; have f6 := HXT3.out.frozen 6; have f7 := HXT3.out.frozen 7
    go_upto_region 13 with fail
    clear d0 d1_ d2_ d3 d4 d5 d6 d7 f0 f1 f2 f3 f4 f5 f6 f7 lG
    have h_HR := rd_set8 HR.out HXT3.out (nf_eight rfl rfl rfl rfl rfl rfl rfl rfl) (.string ⟨#[]⟩) (.int .i64 0) (.int .i64 0) (.slice none 0 0) (.string ⟨#[]⟩) (.int .i64 0) (.int .i64 0) (.slice none 0 0) rfl rfl rfl rfl rfl rfl rfl
    have h_HL1 := rd_set8 HL1.out HXT3.out (nf_eight rfl rfl rfl rfl rfl rfl rfl rfl) (.string ⟨#[]⟩) (.int .i64 0) (.int .i64 0) (.slice none 0 0) (.string ⟨#[]⟩) (.int .i64 0) (.int .i64 0) (.slice none 0 0) rfl rfl rfl rfl rfl rfl rfl
    have h_HL2 := rd_set8 HL2.out HXT3.out (nf_eight rfl rfl rfl rfl rfl rfl rfl rfl) (.string ⟨#[]⟩) (.int .i64 0) (.int .i64 0) (.slice none 0 0) (.string ⟨#[]⟩) (.int .i64 0) (.int .i64 0) (.slice none 0 0) rfl rfl rfl rfl rfl rfl rfl
    have h_HM1 := rd_set8 HM1.out HXT3.out (nf_eight rfl rfl rfl rfl rfl rfl rfl rfl) (.string ⟨#[]⟩) (.int .i64 0) (.int .i64 0) (.slice none 0 0) (.string ⟨#[]⟩) (.int .i64 0) (.int .i64 0) (.slice none 0 0) rfl rfl rfl rfl rfl rfl rfl
    have h_HM2 := rd_set8 HM2.out HXT3.out (nf_eight rfl rfl rfl rfl rfl rfl rfl rfl) (.string ⟨#[]⟩) (.int .i64 0) (.int .i64 0) (.slice none 0 0) (.string ⟨#[]⟩) (.int .i64 0) (.int .i64 0) (.slice none 0 0) rfl rfl rfl rfl rfl rfl rfl
    have h_HXP := blk_far8 HXP.out (by have h1 := HNT3HXP.out; exact h1) (.string ⟨#[]⟩) (.int .i64 0) (.int .i64 0) (.slice none 0 0) (.string ⟨#[]⟩) (.int .i64 0) (.int .i64 0) (.slice none 0 0)
    have h_HXY0 := blk_far8 HXY0.out (by have h1 := HNT3HXY0.out; exact h1) (.string ⟨#[]⟩) (.int .i64 0) (.int .i64 0) (.slice none 0 0) (.string ⟨#[]⟩) (.int .i64 0) (.int .i64 0) (.slice none 0 0)
    have h_HXY1 := blk_far8 HXY1.out (by have h1 := HNT3HXY1.out; exact h1) (.string ⟨#[]⟩) (.int .i64 0) (.int .i64 0) (.slice none 0 0) (.string ⟨#[]⟩) (.int .i64 0) (.int .i64 0) (.slice none 0 0)
    have h_HXY2 := blk_far8 HXY2.out (by have h1 := HNT3HXY2.out; exact h1) (.string ⟨#[]⟩) (.int .i64 0) (.int .i64 0) (.slice none 0 0) (.string ⟨#[]⟩) (.int .i64 0) (.int .i64 0) (.slice none 0 0)
    have h_HXT1 := blk_far8 HXT1.out (by have h1 := HNT3HXT1.out; exact h1) (.string ⟨#[]⟩) (.int .i64 0) (.int .i64 0) (.slice none 0 0) (.string ⟨#[]⟩) (.int .i64 0) (.int .i64 0) (.slice none 0 0)
    have h_HXT2 := blk_far8 HXT2.out (by have h1 := HNT3HXT2.out; exact h1) (.string ⟨#[]⟩) (.int .i64 0) (.int .i64 0) (.slice none 0 0) (.string ⟨#[]⟩) (.int .i64 0) (.int .i64 0) (.slice none 0 0)
    have h_HXT3 := blk_set8 HXT3.out (.string ⟨#[]⟩) (.int .i64 0) (.int .i64 0) (.slice none 0 0) (.string ⟨#[]⟩) (.int .i64 0) (.int .i64 0) (.slice none 0 0)
    have h_B := below_set8 HB.out HGT3.out (.string ⟨#[]⟩) (.int .i64 0) (.int .i64 0) (.slice none 0 0) (.string ⟨#[]⟩) (.int .i64 0) (.int .i64 0) (.slice none 0 0)
    generalize ((((((((r1.setCell ⟨bT3, 0, none⟩ (.string ⟨#[]⟩)).setCell ⟨bT3, 1, none⟩ (.int .i64 0)).setCell ⟨bT3, 2, none⟩ (.int .i64 0)).setCell ⟨bT3, 3, none⟩ (.slice none 0 0)).setCell ⟨bT3, 4, none⟩ (.string ⟨#[]⟩)).setCell ⟨bT3, 5, none⟩ (.int .i64 0)).setCell ⟨bT3, 6, none⟩ (.int .i64 0)).setCell ⟨bT3, 7, none⟩ (.slice none 0 0)) = s3 at h_HR h_HL1 h_HL2 h_HM1 h_HM2 h_HXP h_HXY0 h_HXY1 h_HXY2 h_HXT1 h_HXT2 h_HXT3 h_B ⊢
    replace HR := Lib.hid h_HR; replace HL1 := Lib.hid h_HL1; replace HL2 := Lib.hid h_HL2; replace HM1 := Lib.hid h_HM1; replace HM2 := Lib.hid h_HM2; replace HXP := Lib.hid h_HXP
    replace HXY0 := Lib.hid h_HXY0; replace HXY1 := Lib.hid h_HXY1; replace HXY2 := Lib.hid h_HXY2; replace HXT1 := Lib.hid h_HXT1; replace HXT2 := Lib.hid h_HXT2; replace HXT3 := Lib.hid h_HXT3
    replace HB := Lib.hid h_B
    clear h_HR h_HL1 h_HL2 h_HM1 h_HM2 h_HXP h_HXY0 h_HXY1 h_HXY2 h_HXT1 h_HXT2 h_HXT3 h_B
    obtain ⟨cHXP_0, cHXP_1, cHXP_2, cHXP_3⟩ := box4 HXP.out
    obtain ⟨cHXY0_0, cHXY0_1, cHXY0_2, cHXY0_3⟩ := box4 HXY0.out
    obtain ⟨cHXY1_0, cHXY1_1, cHXY1_2, cHXY1_3⟩ := box4 HXY1.out
    obtain ⟨cHXY2_0, cHXY2_1, cHXY2_2, cHXY2_3, cHXY2_4, cHXY2_5, cHXY2_6, cHXY2_7⟩ := box8' HXY2.out
    obtain ⟨cHXT1_0, cHXT1_1, cHXT1_2, cHXT1_3⟩ := box4 HXT1.out
    obtain ⟨cHXT2_0, cHXT2_1, cHXT2_2, cHXT2_3⟩ := box4 HXT2.out
    obtain ⟨cHXT3_0, cHXT3_1, cHXT3_2, cHXT3_3, cHXT3_4, cHXT3_5, cHXT3_6, cHXT3_7⟩ := box8' HXT3.out
    go_wp2_with fail
    refine (one_true nm W H _ _ n n n L1 L1 _ HN1.out.1 HN1.out.1 HN0.out HN1.out.2 HL1.out HM1.out).mono ?_
    rintro e o0 ⟨rfl, hb⟩
    replace HR := Lib.hid (HR.out.below hb); replace HL1 := Lib.hid (HL1.out.below hb); replace HL2 := Lib.hid (HL2.out.below hb); replace HM1 := Lib.hid (HM1.out.below hb)
    replace HM2 := Lib.hid (HM2.out.below hb); replace HXP := Lib.hid (HXP.out.below hb); replace HXY0 := Lib.hid (HXY0.out.below hb); replace HXY1 := Lib.hid (HXY1.out.below hb)
    replace HXY2 := Lib.hid (HXY2.out.below hb); replace HXT1 := Lib.hid (HXT1.out.below hb); replace HXT2 := Lib.hid (HXT2.out.below hb); replace HXT3 := Lib.hid (HXT3.out.below hb)
    replace HB := Lib.hid (HB.out.trans (hb.mono HB.out.size))
    clear hb
    clear cHXP_0 cHXP_1 cHXP_2 cHXP_3 cHXY0_0 cHXY0_1 cHXY0_2 cHXY0_3 cHXY1_0 cHXY1_1 cHXY1_2 cHXY1_3 cHXY2_0 cHXY2_1 cHXY2_2 cHXY2_3 cHXY2_4 cHXY2_5 cHXY2_6 cHXY2_7 cHXT1_0 cHXT1_1 cHXT1_2 cHXT1_3 cHXT2_0 cHXT2_1 cHXT2_2 cHXT2_3 cHXT3_0 cHXT3_1 cHXT3_2 cHXT3_3 cHXT3_4 cHXT3_5 cHXT3_6 cHXT3_7
    obtain ⟨cHXP_0, cHXP_1, cHXP_2, cHXP_3⟩ := box4 HXP.out
    obtain ⟨cHXY0_0, cHXY0_1, cHXY0_2, cHXY0_3⟩ := box4 HXY0.out
    obtain ⟨cHXY1_0, cHXY1_1, cHXY1_2, cHXY1_3⟩ := box4 HXY1.out
    obtain ⟨cHXY2_0, cHXY2_1, cHXY2_2, cHXY2_3, cHXY2_4, cHXY2_5, cHXY2_6, cHXY2_7⟩ := box8' HXY2.out
    obtain ⟨cHXT1_0, cHXT1_1, cHXT1_2, cHXT1_3⟩ := box4 HXT1.out
    obtain ⟨cHXT2_0, cHXT2_1, cHXT2_2, cHXT2_3⟩ := box4 HXT2.out
    obtain ⟨cHXT3_0, cHXT3_1, cHXT3_2, cHXT3_3, cHXT3_4, cHXT3_5, cHXT3_6, cHXT3_7⟩ := box8' HXT3.out
    go_wp2_with fail
    refine (one_true nm H W _ _ n n n L2 L2 _ HN2.out.1 HN2.out.1 HN0.out HN2.out.2 HL2.out HM2.out).mono ?_
    rintro e o1 ⟨rfl, hb⟩
    replace HR := Lib.hid (HR.out.below hb); replace HL1 := Lib.hid (HL1.out.below hb); replace HL2 := Lib.hid (HL2.out.below hb); replace HM1 := Lib.hid (HM1.out.below hb)
    replace HM2 := Lib.hid (HM2.out.below hb); replace HXP := Lib.hid (HXP.out.below hb); replace HXY0 := Lib.hid (HXY0.out.below hb); replace HXY1 := Lib.hid (HXY1.out.below hb)
    replace HXY2 := Lib.hid (HXY2.out.below hb); replace HXT1 := Lib.hid (HXT1.out.below hb); replace HXT2 := Lib.hid (HXT2.out.below hb); replace HXT3 := Lib.hid (HXT3.out.below hb)
    replace HB := Lib.hid (HB.out.trans (hb.mono HB.out.size))
    clear hb
    clear cHXP_0 cHXP_1 cHXP_2 cHXP_3 cHXY0_0 cHXY0_1 cHXY0_2 cHXY0_3 cHXY1_0 cHXY1_1 cHXY1_2 cHXY1_3 cHXY2_0 cHXY2_1 cHXY2_2 cHXY2_3 cHXY2_4 cHXY2_5 cHXY2_6 cHXY2_7 cHXT1_0 cHXT1_1 cHXT1_2 cHXT1_3 cHXT2_0 cHXT2_1 cHXT2_2 cHXT2_3 cHXT3_0 cHXT3_1 cHXT3_2 cHXT3_3 cHXT3_4 cHXT3_5 cHXT3_6 cHXT3_7
    obtain ⟨cHXP_0, cHXP_1, cHXP_2, cHXP_3⟩ := box4 HXP.out
    obtain ⟨cHXY0_0, cHXY0_1, cHXY0_2, cHXY0_3⟩ := box4 HXY0.out
    obtain ⟨cHXY1_0, cHXY1_1, cHXY1_2, cHXY1_3⟩ := box4 HXY1.out
    obtain ⟨cHXY2_0, cHXY2_1, cHXY2_2, cHXY2_3, cHXY2_4, cHXY2_5, cHXY2_6, cHXY2_7⟩ := box8' HXY2.out
    obtain ⟨cHXT1_0, cHXT1_1, cHXT1_2, cHXT1_3⟩ := box4 HXT1.out
    obtain ⟨cHXT2_0, cHXT2_1, cHXT2_2, cHXT2_3⟩ := box4 HXT2.out
    obtain ⟨cHXT3_0, cHXT3_1, cHXT3_2, cHXT3_3, cHXT3_4, cHXT3_5, cHXT3_6, cHXT3_7⟩ := box8' HXT3.out
    go_wp2_with fail
    refine (one_bad ⟨#[]⟩ 0 0 none 0 0 16 (by decide) _).mono ?_
    rintro e o2 ⟨rfl, hb⟩
    replace HR := Lib.hid (HR.out.below hb); replace HL1 := Lib.hid (HL1.out.below hb); replace HL2 := Lib.hid (HL2.out.below hb); replace HM1 := Lib.hid (HM1.out.below hb)
    replace HM2 := Lib.hid (HM2.out.below hb); replace HXP := Lib.hid (HXP.out.below hb); replace HXY0 := Lib.hid (HXY0.out.below hb); replace HXY1 := Lib.hid (HXY1.out.below hb)
    replace HXY2 := Lib.hid (HXY2.out.below hb); replace HXT1 := Lib.hid (HXT1.out.below hb); replace HXT2 := Lib.hid (HXT2.out.below hb); replace HXT3 := Lib.hid (HXT3.out.below hb)
    replace HB := Lib.hid (HB.out.trans (hb.mono HB.out.size))
    clear hb
    clear cHXP_0 cHXP_1 cHXP_2 cHXP_3 cHXY0_0 cHXY0_1 cHXY0_2 cHXY0_3 cHXY1_0 cHXY1_1 cHXY1_2 cHXY1_3 cHXY2_0 cHXY2_1 cHXY2_2 cHXY2_3 cHXY2_4 cHXY2_5 cHXY2_6 cHXY2_7 cHXT1_0 cHXT1_1 cHXT1_2 cHXT1_3 cHXT2_0 cHXT2_1 cHXT2_2 cHXT2_3 cHXT3_0 cHXT3_1 cHXT3_2 cHXT3_3 cHXT3_4 cHXT3_5 cHXT3_6 cHXT3_7
    obtain ⟨cHXP_0, cHXP_1, cHXP_2, cHXP_3⟩ := box4 HXP.out
    obtain ⟨cHXY0_0, cHXY0_1, cHXY0_2, cHXY0_3⟩ := box4 HXY0.out
    obtain ⟨cHXY1_0, cHXY1_1, cHXY1_2, cHXY1_3⟩ := box4 HXY1.out
    obtain ⟨cHXY2_0, cHXY2_1, cHXY2_2, cHXY2_3, cHXY2_4, cHXY2_5, cHXY2_6, cHXY2_7⟩ := box8' HXY2.out
    obtain ⟨cHXT1_0, cHXT1_1, cHXT1_2, cHXT1_3⟩ := box4 HXT1.out
    obtain ⟨cHXT2_0, cHXT2_1, cHXT2_2, cHXT2_3⟩ := box4 HXT2.out
    obtain ⟨cHXT3_0, cHXT3_1, cHXT3_2, cHXT3_3, cHXT3_4, cHXT3_5, cHXT3_6, cHXT3_7⟩ := box8' HXT3.out
    go_wp2_with fail
    refine (one_bad ⟨#[]⟩ 0 0 none 0 0 16 (by decide) _).mono ?_
    rintro e o3 ⟨rfl, hb⟩
    replace HR := Lib.hid (HR.out.below hb); replace HL1 := Lib.hid (HL1.out.below hb); replace HL2 := Lib.hid (HL2.out.below hb); replace HM1 := Lib.hid (HM1.out.below hb)
    replace HM2 := Lib.hid (HM2.out.below hb); replace HXP := Lib.hid (HXP.out.below hb); replace HXY0 := Lib.hid (HXY0.out.below hb); replace HXY1 := Lib.hid (HXY1.out.below hb)
    replace HXY2 := Lib.hid (HXY2.out.below hb); replace HXT1 := Lib.hid (HXT1.out.below hb); replace HXT2 := Lib.hid (HXT2.out.below hb); replace HXT3 := Lib.hid (HXT3.out.below hb)
    replace HB := Lib.hid (HB.out.trans (hb.mono HB.out.size))
    clear hb
    clear cHXP_0 cHXP_1 cHXP_2 cHXP_3 cHXY0_0 cHXY0_1 cHXY0_2 cHXY0_3 cHXY1_0 cHXY1_1 cHXY1_2 cHXY1_3 cHXY2_0 cHXY2_1 cHXY2_2 cHXY2_3 cHXY2_4 cHXY2_5 cHXY2_6 cHXY2_7 cHXT1_0 cHXT1_1 cHXT1_2 cHXT1_3 cHXT2_0 cHXT2_1 cHXT2_2 cHXT2_3 cHXT3_0 cHXT3_1 cHXT3_2 cHXT3_3 cHXT3_4 cHXT3_5 cHXT3_6 cHXT3_7
    obtain ⟨cHXP_0, cHXP_1, cHXP_2, cHXP_3⟩ := box4 HXP.out
    obtain ⟨cHXY0_0, cHXY0_1, cHXY0_2, cHXY0_3⟩ := box4 HXY0.out
    obtain ⟨cHXY1_0, cHXY1_1, cHXY1_2, cHXY1_3⟩ := box4 HXY1.out
    obtain ⟨cHXY2_0, cHXY2_1, cHXY2_2, cHXY2_3, cHXY2_4, cHXY2_5, cHXY2_6, cHXY2_7⟩ := box8' HXY2.out
    obtain ⟨cHXT1_0, cHXT1_1, cHXT1_2, cHXT1_3⟩ := box4 HXT1.out
    obtain ⟨cHXT2_0, cHXT2_1, cHXT2_2, cHXT2_3⟩ := box4 HXT2.out
    obtain ⟨cHXT3_0, cHXT3_1, cHXT3_2, cHXT3_3, cHXT3_4, cHXT3_5, cHXT3_6, cHXT3_7⟩ := box8' HXT3.out
    go_wp2_with fail
    refine (awake_laid _ (HL.out.below HB.out)).mono ?_
    rintro e uz ⟨rfl, hb⟩
    replace HR := Lib.hid (HR.out.below hb); replace HL1 := Lib.hid (HL1.out.below hb); replace HL2 := Lib.hid (HL2.out.below hb); replace HM1 := Lib.hid (HM1.out.below hb)
    replace HM2 := Lib.hid (HM2.out.below hb); replace HXP := Lib.hid (HXP.out.below hb); replace HXY0 := Lib.hid (HXY0.out.below hb); replace HXY1 := Lib.hid (HXY1.out.below hb)
    replace HXY2 := Lib.hid (HXY2.out.below hb); replace HXT1 := Lib.hid (HXT1.out.below hb); replace HXT2 := Lib.hid (HXT2.out.below hb); replace HXT3 := Lib.hid (HXT3.out.below hb)
    replace HB := Lib.hid (HB.out.trans (hb.mono HB.out.size))
    clear hb
    go_wp2
    go_ret
    exact trueEnd_mk rfl HB.out

theorem turns_any (p : Pic) (A : Option Addr) (c : Nat) (w : World) (hlaid : Laid w) (hA : A = none → p.l.length = 0 ∧ c = 0) (hcap : p.l.length ≤ c) (hs : p.name.size ≤ maxLen) (hr : Rd w A (fl p.l)) : Calls Tryz.prog 6 #[p.val A c] w (TrueEnd w) := by
  by_cases hsh : shortB p = true
  · by_cases he : p.err = 0
    · have hp := ok_of he
      obtain ⟨nm, pw, ph, l⟩ := p
      have h1 := hp.w1; have h2 := hp.h1
      simp only [] at h1 h2
      obtain ⟨W, rfl⟩ : ∃ W : Nat, pw = W := ⟨pw.toNat, by omega⟩
      obtain ⟨H, rfl⟩ : ∃ H : Nat, ph = H := ⟨ph.toNat, by omega⟩
      by_cases hh : H = 1
      · exact turns_one nm W H l hp he hh A c w hlaid hsh hcap hr
      · exact turns_ok nm W H l hp he (by omega) A c w hlaid hsh hcap hr
    · exact turns_bad p A c w hlaid hsh he hA hr
  · exact turns_long p A c w hlaid (by simpa using hsh)
end Go.Proofs.YtnbpcfakkphmcaaGreatDoor
