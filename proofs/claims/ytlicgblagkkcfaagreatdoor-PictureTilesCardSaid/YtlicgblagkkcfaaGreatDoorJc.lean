/- PictureTiles: the walk of the law, by what its calls give. -/
import Derived.Test.YtlicgblagkkcfaaGreatDoorPI
namespace Go.Proofs.YtlicgblagkkcfaaGreatDoor
open Go.RowKit
set_option linter.unusedVariables false
set_option maxRecDepth 100000

set_option maxHeartbeats 40000000 in
theorem tiles_walk (nm : ByteArray) (W H n : Nat) (l : List Nat) (a b x y W1 H1 : Int) (A : Option Addr) (c : Nat) (w : World) (d : Nat → TileD) (EA PA SA : Nat → Int)
    (hW : ¬ (W : Int) < 2) (hH : ¬ (H : Int) < 2) (hW1 : IntKind.i64.wrap ((W : Int) - 1) = W1) (hH1 : IntKind.i64.wrap ((H : Int) - 1) = H1) (hw0 : ¬ W1 = 0) (hh0 : ¬ H1 = 0) (ha : IntKind.i64.wrap a = a) (hb : IntKind.i64.wrap b = b)
    (hx : IntKind.i64.wrap (1 + a.tmod W1) = x) (hy : IntKind.i64.wrap (1 + b.tmod H1) = y)
    (hr : Rd w A (fl l)) (hcap : n ≤ c)
    (haw : ∀ w', Below w.heap.size w w' → Calls Tryz.prog 16 #[] w' fun e w'' => e = .returned (.bool true) ∧ Below w'.heap.size w' w'')
    (hval : ∀ w, Rd w A (fl l) → Calls Tryz.prog 86 #[.agg #[.string nm, .int .i64 (W : Int), .int .i64 (H : Int), .slice A n c]] w fun e w' => e = .returned (.bool true) ∧ Below w.heap.size w w')
    (hown : ∀ w, Rd w A (fl l) → Calls Tryz.prog 30 #[.agg #[.string nm, .int .i64 (W : Int), .int .i64 (H : Int), .slice A n c]] w fun e w' => ∃ g c', e = .returned (.agg #[.string nm, .int .i64 (W : Int), .int .i64 (H : Int), .slice (some ⟨g, 0, none⟩) n c']) ∧ n ≤ c' ∧ Rd w' (some ⟨g, 0, none⟩) (fl l) ∧ Below w.heap.size w w')
    (hd : ∀ i k, i < 2 → k < 2 → TileP nm W H n l (selI 0 x k) (selI x W k) (selI 0 y i) (selI y H i) (d (2 * i + k)))
    (t1 t2 t3 t4 : TileD) (S0 D0 X0 : Int)
    (hJ1 : JoinT 40 nm (d 0).m (d 0).h (d 0).N (d 0).L (d 1).m (d 1).h (d 1).N (d 1).L t1.m t1.h t1.N t1.L) (hJ2 : JoinT 40 nm (d 2).m (d 2).h (d 2).N (d 2).L (d 3).m (d 3).h (d 3).N (d 3).L t2.m t2.h t2.N t2.L)
    (hJ3 : JoinT 41 nm (d 0).m (d 0).h (d 0).N (d 0).L (d 2).m (d 2).h (d 2).N (d 2).L t3.m t3.h t3.N t3.L) (hJ4 : JoinT 41 nm (d 1).m (d 1).h (d 1).N (d 1).L (d 3).m (d 3).h (d 3).N (d 3).L t4.m t4.h t4.N t4.L)
    (hJ5 : JoinT 41 nm t1.m t1.h t1.N t1.L t2.m t2.h t2.N t2.L W H n l) (hJ6 : JoinT 40 nm t3.m t3.h t3.N t3.L t4.m t4.h t4.N t4.L W H n l)
    (hsame : ∀ (A' : Option Addr) (c' : Nat) (w : World), Rd w A' (fl l) → Rd w A (fl l) → Calls Tryz.prog 88 #[.agg #[.string nm, .int .i64 (W : Int), .int .i64 (H : Int), .slice A' n c'], .agg #[.string nm, .int .i64 (W : Int), .int .i64 (H : Int), .slice A n c]] w fun e w' => e = .returned (.bool true) ∧ Below w.heap.size w w')
    (hEn : ∀ (A' : Option Addr) (c' : Nat) (w : World), Rd w A' (fl l) → Calls Tryz.prog 54 #[.agg #[.string nm, .int .i64 (W : Int), .int .i64 (H : Int), .slice A' n c']] w fun e w' => e = .returned (.tuple #[.int .i64 (EA 4), .int .i64 0]) ∧ Below w.heap.size w w')
    (hPk : ∀ (A' : Option Addr) (c' : Nat) (w : World), Rd w A' (fl l) → Calls Tryz.prog 55 #[.agg #[.string nm, .int .i64 (W : Int), .int .i64 (H : Int), .slice A' n c']] w fun e w' => e = .returned (.tuple #[.int .i64 (PA 4), .int .i64 0]) ∧ Below w.heap.size w w')
    (hMn : ∀ (A' : Option Addr) (c' : Nat) (w : World), Rd w A' (fl l) → Calls Tryz.prog 56 #[.agg #[.string nm, .int .i64 (W : Int), .int .i64 (H : Int), .slice A' n c']] w fun e w' => e = .returned (.tuple #[.agg #[.int .i64 S0, .int .i64 D0], .int .i64 0]) ∧ Below w.heap.size w w')
    (hD0 : ¬ D0 < 1) (hX1 : IntKind.i64.wrap (IntKind.i64.wrap (S0 * 16) * (n : Int)) = X0) (hX2 : IntKind.i64.wrap (SA 4 * D0) = X0)
    (hE0 : EA 0 = 0) (hP0 : PA 0 = 0) (hS0 : SA 0 = 0) (hE : ∀ q, q < 4 → IntKind.i64.wrap (EA q + (d q).E) = EA (q + 1)) (hP : ∀ q, q < 4 → max (PA q) (d q).P = PA (q + 1)) (hS : ∀ q, q < 4 → IntKind.i64.wrap (SA q + (d q).T) = SA (q + 1)) :
    Calls Tryz.prog 11 #[.agg #[.string nm, .int .i64 (W : Int), .int .i64 (H : Int), .slice A n c], .agg #[.int .u8 a, .int .u8 b]] w fun e w' => e = .returned (.bool true) ∧ Below w.heap.size w w' := by
  have HhJ1 := Lib.hid hJ1; have HhJ2 := Lib.hid hJ2; have HhJ3 := Lib.hid hJ3; have HhJ4 := Lib.hid hJ4; have HhJ5 := Lib.hid hJ5; have HhJ6 := Lib.hid hJ6; have Hhsame := Lib.hid hsame; have HhEn := Lib.hid hEn; have HhPk := Lib.hid hPk; have HhMn := Lib.hid hMn; have HhD0 := Lib.hid hD0; have HhX1 := Lib.hid hX1; have HhX2 := Lib.hid hX2; have Hhr := Lib.hid hr; have Hhcap := Lib.hid hcap; have Hhaw := Lib.hid haw; have Hhval := Lib.hid hval; have Hhown := Lib.hid hown; have Hhd := Lib.hid hd; have HhE0 := Lib.hid hE0; have HhP0 := Lib.hid hP0; have HhS0 := Lib.hid hS0; have HhE := Lib.hid hE; have HhP := Lib.hid hP; have HhS := Lib.hid hS
  clear hJ1 hJ2 hJ3 hJ4 hJ5 hJ6 hsame hEn hPk hMn hD0 hX1 hX2 hr hcap haw hval hown hd hE0 hP0 hS0 hE hP hS
  have HB := Lib.hid (Below.refl w.heap.size w)
  go_enter Tryz.func11, Tryz.ntmps11
  go_upto_region 1 with fail
  have hn := (Blk.new w 43 #[.string nm, .int .i64 (W : Int), .int .i64 (H : Int), .slice A n c]).alloc (.cells #[.int .u8 a, .int .u8 b] 129)
  have hm := Blk.new (w.alloc (.cells #[.string nm, .int .i64 (W : Int), .int .i64 (H : Int), .slice A n c] 43)) 129 #[.int .u8 a, .int .u8 b]
  simp only [World.size_alloc] at hm
  have hb2 := ((Below.refl w.heap.size w).alloc (Nat.le_refl _) (.cells #[.string nm, .int .i64 (W : Int), .int .i64 (H : Int), .slice A n c] 43)).alloc (by simp only [World.size_alloc]; omega) (.cells #[.int .u8 a, .int .u8 b] 129)
  obtain ⟨bP, hbP⟩ : ∃ g, w.heap.size = g := ⟨_, rfl⟩
  obtain ⟨bN, hbN⟩ : ∃ g, w.heap.size + 1 = g := ⟨_, rfl⟩
  generalize (w.alloc (.cells #[.string nm, .int .i64 (W : Int), .int .i64 (H : Int), .slice A n c] 43)).alloc (.cells #[.int .u8 a, .int .u8 b] 129) = w0 at hn hm hb2 ⊢
  have hPN : RowKit.Hid (bP < bN) := Lib.hid (by omega)
  rw [hbN] at hm
  try rw [hbN]
  rw [hbP] at hn
  try rw [hbP]
  have HXP := Lib.hid hn; have HXN := Lib.hid hm
  have HGP : RowKit.Hid (w.heap.size ≤ bP) := Lib.hid (by omega)
  replace HB := Lib.hid hb2
  clear hn hm hb2 hbP hbN
  go_wp2_with (first | (refine wpList_load_box rfl 43 _ rfl bP _ _ HXP.out rfl _ Tryz.underlying43 rfl (by kernel_rfl) ?_))
  refine (Hhval.out _ (Hhr.out.below HB.out)).mono ?_
  rintro e u1w ⟨rfl, hb⟩
  replace HXP := Lib.hid (HXP.out.below hb)
  replace HXN := Lib.hid (HXN.out.below hb)
  replace HB := Lib.hid (HB.out.trans (hb.mono HB.out.size))
  clear hb
  obtain ⟨cP0, cP1, cP2, cP3⟩ := box4 HXP.out
  go_upto_region 3 with fail
  obtain ⟨cN0, cN1⟩ := box2t HXN.out
  have zP := HXP.out.lt; have zN := HXN.out.lt
  refine wp_region_facts [Fact.is (.pointer (some ⟨bN, 0, none⟩)), Fact.is (.int .u8 a), Fact.is (.int .i64 (a)), Fact.is (.pointer (some ⟨bP, 1, none⟩)), Fact.is (.int .i64 (W)), Fact.is (.int .i64 (W1)), Fact.is (.int .i64 (a.tmod W1)), Fact.is (.int .i64 (x)), Fact.is (.pointer (some ⟨bN, 1, none⟩)), Fact.is (.int .u8 b), Fact.is (.int .i64 (b)), Fact.is (.pointer (some ⟨bP, 2, none⟩)), Fact.is (.int .i64 (H)), Fact.is (.int .i64 (H1)), Fact.is (.int .i64 (b.tmod H1)), Fact.is (.int .i64 (y)), Fact.is (.int .i64 (x)), Fact.is (.int .i64 (y))] [[], [0], [1], [], [3], [4], [2, 5], [6], [], [8], [9], [], [11], [12], [10, 13], [14], [7], [15]] [(some 62, 0), (some 63, 1), (some 64, 2), (some 65, 3), (some 66, 4), (some 67, 5), (some 68, 6), (some 69, 7), (some 70, 8), (some 71, 9), (some 72, 10), (some 73, 11), (some 74, 12), (some 75, 13), (some 76, 14), (some 77, 15), (some 5, 16), (some 6, 17)] (by kernel_rfl) (by kernel_rfl) (by kernel_rfl) (by kernel_rfl) (fun _ _ _ _ e h => by have h1 : _ ∧ _ := h; exact ⟨e ▸ h1.1, h1.2⟩) ?hstep ?hend
  case hstep =>
    generalize Exit.then _ _ = QQ
    as_aux_lemma =>
      intro i hi
      match i, hi with
      | 0, _ =>
        intro v w' hR hd
        change SpecOp _ _ _ _ 0 (canon _ v _ []) w' _
        simp only [canon_nil]
        refine spec_of rfl (fun KK hK => ?_)
        go_simp
        exact hK.out _ _ (Below.refl _ _) rfl
      | 1, _ =>
        intro v w' hR hd
        have e0 : v 0 = .pointer (some ⟨bN, 0, none⟩) := hd 0 (by decide)
        change SpecOp _ _ _ _ 1 (Act.put (canon _ v _ []) (some 62) (v 0)) w' _
        rw [e0]
        simp only [canon_nil, Act.put, List.setIfInBounds_toArray, List.set_cons_zero, List.set_cons_succ]
        have q0 := (hR.cell (p := ⟨bN, 0, none⟩) zN).trans cN0
        refine spec_of rfl (fun KK hK => ?_)
        go_simp
        exact hK.out _ _ (Below.refl _ _) rfl
      | 2, _ =>
        intro v w' hR hd
        have e1 : v 1 = .int .u8 a := hd 1 (by decide)
        change SpecOp _ _ _ _ 2 (Act.put (canon _ v _ []) (some 63) (v 1)) w' _
        rw [e1]
        simp only [canon_nil, Act.put, List.setIfInBounds_toArray, List.set_cons_zero, List.set_cons_succ]
        refine spec_of rfl (fun KK hK => ?_)
        go_simp
        exact hK.out _ _ (Below.refl _ _) rfl
      | 3, _ =>
        intro v w' hR hd
        change SpecOp _ _ _ _ 3 (canon _ v _ []) w' _
        simp only [canon_nil]
        refine spec_of rfl (fun KK hK => ?_)
        go_simp
        exact hK.out _ _ (Below.refl _ _) rfl
      | 4, _ =>
        intro v w' hR hd
        have e3 : v 3 = .pointer (some ⟨bP, 1, none⟩) := hd 3 (by decide)
        change SpecOp _ _ _ _ 4 (Act.put (canon _ v _ []) (some 65) (v 3)) w' _
        rw [e3]
        simp only [canon_nil, Act.put, List.setIfInBounds_toArray, List.set_cons_zero, List.set_cons_succ]
        have q0 := (hR.cell (p := ⟨bP, 1, none⟩) zP).trans cP1
        refine spec_of rfl (fun KK hK => ?_)
        go_simp
        exact hK.out _ _ (Below.refl _ _) rfl
      | 5, _ =>
        intro v w' hR hd
        have e4 : v 4 = .int .i64 (W) := hd 4 (by decide)
        change SpecOp _ _ _ _ 5 (Act.put (canon _ v _ []) (some 66) (v 4)) w' _
        rw [e4]
        simp only [canon_nil, Act.put, List.setIfInBounds_toArray, List.set_cons_zero, List.set_cons_succ]
        refine spec_of rfl (fun KK hK => ?_)
        go_simp
        exact hK.out _ _ (Below.refl _ _) rfl
      | 6, _ =>
        intro v w' hR hd
        have e2 : v 2 = .int .i64 (a) := hd 2 (by decide)
        have e5 : v 5 = .int .i64 (W1) := hd 5 (by decide)
        change SpecOp _ _ _ _ 6 (Act.put (Act.put (canon _ v _ []) (some 67) (v 5)) (some 64) (v 2)) w' _
        rw [e2, e5]
        simp only [canon_nil, Act.put, List.setIfInBounds_toArray, List.set_cons_zero, List.set_cons_succ]
        refine spec_of rfl (fun KK hK => ?_)
        go_simp
        exact hK.out _ _ (Below.refl _ _) rfl
      | 7, _ =>
        intro v w' hR hd
        have e6 : v 6 = .int .i64 (a.tmod W1) := hd 6 (by decide)
        change SpecOp _ _ _ _ 7 (Act.put (canon _ v _ []) (some 68) (v 6)) w' _
        rw [e6]
        simp only [canon_nil, Act.put, List.setIfInBounds_toArray, List.set_cons_zero, List.set_cons_succ]
        refine spec_of rfl (fun KK hK => ?_)
        go_simp
        exact hK.out _ _ (Below.refl _ _) rfl
      | 8, _ =>
        intro v w' hR hd
        change SpecOp _ _ _ _ 8 (canon _ v _ []) w' _
        simp only [canon_nil]
        refine spec_of rfl (fun KK hK => ?_)
        go_simp
        exact hK.out _ _ (Below.refl _ _) rfl
      | 9, _ =>
        intro v w' hR hd
        have e8 : v 8 = .pointer (some ⟨bN, 1, none⟩) := hd 8 (by decide)
        change SpecOp _ _ _ _ 9 (Act.put (canon _ v _ []) (some 70) (v 8)) w' _
        rw [e8]
        simp only [canon_nil, Act.put, List.setIfInBounds_toArray, List.set_cons_zero, List.set_cons_succ]
        have q0 := (hR.cell (p := ⟨bN, 1, none⟩) zN).trans cN1
        refine spec_of rfl (fun KK hK => ?_)
        go_simp
        exact hK.out _ _ (Below.refl _ _) rfl
      | 10, _ =>
        intro v w' hR hd
        have e9 : v 9 = .int .u8 b := hd 9 (by decide)
        change SpecOp _ _ _ _ 10 (Act.put (canon _ v _ []) (some 71) (v 9)) w' _
        rw [e9]
        simp only [canon_nil, Act.put, List.setIfInBounds_toArray, List.set_cons_zero, List.set_cons_succ]
        refine spec_of rfl (fun KK hK => ?_)
        go_simp
        exact hK.out _ _ (Below.refl _ _) rfl
      | 11, _ =>
        intro v w' hR hd
        change SpecOp _ _ _ _ 11 (canon _ v _ []) w' _
        simp only [canon_nil]
        refine spec_of rfl (fun KK hK => ?_)
        go_simp
        exact hK.out _ _ (Below.refl _ _) rfl
      | 12, _ =>
        intro v w' hR hd
        have e11 : v 11 = .pointer (some ⟨bP, 2, none⟩) := hd 11 (by decide)
        change SpecOp _ _ _ _ 12 (Act.put (canon _ v _ []) (some 73) (v 11)) w' _
        rw [e11]
        simp only [canon_nil, Act.put, List.setIfInBounds_toArray, List.set_cons_zero, List.set_cons_succ]
        have q0 := (hR.cell (p := ⟨bP, 2, none⟩) zP).trans cP2
        refine spec_of rfl (fun KK hK => ?_)
        go_simp
        exact hK.out _ _ (Below.refl _ _) rfl
      | 13, _ =>
        intro v w' hR hd
        have e12 : v 12 = .int .i64 (H) := hd 12 (by decide)
        change SpecOp _ _ _ _ 13 (Act.put (canon _ v _ []) (some 74) (v 12)) w' _
        rw [e12]
        simp only [canon_nil, Act.put, List.setIfInBounds_toArray, List.set_cons_zero, List.set_cons_succ]
        refine spec_of rfl (fun KK hK => ?_)
        go_simp
        exact hK.out _ _ (Below.refl _ _) rfl
      | 14, _ =>
        intro v w' hR hd
        have e10 : v 10 = .int .i64 (b) := hd 10 (by decide)
        have e13 : v 13 = .int .i64 (H1) := hd 13 (by decide)
        change SpecOp _ _ _ _ 14 (Act.put (Act.put (canon _ v _ []) (some 75) (v 13)) (some 72) (v 10)) w' _
        rw [e10, e13]
        simp only [canon_nil, Act.put, List.setIfInBounds_toArray, List.set_cons_zero, List.set_cons_succ]
        refine spec_of rfl (fun KK hK => ?_)
        go_simp
        exact hK.out _ _ (Below.refl _ _) rfl
      | 15, _ =>
        intro v w' hR hd
        have e14 : v 14 = .int .i64 (b.tmod H1) := hd 14 (by decide)
        change SpecOp _ _ _ _ 15 (Act.put (canon _ v _ []) (some 76) (v 14)) w' _
        rw [e14]
        simp only [canon_nil, Act.put, List.setIfInBounds_toArray, List.set_cons_zero, List.set_cons_succ]
        refine spec_of rfl (fun KK hK => ?_)
        go_simp
        exact hK.out _ _ (Below.refl _ _) rfl
      | 16, _ =>
        intro v w' hR hd
        have e7 : v 7 = .int .i64 (x) := hd 7 (by decide)
        change SpecOp _ _ _ _ 16 (Act.put (canon _ v _ []) (some 69) (v 7)) w' _
        rw [e7]
        simp only [canon_nil, Act.put, List.setIfInBounds_toArray, List.set_cons_zero, List.set_cons_succ]
        refine spec_of rfl (fun KK hK => ?_)
        go_simp
        exact hK.out _ _ (Below.refl _ _) rfl
      | 17, _ =>
        intro v w' hR hd
        have e15 : v 15 = .int .i64 (y) := hd 15 (by decide)
        change SpecOp _ _ _ _ 17 (Act.put (canon _ v _ []) (some 77) (v 15)) w' _
        rw [e15]
        simp only [canon_nil, Act.put, List.setIfInBounds_toArray, List.set_cons_zero, List.set_cons_succ]
        refine spec_of rfl (fun KK hK => ?_)
        go_simp
        exact hK.out _ _ (Below.refl _ _) rfl
      | i + 18, h => exact absurd h (Nat.not_lt.2 (Nat.le_add_left 18 i))
  case hend =>
    intro v w' hR hall
    simp only [putL, Act.put, List.setIfInBounds_toArray, List.set_cons_zero, List.set_cons_succ]
    have e0 : v 0 = .pointer (some ⟨bN, 0, none⟩) := hall 0 (by decide)
    have e1 : v 1 = .int .u8 a := hall 1 (by decide)
    have e2 : v 2 = .int .i64 (a) := hall 2 (by decide)
    have e3 : v 3 = .pointer (some ⟨bP, 1, none⟩) := hall 3 (by decide)
    have e4 : v 4 = .int .i64 (W) := hall 4 (by decide)
    have e5 : v 5 = .int .i64 (W1) := hall 5 (by decide)
    have e6 : v 6 = .int .i64 (a.tmod W1) := hall 6 (by decide)
    have e7 : v 7 = .int .i64 (x) := hall 7 (by decide)
    have e8 : v 8 = .pointer (some ⟨bN, 1, none⟩) := hall 8 (by decide)
    have e9 : v 9 = .int .u8 b := hall 9 (by decide)
    have e10 : v 10 = .int .i64 (b) := hall 10 (by decide)
    have e11 : v 11 = .pointer (some ⟨bP, 2, none⟩) := hall 11 (by decide)
    have e12 : v 12 = .int .i64 (H) := hall 12 (by decide)
    have e13 : v 13 = .int .i64 (H1) := hall 13 (by decide)
    have e14 : v 14 = .int .i64 (b.tmod H1) := hall 14 (by decide)
    have e15 : v 15 = .int .i64 (y) := hall 15 (by decide)
    have e16 : v 16 = .int .i64 (x) := hall 16 (by decide)
    have e17 : v 17 = .int .i64 (y) := hall 17 (by decide)
    rw [e0, e1, e2, e3, e4, e5, e6, e7, e8, e9, e10, e11, e12, e13, e14, e15, e16, e17]
    clear hall e0 e1 e2 e3 e4 e5 e6 e7 e8 e9 e10 e11 e12 e13 e14 e15 e16 e17
    clear cP0 cP1 cP2 cP3 cN0 cN1
    clear zP zN
    obtain ⟨v3, hwn⟩ : ∃ s, w' = s := ⟨_, rfl⟩
    rw [hwn] at hR ⊢
    clear hwn
    replace HXP := Lib.hid (HXP.out.below hR)
    replace HXN := Lib.hid (HXN.out.below hR)
    replace HB := Lib.hid (HB.out.trans (hR.mono HB.out.size))
    clear hR
    go_upto_region 4 with fail
    obtain ⟨cP0, cP1, cP2, cP3⟩ := box4 HXP.out
    go_cut [7, 8] from 78 to 91 (fun p e wx => ∃ b d, p = .pointer (some ⟨b, 0, none⟩) ∧ e = .pointer (some ⟨d, 0, none⟩) ∧ v3.heap.size ≤ b ∧ v3.heap.size ≤ d ∧ Blk wx b 130 #[.int .i64 0, .int .i64 x, .int .i64 x, .int .i64 (W : Int)] ∧ Blk wx d 130 #[.int .i64 0, .int .i64 y, .int .i64 y, .int .i64 (H : Int)] ∧ Below v3.heap.size v3 wx)
    case first =>
      have zP := HXP.out.lt
      go_region_held3 (SK v3)
        (first | exact sk_drew0 _ | exact sk_drew (by assumption) | assumption | exact sk_call (by assumption) (by assumption) | exact sk_alloc (by assumption) _ | exact sk_drew (sk_alloc (sk_refl _) _) | exact sk_drew (sk_alloc (sk_alloc (sk_refl _) _) _))
        (fail)
      all_goals
        go_wp2_with fail
        go_meet
        first
          | exact ⟨_, _, rfl, rfl, Nat.le_refl _, Nat.le_succ _, (blk_twot v3 130 #[.int .i64 0, .int .i64 x, .int .i64 x, .int .i64 (W : Int)] #[.int .i64 0, .int .i64 y, .int .i64 y, .int .i64 (H : Int)]).1, (blk_twot v3 130 #[.int .i64 0, .int .i64 x, .int .i64 x, .int .i64 (W : Int)] #[.int .i64 0, .int .i64 y, .int .i64 y, .int .i64 (H : Int)]).2.1, (blk_twot v3 130 #[.int .i64 0, .int .i64 x, .int .i64 x, .int .i64 (W : Int)] #[.int .i64 0, .int .i64 y, .int .i64 y, .int .i64 (H : Int)]).2.2⟩
          | exact ⟨_, _, rfl, rfl, Nat.le_succ _, Nat.le_refl _, (blk_twot v3 130 #[.int .i64 0, .int .i64 y, .int .i64 y, .int .i64 (H : Int)] #[.int .i64 0, .int .i64 x, .int .i64 x, .int .i64 (W : Int)]).2.1, (blk_twot v3 130 #[.int .i64 0, .int .i64 y, .int .i64 y, .int .i64 (H : Int)] #[.int .i64 0, .int .i64 x, .int .i64 x, .int .i64 (W : Int)]).1, (blk_twot v3 130 #[.int .i64 0, .int .i64 y, .int .i64 y, .int .i64 (H : Int)] #[.int .i64 0, .int .i64 x, .int .i64 x, .int .i64 (W : Int)]).2.2⟩
    case rest =>
      have zP := HXP.out.lt
      obtain ⟨bC, bR, rfl, rfl, hg1, hg2, hx1, hx2, hfin⟩ := hcut
      clear cP0 cP1 cP2 cP3
      replace HXP := Lib.hid (HXP.out.below hfin)
      replace HXN := Lib.hid (HXN.out.below hfin)
      replace HB := Lib.hid (HB.out.trans (hfin.mono HB.out.size))
      clear hfin
      have HNCP : RowKit.Hid (bP < bC) := Lib.hid (by omega)
      have HXC := Lib.hid hx1; have HXR := Lib.hid hx2; clear hx1 hx2 hg1 hg2 zP
      clear HXN hPN
      go_upto_region 6 with fail
      have hn := Blk.new wc 131 #[.string ⟨#[]⟩, .int .i64 0, .int .i64 0, .slice none 0 0, .string ⟨#[]⟩, .int .i64 0, .int .i64 0, .slice none 0 0, .string ⟨#[]⟩, .int .i64 0, .int .i64 0, .slice none 0 0, .string ⟨#[]⟩, .int .i64 0, .int .i64 0, .slice none 0 0]
      have hb : Below wc.heap.size wc (wc.alloc (.cells #[.string ⟨#[]⟩, .int .i64 0, .int .i64 0, .slice none 0 0, .string ⟨#[]⟩, .int .i64 0, .int .i64 0, .slice none 0 0, .string ⟨#[]⟩, .int .i64 0, .int .i64 0, .slice none 0 0, .string ⟨#[]⟩, .int .i64 0, .int .i64 0, .slice none 0 0] 131)) := (Below.refl _ _).alloc (Nat.le_refl _) _
      have hge := HB.out.size
      have hlt_P := HXP.out.lt
      have hlt_C := HXC.out.lt
      have hlt_R := HXR.out.lt
      obtain ⟨bQ, hl⟩ : ∃ b, wc.heap.size = b := ⟨_, rfl⟩
      generalize wc.alloc (.cells #[.string ⟨#[]⟩, .int .i64 0, .int .i64 0, .slice none 0 0, .string ⟨#[]⟩, .int .i64 0, .int .i64 0, .slice none 0 0, .string ⟨#[]⟩, .int .i64 0, .int .i64 0, .slice none 0 0, .string ⟨#[]⟩, .int .i64 0, .int .i64 0, .slice none 0 0] 131) = u2w at hn hb ⊢
      replace HXP := Lib.hid (HXP.out.below hb)
      replace HXC := Lib.hid (HXC.out.below hb)
      replace HXR := Lib.hid (HXR.out.below hb)
      replace HB := Lib.hid (HB.out.trans (hb.mono HB.out.size))
      clear hb
      rw [hl] at hn hge hlt_P hlt_C hlt_R
      try rw [hl]
      have HXQ := Lib.hid hn; have HGQ := Lib.hid hge; clear hn hl hge
      have HNQP : RowKit.Hid (bP < bQ) := Lib.hid (by omega); have HNQC : RowKit.Hid (bC < bQ) := Lib.hid (by omega); have HNQR : RowKit.Hid (bR < bQ) := Lib.hid (by omega)
      clear hlt_P hlt_C hlt_R
      have hq0 := HXQ.out
      rw [qv_zero nm d (fun _ => none) (fun _ => 0)] at hq0
      have HT := Lib.hid (TInv.mk HXP.out HXC.out hq0 (fun q hq => absurd hq (Nat.not_lt_zero q)))
      clear hq0 HGP HNCP HNQR
      go_wp2_with (first | (refine wpList_load_box rfl 130 _ rfl bR _ _ HXR.out rfl _ Tryz.underlying130 rfl (by kernel_rfl) ?_))
      clear HXP HXC HXR HXQ
      go_loopw [93, 10, 11, 12] (fun iv ev pv sv wr => ∃ (ri : Nat) (AA : Nat → Option Addr) (CC : Nat → Nat), ri ≤ 2 ∧ iv = .int .i64 ri ∧ ev = .int .i64 (EA (2 * ri)) ∧ pv = .int .i64 (PA (2 * ri)) ∧ sv = .int .i64 (SA (2 * ri)) ∧ RowKit.Hid (TInv bP bC bQ #[.string nm, .int .i64 (W : Int), .int .i64 (H : Int), .slice A n c] #[.int .i64 0, .int .i64 x, .int .i64 x, .int .i64 (W : Int)] nm d AA CC (2 * ri) wr) ∧ Below w.heap.size w wr) (fun iv _ _ _ _ => 2 - (intOf iv).toNat)
      case atStart => exact ⟨0, _, _, by omega, rfl, by rw [HhE0.out], by rw [HhP0.out], by rw [HhS0.out], HT, HB.out⟩
      case round =>
        obtain ⟨ri, AA0, CC0, hi, rfl, rfl, rfl, rfl, HT0, hbel⟩ := hrel
        clear HT HB
        have HB := Lib.hid hbel; clear hbel
        by_cases hlt : ri < 2
        · skip
          have hix := fun w => index_two 0 y y (H : Int) ri hlt w
          go_upto_region 10 with fail
          have HXQ := Lib.hid HT0.out.q
          have hn := Blk.new wr 47 #[.int .i64 (selI 0 y ri), .int .i64 (selI y (H : Int) ri)]
          have hb : Below wr.heap.size wr (wr.alloc (.cells #[.int .i64 (selI 0 y ri), .int .i64 (selI y (H : Int) ri)] 47)) := (Below.refl _ _).alloc (Nat.le_refl _) _
          have hge := HB.out.size
          have hlt_Q := HXQ.out.lt
          obtain ⟨bS, hl⟩ : ∃ b, wr.heap.size = b := ⟨_, rfl⟩
          generalize wr.alloc (.cells #[.int .i64 (selI 0 y ri), .int .i64 (selI y (H : Int) ri)] 47) = u3w at hn hb ⊢
          replace HXQ := Lib.hid (HXQ.out.below hb)
          replace HT0 := Lib.hid (HT0.out.below hb)
          replace HB := Lib.hid (HB.out.trans (hb.mono HB.out.size))
          clear hb
          rw [hl] at hn hge hlt_Q
          try rw [hl]
          have HXS := Lib.hid hn; have HGS := Lib.hid hge; clear hn hl hge
          have HNSQ : RowKit.Hid (bQ < bS) := Lib.hid (by omega)
          clear hlt_Q
          clear hix HGS HXQ
          go_wp2_with (first | (refine wpList_load_box rfl 130 _ rfl bC _ _ HT0.out.c rfl _ Tryz.underlying130 rfl (by kernel_rfl) ?_))
          go_loopw [98, 10, 11, 12] (fun kv ev pv sv wr => ∃ (kc : Nat) (AA : Nat → Option Addr) (CC : Nat → Nat), kc ≤ 2 ∧ kv = .int .i64 kc ∧ ev = .int .i64 (EA (2 * ri + kc)) ∧ pv = .int .i64 (PA (2 * ri + kc)) ∧ sv = .int .i64 (SA (2 * ri + kc)) ∧ RowKit.Hid (TInv bP bC bQ #[.string nm, .int .i64 (W : Int), .int .i64 (H : Int), .slice A n c] #[.int .i64 0, .int .i64 x, .int .i64 x, .int .i64 (W : Int)] nm d AA CC (2 * ri + kc) wr) ∧ RowKit.Hid (Blk wr bS 47 #[.int .i64 (selI 0 y ri), .int .i64 (selI y (H : Int) ri)]) ∧ Below w.heap.size w wr) (fun kv _ _ _ _ => 2 - (intOf kv).toNat)
          case atStart => exact ⟨0, AA0, CC0, by omega, rfl, rfl, rfl, rfl, HT0, HXS, HB.out⟩
          case round =>
            obtain ⟨kc, AA1, CC1, hk, rfl, rfl, rfl, rfl, HT1, HXS1, hbel⟩ := hrel
            clear HT0 HB HXS
            have HXS := HXS1; clear HXS1
            have HB := Lib.hid hbel; clear hbel
            by_cases hkt : kc < 2
            · skip
              obtain ⟨D, hD⟩ : ∃ z, d (2 * ri + kc) = z := ⟨_, rfl⟩
              have htp := Hhd.out ri kc hlt hkt
              rw [hD] at htp
              have HTP := Lib.hid htp; have HDQ := Lib.hid hD; clear htp hD
              have hix := fun w => index_two 0 x x (W : Int) kc hkt w
              go_upto_region 13 with fail
              have hn := Blk.new wr 47 #[.int .i64 (selI 0 x kc), .int .i64 (selI x (W : Int) kc)]
              have hb : Below wr.heap.size wr (wr.alloc (.cells #[.int .i64 (selI 0 x kc), .int .i64 (selI x (W : Int) kc)] 47)) := (Below.refl _ _).alloc (Nat.le_refl _) _
              have hge := HB.out.size
              have hlt_S := HXS.out.lt
              obtain ⟨bK, hl⟩ : ∃ b, wr.heap.size = b := ⟨_, rfl⟩
              generalize wr.alloc (.cells #[.int .i64 (selI 0 x kc), .int .i64 (selI x (W : Int) kc)] 47) = u4w at hn hb ⊢
              replace HXS := Lib.hid (HXS.out.below hb)
              replace HT1 := Lib.hid (HT1.out.below hb)
              replace HB := Lib.hid (HB.out.trans (hb.mono HB.out.size))
              clear hb
              rw [hl] at hn hge hlt_S
              try rw [hl]
              have HXK := Lib.hid hn; have HGK := Lib.hid hge; clear hn hl hge
              have HNKS : RowKit.Hid (bS < bK) := Lib.hid (by omega)
              clear hlt_S
              clear hix HGK
              have hkd : decide ((kc : Int) < 2) = true := by simp; omega
              rw [hkd]
              have HKT := Lib.hid hkt; have HLT := Lib.hid hlt; clear hkt hlt hkd
              obtain ⟨cP0, cP1, cP2, cP3⟩ := box4 HT1.out.p
              obtain ⟨cS0, cS1⟩ := box2t HXS.out
              obtain ⟨cK0, cK1⟩ := box2t HXK.out
              have zP := HT1.out.p.lt; have zS := HXS.out.lt; have zK := HXK.out.lt
              refine wp_region_box [Fact2.is (.agg #[.string nm, .int .i64 (W : Int), .int .i64 (H : Int), .slice A n c]), Fact2.pic (fun x => x) nm (W : Int) (H : Int) n l n, Fact2.is (.agg #[.int .i64 (selI 0 x kc), .int .i64 (selI x (W : Int) kc)]), Fact2.is (.agg #[.int .i64 (selI 0 y ri), .int .i64 (selI y (H : Int) ri)]), Fact2.pic (fun x => .tuple #[x, .int .i64 0]) nm (D.m : Int) (D.h : Int) D.N D.L D.N, Fact2.pic (fun x => .tuple #[x, .int .i64 0]) nm (D.m : Int) (D.h : Int) D.N D.L D.N, Fact2.pic (fun x => x) nm (D.m : Int) (D.h : Int) D.N D.L D.N, Fact2.is (.int .i64 (0)), Fact2.box u4w.heap.size 50, Fact2.any, Fact2.is (.int .i64 (0))] 9 8 (PicBoxC u4w.heap.size 50 nm (D.m : Int) (D.h : Int) D.N D.L) (fun _ _ _ h hb => h.grow hb) [[], [0], [], [], [1, 2, 3], [4], [5], [5], [], [6, 8], [7]] [(some 103, 0), (some 104, 1), (some 105, 2), (some 106, 3), (some 107, 4), (some 102, 5), (some 108, 6), (some 109, 7), (some 17, 8), (none, 9), (some 18, 10)] (by kernel_rfl) (by kernel_rfl) (by kernel_rfl) (by kernel_rfl) (by decide) (by decide) (fun _ _ _ _ e h => by have h1 : _ ∧ _ := h; exact ⟨e ▸ h1.1, h1.2⟩) ?hstep ?hsto ?hend (by decide)
              case hstep =>
                generalize Exit.then _ _ = QQ
                as_aux_lemma =>
                  intro i hi hne
                  match i, hi, hne with
                  | 0, _, _ =>
                    intro v w' hR hd
                    change SpecOp _ _ _ _ 0 (canon _ v _ []) w' _
                    simp only [canon_nil]
                    have q0 := (hR.cell (p := ⟨bP, 0, none⟩) zP).trans cP0
                    have q1 := (hR.cell (p := ⟨bP, 1, none⟩) zP).trans cP1
                    have q2 := (hR.cell (p := ⟨bP, 2, none⟩) zP).trans cP2
                    have q3 := (hR.cell (p := ⟨bP, 3, none⟩) zP).trans cP3
                    refine spec_ofR rfl (fun KK hK => ?_)
                    go_simp
                    exact hK.out _ _ (Below.refl _ _) rfl
                  | 1, _, _ =>
                    intro v w' hR hd
                    have e0 : v 0 = .agg #[.string nm, .int .i64 (W : Int), .int .i64 (H : Int), .slice A n c] := hd 0 (by decide)
                    change SpecOp _ _ _ _ 1 (Act.put (canon _ v _ []) (some 103) (v 0)) w' _
                    rw [e0]
                    simp only [canon_nil, Act.put, List.setIfInBounds_toArray, List.set_cons_zero, List.set_cons_succ]
                    refine spec_ofR rfl (fun KK hK => ?_)
                    go_simp
                    refine (Hhown.out _ (Hhr.out.below (HB.out.trans (hR.mono HB.out.size)))).mono ?_
                    rintro e wn ⟨g, c', rfl, hcc, hro, hbn⟩
                    exact hK.out _ _ hbn ⟨_, c', rfl, hcc, hro⟩
                  | 2, _, _ =>
                    intro v w' hR hd
                    change SpecOp _ _ _ _ 2 (canon _ v _ []) w' _
                    simp only [canon_nil]
                    have q0 := (hR.cell (p := ⟨bK, 0, none⟩) zK).trans cK0
                    have q1 := (hR.cell (p := ⟨bK, 1, none⟩) zK).trans cK1
                    refine spec_ofR rfl (fun KK hK => ?_)
                    go_simp
                    exact hK.out _ _ (Below.refl _ _) rfl
                  | 3, _, _ =>
                    intro v w' hR hd
                    change SpecOp _ _ _ _ 3 (canon _ v _ []) w' _
                    simp only [canon_nil]
                    have q0 := (hR.cell (p := ⟨bS, 0, none⟩) zS).trans cS0
                    have q1 := (hR.cell (p := ⟨bS, 1, none⟩) zS).trans cS1
                    refine spec_ofR rfl (fun KK hK => ?_)
                    go_simp
                    exact hK.out _ _ (Below.refl _ _) rfl
                  | 4, _, _ =>
                    intro v w' hR hd
                    obtain ⟨A1, k1, e1, m1, r1⟩ : ∃ A c, v 1 = (fun x => x) (.agg #[.string nm, .int .i64 (W : Int), .int .i64 (H : Int), .slice A n c]) ∧ n ≤ c ∧ Rd w' A (fl l) := hd 1 (by decide)
                    have e2 : v 2 = .agg #[.int .i64 (selI 0 x kc), .int .i64 (selI x (W : Int) kc)] := hd 2 (by decide)
                    have e3 : v 3 = .agg #[.int .i64 (selI 0 y ri), .int .i64 (selI y (H : Int) ri)] := hd 3 (by decide)
                    change SpecOp _ _ _ _ 4 (Act.put (Act.put (Act.put (canon _ v _ []) (some 106) (v 3)) (some 105) (v 2)) (some 104) (v 1)) w' _
                    rw [e1, e2, e3]
                    simp only [canon_nil, Act.put, List.setIfInBounds_toArray, List.set_cons_zero, List.set_cons_succ]
                    refine spec_ofR rfl (fun KK hK => ?_)
                    go_simp
                    refine (HTP.out.crop A1 k1 _ m1 r1).mono ?_
                    rintro e wn ⟨Ax, cx, rfl, hcx, hrx, hbn⟩
                    exact hK.out _ _ hbn ⟨Ax, cx, rfl, hcx, hrx⟩
                  | 5, _, _ =>
                    intro v w' hR hd
                    obtain ⟨A4, k4, e4, m4, r4⟩ : ∃ A c, v 4 = (fun x => .tuple #[x, .int .i64 0]) (.agg #[.string nm, .int .i64 (D.m : Int), .int .i64 (D.h : Int), .slice A D.N c]) ∧ D.N ≤ c ∧ Rd w' A (fl D.L) := hd 4 (by decide)
                    change SpecOp _ _ _ _ 5 (Act.put (canon _ v _ []) (some 107) (v 4)) w' _
                    rw [e4]
                    simp only [canon_nil, Act.put, List.setIfInBounds_toArray, List.set_cons_zero, List.set_cons_succ]
                    refine spec_ofR rfl (fun KK hK => ?_)
                    go_simp
                    exact hK.out _ _ (Below.refl _ _) ⟨A4, k4, rfl, m4, r4⟩
                  | 6, _, _ =>
                    intro v w' hR hd
                    obtain ⟨A5, k5, e5, m5, r5⟩ : ∃ A c, v 5 = (fun x => .tuple #[x, .int .i64 0]) (.agg #[.string nm, .int .i64 (D.m : Int), .int .i64 (D.h : Int), .slice A D.N c]) ∧ D.N ≤ c ∧ Rd w' A (fl D.L) := hd 5 (by decide)
                    change SpecOp _ _ _ _ 6 (Act.put (canon _ v _ []) (some 102) (v 5)) w' _
                    rw [e5]
                    simp only [canon_nil, Act.put, List.setIfInBounds_toArray, List.set_cons_zero, List.set_cons_succ]
                    refine spec_ofR rfl (fun KK hK => ?_)
                    go_simp
                    exact hK.out _ _ (Below.refl _ _) ⟨A5, k5, rfl, m5, r5⟩
                  | 7, _, _ =>
                    intro v w' hR hd
                    obtain ⟨A5, k5, e5, m5, r5⟩ : ∃ A c, v 5 = (fun x => .tuple #[x, .int .i64 0]) (.agg #[.string nm, .int .i64 (D.m : Int), .int .i64 (D.h : Int), .slice A D.N c]) ∧ D.N ≤ c ∧ Rd w' A (fl D.L) := hd 5 (by decide)
                    change SpecOp _ _ _ _ 7 (Act.put (canon _ v _ []) (some 102) (v 5)) w' _
                    rw [e5]
                    simp only [canon_nil, Act.put, List.setIfInBounds_toArray, List.set_cons_zero, List.set_cons_succ]
                    refine spec_ofR rfl (fun KK hK => ?_)
                    go_simp
                    exact hK.out _ _ (Below.refl _ _) rfl
                  | 8, _, _ =>
                    intro v w' hR hd
                    change SpecOp _ _ _ _ 8 (canon _ v _ []) w' _
                    simp only [canon_nil]
                    refine spec_ofR rfl (fun KK hK => ?_)
                    go_simp
                    exact hK.out _ _ ((Below.refl _ _).alloc (Nat.le_refl _) _) ⟨_, _, rfl, hR.size, Blk.new _ _ _, .four rfl rfl rfl rfl, rfl⟩
                  | 9, _, h => exact absurd rfl h
                  | 10, _, _ =>
                    intro v w' hR hd
                    have e7 : v 7 = .int .i64 (0) := hd 7 (by decide)
                    change SpecOp _ _ _ _ 10 (Act.put (canon _ v _ []) (some 109) (v 7)) w' _
                    rw [e7]
                    simp only [canon_nil, Act.put, List.setIfInBounds_toArray, List.set_cons_zero, List.set_cons_succ]
                    refine spec_ofR rfl (fun KK hK => ?_)
                    go_simp
                    exact hK.out _ _ (Below.refl _ _) rfl
                  | i + 11, h, _ => exact absurd h (Nat.not_lt.2 (Nat.le_add_left 11 i))
              case hsto =>
                generalize Exit.then _ _ = QQ
                as_aux_lemma =>
                  intro v w' hR hd
                  obtain ⟨A6, k6, e6, m6, r6⟩ : ∃ A c, v 6 = (fun x => x) (.agg #[.string nm, .int .i64 (D.m : Int), .int .i64 (D.h : Int), .slice A D.N c]) ∧ D.N ≤ c ∧ Rd w' A (fl D.L) := hd 6 (by decide)
                  obtain ⟨bb, cs, e8, hge, hblk, hnf, hcz⟩ : ∃ b cs, v 8 = .pointer (some ⟨b, 0, none⟩) ∧ u4w.heap.size ≤ b ∧ Blk w' b 50 cs ∧ NF cs ∧ cs.size = 4 := hd 8 (by decide)
                  obtain ⟨x0, x1, x2, x3, rfl⟩ := four_of hcz
                  change SpecOp _ _ _ _ 9 (Act.put (Act.put (canon _ v _ []) (some 17) (v 8)) (some 108) (v 6)) w' _
                  rw [e6, e8]
                  simp only [canon_nil, Act.put, List.setIfInBounds_toArray, List.set_cons_zero, List.set_cons_succ]
                  have zb := hblk.lt
                  have f0 := hblk.frozen 0; have f1 := hblk.frozen 1; have f2 := hblk.frozen 2; have f3 := hblk.frozen 3
                  obtain ⟨y0, y1, y2, y3⟩ := box4 hblk
                  refine spec_ofR rfl (fun KK hK => ?_)
                  go_simp
                  exact hK.out undef _ (rst_set4 hblk hnf hge (.string nm) (.int .i64 (D.m : Int)) (.int .i64 (D.h : Int)) (.slice A6 D.N k6) rfl rfl rfl rfl) ⟨bb, A6, k6, rfl, hge, blk_set4' hblk (.string nm) (.int .i64 (D.m : Int)) (.int .i64 (D.h : Int)) (.slice A6 D.N k6), m6, rd_set4 r6 hblk hnf (.string nm) (.int .i64 (D.m : Int)) (.int .i64 (D.h : Int)) (.slice A6 D.N k6) rfl rfl rfl⟩
              case hend =>
                intro v w' hR hall hfs
                simp only [putL, Act.put, List.setIfInBounds_toArray, List.set_cons_zero, List.set_cons_succ]
                obtain ⟨bT, AT, cT, e8, hge, hx, hcT, hrx⟩ := hfs
                have e10 : v 10 = .int .i64 0 := hall 10 (by decide) (by decide)
                rw [e8, e10]
                clear hall e8 e10 hge
                obtain ⟨adT, rfl, _, _⟩ := hrx.some_ (by have h1 := HTP.out.pos; have h2 := HTP.out.len; simp [fl]; omega)
                have HXT := Lib.hid hx; have HRT := Lib.hid hrx; have HCT := Lib.hid hcT; clear hx hrx hcT
                clear cP0 cP1 cP2 cP3 cS0 cS1 cK0 cK1 zP zS zK
                obtain ⟨v5, hwn⟩ : ∃ s, w' = s := ⟨_, rfl⟩
                rw [hwn] at hR HXT HRT ⊢
                clear hwn
                replace HXS := Lib.hid (HXS.out.below hR)
                replace HXK := Lib.hid (HXK.out.below hR)
                replace HT1 := Lib.hid (HT1.out.below hR)
                replace HB := Lib.hid (HB.out.trans (hR.mono HB.out.size))
                clear hR
                go_wp2_with (first | (refine wpList_load_box rfl 50 _ rfl bT _ _ HXT.out rfl _ Tryz.underlying50 rfl (by kernel_rfl) ?_))
                refine (HTP.out.en _ _ _ HRT.out).mono ?_
                rintro e u5w ⟨rfl, hb⟩
                replace HXS := Lib.hid (HXS.out.below hb)
                replace HXK := Lib.hid (HXK.out.below hb)
                replace HXT := Lib.hid (HXT.out.below hb)
                replace HT1 := Lib.hid (HT1.out.below hb)
                replace HRT := Lib.hid (HRT.out.below hb)
                replace HB := Lib.hid (HB.out.trans (hb.mono HB.out.size))
                clear hb
                go_wp2_with (first | (refine wpList_load_box rfl 50 _ rfl bT _ _ HXT.out rfl _ Tryz.underlying50 rfl (by kernel_rfl) ?_))
                refine (HTP.out.pk _ _ _ HRT.out).mono ?_
                rintro e u6w ⟨rfl, hb⟩
                replace HXS := Lib.hid (HXS.out.below hb)
                replace HXK := Lib.hid (HXK.out.below hb)
                replace HXT := Lib.hid (HXT.out.below hb)
                replace HT1 := Lib.hid (HT1.out.below hb)
                replace HRT := Lib.hid (HRT.out.below hb)
                replace HB := Lib.hid (HB.out.trans (hb.mono HB.out.size))
                clear hb
                go_wp2_with (first | (refine wpList_load_box rfl 50 _ rfl bT _ _ HXT.out rfl _ Tryz.underlying50 rfl (by kernel_rfl) ?_))
                refine (HTP.out.mn _ _ _ HRT.out).mono ?_
                rintro e u7w ⟨rfl, hb⟩
                replace HXS := Lib.hid (HXS.out.below hb)
                replace HXK := Lib.hid (HXK.out.below hb)
                replace HXT := Lib.hid (HXT.out.below hb)
                replace HT1 := Lib.hid (HT1.out.below hb)
                replace HRT := Lib.hid (HRT.out.below hb)
                replace HB := Lib.hid (HB.out.trans (hb.mono HB.out.size))
                clear hb
                go_upto_region 17 with fail
                have HXQ := Lib.hid HT1.out.q
                have hn := Blk.new u7w 33 #[.int .i64 D.S, .int .i64 D.D]
                have hb : Below u7w.heap.size u7w (u7w.alloc (.cells #[.int .i64 D.S, .int .i64 D.D] 33)) := (Below.refl _ _).alloc (Nat.le_refl _) _
                have hge := HB.out.size
                have hlt_S := HXS.out.lt
                have hlt_K := HXK.out.lt
                have hlt_T := HXT.out.lt
                have hlt_Q := HXQ.out.lt
                obtain ⟨bU, hl⟩ : ∃ b, u7w.heap.size = b := ⟨_, rfl⟩
                generalize u7w.alloc (.cells #[.int .i64 D.S, .int .i64 D.D] 33) = u8w at hn hb ⊢
                replace HXS := Lib.hid (HXS.out.below hb)
                replace HXK := Lib.hid (HXK.out.below hb)
                replace HXT := Lib.hid (HXT.out.below hb)
                replace HXQ := Lib.hid (HXQ.out.below hb)
                replace HT1 := Lib.hid (HT1.out.below hb)
                replace HRT := Lib.hid (HRT.out.below hb)
                replace HB := Lib.hid (HB.out.trans (hb.mono HB.out.size))
                clear hb
                rw [hl] at hn hge hlt_S hlt_K hlt_T hlt_Q
                try rw [hl]
                have HXU := Lib.hid hn; have HGU := Lib.hid hge; clear hn hl hge
                have HNUS : RowKit.Hid (bS < bU) := Lib.hid (by omega); have HNUK : RowKit.Hid (bK < bU) := Lib.hid (by omega); have HNUT : RowKit.Hid (bT < bU) := Lib.hid (by omega); have HNUQ : RowKit.Hid (bQ < bU) := Lib.hid (by omega)
                clear hlt_S hlt_K hlt_T hlt_Q
                clear HXQ HGU
                obtain ⟨cS0, cS1⟩ := box2t HXS.out
                obtain ⟨cK0, cK1⟩ := box2t HXK.out
                have hfwm := HTP.out.wm
                have hfwh := HTP.out.wh
                have hfsz := HTP.out.sz
                go_upto_region 18 with fail
                clear cS0 cS1 cK0 cK1 hfwm hfwh hfsz
                go_wp2_with (first | (refine wpList_load_box rfl 50 _ rfl bT _ _ HXT.out rfl _ Tryz.underlying50 rfl (by kernel_rfl) ?_))
                refine (told_any _ _ _ _ _ _ _).mono ?_
                rintro e u9w ⟨rfl, hb⟩
                replace HXS := Lib.hid (HXS.out.below hb)
                replace HXK := Lib.hid (HXK.out.below hb)
                replace HXT := Lib.hid (HXT.out.below hb)
                replace HXU := Lib.hid (HXU.out.below hb)
                replace HT1 := Lib.hid (HT1.out.below hb)
                replace HRT := Lib.hid (HRT.out.below hb)
                replace HB := Lib.hid (HB.out.trans (hb.mono HB.out.size))
                clear hb
                go_wp2_with fail
                refine (HTP.out.ck _ _ _ HRT.out).mono ?_
                rintro e u10w ⟨rfl, hb⟩
                replace HXS := Lib.hid (HXS.out.below hb)
                replace HXK := Lib.hid (HXK.out.below hb)
                replace HXT := Lib.hid (HXT.out.below hb)
                replace HXU := Lib.hid (HXU.out.below hb)
                replace HT1 := Lib.hid (HT1.out.below hb)
                replace HRT := Lib.hid (HRT.out.below hb)
                replace HB := Lib.hid (HB.out.trans (hb.mono HB.out.size))
                clear hb
                obtain ⟨cT0, cT1, cT2, cT3⟩ := box4 HXT.out
                obtain ⟨cU0, cU1⟩ := box2t HXU.out
                have hfw16 := HTP.out.w16
                have hfw24 := HTP.out.w24
                have hfw25 := HTP.out.w25
                have hfd1 := HTP.out.d1
                have hfd0 := HTP.out.d0
                have hfd2 := HTP.out.d2
                have hfd3 := HTP.out.d3
                have hfd4 := HTP.out.d4
                go_wp2_with fail
                clear cT0 cT1 cT2 cT3 cU0 cU1 hfw16 hfw24 hfw25 hfd1 hfd0 hfd2 hfd3 hfd4
                go_loopw [189] (fun jv wr => ∃ jj : Nat, jj ≤ D.N ∧ jv = .int .i64 jj ∧ RowKit.Hid (TInv bP bC bQ #[.string nm, .int .i64 (W : Int), .int .i64 (H : Int), .slice A n c] #[.int .i64 0, .int .i64 x, .int .i64 x, .int .i64 (W : Int)] nm d AA1 CC1 (2 * ri + kc) wr) ∧ RowKit.Hid (Blk wr bS 47 #[.int .i64 (selI 0 y ri), .int .i64 (selI y (H : Int) ri)]) ∧ RowKit.Hid (Blk wr bK 47 #[.int .i64 (selI 0 x kc), .int .i64 (selI x (W : Int) kc)]) ∧ RowKit.Hid (Blk wr bT 50 #[.string nm, .int .i64 (D.m : Int), .int .i64 (D.h : Int), .slice (some adT) D.N cT]) ∧ RowKit.Hid (Blk wr bU 33 #[.int .i64 D.S, .int .i64 D.D]) ∧ RowKit.Hid (Rd wr (some adT) (fl D.L)) ∧ Below w.heap.size w wr) (fun jv _ => D.N - (intOf jv).toNat)
                case atStart => exact ⟨0, Nat.zero_le _, rfl, HT1, HXS, HXK, HXT, HXU, HRT, HB.out⟩
                case round =>
                  clear HT1 HXS HXK HXT HXU HRT HB
                  obtain ⟨jj, hj, rfl, HT1, HXS, HXK, HXT, HXU, HRT, hbel⟩ := hrel
                  have HB := Lib.hid hbel; clear hbel
                  by_cases hjt : jj < D.N
                  · skip
                    have hjl : jj < D.L.length := by rw [HTP.out.len]; exact hjt
                    obtain ⟨vj, hvj⟩ : ∃ z, D.L.getD jj 0 = z := ⟨_, rfl⟩
                    have hjc : wr.cell? (adT.add jj) = some (.float .f32 vj) := by
                      obtain ⟨ad, e, hbl, hcc⟩ := HRT.out (by simp [fl]; omega)
                      cases e
                      rw [← hvj]; exact hcc jj _ (fl_get hjl)
                    have hat := fun A c w h1 h2 => HTP.out.at_ jj hjt A c w h1 h2
                    rw [hvj] at hat
                    have hord := HTP.out.ord jj
                    rw [hvj] at hord
                    have HAT := Lib.hid hat; have HORD := Lib.hid hord; have HVJ := Lib.hid hvj; clear hat hord hvj hjl
                    go_upto_region 23 with fail
                    obtain ⟨cP0, cP1, cP2, cP3⟩ := box4 HT1.out.p
                    obtain ⟨cS0, cS1⟩ := box2t HXS.out
                    obtain ⟨cK0, cK1⟩ := box2t HXK.out
                    obtain ⟨cT0, cT1, cT2, cT3⟩ := box4 HXT.out
                    have zP := HT1.out.p.lt; have zS := HXS.out.lt; have zK := HXK.out.lt; have zT := HXT.out.lt
                    have hm0 := HTP.out.m0
                    have hm1 : ¬ D.m = 0 := by omega
                    have hJD : decide ((jj : Int) < (D.N : Int)) = true := by simp; omega
                    try rw [hJD]
                    have HJT := Lib.hid hjt; clear hjt hJD
                    refine wp_region_facts [Fact.is (.agg #[.string nm, .int .i64 (W : Int), .int .i64 (H : Int), .slice A n c]), Fact.own nm (W : Int) (H : Int) n l, Fact.is (.pointer (some ⟨bK, 0, none⟩)), Fact.is (.int .i64 (selI 0 x kc)), Fact.is (.int .i64 ((jj : Int))), Fact.is (.pointer (some ⟨bT, 1, none⟩)), Fact.is (.int .i64 ((D.m : Int))), Fact.is (.int .i64 ((jj : Int).tmod D.m)), Fact.is (.int .i64 (IntKind.i64.wrap (selI 0 x kc + (jj : Int).tmod D.m))), Fact.is (.pointer (some ⟨bS, 0, none⟩)), Fact.is (.int .i64 (selI 0 y ri)), Fact.is (.int .i64 ((jj : Int))), Fact.is (.pointer (some ⟨bT, 1, none⟩)), Fact.is (.int .i64 ((D.m : Int))), Fact.is (.int .i64 (IntKind.i64.wrap ((jj : Int).tdiv D.m))), Fact.is (.int .i64 (IntKind.i64.wrap (selI 0 y ri + IntKind.i64.wrap ((jj : Int).tdiv D.m)))), Fact.is (.tuple #[.float .f32 vj, .int .i64 0]), Fact.is (.tuple #[.float .f32 vj, .int .i64 0]), Fact.is (.float .f32 vj), Fact.is (.int .i64 (0)), Fact.is (.float .f32 vj), Fact.is (.int .i64 (0))] [[], [0], [], [2], [], [], [5], [4, 6], [3, 7], [], [9], [], [], [12], [11, 13], [10, 14], [1, 8, 15], [16], [17], [17], [18], [19]] [(some 195, 0), (some 196, 1), (some 197, 2), (some 198, 3), (some 199, 4), (some 200, 5), (some 201, 6), (some 202, 7), (some 203, 8), (some 204, 9), (some 205, 10), (some 206, 11), (some 207, 12), (some 208, 13), (some 209, 14), (some 210, 15), (some 211, 16), (some 194, 17), (some 212, 18), (some 213, 19), (some 28, 20), (some 29, 21)] (by kernel_rfl) (by kernel_rfl) (by kernel_rfl) (by kernel_rfl) (fun _ _ _ _ e h => by have h1 : _ ∧ _ := h; exact ⟨e ▸ h1.1, h1.2⟩) ?hstep ?hend
                    case hstep =>
                      generalize Exit.then _ _ = QQ
                      as_aux_lemma =>
                        intro i hi
                        match i, hi with
                        | 0, _ =>
                          intro v w' hR hd
                          change SpecOp _ _ _ _ 0 (canon _ v _ []) w' _
                          simp only [canon_nil]
                          have q0 := (hR.cell (p := ⟨bP, 0, none⟩) zP).trans cP0
                          have q1 := (hR.cell (p := ⟨bP, 1, none⟩) zP).trans cP1
                          have q2 := (hR.cell (p := ⟨bP, 2, none⟩) zP).trans cP2
                          have q3 := (hR.cell (p := ⟨bP, 3, none⟩) zP).trans cP3
                          refine spec_of rfl (fun KK hK => ?_)
                          go_simp
                          exact hK.out _ _ (Below.refl _ _) rfl
                        | 1, _ =>
                          intro v w' hR hd
                          have e0 : v 0 = .agg #[.string nm, .int .i64 (W : Int), .int .i64 (H : Int), .slice A n c] := hd 0 (by decide)
                          change SpecOp _ _ _ _ 1 (Act.put (canon _ v _ []) (some 195) (v 0)) w' _
                          rw [e0]
                          simp only [canon_nil, Act.put, List.setIfInBounds_toArray, List.set_cons_zero, List.set_cons_succ]
                          refine spec_of rfl (fun KK hK => ?_)
                          go_simp
                          refine (Hhown.out _ (Hhr.out.below (HB.out.trans (hR.mono HB.out.size)))).mono ?_
                          rintro e wn ⟨g, c', rfl, hcc, hro, hbn⟩
                          exact hK.out _ _ hbn ⟨g, c', rfl, hcc, hro⟩
                        | 2, _ =>
                          intro v w' hR hd
                          change SpecOp _ _ _ _ 2 (canon _ v _ []) w' _
                          simp only [canon_nil]
                          refine spec_of rfl (fun KK hK => ?_)
                          go_simp
                          exact hK.out _ _ (Below.refl _ _) rfl
                        | 3, _ =>
                          intro v w' hR hd
                          have e2 : v 2 = .pointer (some ⟨bK, 0, none⟩) := hd 2 (by decide)
                          change SpecOp _ _ _ _ 3 (Act.put (canon _ v _ []) (some 197) (v 2)) w' _
                          rw [e2]
                          simp only [canon_nil, Act.put, List.setIfInBounds_toArray, List.set_cons_zero, List.set_cons_succ]
                          have q0 := (hR.cell (p := ⟨bK, 0, none⟩) zK).trans cK0
                          refine spec_of rfl (fun KK hK => ?_)
                          go_simp
                          exact hK.out _ _ (Below.refl _ _) rfl
                        | 4, _ =>
                          intro v w' hR hd
                          change SpecOp _ _ _ _ 4 (canon _ v _ []) w' _
                          simp only [canon_nil]
                          refine spec_of rfl (fun KK hK => ?_)
                          go_simp
                          exact hK.out _ _ (Below.refl _ _) rfl
                        | 5, _ =>
                          intro v w' hR hd
                          change SpecOp _ _ _ _ 5 (canon _ v _ []) w' _
                          simp only [canon_nil]
                          refine spec_of rfl (fun KK hK => ?_)
                          go_simp
                          exact hK.out _ _ (Below.refl _ _) rfl
                        | 6, _ =>
                          intro v w' hR hd
                          have e5 : v 5 = .pointer (some ⟨bT, 1, none⟩) := hd 5 (by decide)
                          change SpecOp _ _ _ _ 6 (Act.put (canon _ v _ []) (some 200) (v 5)) w' _
                          rw [e5]
                          simp only [canon_nil, Act.put, List.setIfInBounds_toArray, List.set_cons_zero, List.set_cons_succ]
                          have q0 := (hR.cell (p := ⟨bT, 1, none⟩) zT).trans cT1
                          refine spec_of rfl (fun KK hK => ?_)
                          go_simp
                          exact hK.out _ _ (Below.refl _ _) rfl
                        | 7, _ =>
                          intro v w' hR hd
                          have e4 : v 4 = .int .i64 ((jj : Int)) := hd 4 (by decide)
                          have e6 : v 6 = .int .i64 ((D.m : Int)) := hd 6 (by decide)
                          change SpecOp _ _ _ _ 7 (Act.put (Act.put (canon _ v _ []) (some 201) (v 6)) (some 199) (v 4)) w' _
                          rw [e4, e6]
                          simp only [canon_nil, Act.put, List.setIfInBounds_toArray, List.set_cons_zero, List.set_cons_succ]
                          refine spec_of rfl (fun KK hK => ?_)
                          go_simp
                          exact hK.out _ _ (Below.refl _ _) rfl
                        | 8, _ =>
                          intro v w' hR hd
                          have e3 : v 3 = .int .i64 (selI 0 x kc) := hd 3 (by decide)
                          have e7 : v 7 = .int .i64 ((jj : Int).tmod D.m) := hd 7 (by decide)
                          change SpecOp _ _ _ _ 8 (Act.put (Act.put (canon _ v _ []) (some 202) (v 7)) (some 198) (v 3)) w' _
                          rw [e3, e7]
                          simp only [canon_nil, Act.put, List.setIfInBounds_toArray, List.set_cons_zero, List.set_cons_succ]
                          refine spec_of rfl (fun KK hK => ?_)
                          go_simp
                          exact hK.out _ _ (Below.refl _ _) rfl
                        | 9, _ =>
                          intro v w' hR hd
                          change SpecOp _ _ _ _ 9 (canon _ v _ []) w' _
                          simp only [canon_nil]
                          refine spec_of rfl (fun KK hK => ?_)
                          go_simp
                          exact hK.out _ _ (Below.refl _ _) rfl
                        | 10, _ =>
                          intro v w' hR hd
                          have e9 : v 9 = .pointer (some ⟨bS, 0, none⟩) := hd 9 (by decide)
                          change SpecOp _ _ _ _ 10 (Act.put (canon _ v _ []) (some 204) (v 9)) w' _
                          rw [e9]
                          simp only [canon_nil, Act.put, List.setIfInBounds_toArray, List.set_cons_zero, List.set_cons_succ]
                          have q0 := (hR.cell (p := ⟨bS, 0, none⟩) zS).trans cS0
                          refine spec_of rfl (fun KK hK => ?_)
                          go_simp
                          exact hK.out _ _ (Below.refl _ _) rfl
                        | 11, _ =>
                          intro v w' hR hd
                          change SpecOp _ _ _ _ 11 (canon _ v _ []) w' _
                          simp only [canon_nil]
                          refine spec_of rfl (fun KK hK => ?_)
                          go_simp
                          exact hK.out _ _ (Below.refl _ _) rfl
                        | 12, _ =>
                          intro v w' hR hd
                          change SpecOp _ _ _ _ 12 (canon _ v _ []) w' _
                          simp only [canon_nil]
                          refine spec_of rfl (fun KK hK => ?_)
                          go_simp
                          exact hK.out _ _ (Below.refl _ _) rfl
                        | 13, _ =>
                          intro v w' hR hd
                          have e12 : v 12 = .pointer (some ⟨bT, 1, none⟩) := hd 12 (by decide)
                          change SpecOp _ _ _ _ 13 (Act.put (canon _ v _ []) (some 207) (v 12)) w' _
                          rw [e12]
                          simp only [canon_nil, Act.put, List.setIfInBounds_toArray, List.set_cons_zero, List.set_cons_succ]
                          have q0 := (hR.cell (p := ⟨bT, 1, none⟩) zT).trans cT1
                          refine spec_of rfl (fun KK hK => ?_)
                          go_simp
                          exact hK.out _ _ (Below.refl _ _) rfl
                        | 14, _ =>
                          intro v w' hR hd
                          have e11 : v 11 = .int .i64 ((jj : Int)) := hd 11 (by decide)
                          have e13 : v 13 = .int .i64 ((D.m : Int)) := hd 13 (by decide)
                          change SpecOp _ _ _ _ 14 (Act.put (Act.put (canon _ v _ []) (some 208) (v 13)) (some 206) (v 11)) w' _
                          rw [e11, e13]
                          simp only [canon_nil, Act.put, List.setIfInBounds_toArray, List.set_cons_zero, List.set_cons_succ]
                          refine spec_of rfl (fun KK hK => ?_)
                          go_simp
                          exact hK.out _ _ (Below.refl _ _) rfl
                        | 15, _ =>
                          intro v w' hR hd
                          have e10 : v 10 = .int .i64 (selI 0 y ri) := hd 10 (by decide)
                          have e14 : v 14 = .int .i64 (IntKind.i64.wrap ((jj : Int).tdiv D.m)) := hd 14 (by decide)
                          change SpecOp _ _ _ _ 15 (Act.put (Act.put (canon _ v _ []) (some 209) (v 14)) (some 205) (v 10)) w' _
                          rw [e10, e14]
                          simp only [canon_nil, Act.put, List.setIfInBounds_toArray, List.set_cons_zero, List.set_cons_succ]
                          refine spec_of rfl (fun KK hK => ?_)
                          go_simp
                          exact hK.out _ _ (Below.refl _ _) rfl
                        | 16, _ =>
                          intro v w' hR hd
                          obtain ⟨g1, k1, e1, m1, r1⟩ : ∃ g c, v 1 = .agg #[.string nm, .int .i64 (W : Int), .int .i64 (H : Int), .slice (some ⟨g, 0, none⟩) n c] ∧ n ≤ c ∧ Rd w' (some ⟨g, 0, none⟩) (fl l) := hd 1 (by decide)
                          have e8 : v 8 = .int .i64 (IntKind.i64.wrap (selI 0 x kc + (jj : Int).tmod D.m)) := hd 8 (by decide)
                          have e15 : v 15 = .int .i64 (IntKind.i64.wrap (selI 0 y ri + IntKind.i64.wrap ((jj : Int).tdiv D.m))) := hd 15 (by decide)
                          change SpecOp _ _ _ _ 16 (Act.put (Act.put (Act.put (canon _ v _ []) (some 210) (v 15)) (some 203) (v 8)) (some 196) (v 1)) w' _
                          rw [e1, e8, e15]
                          simp only [canon_nil, Act.put, List.setIfInBounds_toArray, List.set_cons_zero, List.set_cons_succ]
                          refine spec_of rfl (fun KK hK => ?_)
                          go_simp
                          refine (HAT.out _ k1 _ m1 r1).mono ?_
                          rintro e wn ⟨rfl, hbn⟩
                          exact hK.out _ _ hbn rfl
                        | 17, _ =>
                          intro v w' hR hd
                          have e16 : v 16 = .tuple #[.float .f32 vj, .int .i64 0] := hd 16 (by decide)
                          change SpecOp _ _ _ _ 17 (Act.put (canon _ v _ []) (some 211) (v 16)) w' _
                          rw [e16]
                          simp only [canon_nil, Act.put, List.setIfInBounds_toArray, List.set_cons_zero, List.set_cons_succ]
                          refine spec_of rfl (fun KK hK => ?_)
                          go_simp
                          exact hK.out _ _ (Below.refl _ _) rfl
                        | 18, _ =>
                          intro v w' hR hd
                          have e17 : v 17 = .tuple #[.float .f32 vj, .int .i64 0] := hd 17 (by decide)
                          change SpecOp _ _ _ _ 18 (Act.put (canon _ v _ []) (some 194) (v 17)) w' _
                          rw [e17]
                          simp only [canon_nil, Act.put, List.setIfInBounds_toArray, List.set_cons_zero, List.set_cons_succ]
                          refine spec_of rfl (fun KK hK => ?_)
                          go_simp
                          exact hK.out _ _ (Below.refl _ _) rfl
                        | 19, _ =>
                          intro v w' hR hd
                          have e17 : v 17 = .tuple #[.float .f32 vj, .int .i64 0] := hd 17 (by decide)
                          change SpecOp _ _ _ _ 19 (Act.put (canon _ v _ []) (some 194) (v 17)) w' _
                          rw [e17]
                          simp only [canon_nil, Act.put, List.setIfInBounds_toArray, List.set_cons_zero, List.set_cons_succ]
                          refine spec_of rfl (fun KK hK => ?_)
                          go_simp
                          exact hK.out _ _ (Below.refl _ _) rfl
                        | 20, _ =>
                          intro v w' hR hd
                          have e18 : v 18 = .float .f32 vj := hd 18 (by decide)
                          change SpecOp _ _ _ _ 20 (Act.put (canon _ v _ []) (some 212) (v 18)) w' _
                          rw [e18]
                          simp only [canon_nil, Act.put, List.setIfInBounds_toArray, List.set_cons_zero, List.set_cons_succ]
                          refine spec_of rfl (fun KK hK => ?_)
                          go_simp
                          exact hK.out _ _ (Below.refl _ _) rfl
                        | 21, _ =>
                          intro v w' hR hd
                          have e19 : v 19 = .int .i64 (0) := hd 19 (by decide)
                          change SpecOp _ _ _ _ 21 (Act.put (canon _ v _ []) (some 213) (v 19)) w' _
                          rw [e19]
                          simp only [canon_nil, Act.put, List.setIfInBounds_toArray, List.set_cons_zero, List.set_cons_succ]
                          refine spec_of rfl (fun KK hK => ?_)
                          go_simp
                          exact hK.out _ _ (Below.refl _ _) rfl
                        | i + 22, h => exact absurd h (Nat.not_lt.2 (Nat.le_add_left 22 i))
                    case hend =>
                      intro v w' hR hall
                      simp only [putL, Act.put, List.setIfInBounds_toArray, List.set_cons_zero, List.set_cons_succ]
                      have e0 : v 0 = .agg #[.string nm, .int .i64 (W : Int), .int .i64 (H : Int), .slice A n c] := hall 0 (by decide)
                      obtain ⟨g1, k1, e1, m1, r1⟩ : ∃ g c, v 1 = .agg #[.string nm, .int .i64 (W : Int), .int .i64 (H : Int), .slice (some ⟨g, 0, none⟩) n c] ∧ n ≤ c ∧ Rd w' (some ⟨g, 0, none⟩) (fl l) := hall 1 (by decide)
                      have e2 : v 2 = .pointer (some ⟨bK, 0, none⟩) := hall 2 (by decide)
                      have e3 : v 3 = .int .i64 (selI 0 x kc) := hall 3 (by decide)
                      have e4 : v 4 = .int .i64 ((jj : Int)) := hall 4 (by decide)
                      have e5 : v 5 = .pointer (some ⟨bT, 1, none⟩) := hall 5 (by decide)
                      have e6 : v 6 = .int .i64 ((D.m : Int)) := hall 6 (by decide)
                      have e7 : v 7 = .int .i64 ((jj : Int).tmod D.m) := hall 7 (by decide)
                      have e8 : v 8 = .int .i64 (IntKind.i64.wrap (selI 0 x kc + (jj : Int).tmod D.m)) := hall 8 (by decide)
                      have e9 : v 9 = .pointer (some ⟨bS, 0, none⟩) := hall 9 (by decide)
                      have e10 : v 10 = .int .i64 (selI 0 y ri) := hall 10 (by decide)
                      have e11 : v 11 = .int .i64 ((jj : Int)) := hall 11 (by decide)
                      have e12 : v 12 = .pointer (some ⟨bT, 1, none⟩) := hall 12 (by decide)
                      have e13 : v 13 = .int .i64 ((D.m : Int)) := hall 13 (by decide)
                      have e14 : v 14 = .int .i64 (IntKind.i64.wrap ((jj : Int).tdiv D.m)) := hall 14 (by decide)
                      have e15 : v 15 = .int .i64 (IntKind.i64.wrap (selI 0 y ri + IntKind.i64.wrap ((jj : Int).tdiv D.m))) := hall 15 (by decide)
                      have e16 : v 16 = .tuple #[.float .f32 vj, .int .i64 0] := hall 16 (by decide)
                      have e17 : v 17 = .tuple #[.float .f32 vj, .int .i64 0] := hall 17 (by decide)
                      have e18 : v 18 = .float .f32 vj := hall 18 (by decide)
                      have e19 : v 19 = .int .i64 (0) := hall 19 (by decide)
                      have e20 : v 20 = .float .f32 vj := hall 20 (by decide)
                      have e21 : v 21 = .int .i64 (0) := hall 21 (by decide)
                      try rw [e0]; rw [e2, e3, e4, e5, e6, e7, e8, e9, e10, e11, e12, e13, e14, e15, e16, e17, e18, e19, e20, e21]
                      clear hall e0 e2 e3 e4 e5 e6 e7 e8 e9 e10 e11 e12 e13 e14 e15 e16 e17 e18 e19 e20 e21 e1 r1 m1
                      clear cP0 cP1 cP2 cP3 cS0 cS1 cK0 cK1 cT0 cT1 cT2 cT3 zP zS zK zT hm0 hm1
                      obtain ⟨v6, hwn⟩ : ∃ s, w' = s := ⟨_, rfl⟩
                      rw [hwn] at hR ⊢
                      clear hwn
                      replace HXS := Lib.hid (HXS.out.below hR)
                      replace HXK := Lib.hid (HXK.out.below hR)
                      replace HXT := Lib.hid (HXT.out.below hR)
                      replace HXU := Lib.hid (HXU.out.below hR)
                      replace HT1 := Lib.hid (HT1.out.below hR)
                      replace HRT := Lib.hid (HRT.out.below hR)
                      replace HB := Lib.hid (HB.out.trans (hR.mono HB.out.size))
                      clear hR
                      have hord := HORD.out
                      have hbig := HTP.out.big; have hjl := HJT.out
                      go_wp2_with fail
                      go_roundw
                      case rel => exact ⟨jj + 1, HJT.out, by go_num, HT1, HXS, HXK, HXT, HXU, HRT, HB.out⟩
                      case measure => have h1 := HJT.out; simp [intOf]; omega
                  · skip
                    have hJD : decide ((jj : Int) < (D.N : Int)) = false := by simp; omega
                    clear hj
                    go_upto_region 27 with fail
                    obtain ⟨cT0, cT1, cT2, cT3⟩ := box4 HXT.out
                    have hlt := HLT.out; have hkt := HKT.out
                    obtain ⟨o, ho⟩ : ∃ o, ri * 8 + kc * 4 = o := ⟨_, rfl⟩
                    have hq := HT1.out.q
                    obtain ⟨z0, hz0⟩ := qv_at nm d AA1 CC1 (2 * ri + kc) o (by omega)
                    have co0 := (hq.cell o).trans hz0
                    have fo0 := hq.frozen o
                    clear hz0
                    obtain ⟨z1, hz1⟩ := qv_at nm d AA1 CC1 (2 * ri + kc) (o + 1) (by omega)
                    have co1 := (hq.cell (o + 1)).trans hz1
                    have fo1 := hq.frozen (o + 1)
                    clear hz1
                    obtain ⟨z2, hz2⟩ := qv_at nm d AA1 CC1 (2 * ri + kc) (o + 2) (by omega)
                    have co2 := (hq.cell (o + 2)).trans hz2
                    have fo2 := hq.frozen (o + 2)
                    clear hz2
                    obtain ⟨z3, hz3⟩ := qv_at nm d AA1 CC1 (2 * ri + kc) (o + 3) (by omega)
                    have co3 := (hq.cell (o + 3)).trans hz3
                    have fo3 := hq.frozen (o + 3)
                    clear hz3
                    go_region
                    have hT2 := TInv.next HT1.out (by omega) HNQP.out HNQC.out (A := some adT) (c := cT) (by rw [HDQ.out]; exact HCT.out) (by rw [HDQ.out]; exact HRT.out) (o := o) (by omega)
                    rw [HDQ.out] at hT2
                    obtain ⟨_, hfar, hrst⟩ := st4 hq (nf_qv nm d AA1 CC1 (2 * ri + kc)) o (.string nm) (.int .i64 (D.m : Int)) (.int .i64 (D.h : Int)) (.slice (some adT) D.N cT) rfl rfl rfl rfl
                    have hS2 := (hfar _ _ _ HXS.out (by have := HNSQ.out; omega)).below ((Below.refl _ _).drew)
                    have hU2 := (hfar _ _ _ HXU.out (by have := HNUQ.out; omega)).below ((Below.refl _ _).drew)
                    have hB2 := (HB.out.trans (hrst.below.mono HGQ.out)).drew
                    replace hT2 := hT2.below ((Below.refl _ _).drew)
                    clear hfar hrst HT1 HXS HXK HXT HXU HRT HB HCT
                    clear cT0 cT1 cT2 cT3 hlt hkt hq co0 co1 co2 co3 fo0 fo1 fo2 fo3
                    generalize ((((wr.setCell ⟨bQ, o, none⟩ (.string nm)).setCell ⟨bQ, o + 1, none⟩ (.int .i64 (D.m : Int))).setCell ⟨bQ, o + 2, none⟩ (.int .i64 (D.h : Int))).setCell ⟨bQ, o + 3, none⟩ (.slice (some adT) D.N cT)).drew = v7 at hT2 hS2 hU2 hB2 ⊢
                    have HT1 := Lib.hid hT2; have HXS := Lib.hid hS2; have HXU := Lib.hid hU2; have HB := Lib.hid hB2; clear hT2 hS2 hU2 hB2 ho
                    go_upto_region 28 with fail
                    obtain ⟨cU0, cU1⟩ := box2t HXU.out
                    have zU := HXU.out.lt
                    have hfw16 := HTP.out.w16
                    have hfd0 := HTP.out.d0
                    have hfdq := HTP.out.dq
                    have hftot := HTP.out.tot
                    have hEq := HhE.out (2 * ri + kc) (by have := HLT.out; have := HKT.out; omega); have hPq := HhP.out (2 * ri + kc) (by have := HLT.out; have := HKT.out; omega); have hSq := HhS.out (2 * ri + kc) (by have := HLT.out; have := HKT.out; omega)
                    rw [HDQ.out] at hEq hPq hSq
                    go_region
                    clear cU0 cU1 zU hfw16 hfd0 hfdq hftot hEq hPq hSq
                    have hb := (Below.refl v7.heap.size v7).drew
                    generalize v7.drew = v8 at hb ⊢
                    replace HXS := Lib.hid (HXS.out.below hb)
                    replace HXU := Lib.hid (HXU.out.below hb)
                    replace HT1 := Lib.hid (HT1.out.below hb)
                    replace HB := Lib.hid (HB.out.trans (hb.mono HB.out.size))
                    clear hb
                    go_wp2_with fail
                    go_roundw
                    case rel => exact ⟨kc + 1, _, _, HKT.out, by go_num, rfl, rfl, rfl, HT1, HXS, HB.out⟩
                    case measure => have h1 := HKT.out; simp [intOf]; omega
            · skip
              obtain rfl : kc = 2 := by omega
              clear hkt hk
              go_wp2_with fail
              go_roundw
              case rel => exact ⟨ri + 1, AA1, CC1, hlt, by go_num, rfl, rfl, rfl, HT1, HB.out⟩
              case measure => simp [intOf]; omega
        · skip
          obtain rfl : ri = 2 := by omega
          clear hlt hi
          have h22 : 2 * 2 = 4 := rfl
          rw [h22] at HT0 ⊢
          clear h22 hW hH
          obtain ⟨cq00, cq01, cq02, cq03⟩ := HT0.out.at0
          obtain ⟨cq10, cq11, cq12, cq13⟩ := HT0.out.at1
          go_wp2_with fail
          clear cq00 cq01 cq02 cq03 cq10 cq11 cq12 cq13
          refine (HhJ1.out _ _ _ _ _ (HT0.out.r 0 (by decide)).1 (HT0.out.r 1 (by decide)).1 (HT0.out.r 0 (by decide)).2 (HT0.out.r 1 (by decide)).2).mono ?_
          rintro e u11w ⟨A1, c1, rfl, hcx, hrx, hb⟩
          replace HT0 := Lib.hid (HT0.out.below hb)
          replace HB := Lib.hid (HB.out.trans (hb.mono HB.out.size))
          clear hb
          have HR1 := Lib.hid hrx; clear hrx
          have HC1 := Lib.hid hcx; clear hcx
          go_upto_region 32 with fail
          have hn := Blk.new u11w 50 #[.string nm, .int .i64 (t1.m : Int), .int .i64 (t1.h : Int), .slice A1 t1.N c1]
          have hb : Below u11w.heap.size u11w (u11w.alloc (.cells #[.string nm, .int .i64 (t1.m : Int), .int .i64 (t1.h : Int), .slice A1 t1.N c1] 50)) := (Below.refl _ _).alloc (Nat.le_refl _) _
          have hge := HB.out.size
          obtain ⟨b1, hl⟩ : ∃ b, u11w.heap.size = b := ⟨_, rfl⟩
          generalize u11w.alloc (.cells #[.string nm, .int .i64 (t1.m : Int), .int .i64 (t1.h : Int), .slice A1 t1.N c1] 50) = u12w at hn hb ⊢
          replace HT0 := Lib.hid (HT0.out.below hb)
          replace HR1 := Lib.hid (HR1.out.below hb)
          replace HB := Lib.hid (HB.out.trans (hb.mono HB.out.size))
          clear hb
          rw [hl] at hn hge
          try rw [hl]
          have HX1 := Lib.hid hn; have HG1 := Lib.hid hge; clear hn hl hge
          obtain ⟨cq20, cq21, cq22, cq23⟩ := HT0.out.at2
          obtain ⟨cq30, cq31, cq32, cq33⟩ := HT0.out.at3
          go_wp2_with fail
          clear cq20 cq21 cq22 cq23 cq30 cq31 cq32 cq33
          refine (HhJ2.out _ _ _ _ _ (HT0.out.r 2 (by decide)).1 (HT0.out.r 3 (by decide)).1 (HT0.out.r 2 (by decide)).2 (HT0.out.r 3 (by decide)).2).mono ?_
          rintro e u13w ⟨A2, c2, rfl, hcx, hrx, hb⟩
          replace HX1 := Lib.hid (HX1.out.below hb)
          replace HT0 := Lib.hid (HT0.out.below hb)
          replace HR1 := Lib.hid (HR1.out.below hb)
          replace HB := Lib.hid (HB.out.trans (hb.mono HB.out.size))
          clear hb
          have HR2 := Lib.hid hrx; clear hrx
          have HC2 := Lib.hid hcx; clear hcx
          go_upto_region 33 with fail
          have hn := Blk.new u13w 50 #[.string nm, .int .i64 (t2.m : Int), .int .i64 (t2.h : Int), .slice A2 t2.N c2]
          have hb : Below u13w.heap.size u13w (u13w.alloc (.cells #[.string nm, .int .i64 (t2.m : Int), .int .i64 (t2.h : Int), .slice A2 t2.N c2] 50)) := (Below.refl _ _).alloc (Nat.le_refl _) _
          have hge := HB.out.size
          have hlt_1 := HX1.out.lt
          obtain ⟨b2, hl⟩ : ∃ b, u13w.heap.size = b := ⟨_, rfl⟩
          generalize u13w.alloc (.cells #[.string nm, .int .i64 (t2.m : Int), .int .i64 (t2.h : Int), .slice A2 t2.N c2] 50) = u14w at hn hb ⊢
          replace HX1 := Lib.hid (HX1.out.below hb)
          replace HT0 := Lib.hid (HT0.out.below hb)
          replace HR1 := Lib.hid (HR1.out.below hb)
          replace HR2 := Lib.hid (HR2.out.below hb)
          replace HB := Lib.hid (HB.out.trans (hb.mono HB.out.size))
          clear hb
          rw [hl] at hn hge hlt_1
          try rw [hl]
          have HX2 := Lib.hid hn; have HG2 := Lib.hid hge; clear hn hl hge
          have HN21 : RowKit.Hid (b1 < b2) := Lib.hid (by omega)
          clear hlt_1
          obtain ⟨cq00, cq01, cq02, cq03⟩ := HT0.out.at0
          obtain ⟨cq20, cq21, cq22, cq23⟩ := HT0.out.at2
          go_wp2_with fail
          clear cq00 cq01 cq02 cq03 cq20 cq21 cq22 cq23
          refine (HhJ3.out _ _ _ _ _ (HT0.out.r 0 (by decide)).1 (HT0.out.r 2 (by decide)).1 (HT0.out.r 0 (by decide)).2 (HT0.out.r 2 (by decide)).2).mono ?_
          rintro e u15w ⟨A3, c3, rfl, hcx, hrx, hb⟩
          replace HX1 := Lib.hid (HX1.out.below hb)
          replace HX2 := Lib.hid (HX2.out.below hb)
          replace HT0 := Lib.hid (HT0.out.below hb)
          replace HR1 := Lib.hid (HR1.out.below hb)
          replace HR2 := Lib.hid (HR2.out.below hb)
          replace HB := Lib.hid (HB.out.trans (hb.mono HB.out.size))
          clear hb
          have HR3 := Lib.hid hrx; clear hrx
          have HC3 := Lib.hid hcx; clear hcx
          go_upto_region 34 with fail
          have hn := Blk.new u15w 50 #[.string nm, .int .i64 (t3.m : Int), .int .i64 (t3.h : Int), .slice A3 t3.N c3]
          have hb : Below u15w.heap.size u15w (u15w.alloc (.cells #[.string nm, .int .i64 (t3.m : Int), .int .i64 (t3.h : Int), .slice A3 t3.N c3] 50)) := (Below.refl _ _).alloc (Nat.le_refl _) _
          have hge := HB.out.size
          have hlt_1 := HX1.out.lt
          have hlt_2 := HX2.out.lt
          obtain ⟨b3, hl⟩ : ∃ b, u15w.heap.size = b := ⟨_, rfl⟩
          generalize u15w.alloc (.cells #[.string nm, .int .i64 (t3.m : Int), .int .i64 (t3.h : Int), .slice A3 t3.N c3] 50) = u16w at hn hb ⊢
          replace HX1 := Lib.hid (HX1.out.below hb)
          replace HX2 := Lib.hid (HX2.out.below hb)
          replace HT0 := Lib.hid (HT0.out.below hb)
          replace HR1 := Lib.hid (HR1.out.below hb)
          replace HR2 := Lib.hid (HR2.out.below hb)
          replace HR3 := Lib.hid (HR3.out.below hb)
          replace HB := Lib.hid (HB.out.trans (hb.mono HB.out.size))
          clear hb
          rw [hl] at hn hge hlt_1 hlt_2
          try rw [hl]
          have HX3 := Lib.hid hn; have HG3 := Lib.hid hge; clear hn hl hge
          have HN31 : RowKit.Hid (b1 < b3) := Lib.hid (by omega); have HN32 : RowKit.Hid (b2 < b3) := Lib.hid (by omega)
          clear hlt_1 hlt_2
          obtain ⟨cq10, cq11, cq12, cq13⟩ := HT0.out.at1
          obtain ⟨cq30, cq31, cq32, cq33⟩ := HT0.out.at3
          go_wp2_with fail
          clear cq10 cq11 cq12 cq13 cq30 cq31 cq32 cq33
          refine (HhJ4.out _ _ _ _ _ (HT0.out.r 1 (by decide)).1 (HT0.out.r 3 (by decide)).1 (HT0.out.r 1 (by decide)).2 (HT0.out.r 3 (by decide)).2).mono ?_
          rintro e u17w ⟨A4, c4, rfl, hcx, hrx, hb⟩
          replace HX1 := Lib.hid (HX1.out.below hb)
          replace HX2 := Lib.hid (HX2.out.below hb)
          replace HX3 := Lib.hid (HX3.out.below hb)
          replace HT0 := Lib.hid (HT0.out.below hb)
          replace HR1 := Lib.hid (HR1.out.below hb)
          replace HR2 := Lib.hid (HR2.out.below hb)
          replace HR3 := Lib.hid (HR3.out.below hb)
          replace HB := Lib.hid (HB.out.trans (hb.mono HB.out.size))
          clear hb
          have HR4 := Lib.hid hrx; clear hrx
          have HC4 := Lib.hid hcx; clear hcx
          go_upto_region 35 with fail
          have hn := Blk.new u17w 50 #[.string nm, .int .i64 (t4.m : Int), .int .i64 (t4.h : Int), .slice A4 t4.N c4]
          have hb : Below u17w.heap.size u17w (u17w.alloc (.cells #[.string nm, .int .i64 (t4.m : Int), .int .i64 (t4.h : Int), .slice A4 t4.N c4] 50)) := (Below.refl _ _).alloc (Nat.le_refl _) _
          have hge := HB.out.size
          have hlt_1 := HX1.out.lt
          have hlt_2 := HX2.out.lt
          have hlt_3 := HX3.out.lt
          obtain ⟨b4, hl⟩ : ∃ b, u17w.heap.size = b := ⟨_, rfl⟩
          generalize u17w.alloc (.cells #[.string nm, .int .i64 (t4.m : Int), .int .i64 (t4.h : Int), .slice A4 t4.N c4] 50) = u18w at hn hb ⊢
          replace HX1 := Lib.hid (HX1.out.below hb)
          replace HX2 := Lib.hid (HX2.out.below hb)
          replace HX3 := Lib.hid (HX3.out.below hb)
          replace HT0 := Lib.hid (HT0.out.below hb)
          replace HR1 := Lib.hid (HR1.out.below hb)
          replace HR2 := Lib.hid (HR2.out.below hb)
          replace HR3 := Lib.hid (HR3.out.below hb)
          replace HR4 := Lib.hid (HR4.out.below hb)
          replace HB := Lib.hid (HB.out.trans (hb.mono HB.out.size))
          clear hb
          rw [hl] at hn hge hlt_1 hlt_2 hlt_3
          try rw [hl]
          have HX4 := Lib.hid hn; have HG4 := Lib.hid hge; clear hn hl hge
          have HN41 : RowKit.Hid (b1 < b4) := Lib.hid (by omega); have HN42 : RowKit.Hid (b2 < b4) := Lib.hid (by omega); have HN43 : RowKit.Hid (b3 < b4) := Lib.hid (by omega)
          clear hlt_1 hlt_2 hlt_3
          go_wp2_with (first | (refine wpList_load_box rfl 50 _ rfl b1 _ _ HX1.out rfl _ Tryz.underlying50 rfl (by kernel_rfl) ?_) | (refine wpList_load_box rfl 50 _ rfl b2 _ _ HX2.out rfl _ Tryz.underlying50 rfl (by kernel_rfl) ?_))
          refine (HhJ5.out _ _ _ _ _ HC1.out HC2.out HR1.out HR2.out).mono ?_
          rintro e u19w ⟨A5, c5, rfl, hcx, hrx, hb⟩
          replace HX1 := Lib.hid (HX1.out.below hb)
          replace HX2 := Lib.hid (HX2.out.below hb)
          replace HX3 := Lib.hid (HX3.out.below hb)
          replace HX4 := Lib.hid (HX4.out.below hb)
          replace HT0 := Lib.hid (HT0.out.below hb)
          replace HR1 := Lib.hid (HR1.out.below hb)
          replace HR2 := Lib.hid (HR2.out.below hb)
          replace HR3 := Lib.hid (HR3.out.below hb)
          replace HR4 := Lib.hid (HR4.out.below hb)
          replace HB := Lib.hid (HB.out.trans (hb.mono HB.out.size))
          clear hb
          have HR5 := Lib.hid hrx; clear hrx
          clear hcx
          go_upto_region 38 with fail
          have hn := Blk.new u19w 50 #[.string nm, .int .i64 (W : Int), .int .i64 (H : Int), .slice A5 n c5]
          have hb : Below u19w.heap.size u19w (u19w.alloc (.cells #[.string nm, .int .i64 (W : Int), .int .i64 (H : Int), .slice A5 n c5] 50)) := (Below.refl _ _).alloc (Nat.le_refl _) _
          have hge := HB.out.size
          have hlt_1 := HX1.out.lt
          have hlt_2 := HX2.out.lt
          have hlt_3 := HX3.out.lt
          have hlt_4 := HX4.out.lt
          obtain ⟨b5, hl⟩ : ∃ b, u19w.heap.size = b := ⟨_, rfl⟩
          generalize u19w.alloc (.cells #[.string nm, .int .i64 (W : Int), .int .i64 (H : Int), .slice A5 n c5] 50) = u20w at hn hb ⊢
          replace HX1 := Lib.hid (HX1.out.below hb)
          replace HX2 := Lib.hid (HX2.out.below hb)
          replace HX3 := Lib.hid (HX3.out.below hb)
          replace HX4 := Lib.hid (HX4.out.below hb)
          replace HT0 := Lib.hid (HT0.out.below hb)
          replace HR1 := Lib.hid (HR1.out.below hb)
          replace HR2 := Lib.hid (HR2.out.below hb)
          replace HR3 := Lib.hid (HR3.out.below hb)
          replace HR4 := Lib.hid (HR4.out.below hb)
          replace HR5 := Lib.hid (HR5.out.below hb)
          replace HB := Lib.hid (HB.out.trans (hb.mono HB.out.size))
          clear hb
          rw [hl] at hn hge hlt_1 hlt_2 hlt_3 hlt_4
          try rw [hl]
          have HX5 := Lib.hid hn; have HG5 := Lib.hid hge; clear hn hl hge
          have HN51 : RowKit.Hid (b1 < b5) := Lib.hid (by omega); have HN52 : RowKit.Hid (b2 < b5) := Lib.hid (by omega); have HN53 : RowKit.Hid (b3 < b5) := Lib.hid (by omega); have HN54 : RowKit.Hid (b4 < b5) := Lib.hid (by omega)
          clear hlt_1 hlt_2 hlt_3 hlt_4
          go_wp2_with (first | (refine wpList_load_box rfl 50 _ rfl b3 _ _ HX3.out rfl _ Tryz.underlying50 rfl (by kernel_rfl) ?_) | (refine wpList_load_box rfl 50 _ rfl b4 _ _ HX4.out rfl _ Tryz.underlying50 rfl (by kernel_rfl) ?_))
          refine (HhJ6.out _ _ _ _ _ HC3.out HC4.out HR3.out HR4.out).mono ?_
          rintro e u21w ⟨A6, c6, rfl, hcx, hrx, hb⟩
          replace HX1 := Lib.hid (HX1.out.below hb)
          replace HX2 := Lib.hid (HX2.out.below hb)
          replace HX3 := Lib.hid (HX3.out.below hb)
          replace HX4 := Lib.hid (HX4.out.below hb)
          replace HX5 := Lib.hid (HX5.out.below hb)
          replace HT0 := Lib.hid (HT0.out.below hb)
          replace HR1 := Lib.hid (HR1.out.below hb)
          replace HR2 := Lib.hid (HR2.out.below hb)
          replace HR3 := Lib.hid (HR3.out.below hb)
          replace HR4 := Lib.hid (HR4.out.below hb)
          replace HR5 := Lib.hid (HR5.out.below hb)
          replace HB := Lib.hid (HB.out.trans (hb.mono HB.out.size))
          clear hb
          have HR6 := Lib.hid hrx; clear hrx
          clear hcx
          go_upto_region 39 with fail
          have hn := Blk.new u21w 50 #[.string nm, .int .i64 (W : Int), .int .i64 (H : Int), .slice A6 n c6]
          have hb : Below u21w.heap.size u21w (u21w.alloc (.cells #[.string nm, .int .i64 (W : Int), .int .i64 (H : Int), .slice A6 n c6] 50)) := (Below.refl _ _).alloc (Nat.le_refl _) _
          have hge := HB.out.size
          have hlt_1 := HX1.out.lt
          have hlt_2 := HX2.out.lt
          have hlt_3 := HX3.out.lt
          have hlt_4 := HX4.out.lt
          have hlt_5 := HX5.out.lt
          obtain ⟨b6, hl⟩ : ∃ b, u21w.heap.size = b := ⟨_, rfl⟩
          generalize u21w.alloc (.cells #[.string nm, .int .i64 (W : Int), .int .i64 (H : Int), .slice A6 n c6] 50) = u22w at hn hb ⊢
          replace HX1 := Lib.hid (HX1.out.below hb)
          replace HX2 := Lib.hid (HX2.out.below hb)
          replace HX3 := Lib.hid (HX3.out.below hb)
          replace HX4 := Lib.hid (HX4.out.below hb)
          replace HX5 := Lib.hid (HX5.out.below hb)
          replace HT0 := Lib.hid (HT0.out.below hb)
          replace HR1 := Lib.hid (HR1.out.below hb)
          replace HR2 := Lib.hid (HR2.out.below hb)
          replace HR3 := Lib.hid (HR3.out.below hb)
          replace HR4 := Lib.hid (HR4.out.below hb)
          replace HR5 := Lib.hid (HR5.out.below hb)
          replace HR6 := Lib.hid (HR6.out.below hb)
          replace HB := Lib.hid (HB.out.trans (hb.mono HB.out.size))
          clear hb
          rw [hl] at hn hge hlt_1 hlt_2 hlt_3 hlt_4 hlt_5
          try rw [hl]
          have HX6 := Lib.hid hn; have HG6 := Lib.hid hge; clear hn hl hge
          have HN61 : RowKit.Hid (b1 < b6) := Lib.hid (by omega); have HN62 : RowKit.Hid (b2 < b6) := Lib.hid (by omega); have HN63 : RowKit.Hid (b3 < b6) := Lib.hid (by omega); have HN64 : RowKit.Hid (b4 < b6) := Lib.hid (by omega); have HN65 : RowKit.Hid (b5 < b6) := Lib.hid (by omega)
          clear hlt_1 hlt_2 hlt_3 hlt_4 hlt_5
          clear HX1 HX2 HX3 HX4 HR1 HR2 HR3 HR4
          go_wp2_with (first | (refine wpList_load_box rfl 43 _ rfl bP _ _ HT0.out.p rfl _ Tryz.underlying43 rfl (by kernel_rfl) ?_))
          refine (Hhown.out _ (Hhr.out.below HB.out)).mono ?_
          rintro e u23w ⟨gO, cO, rfl, hcc, hro, hb⟩
          replace HX5 := Lib.hid (HX5.out.below hb)
          replace HX6 := Lib.hid (HX6.out.below hb)
          replace HT0 := Lib.hid (HT0.out.below hb)
          replace HR5 := Lib.hid (HR5.out.below hb)
          replace HR6 := Lib.hid (HR6.out.below hb)
          replace HB := Lib.hid (HB.out.trans (hb.mono HB.out.size))
          clear hb
          have HRO := Lib.hid hro; clear hro
          clear hcc
          go_wp2_with fail
          refine (HhEn.out _ _ _ HRO.out).mono ?_
          rintro e u24w ⟨rfl, hb⟩
          replace HX5 := Lib.hid (HX5.out.below hb)
          replace HX6 := Lib.hid (HX6.out.below hb)
          replace HT0 := Lib.hid (HT0.out.below hb)
          replace HR5 := Lib.hid (HR5.out.below hb)
          replace HR6 := Lib.hid (HR6.out.below hb)
          replace HRO := Lib.hid (HRO.out.below hb)
          replace HB := Lib.hid (HB.out.trans (hb.mono HB.out.size))
          clear hb
          clear HRO
          go_wp2_with (first | (refine wpList_load_box rfl 43 _ rfl bP _ _ HT0.out.p rfl _ Tryz.underlying43 rfl (by kernel_rfl) ?_))
          refine (Hhown.out _ (Hhr.out.below HB.out)).mono ?_
          rintro e u25w ⟨gO, cO, rfl, hcc, hro, hb⟩
          replace HX5 := Lib.hid (HX5.out.below hb)
          replace HX6 := Lib.hid (HX6.out.below hb)
          replace HT0 := Lib.hid (HT0.out.below hb)
          replace HR5 := Lib.hid (HR5.out.below hb)
          replace HR6 := Lib.hid (HR6.out.below hb)
          replace HB := Lib.hid (HB.out.trans (hb.mono HB.out.size))
          clear hb
          have HRO := Lib.hid hro; clear hro
          clear hcc
          go_wp2_with fail
          refine (HhPk.out _ _ _ HRO.out).mono ?_
          rintro e u26w ⟨rfl, hb⟩
          replace HX5 := Lib.hid (HX5.out.below hb)
          replace HX6 := Lib.hid (HX6.out.below hb)
          replace HT0 := Lib.hid (HT0.out.below hb)
          replace HR5 := Lib.hid (HR5.out.below hb)
          replace HR6 := Lib.hid (HR6.out.below hb)
          replace HRO := Lib.hid (HRO.out.below hb)
          replace HB := Lib.hid (HB.out.trans (hb.mono HB.out.size))
          clear hb
          clear HRO
          go_wp2_with (first | (refine wpList_load_box rfl 43 _ rfl bP _ _ HT0.out.p rfl _ Tryz.underlying43 rfl (by kernel_rfl) ?_))
          refine (Hhown.out _ (Hhr.out.below HB.out)).mono ?_
          rintro e u27w ⟨gO, cO, rfl, hcc, hro, hb⟩
          replace HX5 := Lib.hid (HX5.out.below hb)
          replace HX6 := Lib.hid (HX6.out.below hb)
          replace HT0 := Lib.hid (HT0.out.below hb)
          replace HR5 := Lib.hid (HR5.out.below hb)
          replace HR6 := Lib.hid (HR6.out.below hb)
          replace HB := Lib.hid (HB.out.trans (hb.mono HB.out.size))
          clear hb
          have HRO := Lib.hid hro; clear hro
          clear hcc
          go_wp2_with fail
          refine (HhMn.out _ _ _ HRO.out).mono ?_
          rintro e u28w ⟨rfl, hb⟩
          replace HX5 := Lib.hid (HX5.out.below hb)
          replace HX6 := Lib.hid (HX6.out.below hb)
          replace HT0 := Lib.hid (HT0.out.below hb)
          replace HR5 := Lib.hid (HR5.out.below hb)
          replace HR6 := Lib.hid (HR6.out.below hb)
          replace HRO := Lib.hid (HRO.out.below hb)
          replace HB := Lib.hid (HB.out.trans (hb.mono HB.out.size))
          clear hb
          clear HRO
          go_upto_region 42 with fail
          have hn := Blk.new u28w 33 #[.int .i64 S0, .int .i64 D0]
          have hb : Below u28w.heap.size u28w (u28w.alloc (.cells #[.int .i64 S0, .int .i64 D0] 33)) := (Below.refl _ _).alloc (Nat.le_refl _) _
          have hge := HB.out.size
          have hlt_5 := HX5.out.lt
          have hlt_6 := HX6.out.lt
          obtain ⟨bV, hl⟩ : ∃ b, u28w.heap.size = b := ⟨_, rfl⟩
          generalize u28w.alloc (.cells #[.int .i64 S0, .int .i64 D0] 33) = u29w at hn hb ⊢
          replace HX5 := Lib.hid (HX5.out.below hb)
          replace HX6 := Lib.hid (HX6.out.below hb)
          replace HT0 := Lib.hid (HT0.out.below hb)
          replace HR5 := Lib.hid (HR5.out.below hb)
          replace HR6 := Lib.hid (HR6.out.below hb)
          replace HB := Lib.hid (HB.out.trans (hb.mono HB.out.size))
          clear hb
          rw [hl] at hn hge hlt_5 hlt_6
          try rw [hl]
          have HXV := Lib.hid hn; have HGV := Lib.hid hge; clear hn hl hge
          have HNV5 : RowKit.Hid (b5 < bV) := Lib.hid (by omega); have HNV6 : RowKit.Hid (b6 < bV) := Lib.hid (by omega)
          clear hlt_5 hlt_6
          obtain ⟨cV0, cV1⟩ := box2t HXV.out
          have hd0 := HhD0.out
          go_upto_region 44 with fail
          clear cV0 cV1 hd0
          obtain ⟨cV0, cV1⟩ := box2t HXV.out
          obtain ⟨cP0, cP1, cP2, cP3⟩ := box4 HT0.out.p
          obtain ⟨cA0, cA1, cA2, cA3⟩ := box4 HX5.out
          obtain ⟨cB0, cB1, cB2, cB3⟩ := box4 HX6.out
          have zV := HXV.out.lt; have zP := HT0.out.p.lt; have zA := HX5.out.lt; have zB := HX6.out.lt
          have hx1 := HhX1.out; have hx2 := HhX2.out
          refine wp_region_facts [Fact.is (.agg #[.string nm, .int .i64 (W : Int), .int .i64 (H : Int), .slice A5 n c5]), Fact.is (.agg #[.string nm, .int .i64 (W : Int), .int .i64 (H : Int), .slice A5 n c5]), Fact.is (.agg #[.string nm, .int .i64 (W : Int), .int .i64 (H : Int), .slice A n c]), Fact.is (.bool true), Fact.is (.bool true), Fact.is (.agg #[.string nm, .int .i64 (W : Int), .int .i64 (H : Int), .slice A6 n c6]), Fact.is (.agg #[.string nm, .int .i64 (W : Int), .int .i64 (H : Int), .slice A6 n c6]), Fact.is (.agg #[.string nm, .int .i64 (W : Int), .int .i64 (H : Int), .slice A n c]), Fact.is (.bool true), Fact.is (.bool true), Fact.is (.bool true), Fact.is (.int .i64 (EA 4)), Fact.is (.int .i64 (EA 4)), Fact.is (.bool true), Fact.is (.bool true), Fact.is (.bool true), Fact.is (.int .i64 (PA 4)), Fact.is (.int .i64 (PA 4)), Fact.is (.bool true), Fact.is (.bool true), Fact.is (.bool true), Fact.is (.pointer (some ⟨bV, 0, none⟩)), Fact.is (.int .i64 (S0)), Fact.is (.int .i64 (IntKind.i64.wrap (S0 * 16))), Fact.is (.pointer (some ⟨bP, 3, none⟩)), Fact.is (.slice A n c), Fact.is (.int .i64 ((n : Int))), Fact.is (.int .i64 (X0)), Fact.is (.int .i64 (SA 4)), Fact.is (.pointer (some ⟨bV, 1, none⟩)), Fact.is (.int .i64 (D0)), Fact.is (.int .i64 (X0)), Fact.is (.bool true), Fact.is (.bool true), Fact.is (.bool true), Fact.is (.bool true), Fact.is (.bool true), Fact.is (.bool true)] [[], [0], [], [1, 2], [3], [4], [4, 5], [4], [4, 6, 7], [4, 8], [9], [10], [10], [10, 11, 12], [10, 13], [14], [15], [15], [15, 16, 17], [15, 18], [19], [20], [20, 21], [20, 22], [20], [20, 24], [20, 25], [20, 23, 26], [20], [20], [20, 29], [20, 28, 30], [20, 27, 31], [20, 32], [33], [34], [34, 35], [36]] [(some 338, 0), (some 339, 1), (some 340, 2), (some 341, 3), (some 342, 4), (some 343, 5), (some 344, 6), (some 345, 7), (some 346, 8), (some 347, 9), (some 348, 10), (some 349, 11), (some 350, 12), (some 351, 13), (some 352, 14), (some 353, 15), (some 354, 16), (some 355, 17), (some 356, 18), (some 357, 19), (some 358, 20), (some 359, 21), (some 360, 22), (some 361, 23), (some 362, 24), (some 363, 25), (some 364, 26), (some 365, 27), (some 366, 28), (some 367, 29), (some 368, 30), (some 369, 31), (some 370, 32), (some 371, 33), (some 372, 34), (some 373, 35), (some 374, 36), (some 4, 37)] (by kernel_rfl) (by kernel_rfl) (by kernel_rfl) (by kernel_rfl) (fun _ _ _ _ e h => by have h1 : _ ∧ _ := h; exact ⟨e ▸ h1.1, h1.2⟩) ?hstep ?hend
          case hstep =>
            generalize Exit.then _ _ = QQ
            as_aux_lemma =>
              intro i hi
              match i, hi with
              | 0, _ =>
                intro v w' hR hd
                change SpecOp _ _ _ _ 0 (canon _ v _ []) w' _
                simp only [canon_nil]
                have q0 := (hR.cell (p := ⟨b5, 0, none⟩) zA).trans cA0
                have q1 := (hR.cell (p := ⟨b5, 1, none⟩) zA).trans cA1
                have q2 := (hR.cell (p := ⟨b5, 2, none⟩) zA).trans cA2
                have q3 := (hR.cell (p := ⟨b5, 3, none⟩) zA).trans cA3
                refine spec_of rfl (fun KK hK => ?_)
                go_simp
                exact hK.out _ _ (Below.refl _ _) rfl
              | 1, _ =>
                intro v w' hR hd
                have e0 : v 0 = .agg #[.string nm, .int .i64 (W : Int), .int .i64 (H : Int), .slice A5 n c5] := hd 0 (by decide)
                change SpecOp _ _ _ _ 1 (Act.put (canon _ v _ []) (some 338) (v 0)) w' _
                rw [e0]
                simp only [canon_nil, Act.put, List.setIfInBounds_toArray, List.set_cons_zero, List.set_cons_succ]
                refine spec_of rfl (fun KK hK => ?_)
                go_simp
                refine (told_any _ _ _ _ _ _ _).mono ?_
                rintro e wn ⟨rfl, hbn⟩
                exact hK.out _ _ hbn rfl
              | 2, _ =>
                intro v w' hR hd
                change SpecOp _ _ _ _ 2 (canon _ v _ []) w' _
                simp only [canon_nil]
                have q0 := (hR.cell (p := ⟨bP, 0, none⟩) zP).trans cP0
                have q1 := (hR.cell (p := ⟨bP, 1, none⟩) zP).trans cP1
                have q2 := (hR.cell (p := ⟨bP, 2, none⟩) zP).trans cP2
                have q3 := (hR.cell (p := ⟨bP, 3, none⟩) zP).trans cP3
                refine spec_of rfl (fun KK hK => ?_)
                go_simp
                exact hK.out _ _ (Below.refl _ _) rfl
              | 3, _ =>
                intro v w' hR hd
                have e1 : v 1 = .agg #[.string nm, .int .i64 (W : Int), .int .i64 (H : Int), .slice A5 n c5] := hd 1 (by decide)
                have e2 : v 2 = .agg #[.string nm, .int .i64 (W : Int), .int .i64 (H : Int), .slice A n c] := hd 2 (by decide)
                change SpecOp _ _ _ _ 3 (Act.put (Act.put (canon _ v _ []) (some 340) (v 2)) (some 339) (v 1)) w' _
                rw [e1, e2]
                simp only [canon_nil, Act.put, List.setIfInBounds_toArray, List.set_cons_zero, List.set_cons_succ]
                refine spec_of rfl (fun KK hK => ?_)
                go_simp
                refine (Hhsame.out _ _ _ (HR5.out.below hR) (Hhr.out.below (HB.out.trans (hR.mono HB.out.size)))).mono ?_
                rintro e wn ⟨rfl, hbn⟩
                exact hK.out _ _ hbn rfl
              | 4, _ =>
                intro v w' hR hd
                have e3 : v 3 = .bool true := hd 3 (by decide)
                change SpecOp _ _ _ _ 4 (Act.put (canon _ v _ []) (some 341) (v 3)) w' _
                rw [e3]
                simp only [canon_nil, Act.put, List.setIfInBounds_toArray, List.set_cons_zero, List.set_cons_succ]
                refine spec_of rfl (fun KK hK => ?_)
                go_simp
                exact hK.out _ _ (Below.refl _ _) rfl
              | 5, _ =>
                intro v w' hR hd
                have e4 : v 4 = .bool true := hd 4 (by decide)
                change SpecOp _ _ _ _ 5 (Act.put (canon _ v _ []) (some 342) (v 4)) w' _
                rw [e4]
                simp only [canon_nil, Act.put, List.setIfInBounds_toArray, List.set_cons_zero, List.set_cons_succ]
                have q0 := (hR.cell (p := ⟨b6, 0, none⟩) zB).trans cB0
                have q1 := (hR.cell (p := ⟨b6, 1, none⟩) zB).trans cB1
                have q2 := (hR.cell (p := ⟨b6, 2, none⟩) zB).trans cB2
                have q3 := (hR.cell (p := ⟨b6, 3, none⟩) zB).trans cB3
                refine spec_of rfl (fun KK hK => ?_)
                go_simp
                exact hK.out _ _ (Below.refl _ _) rfl
              | 6, _ =>
                intro v w' hR hd
                have e4 : v 4 = .bool true := hd 4 (by decide)
                have e5 : v 5 = .agg #[.string nm, .int .i64 (W : Int), .int .i64 (H : Int), .slice A6 n c6] := hd 5 (by decide)
                change SpecOp _ _ _ _ 6 (Act.put (Act.put (canon _ v _ []) (some 343) (v 5)) (some 342) (v 4)) w' _
                rw [e4, e5]
                simp only [canon_nil, Act.put, List.setIfInBounds_toArray, List.set_cons_zero, List.set_cons_succ]
                refine spec_of rfl (fun KK hK => ?_)
                go_simp
                refine (told_any _ _ _ _ _ _ _).mono ?_
                rintro e wn ⟨rfl, hbn⟩
                exact hK.out _ _ hbn rfl
              | 7, _ =>
                intro v w' hR hd
                have e4 : v 4 = .bool true := hd 4 (by decide)
                change SpecOp _ _ _ _ 7 (Act.put (canon _ v _ []) (some 342) (v 4)) w' _
                rw [e4]
                simp only [canon_nil, Act.put, List.setIfInBounds_toArray, List.set_cons_zero, List.set_cons_succ]
                have q0 := (hR.cell (p := ⟨bP, 0, none⟩) zP).trans cP0
                have q1 := (hR.cell (p := ⟨bP, 1, none⟩) zP).trans cP1
                have q2 := (hR.cell (p := ⟨bP, 2, none⟩) zP).trans cP2
                have q3 := (hR.cell (p := ⟨bP, 3, none⟩) zP).trans cP3
                refine spec_of rfl (fun KK hK => ?_)
                go_simp
                exact hK.out _ _ (Below.refl _ _) rfl
              | 8, _ =>
                intro v w' hR hd
                have e4 : v 4 = .bool true := hd 4 (by decide)
                have e6 : v 6 = .agg #[.string nm, .int .i64 (W : Int), .int .i64 (H : Int), .slice A6 n c6] := hd 6 (by decide)
                have e7 : v 7 = .agg #[.string nm, .int .i64 (W : Int), .int .i64 (H : Int), .slice A n c] := hd 7 (by decide)
                change SpecOp _ _ _ _ 8 (Act.put (Act.put (Act.put (canon _ v _ []) (some 345) (v 7)) (some 344) (v 6)) (some 342) (v 4)) w' _
                rw [e4, e6, e7]
                simp only [canon_nil, Act.put, List.setIfInBounds_toArray, List.set_cons_zero, List.set_cons_succ]
                refine spec_of rfl (fun KK hK => ?_)
                go_simp
                refine (Hhsame.out _ _ _ (HR6.out.below hR) (Hhr.out.below (HB.out.trans (hR.mono HB.out.size)))).mono ?_
                rintro e wn ⟨rfl, hbn⟩
                exact hK.out _ _ hbn rfl
              | 9, _ =>
                intro v w' hR hd
                have e4 : v 4 = .bool true := hd 4 (by decide)
                have e8 : v 8 = .bool true := hd 8 (by decide)
                change SpecOp _ _ _ _ 9 (Act.put (Act.put (canon _ v _ []) (some 346) (v 8)) (some 342) (v 4)) w' _
                rw [e4, e8]
                simp only [canon_nil, Act.put, List.setIfInBounds_toArray, List.set_cons_zero, List.set_cons_succ]
                refine spec_of rfl (fun KK hK => ?_)
                go_simp
                exact hK.out _ _ (Below.refl _ _) rfl
              | 10, _ =>
                intro v w' hR hd
                have e9 : v 9 = .bool true := hd 9 (by decide)
                change SpecOp _ _ _ _ 10 (Act.put (canon _ v _ []) (some 347) (v 9)) w' _
                rw [e9]
                simp only [canon_nil, Act.put, List.setIfInBounds_toArray, List.set_cons_zero, List.set_cons_succ]
                refine spec_of rfl (fun KK hK => ?_)
                go_simp
                exact hK.out _ _ (Below.refl _ _) rfl
              | 11, _ =>
                intro v w' hR hd
                have e10 : v 10 = .bool true := hd 10 (by decide)
                change SpecOp _ _ _ _ 11 (Act.put (canon _ v _ []) (some 348) (v 10)) w' _
                rw [e10]
                simp only [canon_nil, Act.put, List.setIfInBounds_toArray, List.set_cons_zero, List.set_cons_succ]
                refine spec_of rfl (fun KK hK => ?_)
                go_simp
                exact hK.out _ _ (Below.refl _ _) rfl
              | 12, _ =>
                intro v w' hR hd
                have e10 : v 10 = .bool true := hd 10 (by decide)
                change SpecOp _ _ _ _ 12 (Act.put (canon _ v _ []) (some 348) (v 10)) w' _
                rw [e10]
                simp only [canon_nil, Act.put, List.setIfInBounds_toArray, List.set_cons_zero, List.set_cons_succ]
                refine spec_of rfl (fun KK hK => ?_)
                go_simp
                exact hK.out _ _ (Below.refl _ _) rfl
              | 13, _ =>
                intro v w' hR hd
                have e10 : v 10 = .bool true := hd 10 (by decide)
                have e11 : v 11 = .int .i64 (EA 4) := hd 11 (by decide)
                have e12 : v 12 = .int .i64 (EA 4) := hd 12 (by decide)
                change SpecOp _ _ _ _ 13 (Act.put (Act.put (Act.put (canon _ v _ []) (some 350) (v 12)) (some 349) (v 11)) (some 348) (v 10)) w' _
                rw [e10, e11, e12]
                simp only [canon_nil, Act.put, List.setIfInBounds_toArray, List.set_cons_zero, List.set_cons_succ]
                refine spec_of rfl (fun KK hK => ?_)
                go_simp
                exact hK.out _ _ (Below.refl _ _) rfl
              | 14, _ =>
                intro v w' hR hd
                have e10 : v 10 = .bool true := hd 10 (by decide)
                have e13 : v 13 = .bool true := hd 13 (by decide)
                change SpecOp _ _ _ _ 14 (Act.put (Act.put (canon _ v _ []) (some 351) (v 13)) (some 348) (v 10)) w' _
                rw [e10, e13]
                simp only [canon_nil, Act.put, List.setIfInBounds_toArray, List.set_cons_zero, List.set_cons_succ]
                refine spec_of rfl (fun KK hK => ?_)
                go_simp
                exact hK.out _ _ (Below.refl _ _) rfl
              | 15, _ =>
                intro v w' hR hd
                have e14 : v 14 = .bool true := hd 14 (by decide)
                change SpecOp _ _ _ _ 15 (Act.put (canon _ v _ []) (some 352) (v 14)) w' _
                rw [e14]
                simp only [canon_nil, Act.put, List.setIfInBounds_toArray, List.set_cons_zero, List.set_cons_succ]
                refine spec_of rfl (fun KK hK => ?_)
                go_simp
                exact hK.out _ _ (Below.refl _ _) rfl
              | 16, _ =>
                intro v w' hR hd
                have e15 : v 15 = .bool true := hd 15 (by decide)
                change SpecOp _ _ _ _ 16 (Act.put (canon _ v _ []) (some 353) (v 15)) w' _
                rw [e15]
                simp only [canon_nil, Act.put, List.setIfInBounds_toArray, List.set_cons_zero, List.set_cons_succ]
                refine spec_of rfl (fun KK hK => ?_)
                go_simp
                exact hK.out _ _ (Below.refl _ _) rfl
              | 17, _ =>
                intro v w' hR hd
                have e15 : v 15 = .bool true := hd 15 (by decide)
                change SpecOp _ _ _ _ 17 (Act.put (canon _ v _ []) (some 353) (v 15)) w' _
                rw [e15]
                simp only [canon_nil, Act.put, List.setIfInBounds_toArray, List.set_cons_zero, List.set_cons_succ]
                refine spec_of rfl (fun KK hK => ?_)
                go_simp
                exact hK.out _ _ (Below.refl _ _) rfl
              | 18, _ =>
                intro v w' hR hd
                have e15 : v 15 = .bool true := hd 15 (by decide)
                have e16 : v 16 = .int .i64 (PA 4) := hd 16 (by decide)
                have e17 : v 17 = .int .i64 (PA 4) := hd 17 (by decide)
                change SpecOp _ _ _ _ 18 (Act.put (Act.put (Act.put (canon _ v _ []) (some 355) (v 17)) (some 354) (v 16)) (some 353) (v 15)) w' _
                rw [e15, e16, e17]
                simp only [canon_nil, Act.put, List.setIfInBounds_toArray, List.set_cons_zero, List.set_cons_succ]
                refine spec_of rfl (fun KK hK => ?_)
                go_simp
                exact hK.out _ _ (Below.refl _ _) rfl
              | 19, _ =>
                intro v w' hR hd
                have e15 : v 15 = .bool true := hd 15 (by decide)
                have e18 : v 18 = .bool true := hd 18 (by decide)
                change SpecOp _ _ _ _ 19 (Act.put (Act.put (canon _ v _ []) (some 356) (v 18)) (some 353) (v 15)) w' _
                rw [e15, e18]
                simp only [canon_nil, Act.put, List.setIfInBounds_toArray, List.set_cons_zero, List.set_cons_succ]
                refine spec_of rfl (fun KK hK => ?_)
                go_simp
                exact hK.out _ _ (Below.refl _ _) rfl
              | 20, _ =>
                intro v w' hR hd
                have e19 : v 19 = .bool true := hd 19 (by decide)
                change SpecOp _ _ _ _ 20 (Act.put (canon _ v _ []) (some 357) (v 19)) w' _
                rw [e19]
                simp only [canon_nil, Act.put, List.setIfInBounds_toArray, List.set_cons_zero, List.set_cons_succ]
                refine spec_of rfl (fun KK hK => ?_)
                go_simp
                exact hK.out _ _ (Below.refl _ _) rfl
              | 21, _ =>
                intro v w' hR hd
                have e20 : v 20 = .bool true := hd 20 (by decide)
                change SpecOp _ _ _ _ 21 (Act.put (canon _ v _ []) (some 358) (v 20)) w' _
                rw [e20]
                simp only [canon_nil, Act.put, List.setIfInBounds_toArray, List.set_cons_zero, List.set_cons_succ]
                refine spec_of rfl (fun KK hK => ?_)
                go_simp
                exact hK.out _ _ (Below.refl _ _) rfl
              | 22, _ =>
                intro v w' hR hd
                have e20 : v 20 = .bool true := hd 20 (by decide)
                have e21 : v 21 = .pointer (some ⟨bV, 0, none⟩) := hd 21 (by decide)
                change SpecOp _ _ _ _ 22 (Act.put (Act.put (canon _ v _ []) (some 359) (v 21)) (some 358) (v 20)) w' _
                rw [e20, e21]
                simp only [canon_nil, Act.put, List.setIfInBounds_toArray, List.set_cons_zero, List.set_cons_succ]
                have q0 := (hR.cell (p := ⟨bV, 0, none⟩) zV).trans cV0
                refine spec_of rfl (fun KK hK => ?_)
                go_simp
                exact hK.out _ _ (Below.refl _ _) rfl
              | 23, _ =>
                intro v w' hR hd
                have e20 : v 20 = .bool true := hd 20 (by decide)
                have e22 : v 22 = .int .i64 (S0) := hd 22 (by decide)
                change SpecOp _ _ _ _ 23 (Act.put (Act.put (canon _ v _ []) (some 360) (v 22)) (some 358) (v 20)) w' _
                rw [e20, e22]
                simp only [canon_nil, Act.put, List.setIfInBounds_toArray, List.set_cons_zero, List.set_cons_succ]
                refine spec_of rfl (fun KK hK => ?_)
                go_simp
                exact hK.out _ _ (Below.refl _ _) rfl
              | 24, _ =>
                intro v w' hR hd
                have e20 : v 20 = .bool true := hd 20 (by decide)
                change SpecOp _ _ _ _ 24 (Act.put (canon _ v _ []) (some 358) (v 20)) w' _
                rw [e20]
                simp only [canon_nil, Act.put, List.setIfInBounds_toArray, List.set_cons_zero, List.set_cons_succ]
                refine spec_of rfl (fun KK hK => ?_)
                go_simp
                exact hK.out _ _ (Below.refl _ _) rfl
              | 25, _ =>
                intro v w' hR hd
                have e20 : v 20 = .bool true := hd 20 (by decide)
                have e24 : v 24 = .pointer (some ⟨bP, 3, none⟩) := hd 24 (by decide)
                change SpecOp _ _ _ _ 25 (Act.put (Act.put (canon _ v _ []) (some 362) (v 24)) (some 358) (v 20)) w' _
                rw [e20, e24]
                simp only [canon_nil, Act.put, List.setIfInBounds_toArray, List.set_cons_zero, List.set_cons_succ]
                have q0 := (hR.cell (p := ⟨bP, 3, none⟩) zP).trans cP3
                refine spec_of rfl (fun KK hK => ?_)
                go_simp
                exact hK.out _ _ (Below.refl _ _) rfl
              | 26, _ =>
                intro v w' hR hd
                have e20 : v 20 = .bool true := hd 20 (by decide)
                have e25 : v 25 = .slice A n c := hd 25 (by decide)
                change SpecOp _ _ _ _ 26 (Act.put (Act.put (canon _ v _ []) (some 363) (v 25)) (some 358) (v 20)) w' _
                rw [e20, e25]
                simp only [canon_nil, Act.put, List.setIfInBounds_toArray, List.set_cons_zero, List.set_cons_succ]
                refine spec_of rfl (fun KK hK => ?_)
                go_simp
                exact hK.out _ _ (Below.refl _ _) rfl
              | 27, _ =>
                intro v w' hR hd
                have e20 : v 20 = .bool true := hd 20 (by decide)
                have e23 : v 23 = .int .i64 (IntKind.i64.wrap (S0 * 16)) := hd 23 (by decide)
                have e26 : v 26 = .int .i64 ((n : Int)) := hd 26 (by decide)
                change SpecOp _ _ _ _ 27 (Act.put (Act.put (Act.put (canon _ v _ []) (some 364) (v 26)) (some 361) (v 23)) (some 358) (v 20)) w' _
                rw [e20, e23, e26]
                simp only [canon_nil, Act.put, List.setIfInBounds_toArray, List.set_cons_zero, List.set_cons_succ]
                refine spec_of rfl (fun KK hK => ?_)
                go_simp
                exact hK.out _ _ (Below.refl _ _) rfl
              | 28, _ =>
                intro v w' hR hd
                have e20 : v 20 = .bool true := hd 20 (by decide)
                change SpecOp _ _ _ _ 28 (Act.put (canon _ v _ []) (some 358) (v 20)) w' _
                rw [e20]
                simp only [canon_nil, Act.put, List.setIfInBounds_toArray, List.set_cons_zero, List.set_cons_succ]
                refine spec_of rfl (fun KK hK => ?_)
                go_simp
                exact hK.out _ _ (Below.refl _ _) rfl
              | 29, _ =>
                intro v w' hR hd
                have e20 : v 20 = .bool true := hd 20 (by decide)
                change SpecOp _ _ _ _ 29 (Act.put (canon _ v _ []) (some 358) (v 20)) w' _
                rw [e20]
                simp only [canon_nil, Act.put, List.setIfInBounds_toArray, List.set_cons_zero, List.set_cons_succ]
                refine spec_of rfl (fun KK hK => ?_)
                go_simp
                exact hK.out _ _ (Below.refl _ _) rfl
              | 30, _ =>
                intro v w' hR hd
                have e20 : v 20 = .bool true := hd 20 (by decide)
                have e29 : v 29 = .pointer (some ⟨bV, 1, none⟩) := hd 29 (by decide)
                change SpecOp _ _ _ _ 30 (Act.put (Act.put (canon _ v _ []) (some 367) (v 29)) (some 358) (v 20)) w' _
                rw [e20, e29]
                simp only [canon_nil, Act.put, List.setIfInBounds_toArray, List.set_cons_zero, List.set_cons_succ]
                have q0 := (hR.cell (p := ⟨bV, 1, none⟩) zV).trans cV1
                refine spec_of rfl (fun KK hK => ?_)
                go_simp
                exact hK.out _ _ (Below.refl _ _) rfl
              | 31, _ =>
                intro v w' hR hd
                have e20 : v 20 = .bool true := hd 20 (by decide)
                have e28 : v 28 = .int .i64 (SA 4) := hd 28 (by decide)
                have e30 : v 30 = .int .i64 (D0) := hd 30 (by decide)
                change SpecOp _ _ _ _ 31 (Act.put (Act.put (Act.put (canon _ v _ []) (some 368) (v 30)) (some 366) (v 28)) (some 358) (v 20)) w' _
                rw [e20, e28, e30]
                simp only [canon_nil, Act.put, List.setIfInBounds_toArray, List.set_cons_zero, List.set_cons_succ]
                refine spec_of rfl (fun KK hK => ?_)
                go_simp
                exact hK.out _ _ (Below.refl _ _) rfl
              | 32, _ =>
                intro v w' hR hd
                have e20 : v 20 = .bool true := hd 20 (by decide)
                have e27 : v 27 = .int .i64 (X0) := hd 27 (by decide)
                have e31 : v 31 = .int .i64 (X0) := hd 31 (by decide)
                change SpecOp _ _ _ _ 32 (Act.put (Act.put (Act.put (canon _ v _ []) (some 369) (v 31)) (some 365) (v 27)) (some 358) (v 20)) w' _
                rw [e20, e27, e31]
                simp only [canon_nil, Act.put, List.setIfInBounds_toArray, List.set_cons_zero, List.set_cons_succ]
                refine spec_of rfl (fun KK hK => ?_)
                go_simp
                exact hK.out _ _ (Below.refl _ _) rfl
              | 33, _ =>
                intro v w' hR hd
                have e20 : v 20 = .bool true := hd 20 (by decide)
                have e32 : v 32 = .bool true := hd 32 (by decide)
                change SpecOp _ _ _ _ 33 (Act.put (Act.put (canon _ v _ []) (some 370) (v 32)) (some 358) (v 20)) w' _
                rw [e20, e32]
                simp only [canon_nil, Act.put, List.setIfInBounds_toArray, List.set_cons_zero, List.set_cons_succ]
                refine spec_of rfl (fun KK hK => ?_)
                go_simp
                exact hK.out _ _ (Below.refl _ _) rfl
              | 34, _ =>
                intro v w' hR hd
                have e33 : v 33 = .bool true := hd 33 (by decide)
                change SpecOp _ _ _ _ 34 (Act.put (canon _ v _ []) (some 371) (v 33)) w' _
                rw [e33]
                simp only [canon_nil, Act.put, List.setIfInBounds_toArray, List.set_cons_zero, List.set_cons_succ]
                refine spec_of rfl (fun KK hK => ?_)
                go_simp
                exact hK.out _ _ (Below.refl _ _) rfl
              | 35, _ =>
                intro v w' hR hd
                have e34 : v 34 = .bool true := hd 34 (by decide)
                change SpecOp _ _ _ _ 35 (Act.put (canon _ v _ []) (some 372) (v 34)) w' _
                rw [e34]
                simp only [canon_nil, Act.put, List.setIfInBounds_toArray, List.set_cons_zero, List.set_cons_succ]
                refine spec_of rfl (fun KK hK => ?_)
                go_simp
                refine (Hhaw.out _ (HB.out.trans (hR.mono HB.out.size))).mono ?_
                rintro e wn ⟨rfl, hbn⟩
                exact hK.out _ _ hbn rfl
              | 36, _ =>
                intro v w' hR hd
                have e34 : v 34 = .bool true := hd 34 (by decide)
                have e35 : v 35 = .bool true := hd 35 (by decide)
                change SpecOp _ _ _ _ 36 (Act.put (Act.put (canon _ v _ []) (some 373) (v 35)) (some 372) (v 34)) w' _
                rw [e34, e35]
                simp only [canon_nil, Act.put, List.setIfInBounds_toArray, List.set_cons_zero, List.set_cons_succ]
                refine spec_of rfl (fun KK hK => ?_)
                go_simp
                exact hK.out _ _ (Below.refl _ _) rfl
              | 37, _ =>
                intro v w' hR hd
                have e36 : v 36 = .bool true := hd 36 (by decide)
                change SpecOp _ _ _ _ 37 (Act.put (canon _ v _ []) (some 374) (v 36)) w' _
                rw [e36]
                simp only [canon_nil, Act.put, List.setIfInBounds_toArray, List.set_cons_zero, List.set_cons_succ]
                refine spec_of rfl (fun KK hK => ?_)
                go_simp
                exact hK.out _ _ (Below.refl _ _) rfl
              | i + 38, h => exact absurd h (Nat.not_lt.2 (Nat.le_add_left 38 i))
          case hend =>
            intro v w' hR hall
            simp only [putL, Act.put, List.setIfInBounds_toArray, List.set_cons_zero, List.set_cons_succ]
            have e0 : v 0 = .agg #[.string nm, .int .i64 (W : Int), .int .i64 (H : Int), .slice A5 n c5] := hall 0 (by decide)
            have e1 : v 1 = .agg #[.string nm, .int .i64 (W : Int), .int .i64 (H : Int), .slice A5 n c5] := hall 1 (by decide)
            have e2 : v 2 = .agg #[.string nm, .int .i64 (W : Int), .int .i64 (H : Int), .slice A n c] := hall 2 (by decide)
            have e3 : v 3 = .bool true := hall 3 (by decide)
            have e4 : v 4 = .bool true := hall 4 (by decide)
            have e5 : v 5 = .agg #[.string nm, .int .i64 (W : Int), .int .i64 (H : Int), .slice A6 n c6] := hall 5 (by decide)
            have e6 : v 6 = .agg #[.string nm, .int .i64 (W : Int), .int .i64 (H : Int), .slice A6 n c6] := hall 6 (by decide)
            have e7 : v 7 = .agg #[.string nm, .int .i64 (W : Int), .int .i64 (H : Int), .slice A n c] := hall 7 (by decide)
            have e8 : v 8 = .bool true := hall 8 (by decide)
            have e9 : v 9 = .bool true := hall 9 (by decide)
            have e10 : v 10 = .bool true := hall 10 (by decide)
            have e11 : v 11 = .int .i64 (EA 4) := hall 11 (by decide)
            have e12 : v 12 = .int .i64 (EA 4) := hall 12 (by decide)
            have e13 : v 13 = .bool true := hall 13 (by decide)
            have e14 : v 14 = .bool true := hall 14 (by decide)
            have e15 : v 15 = .bool true := hall 15 (by decide)
            have e16 : v 16 = .int .i64 (PA 4) := hall 16 (by decide)
            have e17 : v 17 = .int .i64 (PA 4) := hall 17 (by decide)
            have e18 : v 18 = .bool true := hall 18 (by decide)
            have e19 : v 19 = .bool true := hall 19 (by decide)
            have e20 : v 20 = .bool true := hall 20 (by decide)
            have e21 : v 21 = .pointer (some ⟨bV, 0, none⟩) := hall 21 (by decide)
            have e22 : v 22 = .int .i64 (S0) := hall 22 (by decide)
            have e23 : v 23 = .int .i64 (IntKind.i64.wrap (S0 * 16)) := hall 23 (by decide)
            have e24 : v 24 = .pointer (some ⟨bP, 3, none⟩) := hall 24 (by decide)
            have e25 : v 25 = .slice A n c := hall 25 (by decide)
            have e26 : v 26 = .int .i64 ((n : Int)) := hall 26 (by decide)
            have e27 : v 27 = .int .i64 (X0) := hall 27 (by decide)
            have e28 : v 28 = .int .i64 (SA 4) := hall 28 (by decide)
            have e29 : v 29 = .pointer (some ⟨bV, 1, none⟩) := hall 29 (by decide)
            have e30 : v 30 = .int .i64 (D0) := hall 30 (by decide)
            have e31 : v 31 = .int .i64 (X0) := hall 31 (by decide)
            have e32 : v 32 = .bool true := hall 32 (by decide)
            have e33 : v 33 = .bool true := hall 33 (by decide)
            have e34 : v 34 = .bool true := hall 34 (by decide)
            have e35 : v 35 = .bool true := hall 35 (by decide)
            have e36 : v 36 = .bool true := hall 36 (by decide)
            have e37 : v 37 = .bool true := hall 37 (by decide)
            have HB2 := HB.out.trans (hR.mono HB.out.size)
            rw [e37]
            clear hall hR
            go_wp2
            go_ret
            exact ⟨rfl, HB2⟩
end Go.Proofs.YtlicgblagkkcfaaGreatDoor
