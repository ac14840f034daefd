/- The counters that are lost. -/
import Derived.Test.YtkjkjhheckfhbaaGreatDoorPA
import Derived.Test.YtkjkjhheckfhbaaGreatDoorAl
import Derived.Deep.LoopGhost
namespace Go.Proofs.YtkjkjhheckfhbaaGreatDoor
open Go.RowKit
set_option linter.unusedVariables false
attribute [local go_sem] run_neq_struct
theorem info_int_ : (Tryz.prog.info? 3).map (fun i => (i.zero, i.size, i.bytes)) = some (some (.int .i64 0), 1, 8) := by kernel_rfl
def lostErr (l : List Pk) (kind : Int) : Int := firstE [errIf (decide ((l.length : Int) > 1024)) 5, firstPk l, outs kind 0 255]
set_option maxRecDepth 100000 in
theorem lost_bad (A : Option Addr) (cap : Nat) (l : List Pk) (kind : Int) (w : World) (hl : l.length ≤ maxLen) (hr : Rd w A (pksC l)) (he : lostErr l kind ≠ 0) :
    Calls Tryz.prog 66 #[.slice A l.length cap, .int .i64 kind] w fun e w' => e = .returned (.tuple #[.slice none 0 0, .int .i64 (lostErr l kind)]) ∧ Below w.heap.size w w' := by
  unfold maxLen at hl
  have HR := Lib.hid hr; clear hr
  have HE : RowKit.Hid (firstE [errIf (decide ((l.length : Int) > 1024)) 5, firstPk l, outs kind 0 255] = lostErr l kind) := Lib.hid rfl
  obtain ⟨E, hE⟩ : ∃ E, lostErr l kind = E := ⟨_, rfl⟩
  rw [hE] at he HE ⊢
  have hne : (E != 0) = true := by simpa using he
  clear hE
  go_enter Tryz.func66, Tryz.ntmps66
  go_wp2_with fail
  go_step3
  go_wp2_with fail
  refine (errorIf_any _ _ _).mono ?_
  rintro e w' ⟨rfl, rfl⟩
  go_wp2_with fail
  refine (firstOfPk_any A cap l w (by unfold maxLen; omega) HR.out).mono ?_
  rintro e w1 ⟨rfl, hb1⟩
  have HB1 := Lib.hid hb1
  clear hb1
  go_wp2_with fail
  refine (outside_any _ _ _ _).mono ?_
  rintro e w' ⟨rfl, rfl⟩
  go_wp2_with fail
  refine (first_n _ _ _ [errIf _ 5, firstPk l, outs kind 0 255] _ rfl (by simp [maxLen]) (by exact rd_of_blk (Blk.new _ _ _) rfl)).mono ?_
  rintro e w' ⟨rfl, rfl⟩
  rw [show firstE [errIf (decide (1024 < (l.length : Int))) 5, firstPk l, outs kind 0 255] = E from HE.out]
  go_wp2
  rw [Exit.noGoto_ret]
  go_ret2
  exact ⟨rfl, HB1.out.alloc HB1.out.size _⟩
theorem lostErr_zero {l : List Pk} {kind : Int} (h : lostErr l kind = 0) : l.length ≤ 1024 ∧ firstPk l = 0 := by
  have h0 := firstE_zero h
  have a1 := errIf_zero (e := 5) (by decide) (h0 (errIf (decide ((l.length : Int) > 1024)) 5) (by simp))
  have a2 := h0 (firstPk l) (by simp)
  simp at a1
  exact ⟨by omega, a2⟩
def LostEnd (B : Nat) (acc : List Int) (w : World) (e : Ending) (w' : World) : Prop :=
  ((acc.length ≤ 256 ∧ ∃ v, e = .returned (.tuple #[v, .int .i64 0]) ∧ w'.ownsRow B 3 1 v acc.length (acc.map (.int .i64))) ∨ (256 < acc.length ∧ e = .returned (.tuple #[.slice none 0 0, .int .i64 5]))) ∧ Below w.heap.size w w'
theorem own_low {w : World} {B B' : Nat} {e : TypeId} {size : Nat} {v : Value} {n : Nat} {xs : List Value} (h : w.ownsRow B e size v n xs) (hB : B' ≤ B) : w.ownsRow B' e size v n xs := by
  obtain ⟨h1, h2⟩ := h
  refine ⟨h1, ?_⟩
  rcases h2 with h2 | ⟨g, cap, cur, rfl, hb, h3⟩
  · exact .inl h2
  · exact .inr ⟨g, cap, cur, rfl, by omega, h3⟩
/-- What holds at the head of each round over the packets. -/
structure LO (w : World) (g8 : Nat) (l : List Pk) (kind : Int) (i : Nat) (b : Bool) (la : Pk) (acc : List Int) (v : Value) (wx : World) : Prop where
  left : lostF kind l false 0 [] = lostF kind (l.drop i) b la.c acc
  few : acc.length ≤ 256
  lo : 0 ≤ la.c
  hi : la.c ≤ 255
  own : wx.ownsRow (g8 + 1) 3 1 v acc.length (acc.map (.int .i64))
  box : Blk wx g8 92 la.cells.toArray
  bel : Below w.heap.size w wx
theorem blk_set12 {w : World} {g : Nat} {t : TypeId} {x0 x1 x2 x3 x4 x5 x6 x7 x8 x9 x10 x11 y0 y1 y2 y3 y4 y5 y6 y7 y8 y9 y10 y11 : Value} (h : Blk w g t #[x0, x1, x2, x3, x4, x5, x6, x7, x8, x9, x10, x11]) : Blk ((((((((((((w.setCell ⟨g, 0, none⟩ y0).setCell ⟨g, 1, none⟩ y1).setCell ⟨g, 2, none⟩ y2).setCell ⟨g, 3, none⟩ y3).setCell ⟨g, 4, none⟩ y4).setCell ⟨g, 5, none⟩ y5).setCell ⟨g, 6, none⟩ y6).setCell ⟨g, 7, none⟩ y7).setCell ⟨g, 8, none⟩ y8).setCell ⟨g, 9, none⟩ y9).setCell ⟨g, 10, none⟩ y10).setCell ⟨g, 11, none⟩ y11) g t #[y0, y1, y2, y3, y4, y5, y6, y7, y8, y9, y10, y11] := by
  have h' := ((((((((((((h.set_ 0 y0).set_ 1 y1).set_ 2 y2).set_ 3 y3).set_ 4 y4).set_ 5 y5).set_ 6 y6).set_ 7 y7).set_ 8 y8).set_ 9 y9).set_ 10 y10).set_ 11 y11)
  simpa using h'
theorem owns_set12 {w : World} {g B : Nat} {e : TypeId} {size : Nat} {v : Value} {n : Nat} {zs : List Value} (h : w.ownsRow B e size v n zs) (hg : g < B) (y0 y1 y2 y3 y4 y5 y6 y7 y8 y9 y10 y11 : Value) : ((((((((((((w.setCell ⟨g, 0, none⟩ y0).setCell ⟨g, 1, none⟩ y1).setCell ⟨g, 2, none⟩ y2).setCell ⟨g, 3, none⟩ y3).setCell ⟨g, 4, none⟩ y4).setCell ⟨g, 5, none⟩ y5).setCell ⟨g, 6, none⟩ y6).setCell ⟨g, 7, none⟩ y7).setCell ⟨g, 8, none⟩ y8).setCell ⟨g, 9, none⟩ y9).setCell ⟨g, 10, none⟩ y10).setCell ⟨g, 11, none⟩ y11).ownsRow B e size v n zs :=
  (owns_far (owns_far (owns_far (owns_far (owns_far (owns_far (owns_far (owns_far (owns_far (owns_far (owns_far (owns_far h (p := ⟨g, 0, none⟩) hg y0) (p := ⟨g, 1, none⟩) hg y1) (p := ⟨g, 2, none⟩) hg y2) (p := ⟨g, 3, none⟩) hg y3) (p := ⟨g, 4, none⟩) hg y4) (p := ⟨g, 5, none⟩) hg y5) (p := ⟨g, 6, none⟩) hg y6) (p := ⟨g, 7, none⟩) hg y7) (p := ⟨g, 8, none⟩) hg y8) (p := ⟨g, 9, none⟩) hg y9) (p := ⟨g, 10, none⟩) hg y10) (p := ⟨g, 11, none⟩) hg y11)
theorem below_set12 {w0 w : World} {g B : Nat} (h : Below B w0 w) (hg : B ≤ g) (y0 y1 y2 y3 y4 y5 y6 y7 y8 y9 y10 y11 : Value) : Below B w0 ((((((((((((w.setCell ⟨g, 0, none⟩ y0).setCell ⟨g, 1, none⟩ y1).setCell ⟨g, 2, none⟩ y2).setCell ⟨g, 3, none⟩ y3).setCell ⟨g, 4, none⟩ y4).setCell ⟨g, 5, none⟩ y5).setCell ⟨g, 6, none⟩ y6).setCell ⟨g, 7, none⟩ y7).setCell ⟨g, 8, none⟩ y8).setCell ⟨g, 9, none⟩ y9).setCell ⟨g, 10, none⟩ y10).setCell ⟨g, 11, none⟩ y11) :=
  ((((((((((((h.setCell (p := ⟨g, 0, none⟩) hg y0).setCell (p := ⟨g, 1, none⟩) hg y1).setCell (p := ⟨g, 2, none⟩) hg y2).setCell (p := ⟨g, 3, none⟩) hg y3).setCell (p := ⟨g, 4, none⟩) hg y4).setCell (p := ⟨g, 5, none⟩) hg y5).setCell (p := ⟨g, 6, none⟩) hg y6).setCell (p := ⟨g, 7, none⟩) hg y7).setCell (p := ⟨g, 8, none⟩) hg y8).setCell (p := ⟨g, 9, none⟩) hg y9).setCell (p := ⟨g, 10, none⟩) hg y10).setCell (p := ⟨g, 11, none⟩) hg y11)
theorem blk_far12 {w : World} {g k : Nat} {t : TypeId} {cs : Array Value} (h : Blk w k t cs) (hg : k ≠ g) (y0 y1 y2 y3 y4 y5 y6 y7 y8 y9 y10 y11 : Value) : Blk ((((((((((((w.setCell ⟨g, 0, none⟩ y0).setCell ⟨g, 1, none⟩ y1).setCell ⟨g, 2, none⟩ y2).setCell ⟨g, 3, none⟩ y3).setCell ⟨g, 4, none⟩ y4).setCell ⟨g, 5, none⟩ y5).setCell ⟨g, 6, none⟩ y6).setCell ⟨g, 7, none⟩ y7).setCell ⟨g, 8, none⟩ y8).setCell ⟨g, 9, none⟩ y9).setCell ⟨g, 10, none⟩ y10).setCell ⟨g, 11, none⟩ y11) k t cs :=
  ((((((((((((h.far (p := ⟨g, 0, none⟩) hg y0).far (p := ⟨g, 1, none⟩) hg y1).far (p := ⟨g, 2, none⟩) hg y2).far (p := ⟨g, 3, none⟩) hg y3).far (p := ⟨g, 4, none⟩) hg y4).far (p := ⟨g, 5, none⟩) hg y5).far (p := ⟨g, 6, none⟩) hg y6).far (p := ⟨g, 7, none⟩) hg y7).far (p := ⟨g, 8, none⟩) hg y8).far (p := ⟨g, 9, none⟩) hg y9).far (p := ⟨g, 10, none⟩) hg y10).far (p := ⟨g, 11, none⟩) hg y11)
theorem owns_far2 {W : World} {B : Nat} {e : TypeId} {size : Nat} {v : Value} {n : Nat} {xs : List Value} (h : W.ownsRow B e size v n xs) {p : Addr} (hp : v.ownBlock ≠ some p.block) (u : Value) : (W.setCell p u).ownsRow B e size v n xs := by
  obtain ⟨h1, h2⟩ := h
  refine ⟨h1, ?_⟩
  rcases h2 with h2 | ⟨g, cap, cur, rfl, hb, hc, h3⟩
  · exact .inl h2
  · exact .inr ⟨g, cap, cur, rfl, hb, (Below.heap_setCell W p u g (fun e => hp (by rw [← e]; rfl))).trans hc, h3⟩
theorem owns_apart12 {w : World} {g B : Nat} {e : TypeId} {size : Nat} {v : Value} {n : Nat} {zs : List Value} (h : w.ownsRow B e size v n zs) (hg : v.ownBlock ≠ some g) (y0 y1 y2 y3 y4 y5 y6 y7 y8 y9 y10 y11 : Value) : ((((((((((((w.setCell ⟨g, 0, none⟩ y0).setCell ⟨g, 1, none⟩ y1).setCell ⟨g, 2, none⟩ y2).setCell ⟨g, 3, none⟩ y3).setCell ⟨g, 4, none⟩ y4).setCell ⟨g, 5, none⟩ y5).setCell ⟨g, 6, none⟩ y6).setCell ⟨g, 7, none⟩ y7).setCell ⟨g, 8, none⟩ y8).setCell ⟨g, 9, none⟩ y9).setCell ⟨g, 10, none⟩ y10).setCell ⟨g, 11, none⟩ y11).ownsRow B e size v n zs :=
  (owns_far2 (owns_far2 (owns_far2 (owns_far2 (owns_far2 (owns_far2 (owns_far2 (owns_far2 (owns_far2 (owns_far2 (owns_far2 (owns_far2 h (p := ⟨g, 0, none⟩) hg y0) (p := ⟨g, 1, none⟩) hg y1) (p := ⟨g, 2, none⟩) hg y2) (p := ⟨g, 3, none⟩) hg y3) (p := ⟨g, 4, none⟩) hg y4) (p := ⟨g, 5, none⟩) hg y5) (p := ⟨g, 6, none⟩) hg y6) (p := ⟨g, 7, none⟩) hg y7) (p := ⟨g, 8, none⟩) hg y8) (p := ⟨g, 9, none⟩) hg y9) (p := ⟨g, 10, none⟩) hg y10) (p := ⟨g, 11, none⟩) hg y11)
/-- What holds at the head of each round over the counters. -/
structure LI (w : World) (g8 gp gd : Nat) (la p : Pk) (acc : List Int) (m : Nat) (c : Int) (acc' : List Int) (v : Value) (wy : World) : Prop where
  due : dueF 256 ((la.c + 1) % 256) p.c acc = dueF m c p.c acc'
  steps : stepsTo c p.c < m
  few : acc'.length ≤ 256
  lo : 0 ≤ c
  hi : c ≤ 255
  own : wy.ownsRow (g8 + 1) 3 1 v acc'.length (acc'.map (.int .i64))
  row : ∀ r, v.ownBlock = some r → r ≠ gp ∧ r ≠ gd
  h1 : g8 < gp
  h2 : gp < gd
  b8 : Blk wy g8 92 #[.int .i64 la.k, .int .i64 la.c, .int .u8 la.d0, .int .u8 la.d1, .int .u8 la.d2, .int .u8 la.d3, .int .u8 la.d4, .int .u8 la.d5, .int .u8 la.d6, .int .u8 la.d7, .int .u8 la.d8, .int .u8 la.d9]
  bp : Blk wy gp 92 #[.int .i64 p.k, .int .i64 p.c, .int .u8 p.d0, .int .u8 p.d1, .int .u8 p.d2, .int .u8 p.d3, .int .u8 p.d4, .int .u8 p.d5, .int .u8 p.d6, .int .u8 p.d7, .int .u8 p.d8, .int .u8 p.d9]
  bd : Blk wy gd 92 #[.int .i64 p.k, .int .i64 c, .int .u8 p.d0, .int .u8 p.d1, .int .u8 p.d2, .int .u8 p.d3, .int .u8 p.d4, .int .u8 p.d5, .int .u8 p.d6, .int .u8 p.d7, .int .u8 p.d8, .int .u8 p.d9]
  bel : Below w.heap.size w wy
set_option maxRecDepth 100000 in
set_option maxHeartbeats 2000000 in
theorem lost_good (A : Option Addr) (cap : Nat) (l : List Pk) (kind : Int) (w : World) (hl : l.length ≤ maxLen) (hr : Rd w A (pksC l)) (he : lostErr l kind = 0) :
    Calls Tryz.prog 66 #[.slice A l.length cap, .int .i64 kind] w fun e w' => LostEnd w.heap.size (lostF kind l false 0 []) w e w' := by
  unfold maxLen at hl
  obtain ⟨i0, hi, hz0, hz1, hz2⟩ := info_parts info_int_
  have HR := Lib.hid hr; clear hr
  obtain ⟨hn4, hf⟩ := lostErr_zero he
  have HPB := Lib.hid (pk_bounds hf)
  have HE : RowKit.Hid (firstE [errIf (decide ((l.length : Int) > 1024)) 5, firstPk l, outs kind 0 255] = 0) := Lib.hid he
  clear he hf
  obtain ⟨n, hn⟩ : ∃ n, l.length = n := ⟨_, rfl⟩
  have HN := Lib.hid hn
  have hfo := firstOfPk_any A cap l
  rw [hn] at hl hn4 HE hfo ⊢
  have HFO := Lib.hid hfo
  clear hn hfo
  go_enter Tryz.func66, Tryz.ntmps66
  go_wp2_with fail
  go_step3
  go_wp2_with fail
  refine (errorIf_any _ _ _).mono ?_
  rintro e w' ⟨rfl, rfl⟩
  go_wp2_with fail
  refine (HFO.out w (by unfold maxLen; omega) HR.out).mono ?_
  rintro e w1 ⟨rfl, hb1⟩
  have HB1 := Lib.hid hb1
  clear hb1
  go_wp2_with fail
  refine (outside_any _ _ _ _).mono ?_
  rintro e w' ⟨rfl, rfl⟩
  go_wp2_with fail
  refine (first_n _ _ _ [errIf _ 5, firstPk l, outs kind 0 255] _ rfl (by simp [maxLen]) (by exact rd_of_blk (Blk.new _ _ _) rfl)).mono ?_
  rintro e w' ⟨rfl, rfl⟩
  rw [show firstE [errIf (decide (1024 < (n : Int))) 5, firstPk l, outs kind 0 255] = 0 from HE.out]
  go_wp2
  have hbx := Blk.new (w1.alloc (.cells #[.int .i64 (errIf (decide (1024 < (n : Int))) 5), .int .i64 (firstPk l), .int .i64 (outs kind 0 255)] 26)) 92 #[.int .i64 0, .int .i64 0, .int .u8 0, .int .u8 0, .int .u8 0, .int .u8 0, .int .u8 0, .int .u8 0, .int .u8 0, .int .u8 0, .int .u8 0, .int .u8 0]
  simp only [World.size_alloc] at hbx
  have hb5 := (HB1.out.alloc HB1.out.size (.cells #[.int .i64 (errIf (decide (1024 < (n : Int))) 5), .int .i64 (firstPk l), .int .i64 (outs kind 0 255)] 26)).alloc (by have := HB1.out.size; simp only [World.size_alloc]; omega) (.cells #[.int .i64 0, .int .i64 0, .int .u8 0, .int .u8 0, .int .u8 0, .int .u8 0, .int .u8 0, .int .u8 0, .int .u8 0, .int .u8 0, .int .u8 0, .int .u8 0] 92)
  have hg8' : w.heap.size < w1.heap.size + 1 := by have := HB1.out.size; omega
  generalize (w1.alloc (.cells #[.int .i64 (errIf (decide (1024 < (n : Int))) 5), .int .i64 (firstPk l), .int .i64 (outs kind 0 255)] 26)).alloc (.cells #[.int .i64 0, .int .i64 0, .int .u8 0, .int .u8 0, .int .u8 0, .int .u8 0, .int .u8 0, .int .u8 0, .int .u8 0, .int .u8 0, .int .u8 0, .int .u8 0] 92) = W5 at hbx hb5 ⊢
  obtain ⟨g8, hg8⟩ : ∃ g, w1.heap.size + 1 = g := ⟨_, rfl⟩
  rw [hg8] at hbx hg8' ⊢
  clear hg8 HB1
  have hst : LO w g8 l kind 0 false pk0 [] (.slice none 0 0) W5 := ⟨rfl, Nat.zero_le _, Int.le_refl _, by decide, World.ownsRow_nil _ _ _ _, hbx, hb5⟩
  have HST := Lib.hid hst
  clear hst hbx hb5 HE HFO
  go_step3
  go_wp2
  go_loopg [7, 9, 28] n (fun g s7 s9 s28 wx => ∃ (i : Nat) (b : Bool) (la : Pk) (acc : List Int), i + g = n ∧ s28 = .int .i64 i ∧ s9 = .bool b ∧ RowKit.Hid (LO w g8 l kind i b la acc s7 wx))
  case atStart => exact ⟨0, false, pk0, [], by omega, rfl, rfl, HST⟩
  case round =>
    obtain ⟨i, b, la, acc, hig, rfl, rfl, HLO⟩ := hrel
    cases gk with
    | zero =>
      have hin : ¬ ((i : Int) < (n : Int)) := by omega
      have hlt : l.length ≤ i := by rw [HN.out]; omega
      have hfew := HLO.out.few
      obtain ⟨A7, c7, rfl⟩ := own_shape HLO.out.own
      have h256 : decide (256 < (acc.length : Int)) = false := by simp; omega
      go_wp2
      go_ret2
      have hle := HLO.out.left
      rw [List.drop_of_length_le hlt] at hle
      have hle' : lostF kind l false 0 [] = acc := hle
      rw [hle']
      exact ⟨.inl ⟨hfew, _, rfl, own_low HLO.out.own (by omega)⟩, HLO.out.bel⟩
    | succ g =>
      have hin : (i : Int) < (n : Int) := by omega
      have g1 : i < l.length := by rw [HN.out]; omega
      obtain ⟨p, hp⟩ : ∃ p, l[i] = p := ⟨_, rfl⟩
      have hpm : p ∈ l := by rw [← hp]; exact List.getElem_mem g1
      have hpb := HPB.out p hpm
      have Hdr := Lib.hid (show l.drop i = p :: l.drop (i + 1) by rw [List.drop_eq_getElem_cons g1, hp])
      have hat : ∀ j v, p.cells[j]? = some v → (pksC l)[i * 12 + j]? = some v := fun j v hv => pksC_at g1 j v (by rw [hp]; exact hv)
      obtain ⟨ad, rfl, hbl, hcc⟩ := (HR.out.below HLO.out.bel) (by rw [pksC_len]; omega)
      have hcx : ∀ j v, p.cells[j]? = some v → wr.cell? ((ad.add (i * 12)).add j) = some v := fun j v hv => by
        rw [Addr.add_add]; exact hcc _ _ (hat j v hv)
      have q0 : wr.cell? (ad.add (i * 12)) = some (.int .i64 p.k) := by
        have h := hcx 0 _ rfl
        rwa [Addr.add_add] at h
      have q1 : wr.cell? ⟨(ad.add (i * 12)).block, (ad.add (i * 12)).off + 1, none⟩ = some (.int .i64 p.c) := hcx 1 _ rfl
      have q2 : wr.cell? ⟨(ad.add (i * 12)).block, (ad.add (i * 12)).off + 2, none⟩ = some (.int .u8 p.d0) := hcx 2 _ rfl
      have q3 : wr.cell? ⟨(ad.add (i * 12)).block, (ad.add (i * 12)).off + 3, none⟩ = some (.int .u8 p.d1) := hcx 3 _ rfl
      have q4 : wr.cell? ⟨(ad.add (i * 12)).block, (ad.add (i * 12)).off + 4, none⟩ = some (.int .u8 p.d2) := hcx 4 _ rfl
      have q5 : wr.cell? ⟨(ad.add (i * 12)).block, (ad.add (i * 12)).off + 5, none⟩ = some (.int .u8 p.d3) := hcx 5 _ rfl
      have q6 : wr.cell? ⟨(ad.add (i * 12)).block, (ad.add (i * 12)).off + 6, none⟩ = some (.int .u8 p.d4) := hcx 6 _ rfl
      have q7 : wr.cell? ⟨(ad.add (i * 12)).block, (ad.add (i * 12)).off + 7, none⟩ = some (.int .u8 p.d5) := hcx 7 _ rfl
      have q8 : wr.cell? ⟨(ad.add (i * 12)).block, (ad.add (i * 12)).off + 8, none⟩ = some (.int .u8 p.d6) := hcx 8 _ rfl
      have q9 : wr.cell? ⟨(ad.add (i * 12)).block, (ad.add (i * 12)).off + 9, none⟩ = some (.int .u8 p.d7) := hcx 9 _ rfl
      have q10 : wr.cell? ⟨(ad.add (i * 12)).block, (ad.add (i * 12)).off + 10, none⟩ = some (.int .u8 p.d8) := hcx 10 _ rfl
      have q11 : wr.cell? ⟨(ad.add (i * 12)).block, (ad.add (i * 12)).off + 11, none⟩ = some (.int .u8 p.d9) := hcx 11 _ rfl
      have z0 : ad.block < wr.heap.size := hbl
      have z8 : g8 < wr.heap.size := HLO.out.box.lt
      clear hcc hcx hat hp hpm
      have hgp : wr.heap.size = wr.heap.size := rfl
      by_cases hk : p.k = kind
      · have hk2 : (p.k != kind) = false := by simp [hk]
        have HK := Lib.hid hk
        clear hk
        go_upto_region 11 with fail
        have hbp := Blk.new wr 92 #[.int .i64 p.k, .int .i64 p.c, .int .u8 p.d0, .int .u8 p.d1, .int .u8 p.d2, .int .u8 p.d3, .int .u8 p.d4, .int .u8 p.d5, .int .u8 p.d6, .int .u8 p.d7, .int .u8 p.d8, .int .u8 p.d9]
        have h8 := HLO.out.box.alloc (.cells #[.int .i64 p.k, .int .i64 p.c, .int .u8 p.d0, .int .u8 p.d1, .int .u8 p.d2, .int .u8 p.d3, .int .u8 p.d4, .int .u8 p.d5, .int .u8 p.d6, .int .u8 p.d7, .int .u8 p.d8, .int .u8 p.d9] 92)
        have hown := HLO.out.own.alloc (.cells #[.int .i64 p.k, .int .i64 p.c, .int .u8 p.d0, .int .u8 p.d1, .int .u8 p.d2, .int .u8 p.d3, .int .u8 p.d4, .int .u8 p.d5, .int .u8 p.d6, .int .u8 p.d7, .int .u8 p.d8, .int .u8 p.d9] 92)
        have hbel := HLO.out.bel.alloc HLO.out.bel.size (.cells #[.int .i64 p.k, .int .i64 p.c, .int .u8 p.d0, .int .u8 p.d1, .int .u8 p.d2, .int .u8 p.d3, .int .u8 p.d4, .int .u8 p.d5, .int .u8 p.d6, .int .u8 p.d7, .int .u8 p.d8, .int .u8 p.d9] 92)
        have hrb := owns_block HLO.out.own
        obtain ⟨gp, hgp⟩ : ∃ g, wr.heap.size = g := ⟨_, rfl⟩
        rw [hgp] at hbp hrb z0 z8 ⊢
        have Hrow : RowKit.Hid (∀ r, u7.ownBlock = some r → r < gp) := Lib.hid (fun r hr => (hrb r hr).2.1)
        have Hleft := Lib.hid HLO.out.left
        have hfew := HLO.out.few
        have hlo := HLO.out.lo
        have hhi := HLO.out.hi
        clear hgp q0 q1 q2 q3 q4 q5 q6 q7 q8 q9 q10 q11 hbl HLO hrb
        generalize wr.alloc (.cells #[.int .i64 p.k, .int .i64 p.c, .int .u8 p.d0, .int .u8 p.d1, .int .u8 p.d2, .int .u8 p.d3, .int .u8 p.d4, .int .u8 p.d5, .int .u8 p.d6, .int .u8 p.d7, .int .u8 p.d8, .int .u8 p.d9] 92) = wp at hbp h8 hown hbel ⊢
        have zp := hbp.lt
        have zp8 := h8.lt
        have p0 := hbp.cell 0
        have l0 := h8.cell 0
        have p1 := hbp.cell 1
        have l1 := h8.cell 1
        have p2 := hbp.cell 2
        have l2 := h8.cell 2
        have p3 := hbp.cell 3
        have l3 := h8.cell 3
        have p4 := hbp.cell 4
        have l4 := h8.cell 4
        have p5 := hbp.cell 5
        have l5 := h8.cell 5
        have p6 := hbp.cell 6
        have l6 := h8.cell 6
        have p7 := hbp.cell 7
        have l7 := h8.cell 7
        have p8 := hbp.cell 8
        have l8 := h8.cell 8
        have p9 := hbp.cell 9
        have l9 := h8.cell 9
        have p10 := hbp.cell 10
        have l10 := h8.cell 10
        have p11 := hbp.cell 11
        have l11 := h8.cell 11
        unfold Pk.cells at l0 l1 l2 l3 l4 l5 l6 l7 l8 l9 l10 l11
        simp only [List.getElem?_toArray, List.getElem?_cons_zero, List.getElem?_cons_succ] at p0 l0 p1 l1 p2 l2 p3 l3 p4 l4 p5 l5 p6 l6 p7 l7 p8 l8 p9 l9 p10 l10 p11 l11
        have HBP := Lib.hid hbp; have H8 := Lib.hid h8; have HOWN := Lib.hid hown; have HBEL := Lib.hid hbel
        clear hbp h8 hown hbel
        go_wp2_with fail
        refine (following_any la.k la.c p.k p.c la.d0 la.d1 la.d2 la.d3 la.d4 la.d5 la.d6 la.d7 la.d8 la.d9 p.d0 p.d1 p.d2 p.d3 p.d4 p.d5 p.d6 p.d7 p.d8 p.d9 ⟨hlo, by omega⟩ _).mono ?_
        rintro e w3 ⟨rfl, hb3⟩
        have hbp := HBP.out.below hb3
        have h8 := H8.out.below hb3
        have hown := owns_below HOWN.out hb3
        have hbel := HBEL.out.trans (hb3.mono HBEL.out.size)
        clear p0 l0 p1 l1 p2 l2 p3 l3 p4 l4 p5 l5 p6 l6 p7 l7 p8 l8 p9 l9 p10 l10 p11 l11 HBP H8 HOWN HBEL hb3
        go_wp2
        have hbd := Blk.new w3 92 #[.int .i64 p.k, .int .i64 ((la.c + 1) % 256), .int .u8 p.d0, .int .u8 p.d1, .int .u8 p.d2, .int .u8 p.d3, .int .u8 p.d4, .int .u8 p.d5, .int .u8 p.d6, .int .u8 p.d7, .int .u8 p.d8, .int .u8 p.d9]
        have hbp2 := hbp.alloc (.cells #[.int .i64 p.k, .int .i64 ((la.c + 1) % 256), .int .u8 p.d0, .int .u8 p.d1, .int .u8 p.d2, .int .u8 p.d3, .int .u8 p.d4, .int .u8 p.d5, .int .u8 p.d6, .int .u8 p.d7, .int .u8 p.d8, .int .u8 p.d9] 92)
        have h82 := h8.alloc (.cells #[.int .i64 p.k, .int .i64 ((la.c + 1) % 256), .int .u8 p.d0, .int .u8 p.d1, .int .u8 p.d2, .int .u8 p.d3, .int .u8 p.d4, .int .u8 p.d5, .int .u8 p.d6, .int .u8 p.d7, .int .u8 p.d8, .int .u8 p.d9] 92)
        have hown2 := hown.alloc (.cells #[.int .i64 p.k, .int .i64 ((la.c + 1) % 256), .int .u8 p.d0, .int .u8 p.d1, .int .u8 p.d2, .int .u8 p.d3, .int .u8 p.d4, .int .u8 p.d5, .int .u8 p.d6, .int .u8 p.d7, .int .u8 p.d8, .int .u8 p.d9] 92)
        have hbel2 := hbel.alloc hbel.size (.cells #[.int .i64 p.k, .int .i64 ((la.c + 1) % 256), .int .u8 p.d0, .int .u8 p.d1, .int .u8 p.d2, .int .u8 p.d3, .int .u8 p.d4, .int .u8 p.d5, .int .u8 p.d6, .int .u8 p.d7, .int .u8 p.d8, .int .u8 p.d9] 92)
        have zp3 := hbp.lt
        obtain ⟨gd, hgd⟩ : ∃ g, w3.heap.size = g := ⟨_, rfl⟩
        rw [hgd] at hbd zp3 ⊢
        clear hgd hbp h8 hown hbel
        generalize w3.alloc (.cells #[.int .i64 p.k, .int .i64 ((la.c + 1) % 256), .int .u8 p.d0, .int .u8 p.d1, .int .u8 p.d2, .int .u8 p.d3, .int .u8 p.d4, .int .u8 p.d5, .int .u8 p.d6, .int .u8 p.d7, .int .u8 p.d8, .int .u8 p.d9] 92) = wd at hbd hbp2 h82 hown2 hbel2 ⊢
        have HLI : RowKit.Hid (LI w g8 gp gd la p acc 256 ((la.c + 1) % 256) acc u7 wd) := Lib.hid ⟨rfl, stepsTo_lt _ _, hfew, by omega, by omega, hown2, fun r hr => by have := Hrow.out r hr; omega, by omega, zp3, h82, hbp2, hbd, hbel2⟩
        clear hbd hbp2 h82 hown2 hbel2 Hrow
        cases b with
        | false =>
          go_loopg [7, 12] 1 (fun g2 s7 s12 wy => s7 = u7 ∧ s12 = .pointer (some ⟨gd, 0, none⟩) ∧ wd = wy)
          case atStart => exact ⟨rfl, rfl, rfl⟩
          case round =>
            obtain ⟨rfl, rfl, rfl⟩ := hrel
            have p0 := HLI.out.bp.cell 0
            have p1 := HLI.out.bp.cell 1
            have p2 := HLI.out.bp.cell 2
            have p3 := HLI.out.bp.cell 3
            have p4 := HLI.out.bp.cell 4
            have p5 := HLI.out.bp.cell 5
            have p6 := HLI.out.bp.cell 6
            have p7 := HLI.out.bp.cell 7
            have p8 := HLI.out.bp.cell 8
            have p9 := HLI.out.bp.cell 9
            have p10 := HLI.out.bp.cell 10
            have p11 := HLI.out.bp.cell 11
            simp only [List.getElem?_toArray, List.getElem?_cons_zero, List.getElem?_cons_succ] at p0 p1 p2 p3 p4 p5 p6 p7 p8 p9 p10 p11
            have l0 := HLI.out.b8.cell 0
            have l1 := HLI.out.b8.cell 1
            have l2 := HLI.out.b8.cell 2
            have l3 := HLI.out.b8.cell 3
            have l4 := HLI.out.b8.cell 4
            have l5 := HLI.out.b8.cell 5
            have l6 := HLI.out.b8.cell 6
            have l7 := HLI.out.b8.cell 7
            have l8 := HLI.out.b8.cell 8
            have l9 := HLI.out.b8.cell 9
            have l10 := HLI.out.b8.cell 10
            have l11 := HLI.out.b8.cell 11
            simp only [List.getElem?_toArray, List.getElem?_cons_zero, List.getElem?_cons_succ] at l0 l1 l2 l3 l4 l5 l6 l7 l8 l9 l10 l11
            have lf0 := HLI.out.b8.frozen 0
            have lf1 := HLI.out.b8.frozen 1
            have lf2 := HLI.out.b8.frozen 2
            have lf3 := HLI.out.b8.frozen 3
            have lf4 := HLI.out.b8.frozen 4
            have lf5 := HLI.out.b8.frozen 5
            have lf6 := HLI.out.b8.frozen 6
            have lf7 := HLI.out.b8.frozen 7
            have lf8 := HLI.out.b8.frozen 8
            have lf9 := HLI.out.b8.frozen 9
            have lf10 := HLI.out.b8.frozen 10
            have lf11 := HLI.out.b8.frozen 11
            have zl := HLI.out.b8.lt
            go_wp2
            go_roundg g
            case measure => omega
            case rel =>
              refine ⟨i + 1, true, p, acc, by omega, by go_num, rfl, Lib.hid ?_⟩
              have h := HLI.out
              refine ⟨?_, hfew, hpb.1, hpb.2, owns_set12 h.own (by omega) (.int .i64 p.k) (.int .i64 p.c) (.int .u8 p.d0) (.int .u8 p.d1) (.int .u8 p.d2) (.int .u8 p.d3) (.int .u8 p.d4) (.int .u8 p.d5) (.int .u8 p.d6) (.int .u8 p.d7) (.int .u8 p.d8) (.int .u8 p.d9), blk_set12 h.b8, below_set12 h.bel (by omega) (.int .i64 p.k) (.int .i64 p.c) (.int .u8 p.d0) (.int .u8 p.d1) (.int .u8 p.d2) (.int .u8 p.d3) (.int .u8 p.d4) (.int .u8 p.d5) (.int .u8 p.d6) (.int .u8 p.d7) (.int .u8 p.d8) (.int .u8 p.d9)⟩
              rw [Hleft.out, Hdr.out, lostF_first HK.out]
        | true =>
          go_loopg [7, 12] 256 (fun g2 s7 s12 wy => ∃ (gd : Nat) (c : Int) (acc' : List Int), s12 = .pointer (some ⟨gd, 0, none⟩) ∧ RowKit.Hid (LI w g8 gp gd la p acc g2 c acc' s7 wy))
          case atStart => exact ⟨gd, _, acc, rfl, HLI⟩
          case round =>
            clear HLI zp3
            obtain ⟨gd, c, acc', rfl, HLI⟩ := hrel
            have p0 := HLI.out.bp.cell 0
            have p1 := HLI.out.bp.cell 1
            have p2 := HLI.out.bp.cell 2
            have p3 := HLI.out.bp.cell 3
            have p4 := HLI.out.bp.cell 4
            have p5 := HLI.out.bp.cell 5
            have p6 := HLI.out.bp.cell 6
            have p7 := HLI.out.bp.cell 7
            have p8 := HLI.out.bp.cell 8
            have p9 := HLI.out.bp.cell 9
            have p10 := HLI.out.bp.cell 10
            have p11 := HLI.out.bp.cell 11
            simp only [List.getElem?_toArray, List.getElem?_cons_zero, List.getElem?_cons_succ] at p0 p1 p2 p3 p4 p5 p6 p7 p8 p9 p10 p11
            have l0 := HLI.out.b8.cell 0
            have l1 := HLI.out.b8.cell 1
            have l2 := HLI.out.b8.cell 2
            have l3 := HLI.out.b8.cell 3
            have l4 := HLI.out.b8.cell 4
            have l5 := HLI.out.b8.cell 5
            have l6 := HLI.out.b8.cell 6
            have l7 := HLI.out.b8.cell 7
            have l8 := HLI.out.b8.cell 8
            have l9 := HLI.out.b8.cell 9
            have l10 := HLI.out.b8.cell 10
            have l11 := HLI.out.b8.cell 11
            simp only [List.getElem?_toArray, List.getElem?_cons_zero, List.getElem?_cons_succ] at l0 l1 l2 l3 l4 l5 l6 l7 l8 l9 l10 l11
            have lf0 := HLI.out.b8.frozen 0
            have lf1 := HLI.out.b8.frozen 1
            have lf2 := HLI.out.b8.frozen 2
            have lf3 := HLI.out.b8.frozen 3
            have lf4 := HLI.out.b8.frozen 4
            have lf5 := HLI.out.b8.frozen 5
            have lf6 := HLI.out.b8.frozen 6
            have lf7 := HLI.out.b8.frozen 7
            have lf8 := HLI.out.b8.frozen 8
            have lf9 := HLI.out.b8.frozen 9
            have lf10 := HLI.out.b8.frozen 10
            have lf11 := HLI.out.b8.frozen 11
            have d0 := HLI.out.bd.cell 0
            have d1 := HLI.out.bd.cell 1
            have d2 := HLI.out.bd.cell 2
            have d3 := HLI.out.bd.cell 3
            have d4 := HLI.out.bd.cell 4
            have d5 := HLI.out.bd.cell 5
            have d6 := HLI.out.bd.cell 6
            have d7 := HLI.out.bd.cell 7
            have d8 := HLI.out.bd.cell 8
            have d9 := HLI.out.bd.cell 9
            have d10 := HLI.out.bd.cell 10
            have d11 := HLI.out.bd.cell 11
            simp only [List.getElem?_toArray, List.getElem?_cons_zero, List.getElem?_cons_succ] at d0 d1 d2 d3 d4 d5 d6 d7 d8 d9 d10 d11
            have zl := HLI.out.b8.lt
            have zp' := HLI.out.bp.lt
            have zd := HLI.out.bd.lt
            have hst := HLI.out.steps
            have hfew' := HLI.out.few
            have hclo := HLI.out.lo
            have hchi := HLI.out.hi
            have hgg := HLI.out.h1
            have hgg2 := HLI.out.h2
            cases gk with
            | zero => exact absurd hst (by omega)
            | succ m =>
              by_cases hc : c = p.c
              · have hr := run_equalIn_packet ⟨p.k, c, p.d0, p.d1, p.d2, p.d3, p.d4, p.d5, p.d6, p.d7, p.d8, p.d9⟩ p wr
                have hq : pkEq ⟨p.k, c, p.d0, p.d1, p.d2, p.d3, p.d4, p.d5, p.d6, p.d7, p.d8, p.d9⟩ p = true := by simp [pkEq, hc, Pk.data]
                rw [hq] at hr
                have hr2 : (Op.equalIn 9999 87 (.agg #[.int .u8 p.d0, .int .u8 p.d1, .int .u8 p.d2, .int .u8 p.d3, .int .u8 p.d4, .int .u8 p.d5, .int .u8 p.d6, .int .u8 p.d7, .int .u8 p.d8, .int .u8 p.d9]) (.agg #[.int .u8 p.d0, .int .u8 p.d1, .int .u8 p.d2, .int .u8 p.d3, .int .u8 p.d4, .int .u8 p.d5, .int .u8 p.d6, .int .u8 p.d7, .int .u8 p.d8, .int .u8 p.d9])).run Tryz.prog wr = .ok true wr := by
                  have h2 := run_equalIn_data p p 9997 wr
                  rw [decide_eq_true rfl] at h2
                  exact h2
                have hcc : (c == p.c) = true := by simp [hc]
                have HC := Lib.hid hc
                clear hc hq hr
                go_wp2
                go_roundg g
                case measure => omega
                case rel =>
                  refine ⟨i + 1, true, p, acc', by omega, by go_num, rfl, Lib.hid ?_⟩
                  have h := HLI.out
                  refine ⟨?_, h.few, hpb.1, hpb.2, owns_set12 h.own (by omega) (.int .i64 p.k) (.int .i64 p.c) (.int .u8 p.d0) (.int .u8 p.d1) (.int .u8 p.d2) (.int .u8 p.d3) (.int .u8 p.d4) (.int .u8 p.d5) (.int .u8 p.d6) (.int .u8 p.d7) (.int .u8 p.d8) (.int .u8 p.d9), blk_set12 h.b8, below_set12 h.bel (by omega) (.int .i64 p.k) (.int .i64 p.c) (.int .u8 p.d0) (.int .u8 p.d1) (.int .u8 p.d2) (.int .u8 p.d3) (.int .u8 p.d4) (.int .u8 p.d5) (.int .u8 p.d6) (.int .u8 p.d7) (.int .u8 p.d8) (.int .u8 p.d9)⟩
                  have hdu := h.due
                  rw [HC.out, dueF_end] at hdu
                  rw [Hleft.out, Hdr.out, lostF_next HK.out hdu]
              · have hr := run_equalIn_packet ⟨p.k, c, p.d0, p.d1, p.d2, p.d3, p.d4, p.d5, p.d6, p.d7, p.d8, p.d9⟩ p wr
                have hq : pkEq ⟨p.k, c, p.d0, p.d1, p.d2, p.d3, p.d4, p.d5, p.d6, p.d7, p.d8, p.d9⟩ p = false := by simp [pkEq, hc]
                rw [hq] at hr
                have HC := Lib.hid hc
                clear hc hq
                have HNB := Lib.hid (heap_alloc_new wr (.cells #[.int .i64 c] 3))
                go_upto_region 15 with (at_builtin; go_must (refine wpList_append_own_at _ (by rfl) (.tmp 48) (.tmp 51) 25 (by rfl) (g8 + 1) 3 i0 (.int .i64 0) 1 8 Tryz.underlying25 hi hz0 hz1 hz2 (by rfl) (by decide) _ acc'.length (acc'.map (.int .i64)) (by rfl) (HLI.out.own.alloc _) ⟨wr.heap.size, 0, none⟩ 1 1 [.int .i64 c] rfl rfl (World.news_of_block HNB.out) (by simp [Value.oneCell']) (by unfold maxLen; omega) (by omega) (by simp; omega) ?_); intro v' w4 hown1 hgrow hnil hat1)
                obtain ⟨A4, c4, rfl⟩ := own_shape hown1
                have hli := HLI.out
                have hrw := hli.row
                have hob := owns_block hli.own
                have hrow4 : ∀ r, (Value.slice A4 (acc'.length + 1) c4).ownBlock = some r → r ≠ gp ∧ r ≠ gd := fun r hr => by
                  rcases hat1 with h | h
                  · rw [h] at hr; exact hrw r hr
                  · rw [h] at hr; cases hr; simp only [World.size_alloc]; omega
                have hlt4 : ∀ r, (Value.slice A4 (acc'.length + 1) c4).ownBlock = some r → r < w4.heap.size := fun r hr => (owns_block hown1 r hr).2.1
                have b8 := blk_grown (hli.b8.alloc (.cells #[.int .i64 c] 3)) hgrow (fun e => by have := (hob _ e).1; omega)
                have bp := blk_grown (hli.bp.alloc (.cells #[.int .i64 c] 3)) hgrow (fun e => (hrw _ e).1 rfl)
                have bd := blk_grown (hli.bd.alloc (.cells #[.int .i64 c] 3)) hgrow (fun e => (hrw _ e).2 rfl)
                have hbel4 := (hli.bel.alloc hli.bel.size (.cells #[.int .i64 c] 3)).grown hgrow (by have := hli.bel.size; simp; omega) (fun k hk => by have := (hob k hk).1; omega)
                have hdu := hli.due
                have hown4 : w4.ownsRow (g8 + 1) 3 1 (.slice A4 (acc'.length + 1) c4) (acc' ++ [c]).length ((acc' ++ [c]).map (.int .i64)) := by
                  rw [List.map_append, List.length_append]; exact hown1
                have H8 := Lib.hid b8; have HP := Lib.hid bp; have HD := Lib.hid bd; have HB4 := Lib.hid hbel4; have HDU := Lib.hid hdu; have HOW := Lib.hid hown4; have HROW := Lib.hid hrow4; have HLT := Lib.hid hlt4
                clear b8 bp bd hbel4 hdu hown4 hrow4 hlt4 hown1 hgrow hnil hat1 hli hrw hob p0 p1 p2 p3 p4 p5 p6 p7 p8 p9 p10 p11 l0 l1 l2 l3 l4 l5 l6 l7 l8 l9 l10 l11 lf0 lf1 lf2 lf3 lf4 lf5 lf6 lf7 lf8 lf9 lf10 lf11 d0 d1 d2 d3 d4 d5 d6 d7 d8 d9 d10 d11 HNB hr
                have p0 := HP.out.cell 0
                have p1 := HP.out.cell 1
                have p2 := HP.out.cell 2
                have p3 := HP.out.cell 3
                have p4 := HP.out.cell 4
                have p5 := HP.out.cell 5
                have p6 := HP.out.cell 6
                have p7 := HP.out.cell 7
                have p8 := HP.out.cell 8
                have p9 := HP.out.cell 9
                have p10 := HP.out.cell 10
                have p11 := HP.out.cell 11
                simp only [List.getElem?_toArray, List.getElem?_cons_zero, List.getElem?_cons_succ] at p0 p1 p2 p3 p4 p5 p6 p7 p8 p9 p10 p11
                have d0 := HD.out.cell 0
                have d1 := HD.out.cell 1
                have d2 := HD.out.cell 2
                have d3 := HD.out.cell 3
                have d4 := HD.out.cell 4
                have d5 := HD.out.cell 5
                have d6 := HD.out.cell 6
                have d7 := HD.out.cell 7
                have d8 := HD.out.cell 8
                have d9 := HD.out.cell 9
                have d10 := HD.out.cell 10
                have d11 := HD.out.cell 11
                simp only [List.getElem?_toArray, List.getElem?_cons_zero, List.getElem?_cons_succ] at d0 d1 d2 d3 d4 d5 d6 d7 d8 d9 d10 d11
                have zp4 := HP.out.lt
                have zd4 := HD.out.lt
                by_cases h256 : 256 < acc'.length + 1
                · have hdm : decide (256 < (acc'.length : Int) + 1) = true := by simp; omega
                  go_wp2
                  go_ret2
                  rw [dueF_many m HC.out h256] at HDU
                  rw [Hleft.out, Hdr.out, lostF_many HK.out HDU.out]
                  exact ⟨.inr ⟨by simp; omega, rfl⟩, HB4.out⟩
                · have hdm : decide (256 < (acc'.length : Int) + 1) = false := by simp; omega
                  go_wp2_with fail
                  refine (following_any p.k c p.k p.c p.d0 p.d1 p.d2 p.d3 p.d4 p.d5 p.d6 p.d7 p.d8 p.d9 p.d0 p.d1 p.d2 p.d3 p.d4 p.d5 p.d6 p.d7 p.d8 p.d9 ⟨hclo, by omega⟩ _).mono ?_
                  rintro e w6 ⟨rfl, hb6⟩
                  have hbn := (Blk.new w4 92 #[.int .i64 p.k, .int .i64 c, .int .u8 p.d0, .int .u8 p.d1, .int .u8 p.d2, .int .u8 p.d3, .int .u8 p.d4, .int .u8 p.d5, .int .u8 p.d6, .int .u8 p.d7, .int .u8 p.d8, .int .u8 p.d9]).below hb6
                  have H86 := Lib.hid ((H8.out.alloc (.cells #[.int .i64 p.k, .int .i64 c, .int .u8 p.d0, .int .u8 p.d1, .int .u8 p.d2, .int .u8 p.d3, .int .u8 p.d4, .int .u8 p.d5, .int .u8 p.d6, .int .u8 p.d7, .int .u8 p.d8, .int .u8 p.d9] 92)).below hb6)
                  have HP6 := Lib.hid ((HP.out.alloc (.cells #[.int .i64 p.k, .int .i64 c, .int .u8 p.d0, .int .u8 p.d1, .int .u8 p.d2, .int .u8 p.d3, .int .u8 p.d4, .int .u8 p.d5, .int .u8 p.d6, .int .u8 p.d7, .int .u8 p.d8, .int .u8 p.d9] 92)).below hb6)
                  have HOW6 := Lib.hid (owns_below (HOW.out.alloc (.cells #[.int .i64 p.k, .int .i64 c, .int .u8 p.d0, .int .u8 p.d1, .int .u8 p.d2, .int .u8 p.d3, .int .u8 p.d4, .int .u8 p.d5, .int .u8 p.d6, .int .u8 p.d7, .int .u8 p.d8, .int .u8 p.d9] 92)) hb6)
                  have HB6 := Lib.hid ((HB4.out.alloc HB4.out.size (.cells #[.int .i64 p.k, .int .i64 c, .int .u8 p.d0, .int .u8 p.d1, .int .u8 p.d2, .int .u8 p.d3, .int .u8 p.d4, .int .u8 p.d5, .int .u8 p.d6, .int .u8 p.d7, .int .u8 p.d8, .int .u8 p.d9] 92)).trans (hb6.mono (by have := HB4.out.size; simp; omega)))
                  have hsz := HB4.out.size
                  obtain ⟨gn, hgn⟩ : ∃ g, w4.heap.size = g := ⟨_, rfl⟩
                  rw [hgn] at hbn HLT zp4 hsz ⊢
                  clear hgn hb6 H8 HP HOW HB4 p0 p1 p2 p3 p4 p5 p6 p7 p8 p9 p10 p11 d0 d1 d2 d3 d4 d5 d6 d7 d8 d9 d10 d11 zd4 HD
                  have n0 := hbn.cell 0
                  have n1 := hbn.cell 1
                  have n2 := hbn.cell 2
                  have n3 := hbn.cell 3
                  have n4 := hbn.cell 4
                  have n5 := hbn.cell 5
                  have n6 := hbn.cell 6
                  have n7 := hbn.cell 7
                  have n8 := hbn.cell 8
                  have n9 := hbn.cell 9
                  have n10 := hbn.cell 10
                  have n11 := hbn.cell 11
                  simp only [List.getElem?_toArray, List.getElem?_cons_zero, List.getElem?_cons_succ] at n0 n1 n2 n3 n4 n5 n6 n7 n8 n9 n10 n11
                  have nf0 := hbn.frozen 0
                  have nf1 := hbn.frozen 1
                  have nf2 := hbn.frozen 2
                  have nf3 := hbn.frozen 3
                  have nf4 := hbn.frozen 4
                  have nf5 := hbn.frozen 5
                  have nf6 := hbn.frozen 6
                  have nf7 := hbn.frozen 7
                  have nf8 := hbn.frozen 8
                  have nf9 := hbn.frozen 9
                  have nf10 := hbn.frozen 10
                  have nf11 := hbn.frozen 11
                  have zn := hbn.lt
                  have HBN := Lib.hid hbn
                  clear hbn
                  go_wp2
                  go_roundg m
                  case measure => omega
                  case rel =>
                    have hs := stepsTo_next ⟨hclo, hchi⟩ hpb HC.out
                    rw [dueF_next m HC.out (by omega)] at HDU
                    exact ⟨gn, (c + 1) % 256, acc' ++ [c], rfl, Lib.hid ⟨HDU.out, by omega, by simp; omega, by omega, by omega, owns_apart12 HOW6.out (fun e => by have := HLT.out _ e; omega) (.int .i64 p.k) (.int .i64 ((c + 1) % 256)) (.int .u8 p.d0) (.int .u8 p.d1) (.int .u8 p.d2) (.int .u8 p.d3) (.int .u8 p.d4) (.int .u8 p.d5) (.int .u8 p.d6) (.int .u8 p.d7) (.int .u8 p.d8) (.int .u8 p.d9), fun r hr => ⟨(HROW.out r hr).1, by have := HLT.out r hr; omega⟩, hgg, zp4, blk_far12 H86.out (by omega) (.int .i64 p.k) (.int .i64 ((c + 1) % 256)) (.int .u8 p.d0) (.int .u8 p.d1) (.int .u8 p.d2) (.int .u8 p.d3) (.int .u8 p.d4) (.int .u8 p.d5) (.int .u8 p.d6) (.int .u8 p.d7) (.int .u8 p.d8) (.int .u8 p.d9), blk_far12 HP6.out (by omega) (.int .i64 p.k) (.int .i64 ((c + 1) % 256)) (.int .u8 p.d0) (.int .u8 p.d1) (.int .u8 p.d2) (.int .u8 p.d3) (.int .u8 p.d4) (.int .u8 p.d5) (.int .u8 p.d6) (.int .u8 p.d7) (.int .u8 p.d8) (.int .u8 p.d9), blk_set12 HBN.out, below_set12 HB6.out (by omega) (.int .i64 p.k) (.int .i64 ((c + 1) % 256)) (.int .u8 p.d0) (.int .u8 p.d1) (.int .u8 p.d2) (.int .u8 p.d3) (.int .u8 p.d4) (.int .u8 p.d5) (.int .u8 p.d6) (.int .u8 p.d7) (.int .u8 p.d8) (.int .u8 p.d9)⟩⟩
      · have hk2 : (p.k != kind) = true := by simp [hk]
        have HK := Lib.hid hk
        clear hk
        go_wp2
        go_roundg g
        case measure => omega
        case rel =>
          refine ⟨i + 1, b, la, acc, by omega, by go_num, rfl, Lib.hid ?_⟩
          have h := HLO.out
          refine ⟨?_, h.few, h.lo, h.hi, h.own.alloc _, h.box.alloc _, h.bel.alloc h.bel.size _⟩
          rw [h.left, Hdr.out, lostF_other HK.out]
end Go.Proofs.YtkjkjhheckfhbaaGreatDoor
