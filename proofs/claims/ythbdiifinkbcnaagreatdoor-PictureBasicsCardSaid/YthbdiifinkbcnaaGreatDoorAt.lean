/- The document's examples, as the law's 'awake' computes them. -/
import Derived.Test.YthbdiifinkbcnaaGreatDoorK
import Derived.Test.YthbdiifinkbcnaaGreatDoorI
import Derived.Test.YthbdiifinkbcnaaGreatDoorM
import Derived.Test.YthbdiifinkbcnaaGreatDoorN
import Derived.Test.YthbdiifinkbcnaaGreatDoorO
import Derived.Test.YthbdiifinkbcnaaGreatDoorP
import Derived.Test.YthbdiifinkbcnaaGreatDoorQ
import Derived.Test.YthbdiifinkbcnaaGreatDoorW
import Derived.Test.YthbdiifinkbcnaaGreatDoorX
import Derived.Test.YthbdiifinkbcnaaGreatDoorY
import Derived.Test.YthbdiifinkbcnaaGreatDoorZ
import Derived.Test.YthbdiifinkbcnaaGreatDoorS
import Derived.Test.YthbdiifinkbcnaaGreatDoorAa
import Derived.Test.YthbdiifinkbcnaaGreatDoorAg
import Derived.Test.YthbdiifinkbcnaaGreatDoorAj
import Derived.Test.YthbdiifinkbcnaaGreatDoorAm
import Derived.Test.YthbdiifinkbcnaaGreatDoorAp
import Derived.Test.YthbdiifinkbcnaaGreatDoorAs
namespace Go.Proofs.YthbdiifinkbcnaaGreatDoor
open Go.RowKit
set_option linter.unusedVariables false
set_option maxRecDepth 10000
theorem lt2 {i : Nat} (h : i < 2) : i = 0 ∨ i = 1 := by omega
theorem lt3 {i : Nat} (h : i < 3) : i = 0 ∨ i = 1 ∨ i = 2 := by omega
theorem lt6 {i : Nat} (h : i < 6) : i = 0 ∨ i = 1 ∨ i = 2 ∨ i = 3 ∨ i = 4 ∨ i = 5 := by omega
theorem lt12 {i : Nat} (h : i < 12) : i = 0 ∨ i = 1 ∨ i = 2 ∨ i = 3 ∨ i = 4 ∨ i = 5 ∨ i = 6 ∨ i = 7 ∨ i = 8 ∨ i = 9 ∨ i = 10 ∨ i = 11 := by omega
theorem six_err : (Pic.mk pName 3 2 six).err = 0 := by decide +kernel
theorem six_ok : (Pic.mk pName 3 2 six).Ok := ok_of six_err
theorem rd_six {w : World} {g : Nat} (h : Blk w g 23 (fl six).toArray) : Rd w (some ⟨g, 0, none⟩) (fl six) := rd_of_blk h rfl
theorem ex_at (g : Nat) (w : World) (h : Blk w g 23 (fl six).toArray) : Calls Tryz.prog 27 #[.agg #[.string pName, .int .i64 3, .int .i64 2, .slice (some ⟨g, 0, none⟩) 6 6], .int .i64 2, .int .i64 1] w fun e w' => e = .returned (.tuple #[.float .f32 1086324736, .int .i64 0]) ∧ Below w.heap.size w w' :=
  (at_ok pName 3 2 six six_ok six_err 2 1 (by decide) (by decide) _ 6 w (by decide) (by decide) (by decide) (rd_six h)).mono fun e w' ⟨h1, h2⟩ => ⟨h1, h2⟩
theorem ex_cropped (g : Nat) (w : World) (h : Blk w g 23 (fl six).toArray) : Calls Tryz.prog 29 #[.agg #[.string pName, .int .i64 3, .int .i64 2, .slice (some ⟨g, 0, none⟩) 6 6], .agg #[.int .i64 1, .int .i64 3], .agg #[.int .i64 1, .int .i64 2]] w fun e w' => ∃ k, e = .returned (.tuple #[.agg #[.string pName, .int .i64 2, .int .i64 1, .slice (some ⟨k, 0, none⟩) 2 2], .int .i64 0]) ∧ Rd w' (some ⟨k, 0, none⟩) (fl [1084227584, 1086324736]) ∧ Below w.heap.size w w' :=
  (cropped_ok pName 3 2 six six_ok six_err 1 2 1 1 (by decide) (by decide) _ 6 w (by decide) (by decide) (by decide) (rd_six h)).mono fun e w' ⟨k, h1, h2, h3⟩ => ⟨k, h1, rd_mask h2 (fun _ _ => rfl) rfl (fun i hi => by rcases lt2 hi with rfl | rfl <;> rfl), h3⟩
theorem ex_flipped (g : Nat) (w : World) (h : Blk w g 23 (fl six).toArray) : Calls Tryz.prog 44 #[.agg #[.string pName, .int .i64 3, .int .i64 2, .slice (some ⟨g, 0, none⟩) 6 6]] w fun e w' => ∃ k, e = .returned (.tuple #[.agg #[.string pName, .int .i64 3, .int .i64 2, .slice (some ⟨k, 0, none⟩) 6 6], .int .i64 0]) ∧ Rd w' (some ⟨k, 0, none⟩) (fl [1077936128, 1073741824, 1065353216, 1086324736, 1084227584, 1082130432]) ∧ Below w.heap.size w w' :=
  (flipped_ok pName 3 2 six six_ok six_err _ 6 w (by decide) (by decide) (by decide) (rd_six h)).mono fun e w' ⟨k, h1, h2, h3⟩ => ⟨k, h1, rd_mask h2 (fun _ _ => rfl) rfl (fun i hi => by rcases lt6 hi with rfl | rfl | rfl | rfl | rfl | rfl <;> rfl), h3⟩
theorem ex_transposed (g : Nat) (w : World) (h : Blk w g 23 (fl six).toArray) : Calls Tryz.prog 45 #[.agg #[.string pName, .int .i64 3, .int .i64 2, .slice (some ⟨g, 0, none⟩) 6 6]] w fun e w' => ∃ k, e = .returned (.tuple #[.agg #[.string pName, .int .i64 2, .int .i64 3, .slice (some ⟨k, 0, none⟩) 6 6], .int .i64 0]) ∧ Rd w' (some ⟨k, 0, none⟩) (fl [1065353216, 1082130432, 1073741824, 1084227584, 1077936128, 1086324736]) ∧ Below w.heap.size w w' :=
  (transposed_ok pName 3 2 six six_ok six_err _ 6 w (by decide) (by decide) (by decide) (rd_six h)).mono fun e w' ⟨k, h1, h2, h3⟩ => ⟨k, h1, rd_mask h2 (fun _ _ => rfl) rfl (fun i hi => by rcases lt6 hi with rfl | rfl | rfl | rfl | rfl | rfl <;> rfl), h3⟩
theorem ex_beside (g g2 : Nat) (w : World) (h : Blk w g 23 (fl six).toArray) (h2 : Blk w g2 23 (fl six).toArray) : Calls Tryz.prog 38 #[.agg #[.string pName, .int .i64 3, .int .i64 2, .slice (some ⟨g, 0, none⟩) 6 6], .agg #[.string pName, .int .i64 3, .int .i64 2, .slice (some ⟨g2, 0, none⟩) 6 6]] w fun e w' => ∃ k, e = .returned (.tuple #[.agg #[.string pName, .int .i64 6, .int .i64 2, .slice (some ⟨k, 0, none⟩) 12 12], .int .i64 0]) ∧ Rd w' (some ⟨k, 0, none⟩) (fl [1065353216, 1073741824, 1077936128, 1065353216, 1073741824, 1077936128, 1082130432, 1084227584, 1086324736, 1082130432, 1084227584, 1086324736]) ∧ Below w.heap.size w w' :=
  (beside_ok pName pName 3 3 2 6 rfl six six six_ok six_err six_ok six_err (by decide) _ _ 6 6 w (by decide) (by decide) (by decide) (by decide) (rd_six h) (rd_six h2)).mono fun e w' ⟨k, h1, h2, h3⟩ => ⟨k, h1, rd_mask h2 (fun _ _ => rfl) rfl (fun i hi => by rcases lt12 hi with rfl | rfl | rfl | rfl | rfl | rfl | rfl | rfl | rfl | rfl | rfl | rfl <;> rfl), h3⟩
theorem ex_fields (g : Nat) (w : World) (h : Blk w g 23 (fl six).toArray) : Calls Tryz.prog 46 #[.agg #[.string pName, .int .i64 3, .int .i64 2, .slice (some ⟨g, 0, none⟩) 6 6]] w fun e w' => ∃ ga gb, e = .returned (.tuple #[.agg #[.string pName, .int .i64 3, .int .i64 1, .slice (some ⟨ga, 0, none⟩) 3 3, .string pName, .int .i64 3, .int .i64 1, .slice (some ⟨gb, 0, none⟩) 3 3], .int .i64 0]) ∧ Rd w' (some ⟨ga, 0, none⟩) (fl [1065353216, 1073741824, 1077936128]) ∧ Rd w' (some ⟨gb, 0, none⟩) (fl [1082130432, 1084227584, 1086324736]) ∧ Below w.heap.size w w' :=
  (fields_ok pName 3 2 1 1 six six_ok six_err (by decide) rfl rfl _ 6 w (by decide) (by decide) (rd_six h)).mono fun e w' ⟨ga, gb, h1, _, h2, h3, h4⟩ => ⟨ga, gb, h1, rd_mask h2 (fun _ _ => rfl) rfl (fun i hi => by rcases lt3 hi with rfl | rfl | rfl <;> rfl), rd_mask h3 (fun _ _ => rfl) rfl (fun i hi => by rcases lt3 hi with rfl | rfl | rfl <;> rfl), h4⟩
theorem up_err : (Pic.mk pName 3 1 [1065353216, 1073741824, 1077936128]).err = 0 := by decide +kernel
theorem down_err : (Pic.mk pName 3 1 [1082130432, 1084227584, 1086324736]).err = 0 := by decide +kernel
theorem ex_woven (A A2 : Option Addr) (w : World) (h : Rd w A (fl [1065353216, 1073741824, 1077936128])) (h2 : Rd w A2 (fl [1082130432, 1084227584, 1086324736])) : Calls Tryz.prog 40 #[.agg #[.string pName, .int .i64 3, .int .i64 1, .slice A 3 3], .agg #[.string pName, .int .i64 3, .int .i64 1, .slice A2 3 3]] w fun e w' => ∃ k, e = .returned (.tuple #[.agg #[.string pName, .int .i64 3, .int .i64 2, .slice (some ⟨k, 0, none⟩) 6 6], .int .i64 0]) ∧ Rd w' (some ⟨k, 0, none⟩) (fl [1065353216, 1073741824, 1077936128, 1082130432, 1084227584, 1086324736]) ∧ Below w.heap.size w w' :=
  (woven_ok pName pName 3 1 1 2 rfl [1065353216, 1073741824, 1077936128] [1082130432, 1084227584, 1086324736] (ok_of up_err) up_err (ok_of down_err) down_err (.inl rfl) (by decide) A A2 3 3 w (by decide) (by decide) (by decide) (by decide) h h2).mono fun e w' ⟨k, h1, h2, h3⟩ => ⟨k, h1, rd_mask h2 (fun _ _ => rfl) rfl (fun i hi => by rcases lt6 hi with rfl | rfl | rfl | rfl | rfl | rfl <;> rfl), h3⟩
theorem six_maxLen : six.length ≤ maxLen := by decide
theorem ex_energy (g : Nat) (w : World) (h : Blk w g 23 (fl six).toArray) : Calls Tryz.prog 52 #[.agg #[.string pName, .int .i64 3, .int .i64 2, .slice (some ⟨g, 0, none⟩) 6 6]] w fun e w' => e = .returned (.tuple #[.int .i64 23296, .int .i64 0]) ∧ Below w.heap.size w w' := by
  have hv : (Pic.mk pName 3 2 six).energy = 23296 := by decide +kernel
  have h1 := energy_ok (Pic.mk pName 3 2 six) six_ok six_err (some ⟨g, 0, none⟩) 6 w (by decide) six_maxLen (rd_six h)
  rw [hv] at h1
  exact h1
theorem ex_peak (g : Nat) (w : World) (h : Blk w g 23 (fl six).toArray) : Calls Tryz.prog 53 #[.agg #[.string pName, .int .i64 3, .int .i64 2, .slice (some ⟨g, 0, none⟩) 6 6]] w fun e w' => e = .returned (.tuple #[.int .i64 96, .int .i64 0]) ∧ Below w.heap.size w w' := by
  have hv : (Pic.mk pName 3 2 six).peak = 96 := by decide +kernel
  have h1 := peak_ok (Pic.mk pName 3 2 six) six_ok six_err (some ⟨g, 0, none⟩) 6 w (by decide) six_maxLen (rd_six h)
  rw [hv] at h1
  exact h1
theorem ex_mean (g : Nat) (w : World) (h : Blk w g 23 (fl six).toArray) : Calls Tryz.prog 54 #[.agg #[.string pName, .int .i64 3, .int .i64 2, .slice (some ⟨g, 0, none⟩) 6 6]] w fun e w' => e = .returned (.tuple #[.agg #[.int .i64 7, .int .i64 2], .int .i64 0]) ∧ Below w.heap.size w w' := by
  have hv : (Pic.mk pName 3 2 six).sum / (Pic.mk pName 3 2 six).cd = 7 := by decide +kernel
  have hv2 : 16 * ((Pic.mk pName 3 2 six).l.length : Int) / (Pic.mk pName 3 2 six).cd = 2 := by decide +kernel
  have h1 := mean_ok (Pic.mk pName 3 2 six) six_ok six_err (some ⟨g, 0, none⟩) 6 w (by decide) six_maxLen (rd_six h)
  rw [hv, hv2] at h1
  exact h1

theorem two_err : (Pic.mk pName 2 1 [1031798784, 3179282432]).err = 0 := by decide +kernel
theorem ex_scaled (A : Option Addr) (w : World) (h : Rd w A (fl [1031798784, 3179282432])) : Calls Tryz.prog 51 #[.agg #[.string ⟨#[112]⟩, .int .i64 2, .int .i64 1, .slice A 2 2], .int .i64 1, .int .i64 2] w fun e w' => ∃ ad, e = .returned (.tuple #[.agg #[.string pName, .int .i64 2, .int .i64 1, .slice (some ad) 2 2], .int .i64 0]) ∧ Rd w' (some ad) (fl [1031798784, 0]) ∧ Below w.heap.size w w' := by
  have hv : (scaledL [1031798784, 3179282432] 1 2).map smp = [1031798784, 0] := by decide +kernel
  have h1 := scaled_ok pName 2 1 [1031798784, 3179282432] (ok_of two_err) two_err 1 2 (by decide) (by decide) (by decide +kernel) A 2 w (by decide) h
  rw [hv] at h1
  exact h1
theorem ex_four (w : World) (hP : ∀ i, i < 4 → w.cell? ⟨1, i * 2, none⟩ = some (.int .i64 (pwR i)) ∧ w.cell? ⟨1, i * 2 + 1, none⟩ = some (.int .i64 (pwI i))) (hP1 : 1 < w.heap.size) :
    Calls Tryz.prog 89 #[.agg #[.float .f32 1065353216, .float .f32 1073741824, .float .f32 1077936128, .float .f32 1082130432]] w fun e w' => e = .returned (.tuple #[.agg #[.complex .f32 1092616192 0, .complex .f32 3221225472 1073741824, .complex .f32 3221225472 0, .complex .f32 3221225472 3221225472], .int .i64 0]) ∧ Below w.heap.size w w' := by
  have h1 := four_ok oneToFour (by decide +kernel) _ awake_step w hP hP1
  have s0 : sumS (fun n => (oneToFour n, 0)) 1 0 4 = (1092616192, 0) := by decide +kernel
  have s1 : sumS (fun n => (oneToFour n, 0)) 1 1 4 = (3221225472, 1073741824) := by decide +kernel
  have s2 : sumS (fun n => (oneToFour n, 0)) 1 2 4 = (3221225472, 0) := by decide +kernel
  have s3 : sumS (fun n => (oneToFour n, 0)) 1 3 4 = (3221225472, 3221225472) := by decide +kernel
  have hz : czV (fun k => sumS (fun n => (oneToFour n, 0)) 1 k 4) 4 = #[.complex .f32 1092616192 0, .complex .f32 3221225472 1073741824, .complex .f32 3221225472 0, .complex .f32 3221225472 3221225472] := by
    rw [show czV (fun k => sumS (fun n => (oneToFour n, 0)) 1 k 4) 4 = #[.complex .f32 (sumS (fun n => (oneToFour n, 0)) 1 0 4).1 (sumS (fun n => (oneToFour n, 0)) 1 0 4).2, .complex .f32 (sumS (fun n => (oneToFour n, 0)) 1 1 4).1 (sumS (fun n => (oneToFour n, 0)) 1 1 4).2, .complex .f32 (sumS (fun n => (oneToFour n, 0)) 1 2 4).1 (sumS (fun n => (oneToFour n, 0)) 1 2 4).2, .complex .f32 (sumS (fun n => (oneToFour n, 0)) 1 3 4).1 (sumS (fun n => (oneToFour n, 0)) 1 3 4).2] from rfl, s0, s1, s2, s3]
  rw [hz] at h1
  exact h1
def b8 (n : Nat) (h : n ≤ 255 := by decide) : U8 := ⟨n, by omega, by omega⟩
def frameN : List Nat := [171, 1, 2, 3, 0, 0, 0, 0, 0, 0, 0, 0, 0, 0, 92, 211]
def frameL : List Int := [171, 1, 2, 3, 0, 0, 0, 0, 0, 0, 0, 0, 0, 0, 92, 211]
theorem ex_encode (w : World) : Calls Tryz.prog 62 #[.agg #[.int .i64 1, .int .i64 2, .int .u8 3, .int .u8 0, .int .u8 0, .int .u8 0, .int .u8 0, .int .u8 0, .int .u8 0, .int .u8 0, .int .u8 0, .int .u8 0]] w fun e w' => e = .returned (.tuple #[.agg #[.int .u8 171, .int .u8 1, .int .u8 2, .int .u8 3, .int .u8 0, .int .u8 0, .int .u8 0, .int .u8 0, .int .u8 0, .int .u8 0, .int .u8 0, .int .u8 0, .int .u8 0, .int .u8 0, .int .u8 92, .int .u8 211], .int .i64 0]) ∧ Below w.heap.size w w' := by
  refine (encode_ok (b8 1) (b8 2) (b8 3) u0 u0 u0 u0 u0 u0 u0 u0 u0 w).mono ?_
  rintro e w' ⟨P, S, hP, hS, rfl, hb⟩
  have e1 : P.1 = 0 := hP.symm.trans (by decide +kernel)
  have e2 : P = u0 := Subtype.ext e1
  subst e2
  have e3 : S = 23763 := hS.symm.trans (by decide +kernel)
  subst e3
  exact ⟨rfl, hb⟩
theorem rd_of_owns {w : World} {B : Nat} {e : TypeId} {size : Nat} {A : Option Addr} {n c : Nat} {xs : List Value} (h : w.ownsRow B e size (.slice A n c) n xs) : Rd w A xs := fun h0 => by
  rcases h.2 with ⟨hv, hn⟩ | ⟨g, cap, cur, hv, hb, hg, _⟩
  · have := h.1; rw [hn] at this; omega
  · cases hv
    have hlt := (h.lt g rfl).2
    refine ⟨_, rfl, hlt, fun j u hj => ?_⟩
    exact h.cells (g := g) rfl j u hj
def pk3 : List Pk := [⟨9, 254, 0, 0, 0, 0, 0, 0, 0, 0, 0, 0⟩, ⟨8, 0, 0, 0, 0, 0, 0, 0, 0, 0, 0, 0⟩, ⟨9, 1, 0, 0, 0, 0, 0, 0, 0, 0, 0, 0⟩]
theorem ex_lost (A : Option Addr) (w : World) (h : Rd w A (pksC pk3)) : Calls Tryz.prog 64 #[.slice A 3 3, .int .i64 9] w fun e w' => ∃ A' c, e = .returned (.tuple #[.slice A' 2 c, .int .i64 0]) ∧ Rd w' A' ([255, 0].map (Value.int .i64)) ∧ Below w.heap.size w w' := by
  have hv : lostF 9 pk3 false 0 [] = [255, 0] := by decide +kernel
  have h1 := lost_good A 3 pk3 9 w (by decide) h (by decide +kernel)
  rw [hv] at h1
  refine h1.mono ?_
  rintro e w' ⟨h2 | h2, hb⟩
  · obtain ⟨_, v, rfl, hown⟩ := h2
    obtain ⟨A', c, rfl⟩ := own_shape hown
    exact ⟨A', c, rfl, rd_of_owns hown, hb⟩
  · exact absurd h2.1 (by decide)
def stream18 : List U8 := (7 :: 171 :: frameN).map (fun n => b8 (n % 256) (by omega))
theorem ex_received (A : Option Addr) (c : Nat) (w : World) (hc : 18 ≤ c) (h : BRd w.heap.size w A stream18) : Calls Tryz.prog 71 #[.slice A 18 c] w fun e w' => ∃ A1 c1 A2 c2, e = .returned (.tuple #[.slice A1 1 c1, .slice A2 1 c2, .int .i64 0]) ∧ Rd w' A2 (spansC [(0, 2)]) ∧ Below w.heap.size w w' := by
  have hv : (rfold stream18 (List.range stream18.length)).pk.length = 1 := by decide +kernel
  have hv2 : (rfold stream18 (List.range stream18.length)).sk = [(0, 2)] := by decide +kernel
  have h1 := received_any A c stream18 (by decide) (by exact hc) w h
  rw [hv, hv2] at h1
  refine h1.mono ?_
  rintro e w' ⟨v1, v2, rfl, o1, o2, hb⟩
  obtain ⟨A1, c1, rfl⟩ := own_shape o1
  obtain ⟨A2, c2, rfl⟩ := own_shape o2
  exact ⟨A1, c1, A2, c2, rfl, rd_of_owns o2, hb⟩
def half : List Nat := [3204448256]
def qName : ByteArray := ⟨#[113]⟩
def code12 : List UInt8 := [80, 73, 67, 84, 1, 113, 1, 1, 191, 0, 0, 0]
def CodeAt (w : World) (g : Nat) : Prop := g < w.heap.size ∧ ∀ j (hj : j < code12.length), w.cell? ⟨g, j, none⟩ = some (.int .u8 (code12[j].toNat : Int))
theorem CodeAt.below {w w' : World} {g : Nat} (h : CodeAt w g) (hb : Below w.heap.size w w') : CodeAt w' g := ⟨Nat.lt_of_lt_of_le h.1 hb.size, fun j hj => (hb.cell (p := ⟨g, j, none⟩) h.1).trans (h.2 j hj)⟩
theorem code_text (w : World) (g c : Nat) (h : CodeAt w g) : (convert 106 9 (.slice (some ⟨g, 0, none⟩) 12 c)).run Tryz.prog w = .ok (.string ⟨#[80, 73, 67, 84, 1, 113, 1, 1, 191, 0, 0, 0]⟩) w :=
  run_convert_bytes_back w 106 9 5 ⟨g, 0, none⟩ c code12 Tryz.underlying106 Tryz.underlying5 Tryz.underlying9 (fun j hj => by rw [add_blk]; exact h.2 j hj)
theorem half_err : (Pic.mk qName 1 1 half).err = 0 := by decide +kernel
theorem half_ok : (Pic.mk qName 1 1 half).Ok := ok_of half_err
theorem ex_pack (A : Option Addr) (w : World) (h : Rd w A (fl half)) : Calls Tryz.prog 78 #[.agg #[.string ⟨#[113]⟩, .int .i64 1, .int .i64 1, .slice A 1 1]] w fun e w' => ∃ g c, e = .returned (.tuple #[.slice (some ⟨g, 0, none⟩) 16 c, .int .i64 0]) ∧ 16 ≤ c ∧ CodeAt w' g ∧ Below w.heap.size w w' := by
  have h1 := pack_ok qName 1 1 half half_ok half_err A 1 w h
  have hl : (packU qName 1 1 half).length = 16 := by decide +kernel
  have hx : ((packU qName 1 1 half).map (·.1)).take 12 = code12.map (fun b => (b.toNat : Int)) := by decide +kernel
  refine h1.mono ?_
  rintro e w' ⟨v, n, B, rfl, rfl, hB, hown, hb⟩
  rw [hl] at hown
  rcases hown.2 with ⟨_, h0⟩ | ⟨g, cap, cur, rfl, hb2, hg, hnc, _⟩
  · exact absurd h0 (by decide)
  · refine ⟨g, cap, rfl, hnc, ⟨(hown.lt g rfl).2, fun j hj => ?_⟩, hb⟩
    have hj12 : j < 12 := hj
    have hjl : j < (packU qName 1 1 half).length := by rw [hl]; omega
    have h2 : ((packU qName 1 1 half).map (·.1))[j]? = some (code12[j].toNat : Int) := by
      have h3 : (((packU qName 1 1 half).map (·.1)).take 12)[j]? = some (code12[j].toNat : Int) := by rw [hx, List.getElem?_map, List.getElem?_eq_getElem hj]; rfl
      rw [List.getElem?_take, if_pos hj12] at h3
      exact h3
    rw [← add_blk]
    refine hown.cells (g := g) rfl j _ ?_
    rw [List.getElem?_map] at h2 ⊢
    obtain ⟨u, hu, hu2⟩ := Option.map_eq_some_iff.1 h2
    rw [hu, Option.map_some]
    exact congrArg (fun z => some (Value.int .u8 z)) hu2
def printed : ByteArray := ⟨#[112, 105, 99, 116, 117, 114, 101, 32, 113, 32, 49, 32, 49, 10, 114, 111, 119, 32, 45, 56, 10]⟩
theorem ex_print (A : Option Addr) (w : World) (h : Rd w A (fl half)) (htab : Lib.TabIs Tryz.prog w "internal/strconv.uint64pow10" .u64 Lib.pow10Tab) : Calls Tryz.prog 76 #[.agg #[.string ⟨#[113]⟩, .int .i64 1, .int .i64 1, .slice A 1 1]] w fun e w' => e = .returned (.tuple #[.string ⟨#[112, 105, 99, 116, 117, 114, 101, 32, 113, 32, 49, 32, 49, 10, 114, 111, 119, 32, 45, 56, 10]⟩, .int .i64 0]) ∧ Below w.heap.size w w' := by
  have hv : printF (Pic.mk qName 1 1 half) 1 (List.range 1) = printed.data.toList := by decide +kernel
  have h1 := print_ok (Pic.mk qName 1 1 half) half_ok half_err 1 1 rfl rfl A 1 w (by decide) h htab
  rw [hv] at h1
  exact h1
theorem has_true (W H : Int) (A : Option Addr) (c n g : Nat) (l k : List Nat) (w : World) (hl : l.length = n) (hk : k.length = n) (hn : n ≤ maxLen) (hs : sameF l k = true) (hr : Rd w A (fl l)) (hb : Blk w g 23 (fl k).toArray) :
    Calls Tryz.prog 92 #[.agg #[.string pName, .int .i64 W, .int .i64 H, .slice A n c], .int .i64 W, .int .i64 H, .slice (some ⟨g, 0, none⟩) n n] w fun e w' => e = .returned (.bool true) ∧ Below w.heap.size w w' := by
  have h1 := has_any W H A (some ⟨g, 0, none⟩) c n l k w (by rw [hl]; exact hn) (by rw [hk]; exact hn) hr (rd_of_blk hb rfl)
  rw [hl, hk, hs] at h1
  exact h1
theorem box8 {w : World} {g : Nat} {t : TypeId} {a b c d e f i j : Value} (h : Blk w g t #[a, b, c, d, e, f, i, j]) : w.cell? ⟨g, 0, none⟩ = some a ∧ w.cell? ⟨g, 1, none⟩ = some b ∧ w.cell? ⟨g, 2, none⟩ = some c ∧ w.cell? ⟨g, 3, none⟩ = some d ∧ w.cell? ⟨g, 4, none⟩ = some e ∧ w.cell? ⟨g, 5, none⟩ = some f ∧ w.cell? ⟨g, 6, none⟩ = some i ∧ w.cell? ⟨g, 7, none⟩ = some j :=
  ⟨h.cell 0, h.cell 1, h.cell 2, h.cell 3, h.cell 4, h.cell 5, h.cell 6, h.cell 7⟩
theorem eq_ratio (w : World) : (Op.equalIn 10000 33 (.agg #[.int .i64 7, .int .i64 2]) (.agg #[.int .i64 7, .int .i64 2])).run Tryz.prog w = .ok true w := by kernel_rfl
theorem eq_panel (w : World) : (Op.equalIn 10000 138 (.agg #[.complex .f32 1092616192 0, .complex .f32 3221225472 1073741824, .complex .f32 3221225472 0, .complex .f32 3221225472 3221225472]) (.agg #[.complex .f32 1092616192 0, .complex .f32 3221225472 1073741824, .complex .f32 3221225472 0, .complex .f32 3221225472 3221225472])).run Tryz.prog w = .ok true w := by kernel_rfl
theorem eq_begin (w : World) : (Op.equalIn 10000 146 (.agg #[.int .u8 171, .int .u8 1, .int .u8 2, .int .u8 3, .int .u8 0, .int .u8 0, .int .u8 0, .int .u8 0, .int .u8 0, .int .u8 0, .int .u8 0, .int .u8 0, .int .u8 0, .int .u8 0]) (.agg #[.int .u8 171, .int .u8 1, .int .u8 2, .int .u8 3, .int .u8 0, .int .u8 0, .int .u8 0, .int .u8 0, .int .u8 0, .int .u8 0, .int .u8 0, .int .u8 0, .int .u8 0, .int .u8 0])).run Tryz.prog w = .ok true w := by kernel_rfl
theorem own_cons {w : World} {B : Nat} {e : TypeId} {size : Nat} {v : Value} {n : Nat} {xs : List Value} (h : w.ownsRow B e size v n xs) (hn : 0 < n) : ∃ g cap, v = .slice (some ⟨g, 0, none⟩) n cap ∧ n ≤ cap := by
  rcases h.2 with ⟨_, h0⟩ | ⟨g, cap, cur, rfl, _, _, hc, _⟩
  · omega
  · exact ⟨g, cap, rfl, hc⟩
theorem own_two (w : World) (a b : Value) : (w.alloc (.cells #[a, b] 5)).ownsRow w.heap.size 5 1 (.slice (some ⟨w.heap.size, 0, none⟩) 2 2) 2 [a, b] :=
  ⟨rfl, .inr ⟨_, 2, #[a, b], rfl, Nat.le_refl _, heap_alloc_new w _, Nat.le_refl _, by decide, rfl, rfl⟩⟩
theorem ints_true (A : Option Addr) (c g : Nat) (w : World) (hr : Rd w A ([255, 0].map (Value.int .i64))) (hb : Blk w g 3 #[.int .i64 255, .int .i64 0]) : Calls Tryz.prog 21 #[.slice A 2 c, .slice (some ⟨g, 0, none⟩) 2 2] w fun e w' => e = .returned (.bool true) ∧ Below w.heap.size w w' := by
  have hs : sameI [255, 0] [255, 0] = true := by decide
  have h1 := sameInts_any A (some ⟨g, 0, none⟩) c 2 [255, 0] [255, 0] w (by decide) (by decide) hr (rd_of_blk hb rfl)
  rw [hs] at h1
  exact h1
theorem spans_true (A : Option Addr) (c g : Nat) (w : World) (hr : Rd w A (spansC [(0, 2)])) (hb : Blk w g 47 #[.int .i64 0, .int .i64 2]) : Calls Tryz.prog 75 #[.slice A 1 c, .slice (some ⟨g, 0, none⟩) 1 1] w fun e w' => e = .returned (.bool true) ∧ Below w.heap.size w w' := by
  have hs : sameP [(0, 2)] [(0, 2)] = true := by decide
  have h1 := sameSpans_any A (some ⟨g, 0, none⟩) c 1 [(0, 2)] [(0, 2)] w (by decide) (by decide) hr (rd_of_blk hb rfl)
  rw [hs] at h1
  exact h1
def two : List U8 := [b8 1, b8 2]
theorem ex_check (A : Option Addr) (w : World) (h : BRd w.heap.size w A two) : Calls Tryz.prog 93 #[.slice A 2 2] w fun e w' => e = .returned (.int .i64 63254) ∧ w = w' := by
  have hv : rollF 251 65521 two 1 = 63254 := by decide +kernel
  have h1 := checkRef_any A 2 two (by decide) w h
  rw [hv] at h1
  exact h1


end Go.Proofs.YthbdiifinkbcnaaGreatDoor
