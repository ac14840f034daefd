/- The law's small picture and its comparison. -/
import Derived.Test.YtkjkjhheckfhbaaGreatDoorPM
namespace Go.Proofs.YtkjkjhheckfhbaaGreatDoor
open Go.RowKit
set_option linter.unusedVariables false
attribute [local go_sem] run_store_float run_store_complex
def six : List Nat := [1065353216, 1073741824, 1077936128, 1082130432, 1084227584, 1086324736]
def pName : ByteArray := ⟨#[112]⟩
set_option maxRecDepth 100000 in
theorem small_any (w : World) : Calls Tryz.prog 94 #[] w fun e w' => ∃ g, e = .returned (.agg #[.string pName, .int .i64 3, .int .i64 2, .slice (some ⟨g, 0, none⟩) 6 6]) ∧ w.heap.size ≤ g ∧ Blk w' g 23 (fl six).toArray ∧ Below w.heap.size w w' := by
  go_enter Tryz.func94, Tryz.ntmps94
  go_wp2_with fail
  have hb := Blk.new (w.alloc (.cells #[.string ⟨#[112]⟩, .int .i64 3, .int .i64 2, .slice (some ⟨w.heap.size + 1, 0, none⟩) 6 6] 50)) 23 (fl six).toArray
  have hbel : Below w.heap.size w ((w.alloc (.cells #[.string ⟨#[112]⟩, .int .i64 3, .int .i64 2, .slice (some ⟨w.heap.size + 1, 0, none⟩) 6 6] 50)).alloc (.cells (fl six).toArray 23)) := ((Below.refl _ _).alloc (Nat.le_refl _) _).alloc (by simp) _
  simp only [World.size_alloc] at hb
  refine bodyPost_ret (v := .agg #[.string pName, .int .i64 3, .int .i64 2, .slice (some ⟨w.heap.size + 1, 0, none⟩) 6 6]) (by simp [results, Tryz.results94, go_sem, pName]) rfl ⟨w.heap.size + 1, rfl, by omega, hb, hbel⟩

set_option maxRecDepth 100000 in
theorem has_any (W H : Int) (A B : Option Addr) (c d : Nat) (l k : List Nat) (w : World) (hl : l.length ≤ maxLen) (hl2 : k.length ≤ maxLen) (hr : Rd w A (fl l)) (hr2 : Rd w B (fl k)) :
    Calls Tryz.prog 95 #[.agg #[.string pName, .int .i64 W, .int .i64 H, .slice A l.length c], .int .i64 W, .int .i64 H, .slice B k.length d] w fun e w' => e = .returned (.bool (sameF l k)) ∧ Below w.heap.size w w' := by
  unfold pName
  have HRa := Lib.hid hr; have HRb := Lib.hid hr2; clear hr hr2
  have hss := fun w h1 h2 => sameSamples_any A B c d l k w hl hl2 h1 h2
  have HSS := Lib.hid hss; clear hss
  generalize sameF l k = b at *
  go_enter Tryz.func95, Tryz.ntmps95
  go_wp2_with fail
  have hx0 := (Blk.new w 50 #[.string ⟨#[112]⟩, .int .i64 W, .int .i64 H, .slice A l.length c])
  have hb0 := ((Below.refl w.heap.size w).alloc (Nat.le_refl _) (.cells #[.string ⟨#[112]⟩, .int .i64 W, .int .i64 H, .slice A l.length c] 50))
  generalize (w.alloc (.cells #[.string ⟨#[112]⟩, .int .i64 W, .int .i64 H, .slice A l.length c] 50)) = w0 at hx0 hb0 ⊢
  have HX0_0 := Lib.hid hx0
  have HB_0 := Lib.hid hb0
  clear hx0 hb0
  have k0_0 := HX0_0.out.cell 0
  have k0_1 := HX0_0.out.cell 1
  have k0_2 := HX0_0.out.cell 2
  have k0_3 := HX0_0.out.cell 3
  simp only [List.getElem?_toArray, List.getElem?_cons_zero, List.getElem?_cons_succ] at k0_0 k0_1 k0_2 k0_3
  have hch : Below w0.heap.size w0 w0.drew := (Below.refl _ _).drew
  refine (HSS.out _ (by exact HRa.out.below HB_0.out) (by exact HRb.out.below HB_0.out)).mono ?_
  rintro e wn ⟨rfl, hbn⟩
  go_wp2
  go_ret
  exact ⟨rfl, HB_0.out.trans (hbn.mono HB_0.out.size)⟩

end Go.Proofs.YtkjkjhheckfhbaaGreatDoor
