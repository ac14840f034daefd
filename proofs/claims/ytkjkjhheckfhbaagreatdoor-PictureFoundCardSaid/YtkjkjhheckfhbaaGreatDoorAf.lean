/- The packet that follows. -/
import Derived.Test.YtkjkjhheckfhbaaGreatDoorPE
import Derived.Test.YtkjkjhheckfhbaaGreatDoorPE
namespace Go.Proofs.YtkjkjhheckfhbaaGreatDoor
open Go.RowKit
set_option linter.unusedVariables false
set_option maxRecDepth 100000 in
set_option maxHeartbeats 1000000 in
theorem following_any (k1 c1 k2 c2 d0 d1 d2 d3 d4 d5 d6 d7 d8 d9 e0 e1 e2 e3 e4 e5 e6 e7 e8 e9 : Int) (hc : 0 ≤ c1 ∧ c1 ≤ 1000000) (w : World) : Calls Tryz.prog 132 #[.agg #[.int .i64 k1, .int .i64 c1, .int .u8 d0, .int .u8 d1, .int .u8 d2, .int .u8 d3, .int .u8 d4, .int .u8 d5, .int .u8 d6, .int .u8 d7, .int .u8 d8, .int .u8 d9], .agg #[.int .i64 k2, .int .i64 c2, .int .u8 e0, .int .u8 e1, .int .u8 e2, .int .u8 e3, .int .u8 e4, .int .u8 e5, .int .u8 e6, .int .u8 e7, .int .u8 e8, .int .u8 e9]] w fun e w' => e = .returned (.agg #[.int .i64 k2, .int .i64 ((c1 + 1) % 256), .int .u8 e0, .int .u8 e1, .int .u8 e2, .int .u8 e3, .int .u8 e4, .int .u8 e5, .int .u8 e6, .int .u8 e7, .int .u8 e8, .int .u8 e9]) ∧ Below w.heap.size w w' := by
  have hm : (c1 + 1).tmod 256 = (c1 + 1) % 256 := Int.tmod_eq_emod_of_nonneg (by omega)
  have hb := Int.emod_lt_of_pos (c1 + 1) (show (0 : Int) < 256 by decide)
  have hb' := Int.emod_nonneg (c1 + 1) (show (256 : Int) ≠ 0 by decide)
  go_enter Tryz.func132, Tryz.ntmps132
  go_upto_region 1 with fail
  have hx0 := ((Blk.new w 92 #[.int .i64 k1, .int .i64 c1, .int .u8 d0, .int .u8 d1, .int .u8 d2, .int .u8 d3, .int .u8 d4, .int .u8 d5, .int .u8 d6, .int .u8 d7, .int .u8 d8, .int .u8 d9]).alloc (.cells #[.int .i64 k2, .int .i64 c2, .int .u8 e0, .int .u8 e1, .int .u8 e2, .int .u8 e3, .int .u8 e4, .int .u8 e5, .int .u8 e6, .int .u8 e7, .int .u8 e8, .int .u8 e9] 92)).alloc (.cells #[.int .i64 0, .int .i64 0, .int .u8 0, .int .u8 0, .int .u8 0, .int .u8 0, .int .u8 0, .int .u8 0, .int .u8 0, .int .u8 0, .int .u8 0, .int .u8 0] 92)
  have hx1 := (Blk.new (w.alloc (.cells #[.int .i64 k1, .int .i64 c1, .int .u8 d0, .int .u8 d1, .int .u8 d2, .int .u8 d3, .int .u8 d4, .int .u8 d5, .int .u8 d6, .int .u8 d7, .int .u8 d8, .int .u8 d9] 92)) 92 #[.int .i64 k2, .int .i64 c2, .int .u8 e0, .int .u8 e1, .int .u8 e2, .int .u8 e3, .int .u8 e4, .int .u8 e5, .int .u8 e6, .int .u8 e7, .int .u8 e8, .int .u8 e9]).alloc (.cells #[.int .i64 0, .int .i64 0, .int .u8 0, .int .u8 0, .int .u8 0, .int .u8 0, .int .u8 0, .int .u8 0, .int .u8 0, .int .u8 0, .int .u8 0, .int .u8 0] 92)
  have hx2 := Blk.new ((w.alloc (.cells #[.int .i64 k1, .int .i64 c1, .int .u8 d0, .int .u8 d1, .int .u8 d2, .int .u8 d3, .int .u8 d4, .int .u8 d5, .int .u8 d6, .int .u8 d7, .int .u8 d8, .int .u8 d9] 92)).alloc (.cells #[.int .i64 k2, .int .i64 c2, .int .u8 e0, .int .u8 e1, .int .u8 e2, .int .u8 e3, .int .u8 e4, .int .u8 e5, .int .u8 e6, .int .u8 e7, .int .u8 e8, .int .u8 e9] 92)) 92 #[.int .i64 0, .int .i64 0, .int .u8 0, .int .u8 0, .int .u8 0, .int .u8 0, .int .u8 0, .int .u8 0, .int .u8 0, .int .u8 0, .int .u8 0, .int .u8 0]
  simp only [World.size_alloc] at hx1 hx2
  have hb0 := ((((Below.refl w.heap.size w).alloc (Nat.le_refl _) (.cells #[.int .i64 k1, .int .i64 c1, .int .u8 d0, .int .u8 d1, .int .u8 d2, .int .u8 d3, .int .u8 d4, .int .u8 d5, .int .u8 d6, .int .u8 d7, .int .u8 d8, .int .u8 d9] 92)).alloc (by simp only [World.size_alloc]; omega) (.cells #[.int .i64 k2, .int .i64 c2, .int .u8 e0, .int .u8 e1, .int .u8 e2, .int .u8 e3, .int .u8 e4, .int .u8 e5, .int .u8 e6, .int .u8 e7, .int .u8 e8, .int .u8 e9] 92)).alloc (by simp only [World.size_alloc]; omega) (.cells #[.int .i64 0, .int .i64 0, .int .u8 0, .int .u8 0, .int .u8 0, .int .u8 0, .int .u8 0, .int .u8 0, .int .u8 0, .int .u8 0, .int .u8 0, .int .u8 0] 92))
  generalize (((w.alloc (.cells #[.int .i64 k1, .int .i64 c1, .int .u8 d0, .int .u8 d1, .int .u8 d2, .int .u8 d3, .int .u8 d4, .int .u8 d5, .int .u8 d6, .int .u8 d7, .int .u8 d8, .int .u8 d9] 92)).alloc (.cells #[.int .i64 k2, .int .i64 c2, .int .u8 e0, .int .u8 e1, .int .u8 e2, .int .u8 e3, .int .u8 e4, .int .u8 e5, .int .u8 e6, .int .u8 e7, .int .u8 e8, .int .u8 e9] 92)).alloc (.cells #[.int .i64 0, .int .i64 0, .int .u8 0, .int .u8 0, .int .u8 0, .int .u8 0, .int .u8 0, .int .u8 0, .int .u8 0, .int .u8 0, .int .u8 0, .int .u8 0] 92)) = w0 at hx0 hx1 hx2 hb0 ⊢
  have HB := Lib.hid hb0
  have k0 := hx0.cell 1
  simp only [List.getElem?_toArray, List.getElem?_cons_zero, List.getElem?_cons_succ] at k0
  have z0 := hx0.lt
  have z1 := hx1.lt
  have z2 := hx2.lt
  have fz := hx1.frozen 1
  have q0 := hx1.cell 0
  have q1 := hx1.cell 1
  have q2 := hx1.cell 2
  have q3 := hx1.cell 3
  have q4 := hx1.cell 4
  have q5 := hx1.cell 5
  have q6 := hx1.cell 6
  have q7 := hx1.cell 7
  have q8 := hx1.cell 8
  have q9 := hx1.cell 9
  have q10 := hx1.cell 10
  have q11 := hx1.cell 11
  simp only [List.getElem?_toArray, List.getElem?_cons_zero, List.getElem?_cons_succ] at q0 q1 q2 q3 q4 q5 q6 q7 q8 q9 q10 q11
  have r0 := hx2.cell 0
  have r1 := hx2.cell 1
  have r2 := hx2.cell 2
  have r3 := hx2.cell 3
  have r4 := hx2.cell 4
  have r5 := hx2.cell 5
  have r6 := hx2.cell 6
  have r7 := hx2.cell 7
  have r8 := hx2.cell 8
  have r9 := hx2.cell 9
  have r10 := hx2.cell 10
  have r11 := hx2.cell 11
  simp only [List.getElem?_toArray, List.getElem?_cons_zero, List.getElem?_cons_succ] at r0 r1 r2 r3 r4 r5 r6 r7 r8 r9 r10 r11
  have rf0 := hx2.frozen 0
  have rf1 := hx2.frozen 1
  have rf2 := hx2.frozen 2
  have rf3 := hx2.frozen 3
  have rf4 := hx2.frozen 4
  have rf5 := hx2.frozen 5
  have rf6 := hx2.frozen 6
  have rf7 := hx2.frozen 7
  have rf8 := hx2.frozen 8
  have rf9 := hx2.frozen 9
  have rf10 := hx2.frozen 10
  have rf11 := hx2.frozen 11
  clear hx0 hx1 hx2 hb0
  go_wp2
  refine bodyPost_ret (v := .agg #[.int .i64 k2, .int .i64 ((c1 + 1) % 256), .int .u8 e0, .int .u8 e1, .int .u8 e2, .int .u8 e3, .int .u8 e4, .int .u8 e5, .int .u8 e6, .int .u8 e7, .int .u8 e8, .int .u8 e9]) (by simp [results, Tryz.results132, go_sem, r0, r1, r2, r3, r4, r5, r6, r7, r8, r9, r10, r11]) rfl ⟨rfl, ?_⟩
  exact (((((((((((((HB.out.setCell (p := ⟨w.heap.size + 1, 1, none⟩) (by simp) _).setCell (p := ⟨w.heap.size + 2, 0, none⟩) (by simp) _).setCell (p := ⟨w.heap.size + 2, 1, none⟩) (by simp) _).setCell (p := ⟨w.heap.size + 2, 2, none⟩) (by simp) _).setCell (p := ⟨w.heap.size + 2, 3, none⟩) (by simp) _).setCell (p := ⟨w.heap.size + 2, 4, none⟩) (by simp) _).setCell (p := ⟨w.heap.size + 2, 5, none⟩) (by simp) _).setCell (p := ⟨w.heap.size + 2, 6, none⟩) (by simp) _).setCell (p := ⟨w.heap.size + 2, 7, none⟩) (by simp) _).setCell (p := ⟨w.heap.size + 2, 8, none⟩) (by simp) _).setCell (p := ⟨w.heap.size + 2, 9, none⟩) (by simp) _).setCell (p := ⟨w.heap.size + 2, 10, none⟩) (by simp) _).setCell (p := ⟨w.heap.size + 2, 11, none⟩) (by simp) _)

end Go.Proofs.YtkjkjhheckfhbaaGreatDoor
