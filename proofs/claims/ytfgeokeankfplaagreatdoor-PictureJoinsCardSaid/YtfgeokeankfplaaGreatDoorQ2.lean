/- Parts of a proof: Beside, Above and Woven of the reference, where they are refused. Beside and Woven of the reference, where they are good. A picture above another one, by the code. A picture above another one, by the reference. Beside, Above and Woven: what each gives, by the code and by the reference. -/
import Derived.Test.YtfgeokeankfplaaGreatDoorP2
import Derived.Test.YtfgeokeankfplaaGreatDoorW
import Derived.Test.YtfgeokeankfplaaGreatDoorP4
import Derived.Test.YtfgeokeankfplaaGreatDoorQ1
import Derived.Test.YtfgeokeankfplaaGreatDoorO
import Derived.Test.YtfgeokeankfplaaGreatDoorX
import Derived.Deep.RegionLaw
namespace Go.Proofs.YtfgeokeankfplaaGreatDoor
open Go.RowKit
set_option linter.unusedVariables false
set_option maxRecDepth 100000

set_option maxHeartbeats 1000000 in
theorem besideR_shape (nm nm2 : ByteArray) (Wa Ha Wb Hb : Int) (ba : 1 ≤ Wa ∧ Wa ≤ 64 ∧ 1 ≤ Ha ∧ Ha ≤ 64) (bb : 1 ≤ Wb ∧ Wb ≤ 64 ∧ 1 ≤ Hb ∧ Hb ≤ 64) (hne : ¬ Ha = Hb) (A B : Option Addr) (n m c d : Nat) (w : World) :
    Calls Tryz.prog 43 #[.agg #[.string nm, .int .i64 Wa, .int .i64 Ha, .slice A n c], .agg #[.string nm2, .int .i64 Wb, .int .i64 Hb, .slice B m d]] w fun e w' => e = .returned (.tuple #[.agg #[.string ⟨#[]⟩, .int .i64 0, .int .i64 0, .slice none 0 0], .int .i64 2]) ∧ Below w.heap.size w w' := by
  obtain ⟨ba1, ba2, ba3, ba4⟩ := ba
  obtain ⟨bb1, bb2, bb3, bb4⟩ := bb
  go_enter Tryz.func43, Tryz.ntmps43
  go_upto_region 1 with fail
  have hx0 := ((Blk.new w 43 #[.string nm, .int .i64 Wa, .int .i64 Ha, .slice A n c]).alloc (.cells #[.string nm2, .int .i64 Wb, .int .i64 Hb, .slice B m d] 43)).alloc (.cells #[.string ⟨#[]⟩, .int .i64 0, .int .i64 0, .slice none 0 0] 43)
  have hx1 := (Blk.new (w.alloc (.cells #[.string nm, .int .i64 Wa, .int .i64 Ha, .slice A n c] 43)) 43 #[.string nm2, .int .i64 Wb, .int .i64 Hb, .slice B m d]).alloc (.cells #[.string ⟨#[]⟩, .int .i64 0, .int .i64 0, .slice none 0 0] 43)
  have hx2 := Blk.new ((w.alloc (.cells #[.string nm, .int .i64 Wa, .int .i64 Ha, .slice A n c] 43)).alloc (.cells #[.string nm2, .int .i64 Wb, .int .i64 Hb, .slice B m d] 43)) 43 #[.string ⟨#[]⟩, .int .i64 0, .int .i64 0, .slice none 0 0]
  simp only [World.size_alloc] at hx1 hx2
  have hb0 := (((Below.refl w.heap.size w).alloc (Nat.le_refl _) (.cells #[.string nm, .int .i64 Wa, .int .i64 Ha, .slice A n c] 43)).alloc (by simp only [World.size_alloc]; omega) (.cells #[.string nm2, .int .i64 Wb, .int .i64 Hb, .slice B m d] 43)).alloc (by simp only [World.size_alloc]; omega) (.cells #[.string ⟨#[]⟩, .int .i64 0, .int .i64 0, .slice none 0 0] 43)
  generalize (((w.alloc (.cells #[.string nm, .int .i64 Wa, .int .i64 Ha, .slice A n c] 43)).alloc (.cells #[.string nm2, .int .i64 Wb, .int .i64 Hb, .slice B m d] 43)).alloc (.cells #[.string ⟨#[]⟩, .int .i64 0, .int .i64 0, .slice none 0 0] 43)) = w0 at hx0 hx1 hx2 hb0 ⊢
  obtain ⟨c0, c1, c2, c3⟩ := box4 hx0
  obtain ⟨d0, d1, d2, d3⟩ := box4 hx1
  have z1 := hx2.lt
  have f0 := hx2.frozen 0; have f1 := hx2.frozen 1; have f2 := hx2.frozen 2; have f3 := hx2.frozen 3
  obtain ⟨e0, e1, e2, e3⟩ := box4 hx2
  have hyy := Lib.hid (show Blk ((((w0.setCell ⟨w.heap.size + 1 + 1, 0, none⟩ (.string ⟨#[]⟩)).setCell ⟨w.heap.size + 1 + 1, 1, none⟩ (.int .i64 0)).setCell ⟨w.heap.size + 1 + 1, 2, none⟩ (.int .i64 0)).setCell ⟨w.heap.size + 1 + 1, 3, none⟩ (.slice none 0 0)) (w.heap.size + 1 + 1) 43 #[.string ⟨#[]⟩, .int .i64 0, .int .i64 0, .slice none 0 0] from (((hx2.set_ 0 _).set_ 1 _).set_ 2 _).set_ 3 _)
  have HB := Lib.hid hb0; clear hx0 hx1 hx2 hb0
  go_wp2
  all_goals
    obtain ⟨r0, r1, r2, r3⟩ := box4 hyy.out
    exact bodyPost_ret (v := .tuple #[.agg #[.string ⟨#[]⟩, .int .i64 0, .int .i64 0, .slice none 0 0], .int .i64 2]) (by simp [results, Tryz.results43, go_sem, r0, r1, r2, r3]) rfl ⟨rfl, below_set4 HB.out (by omega) _ _ _ _⟩

set_option maxHeartbeats 1000000 in
theorem besideR_many (nm nm2 : ByteArray) (Wa Ha Wb : Int) (ba : 1 ≤ Wa ∧ Wa ≤ 64 ∧ 1 ≤ Ha ∧ Ha ≤ 64) (bb : 1 ≤ Wb ∧ Wb ≤ 64 ∧ 1 ≤ Ha ∧ Ha ≤ 64) (hbig : 64 < Wa + Wb) (A B : Option Addr) (n m c d : Nat) (w : World) :
    Calls Tryz.prog 43 #[.agg #[.string nm, .int .i64 Wa, .int .i64 Ha, .slice A n c], .agg #[.string nm2, .int .i64 Wb, .int .i64 Ha, .slice B m d]] w fun e w' => e = .returned (.tuple #[.agg #[.string ⟨#[]⟩, .int .i64 0, .int .i64 0, .slice none 0 0], .int .i64 5]) ∧ Below w.heap.size w w' := by
  obtain ⟨ba1, ba2, ba3, ba4⟩ := ba
  obtain ⟨bb1, bb2, bb3, bb4⟩ := bb
  go_enter Tryz.func43, Tryz.ntmps43
  go_upto_region 1 with fail
  have hx0 := ((Blk.new w 43 #[.string nm, .int .i64 Wa, .int .i64 Ha, .slice A n c]).alloc (.cells #[.string nm2, .int .i64 Wb, .int .i64 Ha, .slice B m d] 43)).alloc (.cells #[.string ⟨#[]⟩, .int .i64 0, .int .i64 0, .slice none 0 0] 43)
  have hx1 := (Blk.new (w.alloc (.cells #[.string nm, .int .i64 Wa, .int .i64 Ha, .slice A n c] 43)) 43 #[.string nm2, .int .i64 Wb, .int .i64 Ha, .slice B m d]).alloc (.cells #[.string ⟨#[]⟩, .int .i64 0, .int .i64 0, .slice none 0 0] 43)
  have hx2 := Blk.new ((w.alloc (.cells #[.string nm, .int .i64 Wa, .int .i64 Ha, .slice A n c] 43)).alloc (.cells #[.string nm2, .int .i64 Wb, .int .i64 Ha, .slice B m d] 43)) 43 #[.string ⟨#[]⟩, .int .i64 0, .int .i64 0, .slice none 0 0]
  simp only [World.size_alloc] at hx1 hx2
  have hb0 := (((Below.refl w.heap.size w).alloc (Nat.le_refl _) (.cells #[.string nm, .int .i64 Wa, .int .i64 Ha, .slice A n c] 43)).alloc (by simp only [World.size_alloc]; omega) (.cells #[.string nm2, .int .i64 Wb, .int .i64 Ha, .slice B m d] 43)).alloc (by simp only [World.size_alloc]; omega) (.cells #[.string ⟨#[]⟩, .int .i64 0, .int .i64 0, .slice none 0 0] 43)
  generalize (((w.alloc (.cells #[.string nm, .int .i64 Wa, .int .i64 Ha, .slice A n c] 43)).alloc (.cells #[.string nm2, .int .i64 Wb, .int .i64 Ha, .slice B m d] 43)).alloc (.cells #[.string ⟨#[]⟩, .int .i64 0, .int .i64 0, .slice none 0 0] 43)) = w0 at hx0 hx1 hx2 hb0 ⊢
  obtain ⟨c0, c1, c2, c3⟩ := box4 hx0
  obtain ⟨d0, d1, d2, d3⟩ := box4 hx1
  have z1 := hx2.lt
  have f0 := hx2.frozen 0; have f1 := hx2.frozen 1; have f2 := hx2.frozen 2; have f3 := hx2.frozen 3
  obtain ⟨e0, e1, e2, e3⟩ := box4 hx2
  have hyy := Lib.hid (show Blk ((((w0.setCell ⟨w.heap.size + 1 + 1, 0, none⟩ (.string ⟨#[]⟩)).setCell ⟨w.heap.size + 1 + 1, 1, none⟩ (.int .i64 0)).setCell ⟨w.heap.size + 1 + 1, 2, none⟩ (.int .i64 0)).setCell ⟨w.heap.size + 1 + 1, 3, none⟩ (.slice none 0 0)) (w.heap.size + 1 + 1) 43 #[.string ⟨#[]⟩, .int .i64 0, .int .i64 0, .slice none 0 0] from (((hx2.set_ 0 _).set_ 1 _).set_ 2 _).set_ 3 _)
  have HB := Lib.hid hb0; clear hx0 hx1 hx2 hb0
  go_wp2
  all_goals
    obtain ⟨r0, r1, r2, r3⟩ := box4 hyy.out
    exact bodyPost_ret (v := .tuple #[.agg #[.string ⟨#[]⟩, .int .i64 0, .int .i64 0, .slice none 0 0], .int .i64 5]) (by simp [results, Tryz.results43, go_sem, r0, r1, r2, r3]) rfl ⟨rfl, below_set4 HB.out (by omega) _ _ _ _⟩

set_option maxHeartbeats 1000000 in
theorem aboveR_shape (nm nm2 : ByteArray) (Wa Ha Wb Hb : Int) (ba : 1 ≤ Wa ∧ Wa ≤ 64 ∧ 1 ≤ Ha ∧ Ha ≤ 64) (bb : 1 ≤ Wb ∧ Wb ≤ 64 ∧ 1 ≤ Hb ∧ Hb ≤ 64) (hne : ¬ Wa = Wb) (A B : Option Addr) (n m c d : Nat) (w : World) :
    Calls Tryz.prog 44 #[.agg #[.string nm, .int .i64 Wa, .int .i64 Ha, .slice A n c], .agg #[.string nm2, .int .i64 Wb, .int .i64 Hb, .slice B m d]] w fun e w' => e = .returned (.tuple #[.agg #[.string ⟨#[]⟩, .int .i64 0, .int .i64 0, .slice none 0 0], .int .i64 2]) ∧ Below w.heap.size w w' := by
  obtain ⟨ba1, ba2, ba3, ba4⟩ := ba
  obtain ⟨bb1, bb2, bb3, bb4⟩ := bb
  go_enter Tryz.func44, Tryz.ntmps44
  go_upto_region 1 with fail
  have hx0 := ((Blk.new w 43 #[.string nm, .int .i64 Wa, .int .i64 Ha, .slice A n c]).alloc (.cells #[.string nm2, .int .i64 Wb, .int .i64 Hb, .slice B m d] 43)).alloc (.cells #[.string ⟨#[]⟩, .int .i64 0, .int .i64 0, .slice none 0 0] 43)
  have hx1 := (Blk.new (w.alloc (.cells #[.string nm, .int .i64 Wa, .int .i64 Ha, .slice A n c] 43)) 43 #[.string nm2, .int .i64 Wb, .int .i64 Hb, .slice B m d]).alloc (.cells #[.string ⟨#[]⟩, .int .i64 0, .int .i64 0, .slice none 0 0] 43)
  have hx2 := Blk.new ((w.alloc (.cells #[.string nm, .int .i64 Wa, .int .i64 Ha, .slice A n c] 43)).alloc (.cells #[.string nm2, .int .i64 Wb, .int .i64 Hb, .slice B m d] 43)) 43 #[.string ⟨#[]⟩, .int .i64 0, .int .i64 0, .slice none 0 0]
  simp only [World.size_alloc] at hx1 hx2
  have hb0 := (((Below.refl w.heap.size w).alloc (Nat.le_refl _) (.cells #[.string nm, .int .i64 Wa, .int .i64 Ha, .slice A n c] 43)).alloc (by simp only [World.size_alloc]; omega) (.cells #[.string nm2, .int .i64 Wb, .int .i64 Hb, .slice B m d] 43)).alloc (by simp only [World.size_alloc]; omega) (.cells #[.string ⟨#[]⟩, .int .i64 0, .int .i64 0, .slice none 0 0] 43)
  generalize (((w.alloc (.cells #[.string nm, .int .i64 Wa, .int .i64 Ha, .slice A n c] 43)).alloc (.cells #[.string nm2, .int .i64 Wb, .int .i64 Hb, .slice B m d] 43)).alloc (.cells #[.string ⟨#[]⟩, .int .i64 0, .int .i64 0, .slice none 0 0] 43)) = w0 at hx0 hx1 hx2 hb0 ⊢
  obtain ⟨c0, c1, c2, c3⟩ := box4 hx0
  obtain ⟨d0, d1, d2, d3⟩ := box4 hx1
  have z1 := hx2.lt
  have f0 := hx2.frozen 0; have f1 := hx2.frozen 1; have f2 := hx2.frozen 2; have f3 := hx2.frozen 3
  obtain ⟨e0, e1, e2, e3⟩ := box4 hx2
  have hyy := Lib.hid (show Blk ((((w0.setCell ⟨w.heap.size + 1 + 1, 0, none⟩ (.string ⟨#[]⟩)).setCell ⟨w.heap.size + 1 + 1, 1, none⟩ (.int .i64 0)).setCell ⟨w.heap.size + 1 + 1, 2, none⟩ (.int .i64 0)).setCell ⟨w.heap.size + 1 + 1, 3, none⟩ (.slice none 0 0)) (w.heap.size + 1 + 1) 43 #[.string ⟨#[]⟩, .int .i64 0, .int .i64 0, .slice none 0 0] from (((hx2.set_ 0 _).set_ 1 _).set_ 2 _).set_ 3 _)
  have HB := Lib.hid hb0; clear hx0 hx1 hx2 hb0
  go_wp2
  all_goals
    obtain ⟨r0, r1, r2, r3⟩ := box4 hyy.out
    exact bodyPost_ret (v := .tuple #[.agg #[.string ⟨#[]⟩, .int .i64 0, .int .i64 0, .slice none 0 0], .int .i64 2]) (by simp [results, Tryz.results44, go_sem, r0, r1, r2, r3]) rfl ⟨rfl, below_set4 HB.out (by omega) _ _ _ _⟩

set_option maxHeartbeats 1000000 in
theorem aboveR_many (nm nm2 : ByteArray) (Wa Ha Hb : Int) (ba : 1 ≤ Wa ∧ Wa ≤ 64 ∧ 1 ≤ Ha ∧ Ha ≤ 64) (bb : 1 ≤ Wa ∧ Wa ≤ 64 ∧ 1 ≤ Hb ∧ Hb ≤ 64) (hbig : 64 < Ha + Hb) (A B : Option Addr) (n m c d : Nat) (w : World) :
    Calls Tryz.prog 44 #[.agg #[.string nm, .int .i64 Wa, .int .i64 Ha, .slice A n c], .agg #[.string nm2, .int .i64 Wa, .int .i64 Hb, .slice B m d]] w fun e w' => e = .returned (.tuple #[.agg #[.string ⟨#[]⟩, .int .i64 0, .int .i64 0, .slice none 0 0], .int .i64 5]) ∧ Below w.heap.size w w' := by
  obtain ⟨ba1, ba2, ba3, ba4⟩ := ba
  obtain ⟨bb1, bb2, bb3, bb4⟩ := bb
  go_enter Tryz.func44, Tryz.ntmps44
  go_upto_region 1 with fail
  have hx0 := ((Blk.new w 43 #[.string nm, .int .i64 Wa, .int .i64 Ha, .slice A n c]).alloc (.cells #[.string nm2, .int .i64 Wa, .int .i64 Hb, .slice B m d] 43)).alloc (.cells #[.string ⟨#[]⟩, .int .i64 0, .int .i64 0, .slice none 0 0] 43)
  have hx1 := (Blk.new (w.alloc (.cells #[.string nm, .int .i64 Wa, .int .i64 Ha, .slice A n c] 43)) 43 #[.string nm2, .int .i64 Wa, .int .i64 Hb, .slice B m d]).alloc (.cells #[.string ⟨#[]⟩, .int .i64 0, .int .i64 0, .slice none 0 0] 43)
  have hx2 := Blk.new ((w.alloc (.cells #[.string nm, .int .i64 Wa, .int .i64 Ha, .slice A n c] 43)).alloc (.cells #[.string nm2, .int .i64 Wa, .int .i64 Hb, .slice B m d] 43)) 43 #[.string ⟨#[]⟩, .int .i64 0, .int .i64 0, .slice none 0 0]
  simp only [World.size_alloc] at hx1 hx2
  have hb0 := (((Below.refl w.heap.size w).alloc (Nat.le_refl _) (.cells #[.string nm, .int .i64 Wa, .int .i64 Ha, .slice A n c] 43)).alloc (by simp only [World.size_alloc]; omega) (.cells #[.string nm2, .int .i64 Wa, .int .i64 Hb, .slice B m d] 43)).alloc (by simp only [World.size_alloc]; omega) (.cells #[.string ⟨#[]⟩, .int .i64 0, .int .i64 0, .slice none 0 0] 43)
  generalize (((w.alloc (.cells #[.string nm, .int .i64 Wa, .int .i64 Ha, .slice A n c] 43)).alloc (.cells #[.string nm2, .int .i64 Wa, .int .i64 Hb, .slice B m d] 43)).alloc (.cells #[.string ⟨#[]⟩, .int .i64 0, .int .i64 0, .slice none 0 0] 43)) = w0 at hx0 hx1 hx2 hb0 ⊢
  obtain ⟨c0, c1, c2, c3⟩ := box4 hx0
  obtain ⟨d0, d1, d2, d3⟩ := box4 hx1
  have z1 := hx2.lt
  have f0 := hx2.frozen 0; have f1 := hx2.frozen 1; have f2 := hx2.frozen 2; have f3 := hx2.frozen 3
  obtain ⟨e0, e1, e2, e3⟩ := box4 hx2
  have hyy := Lib.hid (show Blk ((((w0.setCell ⟨w.heap.size + 1 + 1, 0, none⟩ (.string ⟨#[]⟩)).setCell ⟨w.heap.size + 1 + 1, 1, none⟩ (.int .i64 0)).setCell ⟨w.heap.size + 1 + 1, 2, none⟩ (.int .i64 0)).setCell ⟨w.heap.size + 1 + 1, 3, none⟩ (.slice none 0 0)) (w.heap.size + 1 + 1) 43 #[.string ⟨#[]⟩, .int .i64 0, .int .i64 0, .slice none 0 0] from (((hx2.set_ 0 _).set_ 1 _).set_ 2 _).set_ 3 _)
  have HB := Lib.hid hb0; clear hx0 hx1 hx2 hb0
  go_wp2
  all_goals
    obtain ⟨r0, r1, r2, r3⟩ := box4 hyy.out
    exact bodyPost_ret (v := .tuple #[.agg #[.string ⟨#[]⟩, .int .i64 0, .int .i64 0, .slice none 0 0], .int .i64 5]) (by simp [results, Tryz.results44, go_sem, r0, r1, r2, r3]) rfl ⟨rfl, below_set4 HB.out (by omega) _ _ _ _⟩

set_option maxHeartbeats 1000000 in
theorem wovenR_shape1 (nm nm2 : ByteArray) (Wa Ha Wb Hb : Int) (ba : 1 ≤ Wa ∧ Wa ≤ 64 ∧ 1 ≤ Ha ∧ Ha ≤ 64) (bb : 1 ≤ Wb ∧ Wb ≤ 64 ∧ 1 ≤ Hb ∧ Hb ≤ 64) (hne : ¬ Wa = Wb) (A B : Option Addr) (n m c d : Nat) (w : World) :
    Calls Tryz.prog 45 #[.agg #[.string nm, .int .i64 Wa, .int .i64 Ha, .slice A n c], .agg #[.string nm2, .int .i64 Wb, .int .i64 Hb, .slice B m d]] w fun e w' => e = .returned (.tuple #[.agg #[.string ⟨#[]⟩, .int .i64 0, .int .i64 0, .slice none 0 0], .int .i64 2]) ∧ Below w.heap.size w w' := by
  obtain ⟨ba1, ba2, ba3, ba4⟩ := ba
  obtain ⟨bb1, bb2, bb3, bb4⟩ := bb
  go_enter Tryz.func45, Tryz.ntmps45
  go_upto_region 1 with fail
  have hx0 := ((Blk.new w 43 #[.string nm, .int .i64 Wa, .int .i64 Ha, .slice A n c]).alloc (.cells #[.string nm2, .int .i64 Wb, .int .i64 Hb, .slice B m d] 43)).alloc (.cells #[.string ⟨#[]⟩, .int .i64 0, .int .i64 0, .slice none 0 0] 43)
  have hx1 := (Blk.new (w.alloc (.cells #[.string nm, .int .i64 Wa, .int .i64 Ha, .slice A n c] 43)) 43 #[.string nm2, .int .i64 Wb, .int .i64 Hb, .slice B m d]).alloc (.cells #[.string ⟨#[]⟩, .int .i64 0, .int .i64 0, .slice none 0 0] 43)
  have hx2 := Blk.new ((w.alloc (.cells #[.string nm, .int .i64 Wa, .int .i64 Ha, .slice A n c] 43)).alloc (.cells #[.string nm2, .int .i64 Wb, .int .i64 Hb, .slice B m d] 43)) 43 #[.string ⟨#[]⟩, .int .i64 0, .int .i64 0, .slice none 0 0]
  simp only [World.size_alloc] at hx1 hx2
  have hb0 := (((Below.refl w.heap.size w).alloc (Nat.le_refl _) (.cells #[.string nm, .int .i64 Wa, .int .i64 Ha, .slice A n c] 43)).alloc (by simp only [World.size_alloc]; omega) (.cells #[.string nm2, .int .i64 Wb, .int .i64 Hb, .slice B m d] 43)).alloc (by simp only [World.size_alloc]; omega) (.cells #[.string ⟨#[]⟩, .int .i64 0, .int .i64 0, .slice none 0 0] 43)
  generalize (((w.alloc (.cells #[.string nm, .int .i64 Wa, .int .i64 Ha, .slice A n c] 43)).alloc (.cells #[.string nm2, .int .i64 Wb, .int .i64 Hb, .slice B m d] 43)).alloc (.cells #[.string ⟨#[]⟩, .int .i64 0, .int .i64 0, .slice none 0 0] 43)) = w0 at hx0 hx1 hx2 hb0 ⊢
  obtain ⟨c0, c1, c2, c3⟩ := box4 hx0
  obtain ⟨d0, d1, d2, d3⟩ := box4 hx1
  have z1 := hx2.lt
  have f0 := hx2.frozen 0; have f1 := hx2.frozen 1; have f2 := hx2.frozen 2; have f3 := hx2.frozen 3
  obtain ⟨e0, e1, e2, e3⟩ := box4 hx2
  have hyy := Lib.hid (show Blk ((((w0.setCell ⟨w.heap.size + 1 + 1, 0, none⟩ (.string ⟨#[]⟩)).setCell ⟨w.heap.size + 1 + 1, 1, none⟩ (.int .i64 0)).setCell ⟨w.heap.size + 1 + 1, 2, none⟩ (.int .i64 0)).setCell ⟨w.heap.size + 1 + 1, 3, none⟩ (.slice none 0 0)) (w.heap.size + 1 + 1) 43 #[.string ⟨#[]⟩, .int .i64 0, .int .i64 0, .slice none 0 0] from (((hx2.set_ 0 _).set_ 1 _).set_ 2 _).set_ 3 _)
  have HB := Lib.hid hb0; clear hx0 hx1 hx2 hb0
  go_wp2
  all_goals
    obtain ⟨r0, r1, r2, r3⟩ := box4 hyy.out
    exact bodyPost_ret (v := .tuple #[.agg #[.string ⟨#[]⟩, .int .i64 0, .int .i64 0, .slice none 0 0], .int .i64 2]) (by simp [results, Tryz.results45, go_sem, r0, r1, r2, r3]) rfl ⟨rfl, below_set4 HB.out (by omega) _ _ _ _⟩

set_option maxHeartbeats 1000000 in
theorem wovenR_shape2 (nm nm2 : ByteArray) (Wa Ha Hb : Int) (ba : 1 ≤ Wa ∧ Wa ≤ 64 ∧ 1 ≤ Ha ∧ Ha ≤ 64) (bb : 1 ≤ Wa ∧ Wa ≤ 64 ∧ 1 ≤ Hb ∧ Hb ≤ 64) (hne : ¬ Ha = Hb) (hne2 : ¬ Ha = Hb + 1) (A B : Option Addr) (n m c d : Nat) (w : World) :
    Calls Tryz.prog 45 #[.agg #[.string nm, .int .i64 Wa, .int .i64 Ha, .slice A n c], .agg #[.string nm2, .int .i64 Wa, .int .i64 Hb, .slice B m d]] w fun e w' => e = .returned (.tuple #[.agg #[.string ⟨#[]⟩, .int .i64 0, .int .i64 0, .slice none 0 0], .int .i64 2]) ∧ Below w.heap.size w w' := by
  obtain ⟨ba1, ba2, ba3, ba4⟩ := ba
  obtain ⟨bb1, bb2, bb3, bb4⟩ := bb
  have g1 : (Ha != Hb) = true := by simp [hne]
  have g2 : (Ha != Hb + 1) = true := by simp [hne2]
  have g3 : (Ha == Hb) = false := by simp [hne]
  have g4 : (Ha == Hb + 1) = false := by simp [hne2]
  go_enter Tryz.func45, Tryz.ntmps45
  go_upto_region 1 with fail
  have hx0 := ((Blk.new w 43 #[.string nm, .int .i64 Wa, .int .i64 Ha, .slice A n c]).alloc (.cells #[.string nm2, .int .i64 Wa, .int .i64 Hb, .slice B m d] 43)).alloc (.cells #[.string ⟨#[]⟩, .int .i64 0, .int .i64 0, .slice none 0 0] 43)
  have hx1 := (Blk.new (w.alloc (.cells #[.string nm, .int .i64 Wa, .int .i64 Ha, .slice A n c] 43)) 43 #[.string nm2, .int .i64 Wa, .int .i64 Hb, .slice B m d]).alloc (.cells #[.string ⟨#[]⟩, .int .i64 0, .int .i64 0, .slice none 0 0] 43)
  have hx2 := Blk.new ((w.alloc (.cells #[.string nm, .int .i64 Wa, .int .i64 Ha, .slice A n c] 43)).alloc (.cells #[.string nm2, .int .i64 Wa, .int .i64 Hb, .slice B m d] 43)) 43 #[.string ⟨#[]⟩, .int .i64 0, .int .i64 0, .slice none 0 0]
  simp only [World.size_alloc] at hx1 hx2
  have hb0 := (((Below.refl w.heap.size w).alloc (Nat.le_refl _) (.cells #[.string nm, .int .i64 Wa, .int .i64 Ha, .slice A n c] 43)).alloc (by simp only [World.size_alloc]; omega) (.cells #[.string nm2, .int .i64 Wa, .int .i64 Hb, .slice B m d] 43)).alloc (by simp only [World.size_alloc]; omega) (.cells #[.string ⟨#[]⟩, .int .i64 0, .int .i64 0, .slice none 0 0] 43)
  generalize (((w.alloc (.cells #[.string nm, .int .i64 Wa, .int .i64 Ha, .slice A n c] 43)).alloc (.cells #[.string nm2, .int .i64 Wa, .int .i64 Hb, .slice B m d] 43)).alloc (.cells #[.string ⟨#[]⟩, .int .i64 0, .int .i64 0, .slice none 0 0] 43)) = w0 at hx0 hx1 hx2 hb0 ⊢
  obtain ⟨c0, c1, c2, c3⟩ := box4 hx0
  obtain ⟨d0, d1, d2, d3⟩ := box4 hx1
  have z1 := hx2.lt
  have f0 := hx2.frozen 0; have f1 := hx2.frozen 1; have f2 := hx2.frozen 2; have f3 := hx2.frozen 3
  obtain ⟨e0, e1, e2, e3⟩ := box4 hx2
  have hyy := Lib.hid (show Blk ((((w0.setCell ⟨w.heap.size + 1 + 1, 0, none⟩ (.string ⟨#[]⟩)).setCell ⟨w.heap.size + 1 + 1, 1, none⟩ (.int .i64 0)).setCell ⟨w.heap.size + 1 + 1, 2, none⟩ (.int .i64 0)).setCell ⟨w.heap.size + 1 + 1, 3, none⟩ (.slice none 0 0)) (w.heap.size + 1 + 1) 43 #[.string ⟨#[]⟩, .int .i64 0, .int .i64 0, .slice none 0 0] from (((hx2.set_ 0 _).set_ 1 _).set_ 2 _).set_ 3 _)
  have HB := Lib.hid hb0; clear hx0 hx1 hx2 hb0
  go_wp2
  all_goals
    obtain ⟨r0, r1, r2, r3⟩ := box4 hyy.out
    exact bodyPost_ret (v := .tuple #[.agg #[.string ⟨#[]⟩, .int .i64 0, .int .i64 0, .slice none 0 0], .int .i64 2]) (by simp [results, Tryz.results45, go_sem, r0, r1, r2, r3]) rfl ⟨rfl, below_set4 HB.out (by omega) _ _ _ _⟩

set_option maxHeartbeats 1000000 in
theorem wovenR_many1 (nm nm2 : ByteArray) (Wa Ha : Int) (ba : 1 ≤ Wa ∧ Wa ≤ 64 ∧ 1 ≤ Ha ∧ Ha ≤ 64) (bb : 1 ≤ Wa ∧ Wa ≤ 64 ∧ 1 ≤ Ha ∧ Ha ≤ 64) (hbig : 64 < Ha + Ha) (A B : Option Addr) (n m c d : Nat) (w : World) :
    Calls Tryz.prog 45 #[.agg #[.string nm, .int .i64 Wa, .int .i64 Ha, .slice A n c], .agg #[.string nm2, .int .i64 Wa, .int .i64 Ha, .slice B m d]] w fun e w' => e = .returned (.tuple #[.agg #[.string ⟨#[]⟩, .int .i64 0, .int .i64 0, .slice none 0 0], .int .i64 5]) ∧ Below w.heap.size w w' := by
  obtain ⟨ba1, ba2, ba3, ba4⟩ := ba
  obtain ⟨bb1, bb2, bb3, bb4⟩ := bb
  go_enter Tryz.func45, Tryz.ntmps45
  go_upto_region 1 with fail
  have hx0 := ((Blk.new w 43 #[.string nm, .int .i64 Wa, .int .i64 Ha, .slice A n c]).alloc (.cells #[.string nm2, .int .i64 Wa, .int .i64 Ha, .slice B m d] 43)).alloc (.cells #[.string ⟨#[]⟩, .int .i64 0, .int .i64 0, .slice none 0 0] 43)
  have hx1 := (Blk.new (w.alloc (.cells #[.string nm, .int .i64 Wa, .int .i64 Ha, .slice A n c] 43)) 43 #[.string nm2, .int .i64 Wa, .int .i64 Ha, .slice B m d]).alloc (.cells #[.string ⟨#[]⟩, .int .i64 0, .int .i64 0, .slice none 0 0] 43)
  have hx2 := Blk.new ((w.alloc (.cells #[.string nm, .int .i64 Wa, .int .i64 Ha, .slice A n c] 43)).alloc (.cells #[.string nm2, .int .i64 Wa, .int .i64 Ha, .slice B m d] 43)) 43 #[.string ⟨#[]⟩, .int .i64 0, .int .i64 0, .slice none 0 0]
  simp only [World.size_alloc] at hx1 hx2
  have hb0 := (((Below.refl w.heap.size w).alloc (Nat.le_refl _) (.cells #[.string nm, .int .i64 Wa, .int .i64 Ha, .slice A n c] 43)).alloc (by simp only [World.size_alloc]; omega) (.cells #[.string nm2, .int .i64 Wa, .int .i64 Ha, .slice B m d] 43)).alloc (by simp only [World.size_alloc]; omega) (.cells #[.string ⟨#[]⟩, .int .i64 0, .int .i64 0, .slice none 0 0] 43)
  generalize (((w.alloc (.cells #[.string nm, .int .i64 Wa, .int .i64 Ha, .slice A n c] 43)).alloc (.cells #[.string nm2, .int .i64 Wa, .int .i64 Ha, .slice B m d] 43)).alloc (.cells #[.string ⟨#[]⟩, .int .i64 0, .int .i64 0, .slice none 0 0] 43)) = w0 at hx0 hx1 hx2 hb0 ⊢
  obtain ⟨c0, c1, c2, c3⟩ := box4 hx0
  obtain ⟨d0, d1, d2, d3⟩ := box4 hx1
  have z1 := hx2.lt
  have f0 := hx2.frozen 0; have f1 := hx2.frozen 1; have f2 := hx2.frozen 2; have f3 := hx2.frozen 3
  obtain ⟨e0, e1, e2, e3⟩ := box4 hx2
  have hyy := Lib.hid (show Blk ((((w0.setCell ⟨w.heap.size + 1 + 1, 0, none⟩ (.string ⟨#[]⟩)).setCell ⟨w.heap.size + 1 + 1, 1, none⟩ (.int .i64 0)).setCell ⟨w.heap.size + 1 + 1, 2, none⟩ (.int .i64 0)).setCell ⟨w.heap.size + 1 + 1, 3, none⟩ (.slice none 0 0)) (w.heap.size + 1 + 1) 43 #[.string ⟨#[]⟩, .int .i64 0, .int .i64 0, .slice none 0 0] from (((hx2.set_ 0 _).set_ 1 _).set_ 2 _).set_ 3 _)
  have HB := Lib.hid hb0; clear hx0 hx1 hx2 hb0
  go_wp2
  all_goals
    obtain ⟨r0, r1, r2, r3⟩ := box4 hyy.out
    exact bodyPost_ret (v := .tuple #[.agg #[.string ⟨#[]⟩, .int .i64 0, .int .i64 0, .slice none 0 0], .int .i64 5]) (by simp [results, Tryz.results45, go_sem, r0, r1, r2, r3]) rfl ⟨rfl, below_set4 HB.out (by omega) _ _ _ _⟩

set_option maxHeartbeats 1000000 in
theorem wovenR_many2 (nm nm2 : ByteArray) (Wa Hb : Int) (ba : 1 ≤ Wa ∧ Wa ≤ 64 ∧ 1 ≤ (Hb + 1) ∧ Hb + 1 ≤ 64) (bb : 1 ≤ Wa ∧ Wa ≤ 64 ∧ 1 ≤ Hb ∧ Hb ≤ 64) (hbig : 64 < Hb + 1 + Hb) (A B : Option Addr) (n m c d : Nat) (w : World) :
    Calls Tryz.prog 45 #[.agg #[.string nm, .int .i64 Wa, .int .i64 (Hb + 1), .slice A n c], .agg #[.string nm2, .int .i64 Wa, .int .i64 Hb, .slice B m d]] w fun e w' => e = .returned (.tuple #[.agg #[.string ⟨#[]⟩, .int .i64 0, .int .i64 0, .slice none 0 0], .int .i64 5]) ∧ Below w.heap.size w w' := by
  obtain ⟨ba1, ba2, ba3, ba4⟩ := ba
  obtain ⟨bb1, bb2, bb3, bb4⟩ := bb
  go_enter Tryz.func45, Tryz.ntmps45
  go_upto_region 1 with fail
  have hx0 := ((Blk.new w 43 #[.string nm, .int .i64 Wa, .int .i64 (Hb + 1), .slice A n c]).alloc (.cells #[.string nm2, .int .i64 Wa, .int .i64 Hb, .slice B m d] 43)).alloc (.cells #[.string ⟨#[]⟩, .int .i64 0, .int .i64 0, .slice none 0 0] 43)
  have hx1 := (Blk.new (w.alloc (.cells #[.string nm, .int .i64 Wa, .int .i64 (Hb + 1), .slice A n c] 43)) 43 #[.string nm2, .int .i64 Wa, .int .i64 Hb, .slice B m d]).alloc (.cells #[.string ⟨#[]⟩, .int .i64 0, .int .i64 0, .slice none 0 0] 43)
  have hx2 := Blk.new ((w.alloc (.cells #[.string nm, .int .i64 Wa, .int .i64 (Hb + 1), .slice A n c] 43)).alloc (.cells #[.string nm2, .int .i64 Wa, .int .i64 Hb, .slice B m d] 43)) 43 #[.string ⟨#[]⟩, .int .i64 0, .int .i64 0, .slice none 0 0]
  simp only [World.size_alloc] at hx1 hx2
  have hb0 := (((Below.refl w.heap.size w).alloc (Nat.le_refl _) (.cells #[.string nm, .int .i64 Wa, .int .i64 (Hb + 1), .slice A n c] 43)).alloc (by simp only [World.size_alloc]; omega) (.cells #[.string nm2, .int .i64 Wa, .int .i64 Hb, .slice B m d] 43)).alloc (by simp only [World.size_alloc]; omega) (.cells #[.string ⟨#[]⟩, .int .i64 0, .int .i64 0, .slice none 0 0] 43)
  generalize (((w.alloc (.cells #[.string nm, .int .i64 Wa, .int .i64 (Hb + 1), .slice A n c] 43)).alloc (.cells #[.string nm2, .int .i64 Wa, .int .i64 Hb, .slice B m d] 43)).alloc (.cells #[.string ⟨#[]⟩, .int .i64 0, .int .i64 0, .slice none 0 0] 43)) = w0 at hx0 hx1 hx2 hb0 ⊢
  obtain ⟨c0, c1, c2, c3⟩ := box4 hx0
  obtain ⟨d0, d1, d2, d3⟩ := box4 hx1
  have z1 := hx2.lt
  have f0 := hx2.frozen 0; have f1 := hx2.frozen 1; have f2 := hx2.frozen 2; have f3 := hx2.frozen 3
  obtain ⟨e0, e1, e2, e3⟩ := box4 hx2
  have hyy := Lib.hid (show Blk ((((w0.setCell ⟨w.heap.size + 1 + 1, 0, none⟩ (.string ⟨#[]⟩)).setCell ⟨w.heap.size + 1 + 1, 1, none⟩ (.int .i64 0)).setCell ⟨w.heap.size + 1 + 1, 2, none⟩ (.int .i64 0)).setCell ⟨w.heap.size + 1 + 1, 3, none⟩ (.slice none 0 0)) (w.heap.size + 1 + 1) 43 #[.string ⟨#[]⟩, .int .i64 0, .int .i64 0, .slice none 0 0] from (((hx2.set_ 0 _).set_ 1 _).set_ 2 _).set_ 3 _)
  have HB := Lib.hid hb0; clear hx0 hx1 hx2 hb0
  go_wp2
  all_goals
    obtain ⟨r0, r1, r2, r3⟩ := box4 hyy.out
    exact bodyPost_ret (v := .tuple #[.agg #[.string ⟨#[]⟩, .int .i64 0, .int .i64 0, .slice none 0 0], .int .i64 5]) (by simp [results, Tryz.results45, go_sem, r0, r1, r2, r3]) rfl ⟨rfl, below_set4 HB.out (by omega) _ _ _ _⟩
end Go.Proofs.YtfgeokeankfplaaGreatDoor
namespace Go.Proofs.YtfgeokeankfplaaGreatDoor
open Go.RowKit
set_option linter.unusedVariables false
attribute [local go_sem] run_store_float run_store_complex
set_option maxRecDepth 100000

set_option maxHeartbeats 4000000 in
theorem besideR_ok (nm nm2 : ByteArray) (W V H M : Nat) (l k : List Nat) (hW : 1 ≤ W ∧ W ≤ 64) (hV : 1 ≤ V ∧ V ≤ 64) (hH : 1 ≤ H ∧ H ≤ 64) (hM : W + V = M) (hM64 : M ≤ 64) (hlen : l.length = W * H) (hlen2 : k.length = V * H) (r : Nat) (hr1 : M * H = r) (ad ad2 : Addr) (c c2 : Nat) (w : World) (hr : Rd w (some ad) (fl l)) (hr2 : Rd w (some ad2) (fl k)) :
    Calls Tryz.prog 43 #[.agg #[.string nm, .int .i64 (W : Int), .int .i64 (H : Int), .slice (some ad) l.length c], .agg #[.string nm2, .int .i64 (V : Int), .int .i64 (H : Int), .slice (some ad2) k.length c2]] w fun e w' => ∃ g, e = .returned (.tuple #[.agg #[.string nm, .int .i64 (M : Int), .int .i64 (H : Int), .slice (some ⟨g, 0, none⟩) r r], .int .i64 0]) ∧ Blk w' g 23 (maskN (besideF l k W V M) (.float .f32 0) r (fun _ => true)) ∧ Below w.heap.size w w' := by
  have hl4 : l.length ≤ 4096 := by rw [hlen]; exact Nat.le_trans (Nat.mul_le_mul hW.2 hH.2) (by decide)
  have hk4 : k.length ≤ 4096 := by rw [hlen2]; exact Nat.le_trans (Nat.mul_le_mul hV.2 hH.2) (by decide)
  have hn4 : r ≤ 4096 := by rw [← hr1]; exact Nat.le_trans (Nat.mul_le_mul hM64 hH.2) (by decide)
  have HR := Lib.hid hr; have HR2 := Lib.hid hr2
  have HFN := Lib.hid hr1
  have HD0 : RowKit.Hid (∀ i, i < r → (decide (i < 0)) = rowD M 0 0 i) := Lib.hid (fun i _ => by simp [rowD])
  have HLEN := Lib.hid hlen; have HLEN2 := Lib.hid hlen2
  have HDN : RowKit.Hid (∀ y i, i < r → rowD M y M i = rowD M (y + 1) 0 i) := Lib.hid (fun y i _ => rowD_next M y i)
  have HDE : RowKit.Hid (∀ i, i < r → rowD M H 0 i = true) := Lib.hid (fun i hi => by rw [← hr1, Nat.mul_comm] at hi; simp [rowD]; exact hi)
  clear hr hr2 hlen hlen2 hr1
  have e8 : IntKind.i64.wrap ((W : Int) + (V : Int)) = (M : Int) := by rw [IntWalk.i64_in _ (by omega)]; omega
  have e9 : ¬ (64 : Int) < (M : Int) := by omega
  go_enter Tryz.func43, Tryz.ntmps43
  go_upto_region 1 with fail
  have hx0 := ((Blk.new w 43 #[.string nm, .int .i64 (W : Int), .int .i64 (H : Int), .slice (some ad) l.length c]).alloc (.cells #[.string nm2, .int .i64 (V : Int), .int .i64 (H : Int), .slice (some ad2) k.length c2] 43)).alloc (.cells #[.string ⟨#[]⟩, .int .i64 0, .int .i64 0, .slice none 0 0] 43)
  have hx1 := (Blk.new (w.alloc (.cells #[.string nm, .int .i64 (W : Int), .int .i64 (H : Int), .slice (some ad) l.length c] 43)) 43 #[.string nm2, .int .i64 (V : Int), .int .i64 (H : Int), .slice (some ad2) k.length c2]).alloc (.cells #[.string ⟨#[]⟩, .int .i64 0, .int .i64 0, .slice none 0 0] 43)
  have hx2 := Blk.new ((w.alloc (.cells #[.string nm, .int .i64 (W : Int), .int .i64 (H : Int), .slice (some ad) l.length c] 43)).alloc (.cells #[.string nm2, .int .i64 (V : Int), .int .i64 (H : Int), .slice (some ad2) k.length c2] 43)) 43 #[.string ⟨#[]⟩, .int .i64 0, .int .i64 0, .slice none 0 0]
  simp only [World.size_alloc] at hx1 hx2
  have hb0 := (((Below.refl w.heap.size w).alloc (Nat.le_refl _) (.cells #[.string nm, .int .i64 (W : Int), .int .i64 (H : Int), .slice (some ad) l.length c] 43)).alloc (by simp only [World.size_alloc]; omega) (.cells #[.string nm2, .int .i64 (V : Int), .int .i64 (H : Int), .slice (some ad2) k.length c2] 43)).alloc (by simp only [World.size_alloc]; omega) (.cells #[.string ⟨#[]⟩, .int .i64 0, .int .i64 0, .slice none 0 0] 43)
  generalize (((w.alloc (.cells #[.string nm, .int .i64 (W : Int), .int .i64 (H : Int), .slice (some ad) l.length c] 43)).alloc (.cells #[.string nm2, .int .i64 (V : Int), .int .i64 (H : Int), .slice (some ad2) k.length c2] 43)).alloc (.cells #[.string ⟨#[]⟩, .int .i64 0, .int .i64 0, .slice none 0 0] 43)) = w0 at hx0 hx1 hx2 hb0 ⊢
  have HX0 := Lib.hid hx0
  have HX1 := Lib.hid hx1
  have HX2 := Lib.hid hx2
  have HB := Lib.hid hb0; clear hb0 hx0 hx1 hx2
  have k0_0 := HX0.out.cell 0; have k0_1 := HX0.out.cell 1; have k0_2 := HX0.out.cell 2; have k0_3 := HX0.out.cell 3
  simp only [List.getElem?_toArray, List.getElem?_cons_zero, List.getElem?_cons_succ] at k0_0 k0_1 k0_2 k0_3
  have k1_0 := HX1.out.cell 0; have k1_1 := HX1.out.cell 1; have k1_2 := HX1.out.cell 2; have k1_3 := HX1.out.cell 3
  simp only [List.getElem?_toArray, List.getElem?_cons_zero, List.getElem?_cons_succ] at k1_0 k1_1 k1_2 k1_3
  go_wp2_with fail
  refine (filled_any nm M H r _ HFN.out hn4).mono ?_
  rintro e w2 ⟨g, rfl, hg, hgb, hb2⟩
  have hgx : w.heap.size + 2 < g := Nat.lt_of_lt_of_le HX2.out.lt hg
  replace HX0 := Lib.hid (HX0.out.below hb2)
  replace HX1 := Lib.hid (HX1.out.below hb2)
  replace HX2 := Lib.hid (HX2.out.below hb2)
  replace HB := Lib.hid (HB.out.trans (hb2.mono HB.out.size))
  have HG := Lib.hid hgb
  clear hb2 hgb
  clear k0_0 k0_1 k0_2 k0_3 k1_0 k1_1 k1_2 k1_3
  go_upto_region 6 with fail
  have hx0 := HX0.out.alloc (.cells #[.string nm, .int .i64 (M : Int), .int .i64 (H : Int), .slice (some ⟨g, 0, none⟩) r r] 43)
  have hx1 := HX1.out.alloc (.cells #[.string nm, .int .i64 (M : Int), .int .i64 (H : Int), .slice (some ⟨g, 0, none⟩) r r] 43)
  have hx2 := HX2.out.alloc (.cells #[.string nm, .int .i64 (M : Int), .int .i64 (H : Int), .slice (some ⟨g, 0, none⟩) r r] 43)
  have hgm := HG.out.alloc (.cells #[.string nm, .int .i64 (M : Int), .int .i64 (H : Int), .slice (some ⟨g, 0, none⟩) r r] 43)
  have hf := Blk.new w2 43 #[.string nm, .int .i64 (M : Int), .int .i64 (H : Int), .slice (some ⟨g, 0, none⟩) r r]
  have hb := HB.out.alloc HB.out.size (.cells #[.string nm, .int .i64 (M : Int), .int .i64 (H : Int), .slice (some ⟨g, 0, none⟩) r r] 43)
  have hgb : g < w2.heap.size := HG.out.lt
  have hbx : w.heap.size + 2 < w2.heap.size := HX2.out.lt
  obtain ⟨b3, hb3⟩ : ∃ b, w2.heap.size = b := ⟨_, rfl⟩
  rw [hb3] at hf hgb hbx ⊢
  clear hb3
  generalize w2.alloc (.cells #[.string nm, .int .i64 (M : Int), .int .i64 (H : Int), .slice (some ⟨g, 0, none⟩) r r] 43) = w3 at hx0 hx1 hx2 hgm hf hb ⊢
  replace HX0 := Lib.hid hx0
  replace HX1 := Lib.hid hx1
  replace HX2 := Lib.hid hx2
  replace HG := Lib.hid hgm; have HF := Lib.hid hf; replace HB := Lib.hid hb; clear hgm hf hb hx0 hx1 hx2
  obtain ⟨q0, q1, q2, q3⟩ := box4 HF.out
  have k0_0 := HX0.out.cell 0; have k0_1 := HX0.out.cell 1; have k0_2 := HX0.out.cell 2; have k0_3 := HX0.out.cell 3
  simp only [List.getElem?_toArray, List.getElem?_cons_zero, List.getElem?_cons_succ] at k0_0 k0_1 k0_2 k0_3
  have k1_0 := HX1.out.cell 0; have k1_1 := HX1.out.cell 1; have k1_2 := HX1.out.cell 2; have k1_3 := HX1.out.cell 3
  simp only [List.getElem?_toArray, List.getElem?_cons_zero, List.getElem?_cons_succ] at k1_0 k1_1 k1_2 k1_3
  go_wp2
  clear k0_0 k0_1 k0_2 k0_3 k1_0 k1_1 k1_2 k1_3
  clear q0 q1 q2 q3
  go_loopw [7] (fun i wr => ∃ y : Nat, y ≤ H ∧ i = .int .i64 y ∧ Blk wr w.heap.size 43 #[.string nm, .int .i64 (W : Int), .int .i64 (H : Int), .slice (some ad) l.length c] ∧ Blk wr (w.heap.size + 1) 43 #[.string nm2, .int .i64 (V : Int), .int .i64 (H : Int), .slice (some ad2) k.length c2] ∧ Blk wr (w.heap.size + 1 + 1) 43 #[.string ⟨#[]⟩, .int .i64 0, .int .i64 0, .slice none 0 0] ∧ Blk wr b3 43 #[.string nm, .int .i64 (M : Int), .int .i64 (H : Int), .slice (some ⟨g, 0, none⟩) r r] ∧ Blk wr g 23 (maskN (besideF l k W V M) (.float .f32 0) r (rowD M y 0)) ∧ Below w.heap.size w wr) (fun i _ => H - (intOf i).toNat)
  case atStart =>
    refine ⟨0, by omega, rfl, HX0.out, HX1.out, HX2.out, HF.out, ?_, HB.out⟩
    have h := HG.out
    rw [fill_mask, mask_congr (fun _ => .float .f32 0) (besideF l k W V M) _ _ _ (rowD M 0 0) (HD0.out) (by simp)] at h
    exact h
  case round =>
    clear HX0 HX1 HX2 HG HF HB
    obtain ⟨y, hy, rfl, hx0, hx1, hx2, hf, hgm, hbel⟩ := hrel
    have HX0 := Lib.hid hx0
    have HX1 := Lib.hid hx1
    have HX2 := Lib.hid hx2
    have HF := Lib.hid hf; have HG := Lib.hid hgm; have HB := Lib.hid hbel; clear hf hgm hbel hx0 hx1 hx2
    have k0_0 := HX0.out.cell 0; have k0_1 := HX0.out.cell 1; have k0_2 := HX0.out.cell 2; have k0_3 := HX0.out.cell 3
    simp only [List.getElem?_toArray, List.getElem?_cons_zero, List.getElem?_cons_succ] at k0_0 k0_1 k0_2 k0_3
    have k1_0 := HX1.out.cell 0; have k1_1 := HX1.out.cell 1; have k1_2 := HX1.out.cell 2; have k1_3 := HX1.out.cell 3
    simp only [List.getElem?_toArray, List.getElem?_cons_zero, List.getElem?_cons_succ] at k1_0 k1_1 k1_2 k1_3
    obtain ⟨q0, q1, q2, q3⟩ := box4 HF.out
    by_cases hlt : y < H
    · go_wp2
      go_loopw [8] (fun i wr => ∃ x : Nat, x ≤ M ∧ i = .int .i64 x ∧ Blk wr w.heap.size 43 #[.string nm, .int .i64 (W : Int), .int .i64 (H : Int), .slice (some ad) l.length c] ∧ Blk wr (w.heap.size + 1) 43 #[.string nm2, .int .i64 (V : Int), .int .i64 (H : Int), .slice (some ad2) k.length c2] ∧ Blk wr (w.heap.size + 1 + 1) 43 #[.string ⟨#[]⟩, .int .i64 0, .int .i64 0, .slice none 0 0] ∧ Blk wr b3 43 #[.string nm, .int .i64 (M : Int), .int .i64 (H : Int), .slice (some ⟨g, 0, none⟩) r r] ∧ Blk wr g 23 (maskN (besideF l k W V M) (.float .f32 0) r (rowD M y x)) ∧ Below w.heap.size w wr) (fun i _ => M - (intOf i).toNat)
      case atStart => exact ⟨0, by omega, rfl, HX0.out, HX1.out, HX2.out, HF.out, HG.out, HB.out⟩
      case round =>
        clear q0 q1 q2 q3 k0_0 k0_1 k0_2 k0_3 k1_0 k1_1 k1_2 k1_3
        clear HX0 HX1 HX2 HG HF HB
        obtain ⟨x, hxW, rfl, hx0, hx1, hx2, hf, hgm, hbel⟩ := hrel
        obtain ⟨wo, rfl⟩ : ∃ wo : World, wo = wr := ⟨_, rfl⟩
        have HX0 := Lib.hid hx0
        have HX1 := Lib.hid hx1
        have HX2 := Lib.hid hx2
        have HF := Lib.hid hf; have HG := Lib.hid hgm; have HB := Lib.hid hbel; clear hf hgm hbel hx0 hx1 hx2
        have k0_0 := HX0.out.cell 0; have k0_1 := HX0.out.cell 1; have k0_2 := HX0.out.cell 2; have k0_3 := HX0.out.cell 3
        simp only [List.getElem?_toArray, List.getElem?_cons_zero, List.getElem?_cons_succ] at k0_0 k0_1 k0_2 k0_3
        have k1_0 := HX1.out.cell 0; have k1_1 := HX1.out.cell 1; have k1_2 := HX1.out.cell 2; have k1_3 := HX1.out.cell 3
        simp only [List.getElem?_toArray, List.getElem?_cons_zero, List.getElem?_cons_succ] at k1_0 k1_1 k1_2 k1_3
        obtain ⟨q0, q1, q2, q3⟩ := box4 HF.out
        by_cases hxl : x < M
        · have hro := row_le (W := M) hlt
          obtain ⟨q, hq⟩ : ∃ q, y * M = q := ⟨_, rfl⟩
          have hql : q + M ≤ r := by rw [← hq, ← HFN.out]; exact hro
          obtain ⟨kk, hk⟩ : ∃ k, q + x = k := ⟨_, rfl⟩
          have hkn : kk < r := by omega
          have HDS : RowKit.Hid (∀ i, i < r → rowD M y (x + 1) i = (rowD M y x i || decide (i = kk))) := Lib.hid (fun i _ => by rw [rowD_step M y x r i, hq, hk])
          have e0 : IntKind.i64.wrap ((y : Int) * (M : Int)) = (q : Int) := by rw [show (y : Int) * (M : Int) = (q : Int) by rw [← hq]; simp]; exact IntWalk.i64_in _ (by omega)
          have e1 : IntKind.i64.wrap ((q : Int) + (x : Int)) = (kk : Int) := by rw [IntWalk.i64_in _ (by omega)]; omega
          have e4 : (0 : Int) ≤ (kk : Int) := by omega
          have e5 : (kk : Int) < (r : Int) := by omega
          have hq0 := hq
          by_cases hif : x < W
          · have hrs0 := row_le (W := W) (show y < H by omega)
            obtain ⟨p, hp⟩ : ∃ p, y * W = p := ⟨_, rfl⟩
            have hpl : p + W ≤ l.length := by rw [← hp, HLEN.out]; exact hrs0
            obtain ⟨s, hs⟩ : ∃ s, p + x = s := ⟨_, rfl⟩
            have hsn : s < l.length := by omega
            have HSK : RowKit.Hid (y * W + x = s) := Lib.hid (by rw [hp]; exact hs)
            have HFK : RowKit.Hid (besideF l k W V M kk = .float .f32 (l.getD s 0)) := Lib.hid (by rw [← hk, besideF_l hM hq hp hif, hs])
            have e6 : (x : Int) < (W : Int) := by omega
            clear hq hq0 hk hs hro hql hp hpl hrs0
            have hrs := HR.out.below HB.out
            obtain ⟨v, hv⟩ : ∃ v, l.getD s 0 = v := ⟨_, rfl⟩
            have HV := Lib.hid hv
            have HS := Lib.hid (fun w hr => sampled_ok nm W H l.length c l rfl ad x y s HSK.out (by omega) hl4 hW.2 (by omega) w hr)
            rw [hv] at HS
            have HRS := Lib.hid hrs; clear hrs hv
            have HFA := Lib.hid (show (besideF l k W V M) kk = .float .f32 v by rw [← HV.out]; exact HFK.out)
            obtain ⟨vo, hvo⟩ : ∃ vo, (maskN (besideF l k W V M) (.float .f32 0) r (rowD M y x))[kk]? = some vo := ⟨_, by rw [mask_get, if_pos hkn]⟩
            have hgc := (HG.out.cell kk).trans hvo
            have HVO := Lib.hid hvo; clear hvo
            have hgf := HG.out.frozen kk
            have HSET := Lib.hid (fun w (h : Blk w g 23 (maskN (besideF l k W V M) (.float .f32 0) r (rowD M y x))) => show Blk (w.setCell ⟨g, kk, none⟩ (.float .f32 v)) g 23 (maskN (besideF l k W V M) (.float .f32 0) r (rowD M y (x + 1))) from by
              have h2 := h.set_ kk (.float .f32 v)
              rw [← HFA.out, mask_set (besideF l k W V M) _ _ _ (rowD M y (x + 1)) kk HDS.out] at h2
              rw [← HFA.out]; exact h2)
            have g0 := HX0.out.lt
            have g1 := HX1.out.lt
            have g2 := HX2.out.lt
            have gf := HF.out.lt; have gg := HG.out.lt
            have n0 : ¬ w.heap.size = g := by omega
            have n1 : ¬ w.heap.size + 1 = g := by omega
            have n2 : ¬ w.heap.size + 1 + 1 = g := by omega
            have nf : ¬ b3 = g := by omega
            have hch : Below wo.heap.size wo wo.drew := (Below.refl _ _).drew
            have hsx : SX g wo wo.drew := sx_below hch
            go_upto_region 13 with fail
            go_region_held3 (SX g wo)
              (first | (with_reducible assumption) | exact sx_drew (by assumption) | exact sx_set (by assumption) _ _)
              (first
                | (go_at_call 35; refine (HS.out _ (HRS.out.below (by assumption))).mono ?_; rintro e wn ⟨rfl, hbn⟩; have hch := chainB' (wo := wo) (by assumption) hbn; have hsx := sx_below (g := g) hch; have kg := ((HG.out.below hch).cell kk).trans HVO.out; have kf := (HG.out.below hch).frozen kk))
            clear kg kf hgc hgf hsx q0 q1 q2 q3 k0_0 k0_1 k0_2 k0_3 k1_0 k1_1 k1_2 k1_3
            replace HX0 := Lib.hid ((HX0.out.below hch).far (p := ⟨g, kk, none⟩) (by simp; omega) (.float .f32 v))
            replace HX1 := Lib.hid ((HX1.out.below hch).far (p := ⟨g, kk, none⟩) (by simp; omega) (.float .f32 v))
            replace HX2 := Lib.hid ((HX2.out.below hch).far (p := ⟨g, kk, none⟩) (by simp; omega) (.float .f32 v))
            replace HF := Lib.hid ((HF.out.below hch).far (p := ⟨g, kk, none⟩) (by simp; omega) (.float .f32 v))
            replace HG := Lib.hid (HSET.out _ (HG.out.below hch))
            replace HB := Lib.hid ((HB.out.trans (hch.mono HB.out.size)).setCell (p := ⟨g, kk, none⟩) (by simp; omega) (.float .f32 v))
            clear hch hbn
            go_wp2
            go_roundw
            case rel => exact ⟨x + 1, by omega, by go_num, HX0.out, HX1.out, HX2.out, HF.out, HG.out, HB.out⟩
            case measure => simp [intOf]; omega
          · have hrs0 := row_le (W := V) (show y < H by omega)
            obtain ⟨p, hp⟩ : ∃ p, y * V = p := ⟨_, rfl⟩
            have hpl : p + V ≤ k.length := by rw [← hp, HLEN2.out]; exact hrs0
            obtain ⟨j, hj⟩ : ∃ j, x - W = j := ⟨_, rfl⟩
            obtain ⟨s, hs⟩ : ∃ s, p + j = s := ⟨_, rfl⟩
            have hsn : s < k.length := by omega
            have HSK : RowKit.Hid (y * V + j = s) := Lib.hid (by rw [hp]; exact hs)
            have HFK : RowKit.Hid (besideF l k W V M kk = .float .f32 (k.getD s 0)) := Lib.hid (by rw [← hk, show q + x = q + W + j by omega, besideF_r hM hq hp (by omega), hs])
            have e6 : ¬ (x : Int) < (W : Int) := by omega
            have e7 : IntKind.i64.wrap ((x : Int) - (W : Int)) = (j : Int) := by rw [IntWalk.i64_in _ (by omega)]; omega
            clear hq hq0 hk hs hj hro hql hp hpl hrs0
            have hrs := HR2.out.below HB.out
            obtain ⟨v, hv⟩ : ∃ v, k.getD s 0 = v := ⟨_, rfl⟩
            have HV := Lib.hid hv
            have HS := Lib.hid (fun w hr => sampled_ok nm2 V H k.length c2 k rfl ad2 j y s HSK.out (by omega) hk4 hV.2 (by omega) w hr)
            rw [hv] at HS
            have HRS := Lib.hid hrs; clear hrs hv
            have HFA := Lib.hid (show (besideF l k W V M) kk = .float .f32 v by rw [← HV.out]; exact HFK.out)
            obtain ⟨vo, hvo⟩ : ∃ vo, (maskN (besideF l k W V M) (.float .f32 0) r (rowD M y x))[kk]? = some vo := ⟨_, by rw [mask_get, if_pos hkn]⟩
            have hgc := (HG.out.cell kk).trans hvo
            have HVO := Lib.hid hvo; clear hvo
            have hgf := HG.out.frozen kk
            have HSET := Lib.hid (fun w (h : Blk w g 23 (maskN (besideF l k W V M) (.float .f32 0) r (rowD M y x))) => show Blk (w.setCell ⟨g, kk, none⟩ (.float .f32 v)) g 23 (maskN (besideF l k W V M) (.float .f32 0) r (rowD M y (x + 1))) from by
              have h2 := h.set_ kk (.float .f32 v)
              rw [← HFA.out, mask_set (besideF l k W V M) _ _ _ (rowD M y (x + 1)) kk HDS.out] at h2
              rw [← HFA.out]; exact h2)
            have g0 := HX0.out.lt
            have g1 := HX1.out.lt
            have g2 := HX2.out.lt
            have gf := HF.out.lt; have gg := HG.out.lt
            have n0 : ¬ w.heap.size = g := by omega
            have n1 : ¬ w.heap.size + 1 = g := by omega
            have n2 : ¬ w.heap.size + 1 + 1 = g := by omega
            have nf : ¬ b3 = g := by omega
            have hch : Below wo.heap.size wo wo.drew := (Below.refl _ _).drew
            have hsx : SX g wo wo.drew := sx_below hch
            go_upto_region 14 with fail
            go_region_held3 (SX g wo)
              (first | (with_reducible assumption) | exact sx_drew (by assumption) | exact sx_set (by assumption) _ _)
              (first
                | (go_at_call 35; refine (HS.out _ (HRS.out.below (by assumption))).mono ?_; rintro e wn ⟨rfl, hbn⟩; have hch := chainB' (wo := wo) (by assumption) hbn; have hsx := sx_below (g := g) hch; have kg := ((HG.out.below hch).cell kk).trans HVO.out; have kf := (HG.out.below hch).frozen kk))
            clear kg kf hgc hgf hsx q0 q1 q2 q3 k0_0 k0_1 k0_2 k0_3 k1_0 k1_1 k1_2 k1_3
            replace HX0 := Lib.hid ((HX0.out.below hch).far (p := ⟨g, kk, none⟩) (by simp; omega) (.float .f32 v))
            replace HX1 := Lib.hid ((HX1.out.below hch).far (p := ⟨g, kk, none⟩) (by simp; omega) (.float .f32 v))
            replace HX2 := Lib.hid ((HX2.out.below hch).far (p := ⟨g, kk, none⟩) (by simp; omega) (.float .f32 v))
            replace HF := Lib.hid ((HF.out.below hch).far (p := ⟨g, kk, none⟩) (by simp; omega) (.float .f32 v))
            replace HG := Lib.hid (HSET.out _ (HG.out.below hch))
            replace HB := Lib.hid ((HB.out.trans (hch.mono HB.out.size)).setCell (p := ⟨g, kk, none⟩) (by simp; omega) (.float .f32 v))
            clear hch hbn
            go_wp2
            go_roundw
            case rel => exact ⟨x + 1, by omega, by go_num, HX0.out, HX1.out, HX2.out, HF.out, HG.out, HB.out⟩
            case measure => simp [intOf]; omega
        · have hxe : x = M := by omega
          replace HG := Lib.hid (show Blk wo g 23 (maskN (besideF l k W V M) (.float .f32 0) r (rowD M (y + 1) 0)) from by
            have h := HG.out
            rw [hxe, mask_congr (besideF l k W V M) (besideF l k W V M) _ _ _ (rowD M (y + 1) 0) (HDN.out y) (fun _ _ _ => rfl)] at h
            exact h)
          go_wp2
          go_roundw
          case rel => exact ⟨y + 1, by omega, by go_num, HX0.out, HX1.out, HX2.out, HF.out, HG.out, HB.out⟩
          case measure => simp [intOf]; omega
    · have hye : y = H := by omega
      replace HG := Lib.hid (show Blk wr g 23 (maskN (besideF l k W V M) (.float .f32 0) r (fun _ => true)) from by
        have h := HG.out
        rw [hye, mask_congr (besideF l k W V M) (besideF l k W V M) _ _ _ (fun _ => true) (HDE.out) (fun _ _ _ => rfl)] at h
        exact h)
      have hy := HX2.out
      have z1 := hy.lt
      have f0 := hy.frozen 0; have f1 := hy.frozen 1; have f2 := hy.frozen 2; have f3 := hy.frozen 3
      obtain ⟨d0, d1, d2, d3⟩ := box4 hy
      have hyy := Lib.hid (show Blk ((((wr.setCell ⟨w.heap.size + 1 + 1, 0, none⟩ (.string nm)).setCell ⟨w.heap.size + 1 + 1, 1, none⟩ (.int .i64 (M : Int))).setCell ⟨w.heap.size + 1 + 1, 2, none⟩ (.int .i64 (H : Int))).setCell ⟨w.heap.size + 1 + 1, 3, none⟩ (.slice (some ⟨g, 0, none⟩) r r)) (w.heap.size + 1 + 1) 43 #[.string nm, .int .i64 (M : Int), .int .i64 (H : Int), .slice (some ⟨g, 0, none⟩) r r] from (((hy.set_ 0 _).set_ 1 _).set_ 2 _).set_ 3 _)
      have HGE := Lib.hid ((((HG.out.far (p := ⟨w.heap.size + 1 + 1, 0, none⟩) (by simp; omega) (.string nm)).far (p := ⟨w.heap.size + 1 + 1, 1, none⟩) (by simp; omega) (.int .i64 (M : Int))).far (p := ⟨w.heap.size + 1 + 1, 2, none⟩) (by simp; omega) (.int .i64 (H : Int))).far (p := ⟨w.heap.size + 1 + 1, 3, none⟩) (by simp; omega) (.slice (some ⟨g, 0, none⟩) r r))
      clear hy
      go_wp2
      obtain ⟨r0, r1, r2, r3⟩ := box4 hyy.out
      exact bodyPost_ret (v := .tuple #[.agg #[.string nm, .int .i64 (M : Int), .int .i64 (H : Int), .slice (some ⟨g, 0, none⟩) r r], .int .i64 0]) (by simp [results, Tryz.results43, go_sem, r0, r1, r2, r3]) rfl ⟨g, rfl, HGE.out, below_set4 HB.out (by omega) _ _ _ _⟩
set_option maxHeartbeats 4000000 in
theorem wovenR_ok0 (nm nm2 : ByteArray) (W H1 M : Nat) (l k : List Nat) (hW : 1 ≤ W ∧ W ≤ 64) (hH1 : 1 ≤ H1 ∧ H1 ≤ 64) (hM : H1 + H1 = M) (hM64 : M ≤ 64) (hlen : l.length = W * H1) (hlen2 : k.length = W * H1) (r : Nat) (hr1 : W * M = r) (ad ad2 : Addr) (c c2 : Nat) (w : World) (hr : Rd w (some ad) (fl l)) (hr2 : Rd w (some ad2) (fl k)) :
    Calls Tryz.prog 45 #[.agg #[.string nm, .int .i64 (W : Int), .int .i64 (H1 : Int), .slice (some ad) l.length c], .agg #[.string nm2, .int .i64 (W : Int), .int .i64 (H1 : Int), .slice (some ad2) k.length c2]] w fun e w' => ∃ g, e = .returned (.tuple #[.agg #[.string nm, .int .i64 (W : Int), .int .i64 (M : Int), .slice (some ⟨g, 0, none⟩) r r], .int .i64 0]) ∧ Blk w' g 23 (maskN (wovenF l k W) (.float .f32 0) r (fun _ => true)) ∧ Below w.heap.size w w' := by
  have hl4 : l.length ≤ 4096 := by rw [hlen]; exact Nat.le_trans (Nat.mul_le_mul hW.2 hH1.2) (by decide)
  have hk4 : k.length ≤ 4096 := by rw [hlen2]; exact Nat.le_trans (Nat.mul_le_mul hW.2 hH1.2) (by decide)
  have hn4 : r ≤ 4096 := by rw [← hr1]; exact Nat.le_trans (Nat.mul_le_mul hW.2 hM64) (by decide)
  have HR := Lib.hid hr; have HR2 := Lib.hid hr2
  have HFN := Lib.hid hr1
  have HD0 : RowKit.Hid (∀ i, i < r → (decide (i < 0)) = rowD W 0 0 i) := Lib.hid (fun i _ => by simp [rowD])
  have HLEN := Lib.hid hlen; have HLEN2 := Lib.hid hlen2
  have HDN : RowKit.Hid (∀ y i, i < r → rowD W y W i = rowD W (y + 1) 0 i) := Lib.hid (fun y i _ => rowD_next W y i)
  have HDE : RowKit.Hid (∀ i, i < r → rowD W M 0 i = true) := Lib.hid (fun i hi => by rw [← hr1, Nat.mul_comm] at hi; simp [rowD]; exact hi)
  clear hr hr2 hlen hlen2 hr1
  have e8 : IntKind.i64.wrap ((H1 : Int) + (H1 : Int)) = (M : Int) := by rw [IntWalk.i64_in _ (by omega)]; omega
  have e9 : ¬ (64 : Int) < (M : Int) := by omega
  go_enter Tryz.func45, Tryz.ntmps45
  go_upto_region 1 with fail
  have hx0 := ((Blk.new w 43 #[.string nm, .int .i64 (W : Int), .int .i64 (H1 : Int), .slice (some ad) l.length c]).alloc (.cells #[.string nm2, .int .i64 (W : Int), .int .i64 (H1 : Int), .slice (some ad2) k.length c2] 43)).alloc (.cells #[.string ⟨#[]⟩, .int .i64 0, .int .i64 0, .slice none 0 0] 43)
  have hx1 := (Blk.new (w.alloc (.cells #[.string nm, .int .i64 (W : Int), .int .i64 (H1 : Int), .slice (some ad) l.length c] 43)) 43 #[.string nm2, .int .i64 (W : Int), .int .i64 (H1 : Int), .slice (some ad2) k.length c2]).alloc (.cells #[.string ⟨#[]⟩, .int .i64 0, .int .i64 0, .slice none 0 0] 43)
  have hx2 := Blk.new ((w.alloc (.cells #[.string nm, .int .i64 (W : Int), .int .i64 (H1 : Int), .slice (some ad) l.length c] 43)).alloc (.cells #[.string nm2, .int .i64 (W : Int), .int .i64 (H1 : Int), .slice (some ad2) k.length c2] 43)) 43 #[.string ⟨#[]⟩, .int .i64 0, .int .i64 0, .slice none 0 0]
  simp only [World.size_alloc] at hx1 hx2
  have hb0 := (((Below.refl w.heap.size w).alloc (Nat.le_refl _) (.cells #[.string nm, .int .i64 (W : Int), .int .i64 (H1 : Int), .slice (some ad) l.length c] 43)).alloc (by simp only [World.size_alloc]; omega) (.cells #[.string nm2, .int .i64 (W : Int), .int .i64 (H1 : Int), .slice (some ad2) k.length c2] 43)).alloc (by simp only [World.size_alloc]; omega) (.cells #[.string ⟨#[]⟩, .int .i64 0, .int .i64 0, .slice none 0 0] 43)
  generalize (((w.alloc (.cells #[.string nm, .int .i64 (W : Int), .int .i64 (H1 : Int), .slice (some ad) l.length c] 43)).alloc (.cells #[.string nm2, .int .i64 (W : Int), .int .i64 (H1 : Int), .slice (some ad2) k.length c2] 43)).alloc (.cells #[.string ⟨#[]⟩, .int .i64 0, .int .i64 0, .slice none 0 0] 43)) = w0 at hx0 hx1 hx2 hb0 ⊢
  have HX0 := Lib.hid hx0
  have HX1 := Lib.hid hx1
  have HX2 := Lib.hid hx2
  have HB := Lib.hid hb0; clear hb0 hx0 hx1 hx2
  have k0_0 := HX0.out.cell 0; have k0_1 := HX0.out.cell 1; have k0_2 := HX0.out.cell 2; have k0_3 := HX0.out.cell 3
  simp only [List.getElem?_toArray, List.getElem?_cons_zero, List.getElem?_cons_succ] at k0_0 k0_1 k0_2 k0_3
  have k1_0 := HX1.out.cell 0; have k1_1 := HX1.out.cell 1; have k1_2 := HX1.out.cell 2; have k1_3 := HX1.out.cell 3
  simp only [List.getElem?_toArray, List.getElem?_cons_zero, List.getElem?_cons_succ] at k1_0 k1_1 k1_2 k1_3
  go_wp2_with fail
  refine (filled_any nm W M r _ HFN.out hn4).mono ?_
  rintro e w2 ⟨g, rfl, hg, hgb, hb2⟩
  have hgx : w.heap.size + 2 < g := Nat.lt_of_lt_of_le HX2.out.lt hg
  replace HX0 := Lib.hid (HX0.out.below hb2)
  replace HX1 := Lib.hid (HX1.out.below hb2)
  replace HX2 := Lib.hid (HX2.out.below hb2)
  replace HB := Lib.hid (HB.out.trans (hb2.mono HB.out.size))
  have HG := Lib.hid hgb
  clear hb2 hgb
  clear k0_0 k0_1 k0_2 k0_3 k1_0 k1_1 k1_2 k1_3
  go_upto_region 6 with fail
  have hx0 := HX0.out.alloc (.cells #[.string nm, .int .i64 (W : Int), .int .i64 (M : Int), .slice (some ⟨g, 0, none⟩) r r] 43)
  have hx1 := HX1.out.alloc (.cells #[.string nm, .int .i64 (W : Int), .int .i64 (M : Int), .slice (some ⟨g, 0, none⟩) r r] 43)
  have hx2 := HX2.out.alloc (.cells #[.string nm, .int .i64 (W : Int), .int .i64 (M : Int), .slice (some ⟨g, 0, none⟩) r r] 43)
  have hgm := HG.out.alloc (.cells #[.string nm, .int .i64 (W : Int), .int .i64 (M : Int), .slice (some ⟨g, 0, none⟩) r r] 43)
  have hf := Blk.new w2 43 #[.string nm, .int .i64 (W : Int), .int .i64 (M : Int), .slice (some ⟨g, 0, none⟩) r r]
  have hb := HB.out.alloc HB.out.size (.cells #[.string nm, .int .i64 (W : Int), .int .i64 (M : Int), .slice (some ⟨g, 0, none⟩) r r] 43)
  have hgb : g < w2.heap.size := HG.out.lt
  have hbx : w.heap.size + 2 < w2.heap.size := HX2.out.lt
  obtain ⟨b3, hb3⟩ : ∃ b, w2.heap.size = b := ⟨_, rfl⟩
  rw [hb3] at hf hgb hbx ⊢
  clear hb3
  generalize w2.alloc (.cells #[.string nm, .int .i64 (W : Int), .int .i64 (M : Int), .slice (some ⟨g, 0, none⟩) r r] 43) = w3 at hx0 hx1 hx2 hgm hf hb ⊢
  replace HX0 := Lib.hid hx0
  replace HX1 := Lib.hid hx1
  replace HX2 := Lib.hid hx2
  replace HG := Lib.hid hgm; have HF := Lib.hid hf; replace HB := Lib.hid hb; clear hgm hf hb hx0 hx1 hx2
  obtain ⟨q0, q1, q2, q3⟩ := box4 HF.out
  have k0_0 := HX0.out.cell 0; have k0_1 := HX0.out.cell 1; have k0_2 := HX0.out.cell 2; have k0_3 := HX0.out.cell 3
  simp only [List.getElem?_toArray, List.getElem?_cons_zero, List.getElem?_cons_succ] at k0_0 k0_1 k0_2 k0_3
  have k1_0 := HX1.out.cell 0; have k1_1 := HX1.out.cell 1; have k1_2 := HX1.out.cell 2; have k1_3 := HX1.out.cell 3
  simp only [List.getElem?_toArray, List.getElem?_cons_zero, List.getElem?_cons_succ] at k1_0 k1_1 k1_2 k1_3
  go_wp2
  clear k0_0 k0_1 k0_2 k0_3 k1_0 k1_1 k1_2 k1_3
  clear q0 q1 q2 q3
  go_loopw [7] (fun i wr => ∃ y : Nat, y ≤ M ∧ i = .int .i64 y ∧ Blk wr w.heap.size 43 #[.string nm, .int .i64 (W : Int), .int .i64 (H1 : Int), .slice (some ad) l.length c] ∧ Blk wr (w.heap.size + 1) 43 #[.string nm2, .int .i64 (W : Int), .int .i64 (H1 : Int), .slice (some ad2) k.length c2] ∧ Blk wr (w.heap.size + 1 + 1) 43 #[.string ⟨#[]⟩, .int .i64 0, .int .i64 0, .slice none 0 0] ∧ Blk wr b3 43 #[.string nm, .int .i64 (W : Int), .int .i64 (M : Int), .slice (some ⟨g, 0, none⟩) r r] ∧ Blk wr g 23 (maskN (wovenF l k W) (.float .f32 0) r (rowD W y 0)) ∧ Below w.heap.size w wr) (fun i _ => M - (intOf i).toNat)
  case atStart =>
    refine ⟨0, by omega, rfl, HX0.out, HX1.out, HX2.out, HF.out, ?_, HB.out⟩
    have h := HG.out
    rw [fill_mask, mask_congr (fun _ => .float .f32 0) (wovenF l k W) _ _ _ (rowD W 0 0) (HD0.out) (by simp)] at h
    exact h
  case round =>
    clear HX0 HX1 HX2 HG HF HB
    obtain ⟨y, hy, rfl, hx0, hx1, hx2, hf, hgm, hbel⟩ := hrel
    have HX0 := Lib.hid hx0
    have HX1 := Lib.hid hx1
    have HX2 := Lib.hid hx2
    have HF := Lib.hid hf; have HG := Lib.hid hgm; have HB := Lib.hid hbel; clear hf hgm hbel hx0 hx1 hx2
    have k0_0 := HX0.out.cell 0; have k0_1 := HX0.out.cell 1; have k0_2 := HX0.out.cell 2; have k0_3 := HX0.out.cell 3
    simp only [List.getElem?_toArray, List.getElem?_cons_zero, List.getElem?_cons_succ] at k0_0 k0_1 k0_2 k0_3
    have k1_0 := HX1.out.cell 0; have k1_1 := HX1.out.cell 1; have k1_2 := HX1.out.cell 2; have k1_3 := HX1.out.cell 3
    simp only [List.getElem?_toArray, List.getElem?_cons_zero, List.getElem?_cons_succ] at k1_0 k1_1 k1_2 k1_3
    obtain ⟨q0, q1, q2, q3⟩ := box4 HF.out
    by_cases hlt : y < M
    · go_wp2
      go_loopw [8] (fun i wr => ∃ x : Nat, x ≤ W ∧ i = .int .i64 x ∧ Blk wr w.heap.size 43 #[.string nm, .int .i64 (W : Int), .int .i64 (H1 : Int), .slice (some ad) l.length c] ∧ Blk wr (w.heap.size + 1) 43 #[.string nm2, .int .i64 (W : Int), .int .i64 (H1 : Int), .slice (some ad2) k.length c2] ∧ Blk wr (w.heap.size + 1 + 1) 43 #[.string ⟨#[]⟩, .int .i64 0, .int .i64 0, .slice none 0 0] ∧ Blk wr b3 43 #[.string nm, .int .i64 (W : Int), .int .i64 (M : Int), .slice (some ⟨g, 0, none⟩) r r] ∧ Blk wr g 23 (maskN (wovenF l k W) (.float .f32 0) r (rowD W y x)) ∧ Below w.heap.size w wr) (fun i _ => W - (intOf i).toNat)
      case atStart => exact ⟨0, by omega, rfl, HX0.out, HX1.out, HX2.out, HF.out, HG.out, HB.out⟩
      case round =>
        clear q0 q1 q2 q3 k0_0 k0_1 k0_2 k0_3 k1_0 k1_1 k1_2 k1_3
        clear HX0 HX1 HX2 HG HF HB
        obtain ⟨x, hxW, rfl, hx0, hx1, hx2, hf, hgm, hbel⟩ := hrel
        obtain ⟨wo, rfl⟩ : ∃ wo : World, wo = wr := ⟨_, rfl⟩
        have HX0 := Lib.hid hx0
        have HX1 := Lib.hid hx1
        have HX2 := Lib.hid hx2
        have HF := Lib.hid hf; have HG := Lib.hid hgm; have HB := Lib.hid hbel; clear hf hgm hbel hx0 hx1 hx2
        have k0_0 := HX0.out.cell 0; have k0_1 := HX0.out.cell 1; have k0_2 := HX0.out.cell 2; have k0_3 := HX0.out.cell 3
        simp only [List.getElem?_toArray, List.getElem?_cons_zero, List.getElem?_cons_succ] at k0_0 k0_1 k0_2 k0_3
        have k1_0 := HX1.out.cell 0; have k1_1 := HX1.out.cell 1; have k1_2 := HX1.out.cell 2; have k1_3 := HX1.out.cell 3
        simp only [List.getElem?_toArray, List.getElem?_cons_zero, List.getElem?_cons_succ] at k1_0 k1_1 k1_2 k1_3
        obtain ⟨q0, q1, q2, q3⟩ := box4 HF.out
        by_cases hxl : x < W
        · have hro := row_le (W := W) hlt
          obtain ⟨q, hq⟩ : ∃ q, y * W = q := ⟨_, rfl⟩
          have hql : q + W ≤ r := by rw [← hq, ← HFN.out]; exact hro
          obtain ⟨kk, hk⟩ : ∃ k, q + x = k := ⟨_, rfl⟩
          have hkn : kk < r := by omega
          have HDS : RowKit.Hid (∀ i, i < r → rowD W y (x + 1) i = (rowD W y x i || decide (i = kk))) := Lib.hid (fun i _ => by rw [rowD_step W y x r i, hq, hk])
          have e0 : IntKind.i64.wrap ((y : Int) * (W : Int)) = (q : Int) := by rw [show (y : Int) * (W : Int) = (q : Int) by rw [← hq]; simp]; exact IntWalk.i64_in _ (by omega)
          have e1 : IntKind.i64.wrap ((q : Int) + (x : Int)) = (kk : Int) := by rw [IntWalk.i64_in _ (by omega)]; omega
          have e4 : (0 : Int) ≤ (kk : Int) := by omega
          have e5 : (kk : Int) < (r : Int) := by omega
          have hq0 := hq
          by_cases hif : y % 2 = 0
          · obtain ⟨z, hz⟩ : ∃ z, y / 2 = z := ⟨_, rfl⟩
            have hrs0 := row_le (W := W) (show z < H1 by omega)
            obtain ⟨p, hp⟩ : ∃ p, z * W = p := ⟨_, rfl⟩
            have hpl : p + W ≤ l.length := by rw [← hp, HLEN.out]; exact hrs0
            obtain ⟨s, hs⟩ : ∃ s, p + x = s := ⟨_, rfl⟩
            have hsn : s < l.length := by omega
            have HSK : RowKit.Hid (z * W + x = s) := Lib.hid (by rw [hp]; exact hs)
            have HFK : RowKit.Hid (wovenF l k W kk = .float .f32 (l.getD s 0)) := Lib.hid (by rw [← hk, ← hq, show y = 2 * z by omega, wovenF_at0 l k W z x hxl, hp, hs])
            have e6 : (y : Int) % 2 = 0 := by omega
            have e7 : (y : Int) / 2 = (z : Int) := by omega
            have e11 : IntKind.i64.wrap (z : Int) = (z : Int) := IntWalk.i64_in _ (by omega)
            have m1 : Int.tmod (y : Int) 2 = 0 := by rw [Int.tmod_eq_emod_of_nonneg (by omega)]; omega
            have m2 : Int.tdiv (y : Int) 2 = (z : Int) := by rw [Int.tdiv_eq_ediv_of_nonneg (by omega)]; omega
            clear hq hq0 hk hs hz hro hql hp hpl hrs0
            have hrs := HR.out.below HB.out
            obtain ⟨v, hv⟩ : ∃ v, l.getD s 0 = v := ⟨_, rfl⟩
            have HV := Lib.hid hv
            have HS := Lib.hid (fun w hr => sampled_ok nm W H1 l.length c l rfl ad x z s HSK.out (by omega) hl4 hW.2 (by omega) w hr)
            rw [hv] at HS
            have HRS := Lib.hid hrs; clear hrs hv
            have HFA := Lib.hid (show (wovenF l k W) kk = .float .f32 v by rw [← HV.out]; exact HFK.out)
            obtain ⟨vo, hvo⟩ : ∃ vo, (maskN (wovenF l k W) (.float .f32 0) r (rowD W y x))[kk]? = some vo := ⟨_, by rw [mask_get, if_pos hkn]⟩
            have hgc := (HG.out.cell kk).trans hvo
            have HVO := Lib.hid hvo; clear hvo
            have hgf := HG.out.frozen kk
            have HSET := Lib.hid (fun w (h : Blk w g 23 (maskN (wovenF l k W) (.float .f32 0) r (rowD W y x))) => show Blk (w.setCell ⟨g, kk, none⟩ (.float .f32 v)) g 23 (maskN (wovenF l k W) (.float .f32 0) r (rowD W y (x + 1))) from by
              have h2 := h.set_ kk (.float .f32 v)
              rw [← HFA.out, mask_set (wovenF l k W) _ _ _ (rowD W y (x + 1)) kk HDS.out] at h2
              rw [← HFA.out]; exact h2)
            have g0 := HX0.out.lt
            have g1 := HX1.out.lt
            have g2 := HX2.out.lt
            have gf := HF.out.lt; have gg := HG.out.lt
            have n0 : ¬ w.heap.size = g := by omega
            have n1 : ¬ w.heap.size + 1 = g := by omega
            have n2 : ¬ w.heap.size + 1 + 1 = g := by omega
            have nf : ¬ b3 = g := by omega
            have hch : Below wo.heap.size wo wo.drew := (Below.refl _ _).drew
            have hsx : SX g wo wo.drew := sx_below hch
            go_upto_region 13 with fail
            go_region_held3 (SX g wo)
              (first | (with_reducible assumption) | exact sx_drew (by assumption) | exact sx_set (by assumption) _ _)
              (first
                | (go_at_call 35; refine (HS.out _ (HRS.out.below (by assumption))).mono ?_; rintro e wn ⟨rfl, hbn⟩; have hch := chainB' (wo := wo) (by assumption) hbn; have hsx := sx_below (g := g) hch; have kg := ((HG.out.below hch).cell kk).trans HVO.out; have kf := (HG.out.below hch).frozen kk))
            clear kg kf hgc hgf hsx q0 q1 q2 q3 k0_0 k0_1 k0_2 k0_3 k1_0 k1_1 k1_2 k1_3
            replace HX0 := Lib.hid ((HX0.out.below hch).far (p := ⟨g, kk, none⟩) (by simp; omega) (.float .f32 v))
            replace HX1 := Lib.hid ((HX1.out.below hch).far (p := ⟨g, kk, none⟩) (by simp; omega) (.float .f32 v))
            replace HX2 := Lib.hid ((HX2.out.below hch).far (p := ⟨g, kk, none⟩) (by simp; omega) (.float .f32 v))
            replace HF := Lib.hid ((HF.out.below hch).far (p := ⟨g, kk, none⟩) (by simp; omega) (.float .f32 v))
            replace HG := Lib.hid (HSET.out _ (HG.out.below hch))
            replace HB := Lib.hid ((HB.out.trans (hch.mono HB.out.size)).setCell (p := ⟨g, kk, none⟩) (by simp; omega) (.float .f32 v))
            clear hch hbn
            go_wp2
            go_roundw
            case rel => exact ⟨x + 1, by omega, by go_num, HX0.out, HX1.out, HX2.out, HF.out, HG.out, HB.out⟩
            case measure => simp [intOf]; omega
          · obtain ⟨z, hz⟩ : ∃ z, y / 2 = z := ⟨_, rfl⟩
            have hrs0 := row_le (W := W) (show z < H1 by omega)
            obtain ⟨p, hp⟩ : ∃ p, z * W = p := ⟨_, rfl⟩
            have hpl : p + W ≤ k.length := by rw [← hp, HLEN2.out]; exact hrs0
            obtain ⟨s, hs⟩ : ∃ s, p + x = s := ⟨_, rfl⟩
            have hsn : s < k.length := by omega
            have HSK : RowKit.Hid (z * W + x = s) := Lib.hid (by rw [hp]; exact hs)
            have HFK : RowKit.Hid (wovenF l k W kk = .float .f32 (k.getD s 0)) := Lib.hid (by rw [← hk, ← hq, show y = 2 * z + 1 by omega, wovenF_at1 l k W z x hxl, hp, hs])
            have e6 : (y : Int) % 2 = 1 := by omega
            have e7 : (y : Int) / 2 = (z : Int) := by omega
            have e11 : IntKind.i64.wrap (z : Int) = (z : Int) := IntWalk.i64_in _ (by omega)
            have m1 : Int.tmod (y : Int) 2 = 1 := by rw [Int.tmod_eq_emod_of_nonneg (by omega)]; omega
            have m2 : Int.tdiv (y : Int) 2 = (z : Int) := by rw [Int.tdiv_eq_ediv_of_nonneg (by omega)]; omega
            clear hq hq0 hk hs hz hro hql hp hpl hrs0
            have hrs := HR2.out.below HB.out
            obtain ⟨v, hv⟩ : ∃ v, k.getD s 0 = v := ⟨_, rfl⟩
            have HV := Lib.hid hv
            have HS := Lib.hid (fun w hr => sampled_ok nm2 W H1 k.length c2 k rfl ad2 x z s HSK.out (by omega) hk4 hW.2 (by omega) w hr)
            rw [hv] at HS
            have HRS := Lib.hid hrs; clear hrs hv
            have HFA := Lib.hid (show (wovenF l k W) kk = .float .f32 v by rw [← HV.out]; exact HFK.out)
            obtain ⟨vo, hvo⟩ : ∃ vo, (maskN (wovenF l k W) (.float .f32 0) r (rowD W y x))[kk]? = some vo := ⟨_, by rw [mask_get, if_pos hkn]⟩
            have hgc := (HG.out.cell kk).trans hvo
            have HVO := Lib.hid hvo; clear hvo
            have hgf := HG.out.frozen kk
            have HSET := Lib.hid (fun w (h : Blk w g 23 (maskN (wovenF l k W) (.float .f32 0) r (rowD W y x))) => show Blk (w.setCell ⟨g, kk, none⟩ (.float .f32 v)) g 23 (maskN (wovenF l k W) (.float .f32 0) r (rowD W y (x + 1))) from by
              have h2 := h.set_ kk (.float .f32 v)
              rw [← HFA.out, mask_set (wovenF l k W) _ _ _ (rowD W y (x + 1)) kk HDS.out] at h2
              rw [← HFA.out]; exact h2)
            have g0 := HX0.out.lt
            have g1 := HX1.out.lt
            have g2 := HX2.out.lt
            have gf := HF.out.lt; have gg := HG.out.lt
            have n0 : ¬ w.heap.size = g := by omega
            have n1 : ¬ w.heap.size + 1 = g := by omega
            have n2 : ¬ w.heap.size + 1 + 1 = g := by omega
            have nf : ¬ b3 = g := by omega
            have hch : Below wo.heap.size wo wo.drew := (Below.refl _ _).drew
            have hsx : SX g wo wo.drew := sx_below hch
            go_upto_region 14 with fail
            go_region_held3 (SX g wo)
              (first | (with_reducible assumption) | exact sx_drew (by assumption) | exact sx_set (by assumption) _ _)
              (first
                | (go_at_call 35; refine (HS.out _ (HRS.out.below (by assumption))).mono ?_; rintro e wn ⟨rfl, hbn⟩; have hch := chainB' (wo := wo) (by assumption) hbn; have hsx := sx_below (g := g) hch; have kg := ((HG.out.below hch).cell kk).trans HVO.out; have kf := (HG.out.below hch).frozen kk))
            clear kg kf hgc hgf hsx q0 q1 q2 q3 k0_0 k0_1 k0_2 k0_3 k1_0 k1_1 k1_2 k1_3
            replace HX0 := Lib.hid ((HX0.out.below hch).far (p := ⟨g, kk, none⟩) (by simp; omega) (.float .f32 v))
            replace HX1 := Lib.hid ((HX1.out.below hch).far (p := ⟨g, kk, none⟩) (by simp; omega) (.float .f32 v))
            replace HX2 := Lib.hid ((HX2.out.below hch).far (p := ⟨g, kk, none⟩) (by simp; omega) (.float .f32 v))
            replace HF := Lib.hid ((HF.out.below hch).far (p := ⟨g, kk, none⟩) (by simp; omega) (.float .f32 v))
            replace HG := Lib.hid (HSET.out _ (HG.out.below hch))
            replace HB := Lib.hid ((HB.out.trans (hch.mono HB.out.size)).setCell (p := ⟨g, kk, none⟩) (by simp; omega) (.float .f32 v))
            clear hch hbn
            go_wp2
            go_roundw
            case rel => exact ⟨x + 1, by omega, by go_num, HX0.out, HX1.out, HX2.out, HF.out, HG.out, HB.out⟩
            case measure => simp [intOf]; omega
        · have hxe : x = W := by omega
          replace HG := Lib.hid (show Blk wo g 23 (maskN (wovenF l k W) (.float .f32 0) r (rowD W (y + 1) 0)) from by
            have h := HG.out
            rw [hxe, mask_congr (wovenF l k W) (wovenF l k W) _ _ _ (rowD W (y + 1) 0) (HDN.out y) (fun _ _ _ => rfl)] at h
            exact h)
          go_wp2
          go_roundw
          case rel => exact ⟨y + 1, by omega, by go_num, HX0.out, HX1.out, HX2.out, HF.out, HG.out, HB.out⟩
          case measure => simp [intOf]; omega
    · have hye : y = M := by omega
      replace HG := Lib.hid (show Blk wr g 23 (maskN (wovenF l k W) (.float .f32 0) r (fun _ => true)) from by
        have h := HG.out
        rw [hye, mask_congr (wovenF l k W) (wovenF l k W) _ _ _ (fun _ => true) (HDE.out) (fun _ _ _ => rfl)] at h
        exact h)
      have hy := HX2.out
      have z1 := hy.lt
      have f0 := hy.frozen 0; have f1 := hy.frozen 1; have f2 := hy.frozen 2; have f3 := hy.frozen 3
      obtain ⟨d0, d1, d2, d3⟩ := box4 hy
      have hyy := Lib.hid (show Blk ((((wr.setCell ⟨w.heap.size + 1 + 1, 0, none⟩ (.string nm)).setCell ⟨w.heap.size + 1 + 1, 1, none⟩ (.int .i64 (W : Int))).setCell ⟨w.heap.size + 1 + 1, 2, none⟩ (.int .i64 (M : Int))).setCell ⟨w.heap.size + 1 + 1, 3, none⟩ (.slice (some ⟨g, 0, none⟩) r r)) (w.heap.size + 1 + 1) 43 #[.string nm, .int .i64 (W : Int), .int .i64 (M : Int), .slice (some ⟨g, 0, none⟩) r r] from (((hy.set_ 0 _).set_ 1 _).set_ 2 _).set_ 3 _)
      have HGE := Lib.hid ((((HG.out.far (p := ⟨w.heap.size + 1 + 1, 0, none⟩) (by simp; omega) (.string nm)).far (p := ⟨w.heap.size + 1 + 1, 1, none⟩) (by simp; omega) (.int .i64 (W : Int))).far (p := ⟨w.heap.size + 1 + 1, 2, none⟩) (by simp; omega) (.int .i64 (M : Int))).far (p := ⟨w.heap.size + 1 + 1, 3, none⟩) (by simp; omega) (.slice (some ⟨g, 0, none⟩) r r))
      clear hy
      go_wp2
      obtain ⟨r0, r1, r2, r3⟩ := box4 hyy.out
      exact bodyPost_ret (v := .tuple #[.agg #[.string nm, .int .i64 (W : Int), .int .i64 (M : Int), .slice (some ⟨g, 0, none⟩) r r], .int .i64 0]) (by simp [results, Tryz.results45, go_sem, r0, r1, r2, r3]) rfl ⟨g, rfl, HGE.out, below_set4 HB.out (by omega) _ _ _ _⟩
set_option maxHeartbeats 4000000 in
theorem wovenR_ok1 (nm nm2 : ByteArray) (W H1 H2 M : Nat) (l k : List Nat) (hW : 1 ≤ W ∧ W ≤ 64) (hH1 : 1 ≤ H1 ∧ H1 ≤ 64) (hH2 : 1 ≤ H2 ∧ H2 ≤ 64) (hor : H1 = H2 + 1) (hM : H1 + H2 = M) (hM64 : M ≤ 64) (hlen : l.length = W * H1) (hlen2 : k.length = W * H2) (r : Nat) (hr1 : W * M = r) (ad ad2 : Addr) (c c2 : Nat) (w : World) (hr : Rd w (some ad) (fl l)) (hr2 : Rd w (some ad2) (fl k)) :
    Calls Tryz.prog 45 #[.agg #[.string nm, .int .i64 (W : Int), .int .i64 ((H2 : Int) + 1 : Int), .slice (some ad) l.length c], .agg #[.string nm2, .int .i64 (W : Int), .int .i64 (H2 : Int), .slice (some ad2) k.length c2]] w fun e w' => ∃ g, e = .returned (.tuple #[.agg #[.string nm, .int .i64 (W : Int), .int .i64 (M : Int), .slice (some ⟨g, 0, none⟩) r r], .int .i64 0]) ∧ Blk w' g 23 (maskN (wovenF l k W) (.float .f32 0) r (fun _ => true)) ∧ Below w.heap.size w w' := by
  have hl4 : l.length ≤ 4096 := by rw [hlen]; exact Nat.le_trans (Nat.mul_le_mul hW.2 hH1.2) (by decide)
  have hk4 : k.length ≤ 4096 := by rw [hlen2]; exact Nat.le_trans (Nat.mul_le_mul hW.2 hH2.2) (by decide)
  have hn4 : r ≤ 4096 := by rw [← hr1]; exact Nat.le_trans (Nat.mul_le_mul hW.2 hM64) (by decide)
  have HR := Lib.hid hr; have HR2 := Lib.hid hr2
  have HFN := Lib.hid hr1
  have HD0 : RowKit.Hid (∀ i, i < r → (decide (i < 0)) = rowD W 0 0 i) := Lib.hid (fun i _ => by simp [rowD])
  have HLEN := Lib.hid hlen; have HLEN2 := Lib.hid hlen2
  have HDN : RowKit.Hid (∀ y i, i < r → rowD W y W i = rowD W (y + 1) 0 i) := Lib.hid (fun y i _ => rowD_next W y i)
  have HDE : RowKit.Hid (∀ i, i < r → rowD W M 0 i = true) := Lib.hid (fun i hi => by rw [← hr1, Nat.mul_comm] at hi; simp [rowD]; exact hi)
  clear hr hr2 hlen hlen2 hr1
  have e8 : IntKind.i64.wrap (((H2 : Int) + 1) + (H2 : Int)) = (M : Int) := by rw [IntWalk.i64_in _ (by omega)]; omega
  have e9 : ¬ (64 : Int) < (M : Int) := by omega
  go_enter Tryz.func45, Tryz.ntmps45
  go_upto_region 1 with fail
  have hx0 := ((Blk.new w 43 #[.string nm, .int .i64 (W : Int), .int .i64 ((H2 : Int) + 1 : Int), .slice (some ad) l.length c]).alloc (.cells #[.string nm2, .int .i64 (W : Int), .int .i64 (H2 : Int), .slice (some ad2) k.length c2] 43)).alloc (.cells #[.string ⟨#[]⟩, .int .i64 0, .int .i64 0, .slice none 0 0] 43)
  have hx1 := (Blk.new (w.alloc (.cells #[.string nm, .int .i64 (W : Int), .int .i64 ((H2 : Int) + 1 : Int), .slice (some ad) l.length c] 43)) 43 #[.string nm2, .int .i64 (W : Int), .int .i64 (H2 : Int), .slice (some ad2) k.length c2]).alloc (.cells #[.string ⟨#[]⟩, .int .i64 0, .int .i64 0, .slice none 0 0] 43)
  have hx2 := Blk.new ((w.alloc (.cells #[.string nm, .int .i64 (W : Int), .int .i64 ((H2 : Int) + 1 : Int), .slice (some ad) l.length c] 43)).alloc (.cells #[.string nm2, .int .i64 (W : Int), .int .i64 (H2 : Int), .slice (some ad2) k.length c2] 43)) 43 #[.string ⟨#[]⟩, .int .i64 0, .int .i64 0, .slice none 0 0]
  simp only [World.size_alloc] at hx1 hx2
  have hb0 := (((Below.refl w.heap.size w).alloc (Nat.le_refl _) (.cells #[.string nm, .int .i64 (W : Int), .int .i64 ((H2 : Int) + 1 : Int), .slice (some ad) l.length c] 43)).alloc (by simp only [World.size_alloc]; omega) (.cells #[.string nm2, .int .i64 (W : Int), .int .i64 (H2 : Int), .slice (some ad2) k.length c2] 43)).alloc (by simp only [World.size_alloc]; omega) (.cells #[.string ⟨#[]⟩, .int .i64 0, .int .i64 0, .slice none 0 0] 43)
  generalize (((w.alloc (.cells #[.string nm, .int .i64 (W : Int), .int .i64 ((H2 : Int) + 1 : Int), .slice (some ad) l.length c] 43)).alloc (.cells #[.string nm2, .int .i64 (W : Int), .int .i64 (H2 : Int), .slice (some ad2) k.length c2] 43)).alloc (.cells #[.string ⟨#[]⟩, .int .i64 0, .int .i64 0, .slice none 0 0] 43)) = w0 at hx0 hx1 hx2 hb0 ⊢
  have HX0 := Lib.hid hx0
  have HX1 := Lib.hid hx1
  have HX2 := Lib.hid hx2
  have HB := Lib.hid hb0; clear hb0 hx0 hx1 hx2
  have k0_0 := HX0.out.cell 0; have k0_1 := HX0.out.cell 1; have k0_2 := HX0.out.cell 2; have k0_3 := HX0.out.cell 3
  simp only [List.getElem?_toArray, List.getElem?_cons_zero, List.getElem?_cons_succ] at k0_0 k0_1 k0_2 k0_3
  have k1_0 := HX1.out.cell 0; have k1_1 := HX1.out.cell 1; have k1_2 := HX1.out.cell 2; have k1_3 := HX1.out.cell 3
  simp only [List.getElem?_toArray, List.getElem?_cons_zero, List.getElem?_cons_succ] at k1_0 k1_1 k1_2 k1_3
  go_wp2_with fail
  refine (filled_any nm W M r _ HFN.out hn4).mono ?_
  rintro e w2 ⟨g, rfl, hg, hgb, hb2⟩
  have hgx : w.heap.size + 2 < g := Nat.lt_of_lt_of_le HX2.out.lt hg
  replace HX0 := Lib.hid (HX0.out.below hb2)
  replace HX1 := Lib.hid (HX1.out.below hb2)
  replace HX2 := Lib.hid (HX2.out.below hb2)
  replace HB := Lib.hid (HB.out.trans (hb2.mono HB.out.size))
  have HG := Lib.hid hgb
  clear hb2 hgb
  clear k0_0 k0_1 k0_2 k0_3 k1_0 k1_1 k1_2 k1_3
  go_upto_region 6 with fail
  have hx0 := HX0.out.alloc (.cells #[.string nm, .int .i64 (W : Int), .int .i64 (M : Int), .slice (some ⟨g, 0, none⟩) r r] 43)
  have hx1 := HX1.out.alloc (.cells #[.string nm, .int .i64 (W : Int), .int .i64 (M : Int), .slice (some ⟨g, 0, none⟩) r r] 43)
  have hx2 := HX2.out.alloc (.cells #[.string nm, .int .i64 (W : Int), .int .i64 (M : Int), .slice (some ⟨g, 0, none⟩) r r] 43)
  have hgm := HG.out.alloc (.cells #[.string nm, .int .i64 (W : Int), .int .i64 (M : Int), .slice (some ⟨g, 0, none⟩) r r] 43)
  have hf := Blk.new w2 43 #[.string nm, .int .i64 (W : Int), .int .i64 (M : Int), .slice (some ⟨g, 0, none⟩) r r]
  have hb := HB.out.alloc HB.out.size (.cells #[.string nm, .int .i64 (W : Int), .int .i64 (M : Int), .slice (some ⟨g, 0, none⟩) r r] 43)
  have hgb : g < w2.heap.size := HG.out.lt
  have hbx : w.heap.size + 2 < w2.heap.size := HX2.out.lt
  obtain ⟨b3, hb3⟩ : ∃ b, w2.heap.size = b := ⟨_, rfl⟩
  rw [hb3] at hf hgb hbx ⊢
  clear hb3
  generalize w2.alloc (.cells #[.string nm, .int .i64 (W : Int), .int .i64 (M : Int), .slice (some ⟨g, 0, none⟩) r r] 43) = w3 at hx0 hx1 hx2 hgm hf hb ⊢
  replace HX0 := Lib.hid hx0
  replace HX1 := Lib.hid hx1
  replace HX2 := Lib.hid hx2
  replace HG := Lib.hid hgm; have HF := Lib.hid hf; replace HB := Lib.hid hb; clear hgm hf hb hx0 hx1 hx2
  obtain ⟨q0, q1, q2, q3⟩ := box4 HF.out
  have k0_0 := HX0.out.cell 0; have k0_1 := HX0.out.cell 1; have k0_2 := HX0.out.cell 2; have k0_3 := HX0.out.cell 3
  simp only [List.getElem?_toArray, List.getElem?_cons_zero, List.getElem?_cons_succ] at k0_0 k0_1 k0_2 k0_3
  have k1_0 := HX1.out.cell 0; have k1_1 := HX1.out.cell 1; have k1_2 := HX1.out.cell 2; have k1_3 := HX1.out.cell 3
  simp only [List.getElem?_toArray, List.getElem?_cons_zero, List.getElem?_cons_succ] at k1_0 k1_1 k1_2 k1_3
  go_wp2
  clear k0_0 k0_1 k0_2 k0_3 k1_0 k1_1 k1_2 k1_3
  clear q0 q1 q2 q3
  go_loopw [7] (fun i wr => ∃ y : Nat, y ≤ M ∧ i = .int .i64 y ∧ Blk wr w.heap.size 43 #[.string nm, .int .i64 (W : Int), .int .i64 ((H2 : Int) + 1 : Int), .slice (some ad) l.length c] ∧ Blk wr (w.heap.size + 1) 43 #[.string nm2, .int .i64 (W : Int), .int .i64 (H2 : Int), .slice (some ad2) k.length c2] ∧ Blk wr (w.heap.size + 1 + 1) 43 #[.string ⟨#[]⟩, .int .i64 0, .int .i64 0, .slice none 0 0] ∧ Blk wr b3 43 #[.string nm, .int .i64 (W : Int), .int .i64 (M : Int), .slice (some ⟨g, 0, none⟩) r r] ∧ Blk wr g 23 (maskN (wovenF l k W) (.float .f32 0) r (rowD W y 0)) ∧ Below w.heap.size w wr) (fun i _ => M - (intOf i).toNat)
  case atStart =>
    refine ⟨0, by omega, rfl, HX0.out, HX1.out, HX2.out, HF.out, ?_, HB.out⟩
    have h := HG.out
    rw [fill_mask, mask_congr (fun _ => .float .f32 0) (wovenF l k W) _ _ _ (rowD W 0 0) (HD0.out) (by simp)] at h
    exact h
  case round =>
    clear HX0 HX1 HX2 HG HF HB
    obtain ⟨y, hy, rfl, hx0, hx1, hx2, hf, hgm, hbel⟩ := hrel
    have HX0 := Lib.hid hx0
    have HX1 := Lib.hid hx1
    have HX2 := Lib.hid hx2
    have HF := Lib.hid hf; have HG := Lib.hid hgm; have HB := Lib.hid hbel; clear hf hgm hbel hx0 hx1 hx2
    have k0_0 := HX0.out.cell 0; have k0_1 := HX0.out.cell 1; have k0_2 := HX0.out.cell 2; have k0_3 := HX0.out.cell 3
    simp only [List.getElem?_toArray, List.getElem?_cons_zero, List.getElem?_cons_succ] at k0_0 k0_1 k0_2 k0_3
    have k1_0 := HX1.out.cell 0; have k1_1 := HX1.out.cell 1; have k1_2 := HX1.out.cell 2; have k1_3 := HX1.out.cell 3
    simp only [List.getElem?_toArray, List.getElem?_cons_zero, List.getElem?_cons_succ] at k1_0 k1_1 k1_2 k1_3
    obtain ⟨q0, q1, q2, q3⟩ := box4 HF.out
    by_cases hlt : y < M
    · go_wp2
      go_loopw [8] (fun i wr => ∃ x : Nat, x ≤ W ∧ i = .int .i64 x ∧ Blk wr w.heap.size 43 #[.string nm, .int .i64 (W : Int), .int .i64 ((H2 : Int) + 1 : Int), .slice (some ad) l.length c] ∧ Blk wr (w.heap.size + 1) 43 #[.string nm2, .int .i64 (W : Int), .int .i64 (H2 : Int), .slice (some ad2) k.length c2] ∧ Blk wr (w.heap.size + 1 + 1) 43 #[.string ⟨#[]⟩, .int .i64 0, .int .i64 0, .slice none 0 0] ∧ Blk wr b3 43 #[.string nm, .int .i64 (W : Int), .int .i64 (M : Int), .slice (some ⟨g, 0, none⟩) r r] ∧ Blk wr g 23 (maskN (wovenF l k W) (.float .f32 0) r (rowD W y x)) ∧ Below w.heap.size w wr) (fun i _ => W - (intOf i).toNat)
      case atStart => exact ⟨0, by omega, rfl, HX0.out, HX1.out, HX2.out, HF.out, HG.out, HB.out⟩
      case round =>
        clear q0 q1 q2 q3 k0_0 k0_1 k0_2 k0_3 k1_0 k1_1 k1_2 k1_3
        clear HX0 HX1 HX2 HG HF HB
        obtain ⟨x, hxW, rfl, hx0, hx1, hx2, hf, hgm, hbel⟩ := hrel
        obtain ⟨wo, rfl⟩ : ∃ wo : World, wo = wr := ⟨_, rfl⟩
        have HX0 := Lib.hid hx0
        have HX1 := Lib.hid hx1
        have HX2 := Lib.hid hx2
        have HF := Lib.hid hf; have HG := Lib.hid hgm; have HB := Lib.hid hbel; clear hf hgm hbel hx0 hx1 hx2
        have k0_0 := HX0.out.cell 0; have k0_1 := HX0.out.cell 1; have k0_2 := HX0.out.cell 2; have k0_3 := HX0.out.cell 3
        simp only [List.getElem?_toArray, List.getElem?_cons_zero, List.getElem?_cons_succ] at k0_0 k0_1 k0_2 k0_3
        have k1_0 := HX1.out.cell 0; have k1_1 := HX1.out.cell 1; have k1_2 := HX1.out.cell 2; have k1_3 := HX1.out.cell 3
        simp only [List.getElem?_toArray, List.getElem?_cons_zero, List.getElem?_cons_succ] at k1_0 k1_1 k1_2 k1_3
        obtain ⟨q0, q1, q2, q3⟩ := box4 HF.out
        by_cases hxl : x < W
        · have hro := row_le (W := W) hlt
          obtain ⟨q, hq⟩ : ∃ q, y * W = q := ⟨_, rfl⟩
          have hql : q + W ≤ r := by rw [← hq, ← HFN.out]; exact hro
          obtain ⟨kk, hk⟩ : ∃ k, q + x = k := ⟨_, rfl⟩
          have hkn : kk < r := by omega
          have HDS : RowKit.Hid (∀ i, i < r → rowD W y (x + 1) i = (rowD W y x i || decide (i = kk))) := Lib.hid (fun i _ => by rw [rowD_step W y x r i, hq, hk])
          have e0 : IntKind.i64.wrap ((y : Int) * (W : Int)) = (q : Int) := by rw [show (y : Int) * (W : Int) = (q : Int) by rw [← hq]; simp]; exact IntWalk.i64_in _ (by omega)
          have e1 : IntKind.i64.wrap ((q : Int) + (x : Int)) = (kk : Int) := by rw [IntWalk.i64_in _ (by omega)]; omega
          have e4 : (0 : Int) ≤ (kk : Int) := by omega
          have e5 : (kk : Int) < (r : Int) := by omega
          have hq0 := hq
          by_cases hif : y % 2 = 0
          · obtain ⟨z, hz⟩ : ∃ z, y / 2 = z := ⟨_, rfl⟩
            have hrs0 := row_le (W := W) (show z < H1 by omega)
            obtain ⟨p, hp⟩ : ∃ p, z * W = p := ⟨_, rfl⟩
            have hpl : p + W ≤ l.length := by rw [← hp, HLEN.out]; exact hrs0
            obtain ⟨s, hs⟩ : ∃ s, p + x = s := ⟨_, rfl⟩
            have hsn : s < l.length := by omega
            have HSK : RowKit.Hid (z * W + x = s) := Lib.hid (by rw [hp]; exact hs)
            have HFK : RowKit.Hid (wovenF l k W kk = .float .f32 (l.getD s 0)) := Lib.hid (by rw [← hk, ← hq, show y = 2 * z by omega, wovenF_at0 l k W z x hxl, hp, hs])
            have e6 : (y : Int) % 2 = 0 := by omega
            have e7 : (y : Int) / 2 = (z : Int) := by omega
            have e11 : IntKind.i64.wrap (z : Int) = (z : Int) := IntWalk.i64_in _ (by omega)
            have m1 : Int.tmod (y : Int) 2 = 0 := by rw [Int.tmod_eq_emod_of_nonneg (by omega)]; omega
            have m2 : Int.tdiv (y : Int) 2 = (z : Int) := by rw [Int.tdiv_eq_ediv_of_nonneg (by omega)]; omega
            clear hq hq0 hk hs hz hro hql hp hpl hrs0
            have hrs := HR.out.below HB.out
            obtain ⟨v, hv⟩ : ∃ v, l.getD s 0 = v := ⟨_, rfl⟩
            have HV := Lib.hid hv
            have HS := Lib.hid (fun w hr => by have h := sampled_ok nm W (H2 + 1) l.length c l rfl ad x z s HSK.out (by omega) hl4 hW.2 (by omega) w hr; rw [show ((H2 + 1 : Nat) : Int) = (H2 : Int) + 1 from rfl] at h; exact h)
            rw [hv] at HS
            have HRS := Lib.hid hrs; clear hrs hv
            have HFA := Lib.hid (show (wovenF l k W) kk = .float .f32 v by rw [← HV.out]; exact HFK.out)
            obtain ⟨vo, hvo⟩ : ∃ vo, (maskN (wovenF l k W) (.float .f32 0) r (rowD W y x))[kk]? = some vo := ⟨_, by rw [mask_get, if_pos hkn]⟩
            have hgc := (HG.out.cell kk).trans hvo
            have HVO := Lib.hid hvo; clear hvo
            have hgf := HG.out.frozen kk
            have HSET := Lib.hid (fun w (h : Blk w g 23 (maskN (wovenF l k W) (.float .f32 0) r (rowD W y x))) => show Blk (w.setCell ⟨g, kk, none⟩ (.float .f32 v)) g 23 (maskN (wovenF l k W) (.float .f32 0) r (rowD W y (x + 1))) from by
              have h2 := h.set_ kk (.float .f32 v)
              rw [← HFA.out, mask_set (wovenF l k W) _ _ _ (rowD W y (x + 1)) kk HDS.out] at h2
              rw [← HFA.out]; exact h2)
            have g0 := HX0.out.lt
            have g1 := HX1.out.lt
            have g2 := HX2.out.lt
            have gf := HF.out.lt; have gg := HG.out.lt
            have n0 : ¬ w.heap.size = g := by omega
            have n1 : ¬ w.heap.size + 1 = g := by omega
            have n2 : ¬ w.heap.size + 1 + 1 = g := by omega
            have nf : ¬ b3 = g := by omega
            have hch : Below wo.heap.size wo wo.drew := (Below.refl _ _).drew
            have hsx : SX g wo wo.drew := sx_below hch
            go_upto_region 13 with fail
            go_region_held3 (SX g wo)
              (first | (with_reducible assumption) | exact sx_drew (by assumption) | exact sx_set (by assumption) _ _)
              (first
                | (go_at_call 35; refine (HS.out _ (HRS.out.below (by assumption))).mono ?_; rintro e wn ⟨rfl, hbn⟩; have hch := chainB' (wo := wo) (by assumption) hbn; have hsx := sx_below (g := g) hch; have kg := ((HG.out.below hch).cell kk).trans HVO.out; have kf := (HG.out.below hch).frozen kk))
            clear kg kf hgc hgf hsx q0 q1 q2 q3 k0_0 k0_1 k0_2 k0_3 k1_0 k1_1 k1_2 k1_3
            replace HX0 := Lib.hid ((HX0.out.below hch).far (p := ⟨g, kk, none⟩) (by simp; omega) (.float .f32 v))
            replace HX1 := Lib.hid ((HX1.out.below hch).far (p := ⟨g, kk, none⟩) (by simp; omega) (.float .f32 v))
            replace HX2 := Lib.hid ((HX2.out.below hch).far (p := ⟨g, kk, none⟩) (by simp; omega) (.float .f32 v))
            replace HF := Lib.hid ((HF.out.below hch).far (p := ⟨g, kk, none⟩) (by simp; omega) (.float .f32 v))
            replace HG := Lib.hid (HSET.out _ (HG.out.below hch))
            replace HB := Lib.hid ((HB.out.trans (hch.mono HB.out.size)).setCell (p := ⟨g, kk, none⟩) (by simp; omega) (.float .f32 v))
            clear hch hbn
            go_wp2
            go_roundw
            case rel => exact ⟨x + 1, by omega, by go_num, HX0.out, HX1.out, HX2.out, HF.out, HG.out, HB.out⟩
            case measure => simp [intOf]; omega
          · obtain ⟨z, hz⟩ : ∃ z, y / 2 = z := ⟨_, rfl⟩
            have hrs0 := row_le (W := W) (show z < H2 by omega)
            obtain ⟨p, hp⟩ : ∃ p, z * W = p := ⟨_, rfl⟩
            have hpl : p + W ≤ k.length := by rw [← hp, HLEN2.out]; exact hrs0
            obtain ⟨s, hs⟩ : ∃ s, p + x = s := ⟨_, rfl⟩
            have hsn : s < k.length := by omega
            have HSK : RowKit.Hid (z * W + x = s) := Lib.hid (by rw [hp]; exact hs)
            have HFK : RowKit.Hid (wovenF l k W kk = .float .f32 (k.getD s 0)) := Lib.hid (by rw [← hk, ← hq, show y = 2 * z + 1 by omega, wovenF_at1 l k W z x hxl, hp, hs])
            have e6 : (y : Int) % 2 = 1 := by omega
            have e7 : (y : Int) / 2 = (z : Int) := by omega
            have e11 : IntKind.i64.wrap (z : Int) = (z : Int) := IntWalk.i64_in _ (by omega)
            have m1 : Int.tmod (y : Int) 2 = 1 := by rw [Int.tmod_eq_emod_of_nonneg (by omega)]; omega
            have m2 : Int.tdiv (y : Int) 2 = (z : Int) := by rw [Int.tdiv_eq_ediv_of_nonneg (by omega)]; omega
            clear hq hq0 hk hs hz hro hql hp hpl hrs0
            have hrs := HR2.out.below HB.out
            obtain ⟨v, hv⟩ : ∃ v, k.getD s 0 = v := ⟨_, rfl⟩
            have HV := Lib.hid hv
            have HS := Lib.hid (fun w hr => sampled_ok nm2 W H2 k.length c2 k rfl ad2 x z s HSK.out (by omega) hk4 hW.2 (by omega) w hr)
            rw [hv] at HS
            have HRS := Lib.hid hrs; clear hrs hv
            have HFA := Lib.hid (show (wovenF l k W) kk = .float .f32 v by rw [← HV.out]; exact HFK.out)
            obtain ⟨vo, hvo⟩ : ∃ vo, (maskN (wovenF l k W) (.float .f32 0) r (rowD W y x))[kk]? = some vo := ⟨_, by rw [mask_get, if_pos hkn]⟩
            have hgc := (HG.out.cell kk).trans hvo
            have HVO := Lib.hid hvo; clear hvo
            have hgf := HG.out.frozen kk
            have HSET := Lib.hid (fun w (h : Blk w g 23 (maskN (wovenF l k W) (.float .f32 0) r (rowD W y x))) => show Blk (w.setCell ⟨g, kk, none⟩ (.float .f32 v)) g 23 (maskN (wovenF l k W) (.float .f32 0) r (rowD W y (x + 1))) from by
              have h2 := h.set_ kk (.float .f32 v)
              rw [← HFA.out, mask_set (wovenF l k W) _ _ _ (rowD W y (x + 1)) kk HDS.out] at h2
              rw [← HFA.out]; exact h2)
            have g0 := HX0.out.lt
            have g1 := HX1.out.lt
            have g2 := HX2.out.lt
            have gf := HF.out.lt; have gg := HG.out.lt
            have n0 : ¬ w.heap.size = g := by omega
            have n1 : ¬ w.heap.size + 1 = g := by omega
            have n2 : ¬ w.heap.size + 1 + 1 = g := by omega
            have nf : ¬ b3 = g := by omega
            have hch : Below wo.heap.size wo wo.drew := (Below.refl _ _).drew
            have hsx : SX g wo wo.drew := sx_below hch
            go_upto_region 14 with fail
            go_region_held3 (SX g wo)
              (first | (with_reducible assumption) | exact sx_drew (by assumption) | exact sx_set (by assumption) _ _)
              (first
                | (go_at_call 35; refine (HS.out _ (HRS.out.below (by assumption))).mono ?_; rintro e wn ⟨rfl, hbn⟩; have hch := chainB' (wo := wo) (by assumption) hbn; have hsx := sx_below (g := g) hch; have kg := ((HG.out.below hch).cell kk).trans HVO.out; have kf := (HG.out.below hch).frozen kk))
            clear kg kf hgc hgf hsx q0 q1 q2 q3 k0_0 k0_1 k0_2 k0_3 k1_0 k1_1 k1_2 k1_3
            replace HX0 := Lib.hid ((HX0.out.below hch).far (p := ⟨g, kk, none⟩) (by simp; omega) (.float .f32 v))
            replace HX1 := Lib.hid ((HX1.out.below hch).far (p := ⟨g, kk, none⟩) (by simp; omega) (.float .f32 v))
            replace HX2 := Lib.hid ((HX2.out.below hch).far (p := ⟨g, kk, none⟩) (by simp; omega) (.float .f32 v))
            replace HF := Lib.hid ((HF.out.below hch).far (p := ⟨g, kk, none⟩) (by simp; omega) (.float .f32 v))
            replace HG := Lib.hid (HSET.out _ (HG.out.below hch))
            replace HB := Lib.hid ((HB.out.trans (hch.mono HB.out.size)).setCell (p := ⟨g, kk, none⟩) (by simp; omega) (.float .f32 v))
            clear hch hbn
            go_wp2
            go_roundw
            case rel => exact ⟨x + 1, by omega, by go_num, HX0.out, HX1.out, HX2.out, HF.out, HG.out, HB.out⟩
            case measure => simp [intOf]; omega
        · have hxe : x = W := by omega
          replace HG := Lib.hid (show Blk wo g 23 (maskN (wovenF l k W) (.float .f32 0) r (rowD W (y + 1) 0)) from by
            have h := HG.out
            rw [hxe, mask_congr (wovenF l k W) (wovenF l k W) _ _ _ (rowD W (y + 1) 0) (HDN.out y) (fun _ _ _ => rfl)] at h
            exact h)
          go_wp2
          go_roundw
          case rel => exact ⟨y + 1, by omega, by go_num, HX0.out, HX1.out, HX2.out, HF.out, HG.out, HB.out⟩
          case measure => simp [intOf]; omega
    · have hye : y = M := by omega
      replace HG := Lib.hid (show Blk wr g 23 (maskN (wovenF l k W) (.float .f32 0) r (fun _ => true)) from by
        have h := HG.out
        rw [hye, mask_congr (wovenF l k W) (wovenF l k W) _ _ _ (fun _ => true) (HDE.out) (fun _ _ _ => rfl)] at h
        exact h)
      have hy := HX2.out
      have z1 := hy.lt
      have f0 := hy.frozen 0; have f1 := hy.frozen 1; have f2 := hy.frozen 2; have f3 := hy.frozen 3
      obtain ⟨d0, d1, d2, d3⟩ := box4 hy
      have hyy := Lib.hid (show Blk ((((wr.setCell ⟨w.heap.size + 1 + 1, 0, none⟩ (.string nm)).setCell ⟨w.heap.size + 1 + 1, 1, none⟩ (.int .i64 (W : Int))).setCell ⟨w.heap.size + 1 + 1, 2, none⟩ (.int .i64 (M : Int))).setCell ⟨w.heap.size + 1 + 1, 3, none⟩ (.slice (some ⟨g, 0, none⟩) r r)) (w.heap.size + 1 + 1) 43 #[.string nm, .int .i64 (W : Int), .int .i64 (M : Int), .slice (some ⟨g, 0, none⟩) r r] from (((hy.set_ 0 _).set_ 1 _).set_ 2 _).set_ 3 _)
      have HGE := Lib.hid ((((HG.out.far (p := ⟨w.heap.size + 1 + 1, 0, none⟩) (by simp; omega) (.string nm)).far (p := ⟨w.heap.size + 1 + 1, 1, none⟩) (by simp; omega) (.int .i64 (W : Int))).far (p := ⟨w.heap.size + 1 + 1, 2, none⟩) (by simp; omega) (.int .i64 (M : Int))).far (p := ⟨w.heap.size + 1 + 1, 3, none⟩) (by simp; omega) (.slice (some ⟨g, 0, none⟩) r r))
      clear hy
      go_wp2
      obtain ⟨r0, r1, r2, r3⟩ := box4 hyy.out
      exact bodyPost_ret (v := .tuple #[.agg #[.string nm, .int .i64 (W : Int), .int .i64 (M : Int), .slice (some ⟨g, 0, none⟩) r r], .int .i64 0]) (by simp [results, Tryz.results45, go_sem, r0, r1, r2, r3]) rfl ⟨g, rfl, HGE.out, below_set4 HB.out (by omega) _ _ _ _⟩
end Go.Proofs.YtfgeokeankfplaaGreatDoor
namespace Go.Proofs.YtfgeokeankfplaaGreatDoor
open Go.RowKit
set_option linter.unusedVariables false
attribute [local go_sem] run_store_float run_store_complex
def aboveF (l k : List Nat) (i : Nat) : Value := if i < l.length then .float .f32 (l.getD i 0) else .float .f32 (k.getD (i - l.length) 0)
set_option maxRecDepth 100000 in
set_option maxHeartbeats 2000000 in
theorem above_ok (nm nm2 : ByteArray) (W H K M : Nat) (hM : H + K = M) (l k : List Nat) (hp : (Pic.mk nm W H l).Ok) (he : (Pic.mk nm W H l).err = 0) (hp2 : (Pic.mk nm2 W K k).Ok) (he2 : (Pic.mk nm2 W K k).err = 0) (hHK : M ≤ 64) (A A2 : Option Addr) (c c2 : Nat) (w : World) (n : Nat) (hn : W * M = n) (hs : nm.size ≤ maxLen) (hs2 : nm2.size ≤ maxLen) (hcap : l.length ≤ c) (hcap2 : k.length ≤ c2) (hr : Rd w A (fl l)) (hr2 : Rd w A2 (fl k)) :
    Calls Tryz.prog 41 #[.agg #[.string nm, .int .i64 (W : Int), .int .i64 (H : Int), .slice A l.length c], .agg #[.string nm2, .int .i64 (W : Int), .int .i64 (K : Int), .slice A2 k.length c2]] w fun e w' => ∃ g, e = .returned (.tuple #[.agg #[.string nm, .int .i64 (W : Int), .int .i64 (M : Int), .slice (some ⟨g, 0, none⟩) n n], .int .i64 0]) ∧ Blk w' g 23 (maskN (aboveF l k) (.float .f32 0) n (fun _ => true)) ∧ Below w.heap.size w w' := by
  have hW : 1 ≤ W ∧ W ≤ 64 := by have h1 := hp.w1; have h2 := hp.w2; simp at h1 h2; omega
  have hK : 1 ≤ K ∧ K ≤ 64 := by have h1 := hp2.h1; have h2 := hp2.h2; simp at h1 h2; omega
  have hH : 1 ≤ H ∧ H ≤ 64 := by have h1 := hp.h1; have h2 := hp.h2; simp at h1 h2; omega
  have hlen : l.length = W * H := by have h1 := hp.len; simp only [] at h1; exact_mod_cast h1
  have hlen2 : k.length = W * K := by have h1 := hp2.len; simp only [] at h1; exact_mod_cast h1
  have hbig : l.length ≤ 4096 := hp.big
  have hbig2 : k.length ≤ 4096 := hp2.big
  have hpos : 0 < (fl l).length := by have := prod_pos hW.1 hH.1; simp [fl]; omega
  have hpos2 : 0 < (fl k).length := by have := prod_pos hW.1 hK.1; simp [fl]; omega
  obtain ⟨ad, rfl, hadb, hadc⟩ := hr.some_ hpos
  obtain ⟨ad2, rfl, hadb2, hadc2⟩ := hr2.some_ hpos2
  have HAD := Lib.hid hadc; have HAD2 := Lib.hid hadc2; clear hadc hadc2 hpos hpos2
  have HR := Lib.hid hr; have HE := Lib.hid he
  have HRb := Lib.hid hr2; have HE2 := Lib.hid he2
  have HLEN := Lib.hid hlen; have HLEN2 := Lib.hid hlen2
  clear hr hp he hlen hr2 hp2 he2 hlen2
  have hl : l.length ≤ maxLen := Nat.le_trans hbig (by decide)
  have hl2 : k.length ≤ maxLen := Nat.le_trans hbig2 (by decide)
  have hcp := fun w hr => checkPicture_any (Pic.mk nm W H l) (some ad) c w hs hl hr
  have hcp2 := fun w hr => checkPicture_any (Pic.mk nm2 W K k) (some ad2) c2 w hs2 hl2 hr
  rw [HE.out] at hcp
  rw [HE2.out] at hcp2
  simp only [Pic.val] at hcp hcp2
  have HCP := Lib.hid hcp; have HCP2 := Lib.hid hcp2; clear hcp hcp2 hl hl2 hs hs2
  have hsum : IntKind.i64.wrap ((H : Int) + (K : Int)) = (M : Int) := by rw [IntWalk.i64_in _ (by omega)]; omega
  have hdec : decide ((64 : Int) < (M : Int)) = false := by simp; omega
  go_enter Tryz.func41, Tryz.ntmps41
  go_wp2_with fail
  have hx0 := (((Blk.new w 50 #[.string nm, .int .i64 (W : Int), .int .i64 (H : Int), .slice (some ad) l.length c]).alloc (.cells #[.string nm2, .int .i64 (W : Int), .int .i64 (K : Int), .slice (some ad2) k.length c2] 50)).alloc (.cells #[.string ⟨#[]⟩, .int .i64 0, .int .i64 0, .slice none 0 0] 50))
  have hx1 := ((Blk.new (w.alloc (.cells #[.string nm, .int .i64 (W : Int), .int .i64 (H : Int), .slice (some ad) l.length c] 50)) 50 #[.string nm2, .int .i64 (W : Int), .int .i64 (K : Int), .slice (some ad2) k.length c2]).alloc (.cells #[.string ⟨#[]⟩, .int .i64 0, .int .i64 0, .slice none 0 0] 50))
  simp only [World.size_alloc] at hx1
  have hx2 := (Blk.new ((w.alloc (.cells #[.string nm, .int .i64 (W : Int), .int .i64 (H : Int), .slice (some ad) l.length c] 50)).alloc (.cells #[.string nm2, .int .i64 (W : Int), .int .i64 (K : Int), .slice (some ad2) k.length c2] 50)) 50 #[.string ⟨#[]⟩, .int .i64 0, .int .i64 0, .slice none 0 0])
  simp only [World.size_alloc] at hx2
  have hb0 := ((((Below.refl w.heap.size w).alloc (Nat.le_refl _) (.cells #[.string nm, .int .i64 (W : Int), .int .i64 (H : Int), .slice (some ad) l.length c] 50)).alloc (by simp only [World.size_alloc]; omega) (.cells #[.string nm2, .int .i64 (W : Int), .int .i64 (K : Int), .slice (some ad2) k.length c2] 50)).alloc (by simp only [World.size_alloc]; omega) (.cells #[.string ⟨#[]⟩, .int .i64 0, .int .i64 0, .slice none 0 0] 50))
  generalize (((w.alloc (.cells #[.string nm, .int .i64 (W : Int), .int .i64 (H : Int), .slice (some ad) l.length c] 50)).alloc (.cells #[.string nm2, .int .i64 (W : Int), .int .i64 (K : Int), .slice (some ad2) k.length c2] 50)).alloc (.cells #[.string ⟨#[]⟩, .int .i64 0, .int .i64 0, .slice none 0 0] 50)) = w0 at hx0 hx1 hx2 hb0 ⊢
  have HX0_0 := Lib.hid hx0
  have HX1_0 := Lib.hid hx1
  have HX2_0 := Lib.hid hx2
  have HB_0 := Lib.hid hb0
  clear hx0 hx1 hx2 hb0
  have k0_0 := HX0_0.out.cell 0
  have k0_1 := HX0_0.out.cell 1
  have k0_2 := HX0_0.out.cell 2
  have k0_3 := HX0_0.out.cell 3
  simp only [List.getElem?_toArray, List.getElem?_cons_zero, List.getElem?_cons_succ] at k0_0 k0_1 k0_2 k0_3
  have k1_0 := HX1_0.out.cell 0
  have k1_1 := HX1_0.out.cell 1
  have k1_2 := HX1_0.out.cell 2
  have k1_3 := HX1_0.out.cell 3
  simp only [List.getElem?_toArray, List.getElem?_cons_zero, List.getElem?_cons_succ] at k1_0 k1_1 k1_2 k1_3
  have hch : Below w0.heap.size w0 w0.drew := (Below.refl _ _).drew
  go_region_held3 (fun w' => w'.cell? ⟨w.heap.size, 0, none⟩ = some (.string nm) ∧ w'.cell? ⟨w.heap.size, 1, none⟩ = some (.int .i64 (W : Int)) ∧ w'.cell? ⟨w.heap.size, 2, none⟩ = some (.int .i64 (H : Int)) ∧ w'.cell? ⟨w.heap.size, 3, none⟩ = some (.slice (some ad) l.length c) ∧ w'.cell? ⟨w.heap.size + 1, 0, none⟩ = some (.string nm2) ∧ w'.cell? ⟨w.heap.size + 1, 1, none⟩ = some (.int .i64 (W : Int)) ∧ w'.cell? ⟨w.heap.size + 1, 2, none⟩ = some (.int .i64 (K : Int)) ∧ w'.cell? ⟨w.heap.size + 1, 3, none⟩ = some (.slice (some ad2) k.length c2))
    (go_keep)
    (first
      | (go_at_call 37; (first | (with_reducible refine (HCP.out _ (by exact HR.out.below (HB_0.out.trans ((chainB' hch (Below.refl _ _)).mono HB_0.out.size)))).mono ?_) | (with_reducible refine (HCP2.out _ (by exact HRb.out.below (HB_0.out.trans ((chainB' hch (Below.refl _ _)).mono HB_0.out.size)))).mono ?_)); rintro e wn ⟨rfl, hbn⟩; have hch := chainB' (wo := w0) (by assumption) hbn; have k0_0 := cellL hbn (a := ⟨w.heap.size, 0, none⟩) (v := .string nm) (by assumption); have k0_1 := cellL hbn (a := ⟨w.heap.size, 1, none⟩) (v := .int .i64 (W : Int)) (by assumption); have k0_2 := cellL hbn (a := ⟨w.heap.size, 2, none⟩) (v := .int .i64 (H : Int)) (by assumption); have k0_3 := cellL hbn (a := ⟨w.heap.size, 3, none⟩) (v := .slice (some ad) l.length c) (by assumption); have k1_0 := cellL hbn (a := ⟨w.heap.size + 1, 0, none⟩) (v := .string nm2) (by assumption); have k1_1 := cellL hbn (a := ⟨w.heap.size + 1, 1, none⟩) (v := .int .i64 (W : Int)) (by assumption); have k1_2 := cellL hbn (a := ⟨w.heap.size + 1, 2, none⟩) (v := .int .i64 (K : Int)) (by assumption); have k1_3 := cellL hbn (a := ⟨w.heap.size + 1, 3, none⟩) (v := .slice (some ad2) k.length c2) (by assumption))
      | (go_at_call 104; refine (errorIf_any _ _ _).mono ?_; rintro e wn ⟨rfl, rfl⟩)
      | (go_at_call 97; refine (first_n _ _ _ [0, 0, errIf _ 2, errIf _ 5] _ rfl (by simp [maxLen]) (by exact rd_of_blk (Blk.new _ _ _) rfl)).mono ?_; rintro e wn ⟨rfl, rfl⟩))
  have hN : n ≤ 4096 := by rw [← hn]; exact Nat.le_trans (Nat.mul_le_mul hW.2 hHK) (by decide)
  have HN0 := Lib.hid hn
  go_wp2_with fail
  have hch := chainB' hch ((Below.refl _ _).alloc (Nat.le_refl _) (.cells #[.int .i64 0, .int .i64 0, .int .i64 (errIf false 2), .int .i64 (errIf false 5)] 26))
  refine (blank_any nm W M n _ HN0.out hN).mono ?_
  rintro e w2 ⟨g, rfl, hg, hgb, hb2⟩
  have hch := chainB' hch hb2
  have HX0_2 := Lib.hid (HX0_0.out.below hch)
  have HX1_2 := Lib.hid (HX1_0.out.below hch)
  have HX2_2 := Lib.hid (HX2_0.out.below hch)
  have HB_2 := Lib.hid (HB_0.out.trans (hch.mono HB_0.out.size))
  have HG2 := Lib.hid hgb
  have hgl : w.heap.size + 1 + 1 < g := Nat.lt_of_lt_of_le (HX2_0.out.below (by assumption : Below w0.heap.size w0 wn)).lt (Nat.le_trans (by simp) hg)
  have hzg : g < w2.heap.size := HG2.out.lt
  have hz : w.heap.size < w2.heap.size ∧ w.heap.size + 1 < w2.heap.size ∧ w.heap.size + 1 + 1 < w2.heap.size := by have := HX2_2.out.lt; omega
  obtain ⟨z0, z1, z2⟩ := hz
  clear hb2 hgb hch hg hsum hdec
  clear k0_0 k0_1 k0_2 k0_3 k1_0 k1_1 k1_2 k1_3
  have k0_0 := HX0_2.out.cell 0
  have k0_1 := HX0_2.out.cell 1
  have k0_2 := HX0_2.out.cell 2
  have k0_3 := HX0_2.out.cell 3
  simp only [List.getElem?_toArray, List.getElem?_cons_zero, List.getElem?_cons_succ] at k0_0 k0_1 k0_2 k0_3
  have k1_0 := HX1_2.out.cell 0
  have k1_1 := HX1_2.out.cell 1
  have k1_2 := HX1_2.out.cell 2
  have k1_3 := HX1_2.out.cell 3
  simp only [List.getElem?_toArray, List.getElem?_cons_zero, List.getElem?_cons_succ] at k1_0 k1_1 k1_2 k1_3
  go_wp2_with fail
  have hx3 := HX0_2.out.alloc (.cells #[.string nm, .int .i64 (W : Int), .int .i64 (M : Int), .slice (some ⟨g, 0, none⟩) n n] 50)
  have hx4 := HX1_2.out.alloc (.cells #[.string nm, .int .i64 (W : Int), .int .i64 (M : Int), .slice (some ⟨g, 0, none⟩) n n] 50)
  have hx5 := HX2_2.out.alloc (.cells #[.string nm, .int .i64 (W : Int), .int .i64 (M : Int), .slice (some ⟨g, 0, none⟩) n n] 50)
  have hg3 := HG2.out.alloc (.cells #[.string nm, .int .i64 (W : Int), .int .i64 (M : Int), .slice (some ⟨g, 0, none⟩) n n] 50)
  have hf3 := Blk.new w2 50 #[.string nm, .int .i64 (W : Int), .int .i64 (M : Int), .slice (some ⟨g, 0, none⟩) n n]
  have hb3 := HB_2.out.alloc HB_2.out.size (.cells #[.string nm, .int .i64 (W : Int), .int .i64 (M : Int), .slice (some ⟨g, 0, none⟩) n n] 50)
  clear k0_0 k0_1 k0_2 k0_3 k1_0 k1_1 k1_2 k1_3
  obtain ⟨b3, hb3e⟩ : ∃ b, w2.heap.size = b := ⟨_, rfl⟩
  rw [hb3e] at hf3 z0 z1 z2 hzg ⊢
  clear hb3e
  generalize w2.alloc (.cells #[.string nm, .int .i64 (W : Int), .int .i64 (M : Int), .slice (some ⟨g, 0, none⟩) n n] 50) = w3 at hx3 hx4 hx5 hg3 hf3 hb3 ⊢
  have HX0_3 := Lib.hid hx3; have HX1_3 := Lib.hid hx4; have HX2_3 := Lib.hid hx5; have HG3 := Lib.hid hg3; have HF3 := Lib.hid hf3; have HB_3 := Lib.hid hb3
  clear hx3 hx4 hx5 hg3 hf3 hb3
  clear HX0_0 HX1_0 HX2_0 HX0_2 HX1_2 HX2_2 HG2 HB_0 HB_2 HCP HCP2 HR HRb HE HE2
  have hL1 : l.length + k.length = n := by rw [HLEN.out, HLEN2.out, ← Nat.mul_add, hM]; exact HN0.out
  have hg0 := HG3.out
  rw [fill_mask, mask_congr (fun _ => .float .f32 0) (aboveF l k) _ _ _ (fun i => decide (i < 0)) (by simp) (by simp)] at hg0
  replace HG3 := Lib.hid hg0; clear hg0
  obtain ⟨la, hla⟩ : ∃ x, l.length = x := ⟨_, rfl⟩
  obtain ⟨lb, hlb⟩ : ∃ x, k.length = x := ⟨_, rfl⟩
  rw [hla, hlb] at hL1
  have hga1 : ∀ j, j < la → aboveF l k j = .float .f32 (l.getD j 0) := fun j hj => by unfold aboveF; rw [hla, if_pos hj]
  have hga2 : ∀ j, aboveF l k (la + j) = .float .f32 (k.getD j 0) := fun j => by unfold aboveF; rw [hla, if_neg (by omega), show la + j - la = j by omega]
  obtain ⟨cs1, hcs⟩ : ∃ cs, (List.range la).map (fun j => aboveF l k (0 + j)) = cs := ⟨_, rfl⟩
  have hcl : cs1.length = la := by rw [← hcs]; simp
  have hcg : ∀ j, j < cs1.length → cs1[j]? = some (aboveF l k (0 + j)) := fun j hj => by rw [← hcs]; rw [hcl] at hj; simp [hj]
  have hone : ∀ v ∈ cs1, v.oneCell' = true := fun v hv => by
    obtain ⟨j, hj, rfl⟩ := List.getElem_of_mem hv
    have h := hcg j hj
    rw [List.getElem?_eq_getElem hj] at h
    rw [hcl] at hj
    rw [Option.some.inj h, Nat.zero_add, hga1 j hj]
    rfl
  have hnew := mask_copy (aboveF l k) (.float .f32 0) n (fun i => decide (i < 0)) (fun i => decide (i < la)) 0 cs1 (by omega) hcg (fun i hi => by rw [hcl, Bool.eq_iff_iff]; simp)
  have hsrc : ∀ j v, cs1[j]? = some v → w.cell? (ad.add j) = some v := fun j v hj => by
    have hj1 : j < cs1.length := (List.getElem?_eq_some_iff.1 hj).1
    rw [hcg j hj1] at hj
    cases hj
    rw [hcl] at hj1
    rw [Nat.zero_add, HAD.out _ _ (fl_get (by omega)), hga1 j hj1]
  have HN1 := Lib.hid hnew; have HSRC1 := Lib.hid hsrc; have HONE1 := Lib.hid hone; have HCL1 := Lib.hid hcl
  clear hnew hsrc hone hcl hcg hcs
  obtain ⟨cs2, hcs⟩ : ∃ cs, (List.range lb).map (fun j => aboveF l k (la + j)) = cs := ⟨_, rfl⟩
  have hcl : cs2.length = lb := by rw [← hcs]; simp
  have hcg : ∀ j, j < cs2.length → cs2[j]? = some (aboveF l k (la + j)) := fun j hj => by rw [← hcs]; rw [hcl] at hj; simp [hj]
  have hone : ∀ v ∈ cs2, v.oneCell' = true := fun v hv => by
    obtain ⟨j, hj, rfl⟩ := List.getElem_of_mem hv
    have h := hcg j hj
    rw [List.getElem?_eq_getElem hj] at h
    rw [Option.some.inj h, hga2 j]
    rfl
  have hnew := mask_copy (aboveF l k) (.float .f32 0) n (fun i => decide (i < la)) (fun _ => true) la cs2 (by omega) hcg (fun i hi => by rw [hcl, Bool.eq_iff_iff]; simp; omega)
  have hsrc : ∀ j v, cs2[j]? = some v → w.cell? (ad2.add j) = some v := fun j v hj => by
    have hj1 : j < cs2.length := (List.getElem?_eq_some_iff.1 hj).1
    rw [hcg j hj1] at hj
    cases hj
    rw [hcl] at hj1
    rw [HAD2.out _ _ (fl_get (by omega)), hga2 j]
  have HN2 := Lib.hid hnew; have HSRC2 := Lib.hid hsrc; have HONE2 := Lib.hid hone; have HCL2 := Lib.hid hcl
  clear hnew hsrc hone hcl hcg hcs hga1 hga2
  rw [hla] at HX0_3
  rw [hlb] at HX1_3
  have HLA := Lib.hid hla; have HLB := Lib.hid hlb; clear hla hlb
  have hlan : la ≤ n := by omega
  have hlb1 : 1 ≤ lb := by rw [← HLB.out, HLEN2.out]; exact prod_pos hW.1 hK.1
  obtain ⟨c0, c1, c2', c3⟩ := box4 HX0_3.out
  obtain ⟨d0, d1, d2, d3⟩ := box4 HF3.out
  have hgc := HG3.out
  go_upto_region 5 with fail
  refine upon_copy_blk 41 41 3 23 Tryz.underlying41 info_f32 g 0 _ _ ad _ _ _ 23 HG3.out cs1 (by rw [HCL1.out, HLA.out]; exact (Nat.min_eq_left hlan).symm) (fun j v hj => (HB_3.out.cell (by rw [block_of_add]; exact hadb)).trans (HSRC1.out j v hj)) (by rw [HCL1.out]; simp [maskN]; omega) HONE1.out _ HN1.out ?_
  intro wn2 hbk hon
  replace HX0_3 := Lib.hid (hon.far HX0_3.out (by omega)); replace HX1_3 := Lib.hid (hon.far HX1_3.out (by omega)); replace HX2_3 := Lib.hid (hon.far HX2_3.out (by omega)); replace HF3 := Lib.hid (hon.far HF3.out (by omega)); replace HB_3 := Lib.hid (hon.below HB_3.out (by omega))
  replace HG3 := hbk
  clear hbk hon c0 c1 c2' c3 d0 d1 d2 d3 hgc
  obtain ⟨c0, c1, c2', c3⟩ := box4 HX0_3.out
  obtain ⟨e0, e1, e2, e3⟩ := box4 HX1_3.out
  obtain ⟨d0, d1, d2, d3⟩ := box4 HF3.out
  have z0' := HX0_3.out.lt; have z1' := HX1_3.out.lt; have zF := HF3.out.lt; have zG := HG3.out.lt
  have i1 : (0 : Int) ≤ (la : Int) := by omega
  have i2 : (la : Int) ≤ (n : Int) := by omega
  have i3 : la ≤ n := by omega
  have i4 : ¬ n = la := by omega
  go_upto_region 6 with fail
  have hch : Below wn2.heap.size wn2 wn2.drew := (Below.refl _ _).drew
  have HG3' := Lib.hid (HG3.out.below hch)
  have HSR : RowKit.Hid (∀ j v, cs2[j]? = some v → wn2.drew.cell? (ad2.add j) = some v) := Lib.hid (fun j v hj => ((HB_3.out.trans (hch.mono HB_3.out.size)).cell (by rw [block_of_add]; exact hadb2)).trans (HSRC2.out j v hj))
  have HMN : RowKit.Hid (cs2.length = Nat.min lb (n - la)) := Lib.hid (by rw [HCL2.out]; exact (Nat.min_eq_left (by omega)).symm)
  have HFT : RowKit.Hid (la + cs2.length ≤ (maskN (aboveF l k) (.float .f32 0) n (fun i => decide (i < la))).size) := Lib.hid (by rw [HCL2.out]; simp [maskN]; omega)
  have hsx : SX g wn2 wn2.drew := sx_below hch
  have n0 : ¬ w.heap.size = g := by omega
  have n1 : ¬ w.heap.size + 1 = g := by omega
  have nf : ¬ b3 = g := by omega
  go_region_held3 (SX g wn2)
    (first | (with_reducible assumption) | exact sx_drew (by assumption) | exact sx_only hsx hon)
    (first
      | (refine upon_copy_blk 41 41 3 23 Tryz.underlying41 info_f32 g la _ _ ad2 _ _ _ 23 HG3'.out cs2 HMN.out HSR.out HFT.out HONE2.out _ HN2.out ?_; intro wn3 hbk hon))
  have HXF := Lib.hid (hon.far (HF3.out.below hch) (by omega)); have HXZ := Lib.hid (hon.far (HX2_3.out.below hch) (by omega)); have HBE := Lib.hid (hon.below (HB_3.out.trans (hch.mono HB_3.out.size)) (by omega)); have HGE := hbk
  clear hbk hon hch c0 c1 c2' c3 d0 d1 d2 d3 e0 e1 e2 e3 z0' z1' zF zG
  obtain ⟨d0, d1, d2, d3⟩ := box4 HXF.out
  have hy := HXZ.out
  have z1 := hy.lt
  have f0 := hy.frozen 0; have f1 := hy.frozen 1; have f2 := hy.frozen 2; have f3 := hy.frozen 3
  obtain ⟨e0, e1, e2, e3⟩ := box4 hy
  have hyy := Lib.hid (show Blk ((((wn3.setCell ⟨w.heap.size + 1 + 1, 0, none⟩ (.string nm)).setCell ⟨w.heap.size + 1 + 1, 1, none⟩ (.int .i64 (W : Int))).setCell ⟨w.heap.size + 1 + 1, 2, none⟩ (.int .i64 (M : Int))).setCell ⟨w.heap.size + 1 + 1, 3, none⟩ (.slice (some ⟨g, 0, none⟩) n n)) (w.heap.size + 1 + 1) 50 #[.string nm, .int .i64 (W : Int), .int .i64 (M : Int), .slice (some ⟨g, 0, none⟩) n n] from (((hy.set_ 0 _).set_ 1 _).set_ 2 _).set_ 3 _)
  have HGR := Lib.hid ((((HGE.out.far (p := ⟨w.heap.size + 1 + 1, 0, none⟩) (by simp; omega) (.string nm)).far (p := ⟨w.heap.size + 1 + 1, 1, none⟩) (by simp; omega) (.int .i64 (W : Int))).far (p := ⟨w.heap.size + 1 + 1, 2, none⟩) (by simp; omega) (.int .i64 (M : Int))).far (p := ⟨w.heap.size + 1 + 1, 3, none⟩) (by simp; omega) (.slice (some ⟨g, 0, none⟩) n n))
  clear hy
  go_wp2
  obtain ⟨r0, r1, r2, r3⟩ := box4 hyy.out
  exact bodyPost_ret (v := .tuple #[.agg #[.string nm, .int .i64 (W : Int), .int .i64 (M : Int), .slice (some ⟨g, 0, none⟩) n n], .int .i64 0]) (by simp [results, Tryz.results41, go_sem, r0, r1, r2, r3]) rfl ⟨g, rfl, HGR.out, below_set4 HBE.out (by omega) _ _ _ _⟩
end Go.Proofs.YtfgeokeankfplaaGreatDoor
namespace Go.Proofs.YtfgeokeankfplaaGreatDoor
open Go.RowKit
set_option linter.unusedVariables false
attribute [local go_sem] run_store_float run_store_complex
set_option maxRecDepth 100000
theorem step_append_own {P : Program} {ops : Array Oper} {o : Oper} {a : Act} {w : World} {K : Act → World → Prop} {Q : Exit → Act → World → Prop} {E : Prop} (hgd : o.guard = none) (s x : Operand) (t : TypeId)
    (ho : o.op = .call { callee := .builtin .append, args := #[s, x], argTypes := #[t, t] })
    (base : Nat) (e : TypeId) (i : TypeInfo) (z : Value) (bytes : Nat) (ht : P.underlying t = some (.slice e)) (hi : P.info? e = some i) (hz : i.zero = some z)
    (hsize : i.size = 1) (hby : i.bytes = bytes) (hzs : z.cells.size = 1)
    (v : Value) (n : Nat) (xs : List Value) (hs : a.eval s = v) (hown : w.ownsRow base e 1 v n xs)
    (ad : Addr) (m c : Nat) (news : List Value) (hx : a.eval x = .slice (some ad) m c) (hl : news.length = m) (hnews : ∀ j u, news[j]? = some u → w.cell? (ad.add j) = some u) (h1 : ∀ u ∈ news, u.oneCell' = true)
    (h63 : n + m ≤ maxLen) (hbytes : (n + m) * bytes ≤ 140737488355328) (hbase : base ≤ w.heap.size)
    (h : ∀ v' w', Hid (w'.ownsRow base e 1 v' (n + m) (xs ++ news)) → Hid (w.grownBy w' v.ownBlock) → K (a.put o.dst v') w') :
    if Region.wanted o (yielded ops a.tmps) = true then Oper.wp P o a w K Q else E := by
  have hw : Region.wanted o (yielded ops a.tmps) = true := by simp [Region.wanted, hgd]
  rw [if_pos hw]
  exact wp_append_own w s x t ho base e i z 1 bytes ht hi hz hsize hby hzs (by decide) v n xs hs hown ad m c news hx (by rw [hl, Nat.mul_one]) hnews h1 h63 hbytes hbase fun v' w' h2 h3 _ => h v' w' h2 h3
theorem sk_grown {w0 w w' : World} (h : SK w0 w) {r : Option Nat} (hg : w.grownBy w' r) (hr : ∀ b, r = some b → w0.heap.size ≤ b) : SK w0 w' := sk_of (h.1.grown hg h.1.size hr)
set_option maxHeartbeats 2000000 in
theorem aboveR_ok (nm nm2 : ByteArray) (W H K M : Nat) (l k : List Nat) (hW : 1 ≤ W ∧ W ≤ 64) (hH : 1 ≤ H ∧ H ≤ 64) (hK : 1 ≤ K ∧ K ≤ 64) (hM : H + K = M) (hM64 : M ≤ 64) (hlen : l.length = W * H) (hlen2 : k.length = W * K) (ad ad2 : Addr) (c c2 : Nat) (w : World) (hr : Rd w (some ad) (fl l)) (hr2 : Rd w (some ad2) (fl k)) :
    Calls Tryz.prog 44 #[.agg #[.string nm, .int .i64 (W : Int), .int .i64 (H : Int), .slice (some ad) l.length c], .agg #[.string nm2, .int .i64 (W : Int), .int .i64 (K : Int), .slice (some ad2) k.length c2]] w fun e w' => ∃ g c', e = .returned (.tuple #[.agg #[.string nm, .int .i64 (W : Int), .int .i64 (M : Int), .slice (some ⟨g, 0, none⟩) (l.length + k.length) c'], .int .i64 0]) ∧ Rd w' (some ⟨g, 0, none⟩) (fl (l ++ k)) ∧ Below w.heap.size w w' := by
  obtain ⟨i0, hi, hz0, hz1, hz2⟩ := info_parts info_mapIF
  have hl4 : l.length ≤ 4096 := by rw [hlen]; exact Nat.le_trans (Nat.mul_le_mul hW.2 hH.2) (by decide)
  have hk4 : k.length ≤ 4096 := by rw [hlen2]; exact Nat.le_trans (Nat.mul_le_mul hW.2 hK.2) (by decide)
  have hl1 : 1 ≤ l.length := by rw [hlen]; exact prod_pos hW.1 hH.1
  have hk1 : 1 ≤ k.length := by rw [hlen2]; exact prod_pos hW.1 hK.1
  obtain ⟨la, hla⟩ : ∃ x, l.length = x := ⟨_, rfl⟩
  obtain ⟨lb, hlb⟩ : ∃ x, k.length = x := ⟨_, rfl⟩
  rw [hla] at hl4 hl1 ⊢
  rw [hlb] at hk4 hk1 ⊢
  have HR := Lib.hid hr; have HR2 := Lib.hid hr2; have HLA := Lib.hid hla; have HLB := Lib.hid hlb
  have e8 : IntKind.i64.wrap ((H : Int) + (K : Int)) = (M : Int) := by rw [IntWalk.i64_in _ (by omega)]; omega
  have e9 : ¬ (64 : Int) < (M : Int) := by omega
  clear hr hr2 hla hlb hlen hlen2
  go_enter Tryz.func44, Tryz.ntmps44
  go_upto_region 1 with fail
  have hx0 := (Blk.new w 43 #[.string nm, .int .i64 (W : Int), .int .i64 (H : Int), .slice (some ad) la c]).alloc (.cells #[.string nm2, .int .i64 (W : Int), .int .i64 (K : Int), .slice (some ad2) lb c2] 43)
  have hx1 := Blk.new (w.alloc (.cells #[.string nm, .int .i64 (W : Int), .int .i64 (H : Int), .slice (some ad) la c] 43)) 43 #[.string nm2, .int .i64 (W : Int), .int .i64 (K : Int), .slice (some ad2) lb c2]
  have hb0 := ((Below.refl w.heap.size w).alloc (Nat.le_refl _) (.cells #[.string nm, .int .i64 (W : Int), .int .i64 (H : Int), .slice (some ad) la c] 43)).alloc (by simp only [World.size_alloc]; omega) (.cells #[.string nm2, .int .i64 (W : Int), .int .i64 (K : Int), .slice (some ad2) lb c2] 43)
  have hsz : ((w.alloc (.cells #[.string nm, .int .i64 (W : Int), .int .i64 (H : Int), .slice (some ad) la c] 43)).alloc (.cells #[.string nm2, .int .i64 (W : Int), .int .i64 (K : Int), .slice (some ad2) lb c2] 43)).heap.size = w.heap.size + 1 + 1 := by simp only [World.size_alloc]
  simp only [World.size_alloc] at hx1
  generalize (w.alloc (.cells #[.string nm, .int .i64 (W : Int), .int .i64 (H : Int), .slice (some ad) la c] 43)).alloc (.cells #[.string nm2, .int .i64 (W : Int), .int .i64 (K : Int), .slice (some ad2) lb c2] 43) = w0 at hx0 hx1 hb0 hsz ⊢
  have HSZ := Lib.hid hsz; clear hsz
  have hg := Blk.new w0 43 #[.string ⟨#[]⟩, .int .i64 0, .int .i64 0, .slice none 0 0]
  rw [HSZ.out] at hg
  have hs1 := sk_alloc (sk_refl w0) (.cells #[.string ⟨#[]⟩, .int .i64 0, .int .i64 0, .slice none 0 0] 43)
  generalize w0.alloc (.cells #[.string ⟨#[]⟩, .int .i64 0, .int .i64 0, .slice none 0 0] 43) = w1 at hg hs1 ⊢
  have z0 := hx0.lt; have z1 := hx1.lt; have zg := hg.lt
  obtain ⟨c0, c1, c2', c3⟩ := box4 hx0
  obtain ⟨d0, d1, d2, d3⟩ := box4 hx1
  have c0' := (hs1.2.1 _ _ z0).trans c0; have c1' := (hs1.2.1 _ _ z0).trans c1; have c2'' := (hs1.2.1 _ _ z0).trans c2'; have c3' := (hs1.2.1 _ _ z0).trans c3
  have d0' := (hs1.2.1 _ _ z1).trans d0; have d1' := (hs1.2.1 _ _ z1).trans d1; have d2' := (hs1.2.1 _ _ z1).trans d2; have d3' := (hs1.2.1 _ _ z1).trans d3
  have HB := Lib.hid hb0; clear hb0 hx0 hx1
  have HG := Lib.hid hg; clear hg
  go_upto_region 5 with fail
  clear c0' c1' c2'' c3' d0' d1' d2' d3'
  have HO0 : RowKit.Hid (∀ W : World, w1.heap.size ≤ W.heap.size → (W.alloc (.cells #[] 23)).ownsRow w1.heap.size 23 1 (.slice (some ⟨W.heap.size, 0, none⟩) 0 0) 0 []) := Lib.hid (fun W h => ⟨rfl, .inr ⟨_, 0, #[], rfl, h, heap_alloc_new W _, Nat.le_refl _, by decide, rfl, rfl⟩⟩)
  have HGA := Lib.hid ((HG.out.below (Below.refl _ _).drew).alloc (.cells #[] 23))
  have HNW : RowKit.Hid (∀ W, SK w0 W → ∀ j u, (fl l)[j]? = some u → W.cell? (ad.add j) = some u) := Lib.hid (fun W h j u hj => by
    obtain ⟨ad', e, _, hc⟩ := (HR.out.below (HB.out.trans (h.1.mono HB.out.size))) (by have := (List.getElem?_eq_some_iff.1 hj).1; omega)
    cases e; exact hc j u hj)
  have HNW2 : RowKit.Hid (∀ W, SK w0 W → ∀ j u, (fl k)[j]? = some u → W.cell? (ad2.add j) = some u) := Lib.hid (fun W h j u hj => by
    obtain ⟨ad', e, _, hc⟩ := (HR2.out.below (HB.out.trans (h.1.mono HB.out.size))) (by have := (List.getElem?_eq_some_iff.1 hj).1; omega)
    cases e; exact hc j u hj)
  have HFL : RowKit.Hid ((fl l).length = la) := Lib.hid (by simp [fl]; exact HLA.out)
  have HFL2 : RowKit.Hid ((fl k).length = lb) := Lib.hid (by simp [fl]; exact HLB.out)
  have HW1 : RowKit.Hid (w0.heap.size ≤ w1.drew.heap.size) := Lib.hid hs1.1.size
  have hsd : SK w0 w1.drew := sk_drew hs1
  go_region_held3 (SK w0)
    (first | exact sk_drew (by assumption) | assumption | exact sk_alloc (by assumption) _ | exact sk_set4 (by assumption) (by have := HSZ.out; omega) _ _ _ _)
    (first
      | (refine step_append_own rfl (.tmp 28) (.tmp 30) 41 rfl w1.heap.size 23 i0 (.float .f32 0) 4 Tryz.underlying41 hi hz0 hz1 hz2 rfl (.slice (some ⟨w1.heap.size, 0, none⟩) 0 0) 0 [] rfl (HO0.out _ (Nat.le_refl _)) ad la c (fl l) rfl HFL.out (HNW.out _ (sk_alloc hsd _)) (by intro u hu; obtain ⟨b, _, rfl⟩ := List.mem_map.1 hu; rfl) (by unfold maxLen; omega) (by omega) (by simp) ?_; intro v1 w2 hown1 hgr1; have hch1 : SK w0 w2 := sk_grown (sk_alloc hsd _) hgr1.out (fun b hb => by cases hb; exact HW1.out); have hG1 := blk_grown HGA.out hgr1.out (by intro e; have e2 : w1.heap.size = w.heap.size + 1 + 1 := (by simpa [Value.ownBlock] using e); omega); have hbs : w1.heap.size ≤ w2.heap.size := Nat.le_trans (by simp) hgr1.out.size)
      | (refine step_append_own rfl (.tmp 31) (.tmp 33) 41 rfl w1.heap.size 23 i0 (.float .f32 0) 4 Tryz.underlying41 hi hz0 hz1 hz2 rfl _ _ _ rfl hown1.out ad2 lb c2 (fl k) rfl HFL2.out (HNW2.out _ hch1) (by intro u hu; obtain ⟨b, _, rfl⟩ := List.mem_map.1 hu; rfl) (by unfold maxLen; omega) (by omega) hbs ?_; intro v2 w3 hown2 hgr2; have hch2 : SK w0 w3 := sk_grown hch1 hgr2.out (fun b hb => Nat.le_trans HW1.out (owns_block hown1.out b hb).1); have hG2 := blk_grown hG1 hgr2.out (by intro e; have := (owns_block hown1.out _ e).1; omega); obtain ⟨g, c', rfl, hcap⟩ := own_form hown2.out (by omega); obtain ⟨r0, r1, r2, r3⟩ := box4 hG2; have f0 := hG2.frozen 0; have f1 := hG2.frozen 1; have f2 := hG2.frozen 2; have f3 := hG2.frozen 3; have zr := hG2.lt))
  have hrd0 := rd_own hown2.out
  rw [Nat.zero_add] at hcap
  rw [List.nil_append, show fl l ++ fl k = fl (l ++ k) by simp [fl]] at hrd0
  have hgb := (owns_block hown2.out g rfl).1
  have hyy := Lib.hid (show Blk ((((w3.setCell ⟨w.heap.size + 1 + 1, 0, none⟩ (.string nm)).setCell ⟨w.heap.size + 1 + 1, 1, none⟩ (.int .i64 (W : Int))).setCell ⟨w.heap.size + 1 + 1, 2, none⟩ (.int .i64 (M : Int))).setCell ⟨w.heap.size + 1 + 1, 3, none⟩ (.slice (some ⟨g, 0, none⟩) (la + lb) c')) (w.heap.size + 1 + 1) 43 #[.string nm, .int .i64 (W : Int), .int .i64 (M : Int), .slice (some ⟨g, 0, none⟩) (la + lb) c'] from (((hG2.set_ 0 _).set_ 1 _).set_ 2 _).set_ 3 _)
  have HRD := Lib.hid (rd_set4 hrd0 hG2 (.four rfl rfl rfl rfl) (.string nm) (.int .i64 (W : Int)) (.int .i64 (M : Int)) (.slice (some ⟨g, 0, none⟩) (la + lb) c') rfl rfl rfl)
  have HBE := Lib.hid (below_set4 (HB.out.trans (hch2.1.mono HB.out.size)) (g := w.heap.size + 1 + 1) (by omega) (.string nm) (.int .i64 (W : Int)) (.int .i64 (M : Int)) (.slice (some ⟨g, 0, none⟩) (la + lb) c'))
  clear hrd0 hgb hown1 hgr1 hown2 hgr2 hG1 hG2 hch1 hch2 r0 r1 r2 r3 f0 f1 f2 f3 zr
  go_wp2
  obtain ⟨r0, r1, r2, r3⟩ := box4 hyy.out
  exact bodyPost_ret (v := .tuple #[.agg #[.string nm, .int .i64 (W : Int), .int .i64 (M : Int), .slice (some ⟨g, 0, none⟩) (la + lb) c'], .int .i64 0]) (by simp [results, Tryz.results44, go_sem, r0, r1, r2, r3]) rfl ⟨g, ⟨c', rfl⟩, HRD.out, HBE.out⟩
end Go.Proofs.YtfgeokeankfplaaGreatDoor
namespace Go.Proofs.YtfgeokeankfplaaGreatDoor
open Go.RowKit
set_option linter.unusedVariables false
set_option maxRecDepth 100000
/-- What a function of two pictures gives: the picture R, or none and the error z. -/
def Joins (f : FuncId) (p q : Pic) (R : Pic) (z : Int) : Prop := ∀ (A B : Option Addr) (c d : Nat) (w : World), p.l.length ≤ c → q.l.length ≤ d → Rd w A (fl p.l) → Rd w B (fl q.l) → Calls Tryz.prog f #[p.val A c, q.val B d] w (JoinEnd R z w)
/-- The code (f) and the reference (g) give the same. -/
def Fit (f g : FuncId) (p q : Pic) : Prop := ∃ R z, (z ≠ 0 → R = noPic) ∧ sameF R.l R.l = true ∧ R.l.length ≤ maxLen ∧ Joins f p q R z ∧ Joins g p q R z
theorem rd_nil (w : World) (A : Option Addr) : Rd w A (fl []) := fun h => absurd h (by simp [fl])
theorem join_none {z : Int} {w : World} {e : Ending} {w' : World} (h : e = .returned (.tuple #[.agg #[.string ⟨#[]⟩, .int .i64 0, .int .i64 0, .slice none 0 0], .int .i64 z]) ∧ Below w.heap.size w w') : JoinEnd noPic z w e w' :=
  ⟨none, 0, h.1, rd_nil _ _, h.2⟩
theorem fit_refused {f g : FuncId} {p q : Pic} {z : Int} (hf : Joins f p q noPic z) (hg : Joins g p q noPic z) : Fit f g p q :=
  ⟨noPic, z, fun _ => rfl, rfl, by decide, hf, hg⟩
section
variable {nm nm2 : ByteArray} {W H V K : Nat} {l k : List Nat} (hp : (Pic.mk nm W H l).Ok) (hq : (Pic.mk nm2 V K k).Ok)
include hp hq
/-- One list behind the other: valid. -/
theorem app_same : sameF (l ++ k) (l ++ k) = true := sameF_self fun b hb => by
  rcases List.mem_append.1 hb with h | h
  · exact hp.ok b h
  · exact hq.ok b h
omit hq in
theorem addr_of {w : World} {A : Option Addr} (hr : Rd w A (fl l)) : ∃ ad, A = some ad := by
  have h := ok_sizes hp
  have hpos : 0 < (fl l).length := by have := prod_pos h.1.1 h.2.1.1; simp [fl]; omega
  obtain ⟨ad, h, _⟩ := hr.some_ hpos
  exact ⟨ad, h⟩
omit hp in
theorem addr_of2 {w : World} {A : Option Addr} (hr : Rd w A (fl k)) : ∃ ad, A = some ad := by
  have h := ok_sizes hq
  have hpos : 0 < (fl k).length := by have := prod_pos h.1.1 h.2.1.1; simp [fl]; omega
  obtain ⟨ad, h, _⟩ := hr.some_ hpos
  exact ⟨ad, h⟩
theorem beside_fit : Fit 40 43 (Pic.mk nm W H l) (Pic.mk nm2 V K k) := by
  obtain ⟨hW, hH, hlen, hs, hmax⟩ := ok_sizes hp
  obtain ⟨hV, hK, hlen2, hs2, hmax2⟩ := ok_sizes hq
  have hpe := ok_err hp
  have hqe := ok_err hq
  by_cases h1 : H = K
  · subst h1
    by_cases h2 : W + V ≤ 64
    · obtain ⟨n, hn⟩ : ∃ n, (W + V) * H = n := ⟨_, rfl⟩
      have hL : ∃ L : List Nat, L.length = n ∧ (∀ i, i < n → besideF l k W V (W + V) i = .float .f32 (L.getD i 0)) ∧ sameF L L = true := by
        refine ⟨(List.range n).map (fun i => if i % (W + V) < W then l.getD (i / (W + V) * W + i % (W + V)) 0 else k.getD (i / (W + V) * V + (i % (W + V) - W)) 0), by simp, fun i hi => ?_, sameF_self fun b hb => ?_⟩
        · unfold besideF
          simp [List.getD, hi]
          split <;> rfl
        · obtain ⟨i, _, rfl⟩ := List.mem_map.1 hb
          split
          · exact chk_getD hp.ok _
          · exact chk_getD hq.ok _
      obtain ⟨L, hLn, hLf, hLs⟩ := hL
      have hrd : ∀ {w : World} {g : Nat}, Blk w g 23 (maskN (besideF l k W V (W + V)) (.float .f32 0) n (fun _ => true)) → Rd w (some ⟨g, 0, none⟩) (fl L) := fun h =>
        rd_mask h (fun _ _ => rfl) (by simp [fl, hLn]) fun i hi => by rw [fl_get (by rw [hLn]; exact hi), hLf i hi]
      refine ⟨⟨nm, ((W + V : Nat) : Int), H, L⟩, 0, fun h => absurd rfl h, hLs, by rw [hLn, ← hn]; exact Nat.le_trans (Nat.mul_le_mul h2 hH.2) (by decide), ?_, ?_⟩
      · intro A B c d w hc hd hr hr2
        refine (beside_ok nm nm2 W V H (W + V) rfl l k hp hpe hq hqe h2 A B c d w hs hs2 hc hd hr hr2).mono fun e w' ⟨g, a1, a2, a3⟩ => ⟨some ⟨g, 0, none⟩, n, ?_, hrd (by rw [← hn]; exact a2), a3⟩
        rw [a1, hn]; simp only [hLn]
      · intro A B c d w hc hd hr hr2
        obtain ⟨ad, rfl⟩ := addr_of hp hr
        obtain ⟨ad2, rfl⟩ := addr_of2 hq hr2
        refine (besideR_ok nm nm2 W V H (W + V) l k hW hV hH rfl h2 hlen hlen2 n hn ad ad2 c d w hr hr2).mono fun e w' ⟨g, a1, a2, a3⟩ => ⟨some ⟨g, 0, none⟩, n, ?_, hrd a2, a3⟩
        rw [a1]; simp only [hLn]
    · have he : besideErr (Pic.mk nm W H l) (Pic.mk nm2 V H k) = 5 := by
        unfold besideErr; rw [hpe, hqe]
        simp only []
        rw [IntWalk.i64_in _ (by omega)]
        simp [firstE, errIf]; omega
      refine fit_refused (fun A B c d w hc hd hr hr2 => (beside_err _ _ A B c d w hs hmax hs2 hmax2 hr hr2 5 he (by decide)).mono fun e w' h => join_none h) (fun A B c d w hc hd hr hr2 => ?_)
      exact (besideR_many nm nm2 W H V (by omega) (by omega) (by omega) A B _ _ c d w).mono fun e w' h => join_none h
  · have he : besideErr (Pic.mk nm W H l) (Pic.mk nm2 V K k) = 2 := by
      unfold besideErr; rw [hpe, hqe]
      have : ((H : Int) != (K : Int)) = true := by simp; omega
      simp only []
      rw [this]
      simp [firstE, errIf]
    refine fit_refused (fun A B c d w hc hd hr hr2 => (beside_err _ _ A B c d w hs hmax hs2 hmax2 hr hr2 2 he (by decide)).mono fun e w' h => join_none h) (fun A B c d w hc hd hr hr2 => ?_)
    exact (besideR_shape nm nm2 W H V K (by omega) (by omega) (by omega) A B _ _ c d w).mono fun e w' h => join_none h
theorem above_fit : Fit 41 44 (Pic.mk nm W H l) (Pic.mk nm2 V K k) := by
  obtain ⟨hW, hH, hlen, hs, hmax⟩ := ok_sizes hp
  obtain ⟨hV, hK, hlen2, hs2, hmax2⟩ := ok_sizes hq
  have hpe := ok_err hp
  have hqe := ok_err hq
  by_cases h1 : W = V
  · subst h1
    by_cases h2 : H + K ≤ 64
    · have hn : W * (H + K) = l.length + k.length := by rw [hlen, hlen2, Nat.mul_add]
      have hrd : ∀ {w : World} {g : Nat}, Blk w g 23 (maskN (aboveF l k) (.float .f32 0) (l.length + k.length) (fun _ => true)) → Rd w (some ⟨g, 0, none⟩) (fl (l ++ k)) := fun h =>
        rd_mask h (fun _ _ => rfl) (by simp [fl]) fun i hi => by
          rw [fl_get (by rw [List.length_append]; exact hi)]
          unfold aboveF
          by_cases hil : i < l.length
          · rw [if_pos hil]; simp [List.getD, List.getElem?_append_left hil]
          · rw [if_neg hil]; simp [List.getD, List.getElem?_append_right (Nat.le_of_not_lt hil)]
      refine ⟨⟨nm, W, ((H + K : Nat) : Int), l ++ k⟩, 0, fun h => absurd rfl h, app_same hp hq, by simp only [List.length_append]; rw [← hn]; exact Nat.le_trans (Nat.mul_le_mul hW.2 h2) (by decide), ?_, ?_⟩
      · intro A B c d w hc hd hr hr2
        refine (above_ok nm nm2 W H K (H + K) rfl l k hp hpe hq hqe h2 A B c d w _ hn hs hs2 hc hd hr hr2).mono fun e w' ⟨g, a1, a2, a3⟩ => ⟨some ⟨g, 0, none⟩, l.length + k.length, ?_, hrd a2, a3⟩
        rw [a1]; simp only [List.length_append]
      · intro A B c d w hc hd hr hr2
        obtain ⟨ad, rfl⟩ := addr_of hp hr
        obtain ⟨ad2, rfl⟩ := addr_of2 hq hr2
        refine (aboveR_ok nm nm2 W H K (H + K) l k hW hH hK rfl h2 hlen hlen2 ad ad2 c d w hr hr2).mono fun e w' ⟨g, c', a1, a2, a3⟩ => ⟨some ⟨g, 0, none⟩, c', ?_, a2, a3⟩
        rw [a1]; simp only [List.length_append]
    · have he : aboveErr (Pic.mk nm W H l) (Pic.mk nm2 W K k) = 5 := by
        unfold aboveErr; rw [hpe, hqe]
        simp only []
        rw [IntWalk.i64_in _ (by omega)]
        simp [firstE, errIf]; omega
      refine fit_refused (fun A B c d w hc hd hr hr2 => (above_err _ _ A B c d w hs hmax hs2 hmax2 hr hr2 5 he (by decide)).mono fun e w' h => join_none h) (fun A B c d w hc hd hr hr2 => ?_)
      exact (aboveR_many nm nm2 W H K (by omega) (by omega) (by omega) A B _ _ c d w).mono fun e w' h => join_none h
  · have he : aboveErr (Pic.mk nm W H l) (Pic.mk nm2 V K k) = 2 := by
      unfold aboveErr; rw [hpe, hqe]
      have : ((W : Int) != (V : Int)) = true := by simp; omega
      simp only []
      rw [this]
      simp [firstE, errIf]
    refine fit_refused (fun A B c d w hc hd hr hr2 => (above_err _ _ A B c d w hs hmax hs2 hmax2 hr hr2 2 he (by decide)).mono fun e w' h => join_none h) (fun A B c d w hc hd hr hr2 => ?_)
    exact (aboveR_shape nm nm2 W H V K (by omega) (by omega) (by omega) A B _ _ c d w).mono fun e w' h => join_none h
theorem woven_fit : Fit 42 45 (Pic.mk nm W H l) (Pic.mk nm2 V K k) := by
  obtain ⟨hW, hH, hlen, hs, hmax⟩ := ok_sizes hp
  obtain ⟨hV, hK, hlen2, hs2, hmax2⟩ := ok_sizes hq
  have hpe := ok_err hp
  have hqe := ok_err hq
  by_cases h1 : W = V
  · subst h1
    by_cases h2 : H = K ∨ H = K + 1
    · by_cases h3 : H + K ≤ 64
      · obtain ⟨n, hn⟩ : ∃ n, W * (H + K) = n := ⟨_, rfl⟩
        have hL : ∃ L : List Nat, L.length = n ∧ (∀ i, i < n → wovenF l k W i = .float .f32 (L.getD i 0)) ∧ sameF L L = true := by
          refine ⟨(List.range n).map (wovenN l k W), by simp, fun i hi => ?_, sameF_self fun b hb => ?_⟩
          · rw [woven_val]; simp [List.getD, hi]
          · obtain ⟨i, _, rfl⟩ := List.mem_map.1 hb
            unfold wovenN
            split
            · exact chk_getD hp.ok _
            · exact chk_getD hq.ok _
        obtain ⟨L, hLn, hLf, hLs⟩ := hL
        have hrd : ∀ {w : World} {g : Nat}, Blk w g 23 (maskN (wovenF l k W) (.float .f32 0) n (fun _ => true)) → Rd w (some ⟨g, 0, none⟩) (fl L) := fun h =>
          rd_mask h (fun _ _ => rfl) (by simp [fl, hLn]) fun i hi => by rw [fl_get (by rw [hLn]; exact hi), hLf i hi]
        refine ⟨⟨nm, W, ((H + K : Nat) : Int), L⟩, 0, fun h => absurd rfl h, hLs, by rw [hLn, ← hn]; exact Nat.le_trans (Nat.mul_le_mul hW.2 h3) (by decide), ?_, ?_⟩
        · intro A B c d w hc hd hr hr2
          refine (woven_ok nm nm2 W H K (H + K) rfl l k hp hpe hq hqe h2 h3 A B c d w hs hs2 hc hd hr hr2).mono fun e w' ⟨g, a1, a2, a3⟩ => ⟨some ⟨g, 0, none⟩, n, ?_, hrd (by rw [← hn]; exact a2), a3⟩
          rw [a1, hn]; simp only [hLn]
        · intro A B c d w hc hd hr hr2
          obtain ⟨ad, rfl⟩ := addr_of hp hr
          obtain ⟨ad2, rfl⟩ := addr_of2 hq hr2
          rcases h2 with h2 | h2
          · subst h2
            refine (wovenR_ok0 nm nm2 W H (H + H) l k hW hH rfl h3 hlen hlen2 n hn ad ad2 c d w hr hr2).mono fun e w' ⟨g, a1, a2, a3⟩ => ⟨some ⟨g, 0, none⟩, n, ?_, hrd a2, a3⟩
            rw [a1]; simp only [hLn]
          · subst h2
            refine (wovenR_ok1 nm nm2 W (K + 1) K (K + 1 + K) l k hW hH hK rfl rfl h3 hlen hlen2 n hn ad ad2 c d w hr hr2).mono fun e w' ⟨g, a1, a2, a3⟩ => ⟨some ⟨g, 0, none⟩, n, ?_, hrd a2, a3⟩
            rw [a1]; simp only [hLn]
      · have he : wovenErr (Pic.mk nm W H l) (Pic.mk nm2 W K k) = 5 := by
          unfold wovenErr; rw [hpe, hqe]
          simp only []
          rw [IntWalk.i64_in _ (by omega), IntWalk.i64_in _ (by omega)]
          have : ((H : Int) != (K : Int) && (H : Int) != (K : Int) + 1) = false := by rcases h2 with h | h <;> simp [h]
          rw [this]
          simp [firstE, errIf]; omega
        refine fit_refused (fun A B c d w hc hd hr hr2 => (woven_err _ _ A B c d w hs hmax hs2 hmax2 hr hr2 5 he (by decide)).mono fun e w' h => join_none h) (fun A B c d w hc hd hr hr2 => ?_)
        rcases h2 with h2 | h2
        · subst h2
          exact (wovenR_many1 nm nm2 W H (by omega) (by omega) (by omega) A B _ _ c d w).mono fun e w' h => join_none h
        · subst h2
          exact (wovenR_many2 nm nm2 W K (by omega) (by omega) (by omega) A B _ _ c d w).mono fun e w' h => join_none h
    · have he : wovenErr (Pic.mk nm W H l) (Pic.mk nm2 W K k) = 2 := by
        unfold wovenErr; rw [hpe, hqe]
        simp only []
        rw [IntWalk.i64_in _ (by omega)]
        have : ((H : Int) != (K : Int) && (H : Int) != (K : Int) + 1) = true := by simp; omega
        rw [this]
        simp [firstE, errIf]
      refine fit_refused (fun A B c d w hc hd hr hr2 => (woven_err _ _ A B c d w hs hmax hs2 hmax2 hr hr2 2 he (by decide)).mono fun e w' h => join_none h) (fun A B c d w hc hd hr hr2 => ?_)
      exact (wovenR_shape2 nm nm2 W H K (by omega) (by omega) (by omega) (by omega) A B _ _ c d w).mono fun e w' h => join_none h
  · have he : wovenErr (Pic.mk nm W H l) (Pic.mk nm2 V K k) = 2 := by
      unfold wovenErr; rw [hpe, hqe]
      have : ((W : Int) != (V : Int)) = true := by simp; omega
      simp only []
      rw [this]
      simp [firstE, errIf]
    refine fit_refused (fun A B c d w hc hd hr hr2 => (woven_err _ _ A B c d w hs hmax hs2 hmax2 hr hr2 2 he (by decide)).mono fun e w' h => join_none h) (fun A B c d w hc hd hr hr2 => ?_)
    exact (wovenR_shape1 nm nm2 W H V K (by omega) (by omega) (by omega) A B _ _ c d w).mono fun e w' h => join_none h
end
end Go.Proofs.YtfgeokeankfplaaGreatDoor
