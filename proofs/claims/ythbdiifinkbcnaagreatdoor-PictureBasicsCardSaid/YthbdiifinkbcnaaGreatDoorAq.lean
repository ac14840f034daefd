/- A line of words added to a text. -/
import Derived.Test.YthbdiifinkbcnaaGreatDoorB
import Derived.Test.YthbdiifinkbcnaaGreatDoorSh
namespace Go.Proofs.YthbdiifinkbcnaaGreatDoor
open Go.RowKit
set_option linter.unusedVariables false
def lineOf (xs : List ByteArray) : List UInt8 := Lib.join (xs.map fun x => x.data.toList) [32] ++ [10]
set_option maxRecDepth 100000 in
theorem printLine_any (B b : Nat) (l : List UInt8) (bk o c n : Nat) (xs : List ByteArray) (hn : xs.length = n) (w : World) (h : Lib.IsBuilderF 186 5 B b (Lib.byteCells l) w) (hBw : B ≤ w.heap.size)
    (hc : ∀ (j : Nat) (x : ByteArray), xs[j]? = some x → w.cell? ⟨bk, o + j, none⟩ = some (.string x)) (hb : bk < w.heap.size) (hl : xs.length ≤ 140737488355328) (hlc : xs.length ≤ c) (hj : l.length + (lineOf xs).length ≤ 140737488355328) :
    Calls Tryz.prog 133 #[.pointer (some ⟨b, 0, none⟩), .slice (some ⟨bk, o, none⟩) n c] w fun e w' => e = .returned (.tuple #[]) ∧ Lib.IsBuilderF 186 5 B b (Lib.byteCells (l ++ lineOf xs)) w' ∧ Below B w w' ∧ Lib.OthersKept 5 (some b) w w' := by
  subst hn
  unfold lineOf at hj ⊢
  have HC := Lib.hid hc; have H := Lib.hid h
  clear hc h
  go_enter Tryz.func133, Tryz.ntmps133
  go_wp2_with fail
  refine (join_any bk o c xs ⟨#[32]⟩ w HC.out hb hl hlc (by simp at hj ⊢; omega)).mono ?_
  rintro e w1 ⟨rfl, hb1⟩
  obtain ⟨J, hJ⟩ : ∃ J, Lib.join (xs.map fun x => x.data.toList) [32] = J := ⟨_, rfl⟩
  rw [show (({ data := #[32] } : ByteArray).data.toList) = [32] from rfl, hJ]
  rw [hJ] at hj
  have HJ := Lib.hid hJ
  clear hJ
  have H1 := Lib.hid (builderF_below H.out hb1)
  have HB1 := Lib.hid (hb1.mono hBw)
  have HO1 := Lib.hid (others_below (e := 5) (b := some b) hb1)
  have hs1 := hb1.size
  clear hb1
  have hsz : ({ data := J.toArray } : ByteArray).size = J.length := by simp [ByteArray.size]
  go_wp2_with fail
  refine (writeString_any B b (Lib.byteCells l) ⟨J.toArray⟩ w1 H1.out (by rw [hsz]; simp [Lib.byteCells] at hj ⊢; omega) (by omega)).mono ?_
  rintro e w2 ⟨rfl, h2, hb2, ho2⟩
  have e2 : Lib.byteCells l ++ Lib.strCells ⟨J.toArray⟩ = Lib.byteCells (l ++ J) := by rw [Lib.strCells_toArray]; simp [Lib.byteCells]
  rw [e2] at h2
  have H2 := Lib.hid h2
  have HB2 := Lib.hid (HB1.out.trans hb2)
  have HO2 := Lib.hid (HO1.out.trans ho2)
  have hs2 := hb2.size
  clear h2 hb2 ho2 e2
  go_wp2_with fail
  refine (writeByte_any B b (Lib.byteCells (l ++ J)) 10 w2 H2.out (by simp [Lib.byteCells] at hj ⊢; omega) (by omega)).mono ?_
  rintro e w3 ⟨rfl, h3, hb3, ho3⟩
  have e3 : Lib.byteCells (l ++ J) ++ [.int .u8 10] = Lib.byteCells (l ++ (J ++ [10])) := by simp [Lib.byteCells]
  rw [e3] at h3
  have H3 := Lib.hid h3
  have HB3 := Lib.hid (HB2.out.trans hb3)
  have HO3 := Lib.hid (HO2.out.trans ho3)
  clear h3 hb3 ho3 e3
  go_wp2
  go_end0
  exact ⟨rfl, by rw [HJ.out]; exact H3.out, HB3.out, HO3.out⟩

end Go.Proofs.YthbdiifinkbcnaaGreatDoor
