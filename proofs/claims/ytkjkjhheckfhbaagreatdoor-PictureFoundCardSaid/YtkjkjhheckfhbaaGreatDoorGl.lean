/- Whole boxes: a struct or an array is loaded, and stored, in one step, its cells unopened. -/
import Derived.Test.YtkjkjhheckfhbaaGreatDoorP0
import Derived.Deep.MidRow
import Derived.Deep.WholeRow
namespace Go.Proofs.YtkjkjhheckfhbaaGreatDoor
open Go Go.RowKit
set_option linter.unusedVariables false
section
variable {P : Program} {ops : Array Oper} {rest : List Oper} {op : Oper} {a : Act} {w : World} {Q : Exit → Act → World → Prop}
theorem size_of_info {ty : TypeId} {n : Nat} (hi : (P.info? ty).map (·.size) = some n) : ∃ i, P.info? ty = some i ∧ i.size = n := by
  cases hq : P.info? ty with
  | none => rw [hq] at hi; simp at hi
  | some i => rw [hq] at hi; simp at hi; exact ⟨i, rfl, hi⟩
/-- The cells at any address are read at once. -/
theorem wpList_load_at (hgd : Region.wanted op (yielded ops a.tmps) = true) (ty : TypeId) (x : Operand) (ho : op.op = .load ty x) (ad : Addr) (hx : a.eval x = .pointer (some ad)) (cs : Array Value) (d : TypeDesc)
    (hc : ∀ j v, cs[j]? = some v → w.cell? (ad.add j) = some v) (hu : P.underlying ty = some d) (hd : d.isRow = true) (hi : (P.info? ty).map (·.size) = some cs.size)
    (h : wpList P ops Q rest (a.put op.dst (.agg cs)) w) : wpList P ops Q (op :: rest) a w := by
  refine wpList_step fun K hK => ?_
  rw [if_pos hgd]
  have hl : (loadCells ad cs.size).run P w = .ok cs w := by
    have h1 := run_loadCells_list (P := P) w ad cs.toList (fun j v hv => hc j v (by rw [← Array.getElem?_toList]; exact hv))
    simpa using h1
  obtain ⟨i, hq, hs⟩ := size_of_info hi
  have hagg : (isAgg ty).run P w = .ok true w := by
    unfold isAgg
    rw [Sem.run_bind, run_underlying hu w]
    cases d <;> simp_all
  have hv : (loadVar ty ad).run P w = .ok (.agg cs) w := by
    simp [loadVar, Sem.run_bind, hagg, sizeOf, typeInfo, hq, hs, hl]
  unfold Oper.wp execOp
  simp only [ho, hx, Instr.loadAt, Instr.sureAddr, Sem.run_bind, Sem.run_pure, Result.andThen_ok, hv]
  exact hK _ _ h
/-- A whole box is read. -/
theorem wpList_load_box (hgd : Region.wanted op (yielded ops a.tmps) = true) (ty : TypeId) (x : Operand) (ho : op.op = .load ty x) (g : Nat) (t : TypeId) (cs : Array Value) (hb : Blk w g t cs) (hx : a.eval x = .pointer (some ⟨g, 0, none⟩)) (d : TypeDesc)
    (hu : P.underlying ty = some d) (hd : d.isRow = true) (hi : (P.info? ty).map (·.size) = some cs.size)
    (h : wpList P ops Q rest (a.put op.dst (.agg cs)) w) : wpList P ops Q (op :: rest) a w :=
  wpList_load_at hgd ty x ho ⟨g, 0, none⟩ hx cs d (fun j v hv => by
    have e : (⟨g, 0, none⟩ : Addr).add j = ⟨g, j, none⟩ := by unfold Addr.add; split <;> simp_all
    rw [e, hb.cell j, hv]) hu hd hi h
/-- A whole box is written. -/
theorem wpList_store_box (hgd : op.guard = none) (ty : TypeId) (x y : Operand) (ho : op.op = .store ty x y) (g : Nat) (t : TypeId) (old cs : Array Value) (hb : Blk w g t old) (hx : a.eval x = .pointer (some ⟨g, 0, none⟩)) (hy : a.eval y = .agg cs)
    (hi : (P.info? ty).map (·.size) = some cs.size) (hz : old.size = cs.size) (h1 : cs.all (·.oneCell') = true)
    (h : ∀ w', Hid (Blk w' g t cs) → Only g w w' → wpList P ops Q rest (a.put op.dst undef) w') : wpList P ops Q (op :: rest) a w := by
  refine wpList_plain hgd fun K hK => ?_
  have hr := run_storeVar_row (P := P) w g t ty old cs hb hi hz h1
  unfold Oper.wp execOp
  simp only [ho, hx, hy, Instr.storeAt, Instr.sureAddr, Sem.run_bind, Sem.run_pure, Result.andThen_ok, hr]
  refine hK _ _ (h _ (Lib.hid ?_) (only_setRow w g cs))
  unfold Blk at hb ⊢
  simp [World.setRow, Array.getElem?_modify, hb]
/-- A box is made, and filled by the next operation. -/
theorem wpList_alloc_store {op2 : Oper} (hgd : op.guard = none) (hgd2 : op2.guard = none) (ty : TypeId) (d : Tmp) (y : Operand) (ho : op.op = .alloc ty) (hd : op.dst = some d) (ho2 : op2.op = .store ty (.tmp d) y) (hd2 : op2.dst = none)
    (z cs : Array Value) (hz : ∀ w, (zeroValue ty).run P w = .ok (.agg z) w) (hx : (a.put (some d) (.pointer (some ⟨w.heap.size, 0, none⟩))).eval (.tmp d) = .pointer (some ⟨w.heap.size, 0, none⟩)) (hy : (a.put (some d) (.pointer (some ⟨w.heap.size, 0, none⟩))).eval y = .agg cs)
    (hi : (P.info? ty).map (·.size) = some cs.size) (hs : z.size = cs.size) (h1 : cs.all (·.oneCell') = true)
    (h : wpList P ops Q rest (a.put (some d) (.pointer (some ⟨w.heap.size, 0, none⟩))) (w.alloc (.cells cs ty))) : wpList P ops Q (op :: op2 :: rest) a w := by
  refine wpList_plain hgd fun K hK => ?_
  have hrun : (execOp a.eval op).run P w = .ok (.value (.pointer (some ⟨w.heap.size, 0, none⟩))) (w.alloc (.cells z ty)) := by
    unfold execOp
    simp only [ho]
    simp [go_sem, Instr.alloc, hz, newVar]
  unfold Oper.wp
  rw [hrun]
  refine hK _ _ ?_
  rw [hd]
  refine wpList_plain hgd2 fun K2 hK2 => ?_
  have hr := run_storeAt_new (P := P) w ty z cs hi hs h1
  unfold Oper.wp execOp
  simp only [ho2, hx, hy, Sem.run_bind, hr, Result.andThen_ok]
  have h3 : K2 ((a.put (some d) (.pointer (some ⟨w.heap.size, 0, none⟩))).put op2.dst undef) (w.alloc (.cells cs ty)) := by
    rw [hd2]; exact hK2 _ _ h
  exact h3
end
end Go.Proofs.YtkjkjhheckfhbaaGreatDoor
