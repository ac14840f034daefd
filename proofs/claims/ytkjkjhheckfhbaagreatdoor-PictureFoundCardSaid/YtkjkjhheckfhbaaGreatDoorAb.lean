/- Two frames compared. -/
import Derived.Test.YtkjkjhheckfhbaaGreatDoorPE
import Derived.Test.YtkjkjhheckfhbaaGreatDoorPE
import Derived.Laws.StructEq
namespace Go.Proofs.YtkjkjhheckfhbaaGreatDoor
open Go.RowKit
set_option linter.unusedVariables false
def eqElems (d : Nat) (elem : TypeId) (n : Nat) (xs ys : Array Value) : List Nat → Sem Bool
  | [] => pure true
  | i :: is => do
    let a ← part elem xs (i * n)
    let b ← part elem ys (i * n)
    let r ← Op.equalIn d elem a b
    if (!r) = true then pure false else eqElems d elem n xs ys is
theorem run_equalIn_array {P : Program} (w : World) (d : Nat) (t elem : TypeId) (len n : Nat) (xs ys : Array Value) (ht : P.underlying t = some (.array len elem)) (hn : ∀ w, (sizeOf elem).run P w = .ok n w) :
    (Op.equalIn (d + 1) t (.agg xs) (.agg ys)).run P w = (eqElems d elem n xs ys (List.range' 0 len)).run P w := by
  simp only [Op.equalIn, Sem.run_bind, run_underlying ht, Result.andThen_ok, hn, Std.Legacy.Range.forIn_eq_forIn_range', Std.Legacy.Range.size, Nat.sub_zero, Nat.add_sub_cancel, Nat.div_one]
  generalize List.range' 0 len = is
  clear ht
  induction is generalizing w with
  | nil => simp [eqElems]
  | cons i is ih =>
    simp only [List.forIn_cons, eqElems, Sem.run_bind]
    generalize (part elem xs (i * n)).run P w = r1
    cases r1 with
    | ok a w1 =>
      simp only [Result.andThen_ok]
      generalize (part elem ys (i * n)).run P w1 = r2
      cases r2 with
      | ok b w2 =>
        simp only [Result.andThen_ok]
        generalize (Op.equalIn d elem a b).run P w2 = r3
        cases r3 with
        | ok r w3 =>
          cases r
          · simp only [Result.andThen_ok, Bool.not_false, if_true, Sem.run_pure]
          · simp only [Result.andThen_ok, Bool.not_true, Bool.false_eq_true, if_false, Sem.run_pure]
            exact ih w3
        | halt x w3 => simp [Result.andThen]
      | halt x w2 => simp [Result.andThen]
    | halt x w1 => simp [Result.andThen]
theorem run_part_u8 (cs : Array Value) (i : Nat) (v : Value) (w : World) (h : cs[i]? = some v) : (part 5 cs (i * 1)).run Tryz.prog w = .ok v w := by
  have h1 := Tryz.isAgg5 w
  simp [part, h1, h]
theorem eqElems_u8 (d : Nat) (xs ys : List Int) (len : Nat) (hx : xs.length = len) (hy : ys.length = len) (m i : Nat) (hi : i + m = len) (w : World) :
    (eqElems (d + 1) 5 1 (xs.map (Value.int .u8)).toArray (ys.map (Value.int .u8)).toArray (List.range' i m)).run Tryz.prog w = .ok (decide (xs.drop i = ys.drop i)) w := by
  induction m generalizing i with
  | zero =>
    have : i = len := by omega
    subst this
    simp [eqElems, ← hx, hy]
  | succ m ih =>
    have h1 : i < xs.length := by omega
    have h2 : i < ys.length := by omega
    rw [List.range'_succ, eqElems, Sem.run_bind, run_part_u8 _ i (.int .u8 xs[i]) w (by simp [h1])]
    simp only [Result.andThen_ok, Sem.run_bind]
    rw [run_part_u8 _ i (.int .u8 ys[i]) w (by simp [h2])]
    simp only [Result.andThen_ok, run_equalIn_int w d 5 .u8 .u8 _ _ Tryz.underlying5]
    have hd : (xs.drop i = ys.drop i) ↔ (xs[i] = ys[i] ∧ xs.drop (i + 1) = ys.drop (i + 1)) := by
      rw [List.drop_eq_getElem_cons h1, List.drop_eq_getElem_cons h2]
      exact ⟨fun h => List.cons.inj h, fun ⟨a, b⟩ => by rw [a, b]⟩
    have hdd : decide (xs.drop i = ys.drop i) = (decide (xs[i] = ys[i]) && decide (xs.drop (i + 1) = ys.drop (i + 1))) := by
      rw [← Bool.decide_and]; exact decide_eq_decide.2 hd
    rw [hdd]
    by_cases he : xs[i] = ys[i]
    · simp only [he, beq_self_eq_true, Bool.not_true, Bool.false_eq_true, if_false, decide_true, Bool.true_and]
      exact ih (i + 1) (by omega)
    · have : (xs[i] == ys[i]) = false := by simpa using he
      simp [this, he]
theorem run_neq_frame (xs ys : List Int) (hx : xs.length = 16) (hy : ys.length = 16) (w : World) :
    (binOp .neq 85 (.agg (xs.map (Value.int .u8)).toArray) (.agg (ys.map (Value.int .u8)).toArray)).run Tryz.prog w = .ok (.bool (!decide (xs = ys))) w := by
  have hn := Tryz.sizeOf5
  rw [run_neq_struct, show (10000 : Nat) = 9998 + 1 + 1 from rfl, run_equalIn_array w (9998 + 1) 85 5 16 1 _ _ Tryz.underlying85 hn, eqElems_u8 9998 xs ys 16 hx hy 16 0 rfl w]
  simp

end Go.Proofs.YtkjkjhheckfhbaaGreatDoor
