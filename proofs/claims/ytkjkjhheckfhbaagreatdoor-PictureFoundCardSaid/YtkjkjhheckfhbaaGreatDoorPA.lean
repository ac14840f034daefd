/- Parts of a proof: Two packets compared. The counters that are lost, as lists. -/
import Derived.Test.YtkjkjhheckfhbaaGreatDoorAb
import Derived.Test.YtkjkjhheckfhbaaGreatDoorAh
import Derived.Test.YtkjkjhheckfhbaaGreatDoorAf
namespace Go.Proofs.YtkjkjhheckfhbaaGreatDoor
open Go.RowKit
set_option linter.unusedVariables false
def Pk.data (p : Pk) : List Int := [p.d0, p.d1, p.d2, p.d3, p.d4, p.d5, p.d6, p.d7, p.d8, p.d9]
def pkEq (p q : Pk) : Bool := (p.k == q.k) && ((p.c == q.c) && decide (p.data = q.data))
theorem packet_fields : (Tryz.prog.fieldsOf 92).toList = [{ name := "Kind", type := 3, offset := 0, embedded := false, tag := "", pkgPath := "", byteOffset := 0 }, { name := "Counter", type := 3, offset := 1, embedded := false, tag := "", pkgPath := "", byteOffset := 8 }, { name := "Data", type := 87, offset := 2, embedded := false, tag := "", pkgPath := "", byteOffset := 16 }] := by kernel_rfl
theorem run_equalIn_data (p q : Pk) (d : Nat) (w : World) : (Op.equalIn (d + 2) 87 (.agg #[.int .u8 p.d0, .int .u8 p.d1, .int .u8 p.d2, .int .u8 p.d3, .int .u8 p.d4, .int .u8 p.d5, .int .u8 p.d6, .int .u8 p.d7, .int .u8 p.d8, .int .u8 p.d9]) (.agg #[.int .u8 q.d0, .int .u8 q.d1, .int .u8 q.d2, .int .u8 q.d3, .int .u8 q.d4, .int .u8 q.d5, .int .u8 q.d6, .int .u8 q.d7, .int .u8 q.d8, .int .u8 q.d9])).run Tryz.prog w = .ok (decide (p.data = q.data)) w := by
  have hn := Tryz.sizeOf5
  have h := eqElems_u8 d p.data q.data 10 rfl rfl 10 0 rfl w
  rw [run_equalIn_array w (d + 1) 87 5 10 1 _ _ Tryz.underlying87 hn]
  exact h
theorem run_equalIn_packet (p q : Pk) (w : World) : (Op.equalIn 10000 92 (.agg #[.int .i64 p.k, .int .i64 p.c, .int .u8 p.d0, .int .u8 p.d1, .int .u8 p.d2, .int .u8 p.d3, .int .u8 p.d4, .int .u8 p.d5, .int .u8 p.d6, .int .u8 p.d7, .int .u8 p.d8, .int .u8 p.d9]) (.agg #[.int .i64 q.k, .int .i64 q.c, .int .u8 q.d0, .int .u8 q.d1, .int .u8 q.d2, .int .u8 q.d3, .int .u8 q.d4, .int .u8 q.d5, .int .u8 q.d6, .int .u8 q.d7, .int .u8 q.d8, .int .u8 q.d9])).run Tryz.prog w = .ok (pkEq p q) w := by
  have h87 := Tryz.isAgg87
  have hs := Tryz.sizeOf87
  have h3 := Tryz.isAgg3
  rw [show (10000 : Nat) = 9999 + 1 from rfl, run_equalIn_struct w 9999 92 _ _ (by kernel_rfl) (by kernel_rfl), packet_fields]
  have hd := run_equalIn_data p q 9997 w
  simp only [Op.eqFields, Sem.run_bind, Sem.run_ite]
  unfold pkEq
  cases hk : p.k == q.k <;> cases hc : p.c == q.c
  all_goals simp [part, h3, h87, hs, run_equalIn_int w 9998 3 .i64 .i64 _ _ Tryz.underlying3, hk, hc, Result.andThen_ok]
  rw [hd]
  by_cases h : p.data = q.data <;> simp [h]

end Go.Proofs.YtkjkjhheckfhbaaGreatDoor
namespace Go.Proofs.YtkjkjhheckfhbaaGreatDoor
open Go.RowKit
set_option linter.unusedVariables false
/-- The counters from c up to d, behind those that were lost before; whether they became too many. -/
def dueF : Nat → Int → Int → List Int → List Int × Bool
  | 0, _, _, acc => (acc, false)
  | n + 1, c, d, acc => if c = d then (acc, false) else if 256 < acc.length + 1 then (acc ++ [c], true) else dueF n ((c + 1) % 256) d (acc ++ [c])
theorem dueF_end (n : Nat) (c : Int) (acc : List Int) : dueF (n + 1) c c acc = (acc, false) := if_pos rfl
theorem dueF_many (n : Nat) {c d : Int} {acc : List Int} (h : c ≠ d) (h2 : 256 < acc.length + 1) : dueF (n + 1) c d acc = (acc ++ [c], true) := (if_neg h).trans (if_pos h2)
theorem dueF_next (n : Nat) {c d : Int} {acc : List Int} (h : c ≠ d) (h2 : ¬ 256 < acc.length + 1) : dueF (n + 1) c d acc = dueF n ((c + 1) % 256) d (acc ++ [c]) := (if_neg h).trans (if_neg h2)
def lostF (kind : Int) : List Pk → Bool → Int → List Int → List Int
  | [], _, _, acc => acc
  | p :: l, b, c, acc => if p.k = kind then (if b = true then (if (dueF 256 ((c + 1) % 256) p.c acc).2 = true then (dueF 256 ((c + 1) % 256) p.c acc).1 else lostF kind l true p.c (dueF 256 ((c + 1) % 256) p.c acc).1) else lostF kind l true p.c acc) else lostF kind l b c acc
theorem lostF_other {kind : Int} {p : Pk} {l : List Pk} {b : Bool} {c : Int} {acc : List Int} (h : p.k ≠ kind) : lostF kind (p :: l) b c acc = lostF kind l b c acc := if_neg h
theorem lostF_first {kind : Int} {p : Pk} {l : List Pk} {c : Int} {acc : List Int} (h : p.k = kind) : lostF kind (p :: l) false c acc = lostF kind l true p.c acc := (if_pos h).trans (if_neg (by simp))
theorem lostF_many {kind : Int} {p : Pk} {l : List Pk} {c : Int} {acc r : List Int} (h : p.k = kind) (hd : dueF 256 ((c + 1) % 256) p.c acc = (r, true)) : lostF kind (p :: l) true c acc = r := by
  refine ((if_pos h).trans (if_pos rfl)).trans ?_
  rw [hd]; exact if_pos rfl
theorem lostF_next {kind : Int} {p : Pk} {l : List Pk} {c : Int} {acc r : List Int} (h : p.k = kind) (hd : dueF 256 ((c + 1) % 256) p.c acc = (r, false)) : lostF kind (p :: l) true c acc = lostF kind l true p.c r := by
  refine ((if_pos h).trans (if_pos rfl)).trans ?_
  rw [hd]; exact if_neg (by simp)
theorem pk_bounds {l : List Pk} (h : firstPk l = 0) : ∀ p ∈ l, 0 ≤ p.c ∧ p.c ≤ 255 := by
  induction l with
  | nil => intro p hp; cases hp
  | cons a l ih =>
    unfold firstPk at h
    have ha : a.err = 0 := by
      by_cases e : a.err = 0
      · exact e
      · rw [if_neg e] at h; exact h
    rw [if_pos ha] at h
    intro p hp
    rcases List.mem_cons.1 hp with rfl | hp
    · have hb : outs p.c 0 255 = 0 := by
        unfold Pk.err pkErr at ha
        by_cases h0 : outs p.k 0 255 = 0
        · have h1 : firstE [outs p.k 0 255, outs p.c 0 255] = firstE [outs p.c 0 255] := if_pos h0
          rw [h1] at ha
          by_cases h2 : outs p.c 0 255 = 0
          · exact h2
          · exact (if_neg h2).symm.trans ha
        · exact absurd ((if_neg h0).symm.trans ha) h0
      unfold outs errIf at hb
      by_cases h1 : (decide (p.c < 0) || decide (255 < p.c)) = true
      · rw [if_pos h1] at hb; exact absurd hb (by decide)
      · simp at h1; omega
    · exact ih h p hp
/-- How many steps there are from c to d. -/
def stepsTo (c d : Int) : Nat := ((d - c) % 256).toNat
theorem stepsTo_lt (c d : Int) : stepsTo c d < 256 := by
  have h1 := Int.emod_lt_of_pos (d - c) (show (0 : Int) < 256 by decide)
  have h2 := Int.emod_nonneg (d - c) (show (256 : Int) ≠ 0 by decide)
  unfold stepsTo; omega
theorem stepsTo_next {c d : Int} (hc : 0 ≤ c ∧ c ≤ 255) (hd : 0 ≤ d ∧ d ≤ 255) (h : c ≠ d) : stepsTo ((c + 1) % 256) d + 1 = stepsTo c d := by
  unfold stepsTo; omega
end Go.Proofs.YtkjkjhheckfhbaaGreatDoor
