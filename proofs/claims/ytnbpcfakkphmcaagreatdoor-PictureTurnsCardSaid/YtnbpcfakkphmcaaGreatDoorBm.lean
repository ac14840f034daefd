/- A picture among the arguments, opened. -/
import Derived.Test.YtnbpcfakkphmcaaGreatDoorAy
import Derived.Deep.Slices
import Derived.Laws.Cover2
namespace Go.Proofs.YtnbpcfakkphmcaaGreatDoor
open Go.ChangeShapes Go.WideShapes Go.ChangeAt Go.WideMaps Go.WideElems Go.RowKit Go.Deep
set_option linter.unusedVariables false
set_option maxRecDepth 100000
theorem trod_floatC {H : Type} {enc : TypeId × Value → H} {P : Program} {w : World} {base : Nat} {spare : Nat → Bool} {held : Bool} {t : TypeId} {fuel : Nat} {cs : List Value} {x : DataW H × List MemPlace} {k : FloatKind} (ht : P.underlying t = some (.float k)) (h : DataW.trod enc P w base spare held fuel t cs = some x) : ∃ b, cs = [.float k b] := by
  cases fuel with
  | zero => simp [DataW.trod] at h
  | succ n =>
    unfold DataW.trod at h
    rw [ht] at h
    split at h <;> simp_all
theorem c43 : Tryz.prog.cellsOf 43 = 4 := by kernel_rfl
theorem c23 : Tryz.prog.cellsOf 23 = 1 := by kernel_rfl
theorem c9 : Tryz.prog.cellsOf 9 = 1 := by kernel_rfl
theorem c41 : Tryz.prog.cellsOf 41 = 1 := by kernel_rfl
def bitsOf : Value → Nat
  | .float _ b => b
  | _ => 0
theorem cell_lt' {W : World} {p : Addr} {v : Value} (h : W.cell? p = some v) : p.block < W.heap.size := by
  rcases Nat.lt_or_ge p.block W.heap.size with hlt | hge
  · exact hlt
  · simp [World.cell?, Array.getElem?_eq_none hge] at h
/-- A picture of the reference among the arguments, opened. -/
theorem open_pic {H : Type} {enc : TypeId × Value → H} {W : World} {r : Reach} {b0 base : Nat} {sp : Nat → Bool} {held : Bool} {v : Value} {d : DataW H} {ps : List MemPlace} (hval : Value.okWide Tryz.prog W r b0 43 v) (hd : DataW.Trod enc Tryz.prog W base sp held 43 v d ps) :
    ∃ (p : Pic) (A : Option Addr) (c : Nat), v = p.val A c ∧ Rd W A (fl p.l) ∧ (A = none → p.l.length = 0 ∧ c = 0) ∧ p.l.length ≤ c ∧ p.name.size ≤ maxLen ∧ (Lit.int .i64 p.w).wf = true ∧ (Lit.int .i64 p.h).wf = true := by
  obtain ⟨cs, rfl, hsz, _⟩ : ∃ cs, v = .agg cs ∧ cs.size = Tryz.prog.cellsOf 43 ∧ Row.okWide Tryz.prog W r b0 43 cs := by
    simpa [Value.okWide, Tryz.underlying43] using hval
  rw [c43] at hsz
  obtain ⟨l⟩ := cs
  obtain ⟨fuel, hf⟩ := hd
  obtain ⟨xs, m, _, _, _, hn, hel⟩ := DataW.trod_struct Tryz.underlying43 hf
  have hn' : xs.length = 4 := hn
  match l, hsz with
  | [a0, a1, a2, a3], _ =>
    have g0 := hel 0 _ rfl
    have g1 := hel 1 _ rfl
    have g2 := hel 2 _ rfl
    have g3 := hel 3 _ rfl
    rw [List.getElem?_eq_getElem (by omega)] at g0 g1 g2 g3
    change DataW.trod enc Tryz.prog W base sp held m 9 (List.take (Tryz.prog.cellsOf 9) [a0, a1, a2, a3]) = _ at g0
    change DataW.trod enc Tryz.prog W base sp held m 3 (List.take (Tryz.prog.cellsOf 3) [a1, a2, a3]) = _ at g1
    change DataW.trod enc Tryz.prog W base sp held m 3 (List.take (Tryz.prog.cellsOf 3) [a2, a3]) = _ at g2
    change DataW.trod enc Tryz.prog W base sp held m 41 (List.take (Tryz.prog.cellsOf 41) [a3]) = _ at g3
    rw [c9] at g0
    rw [c3] at g1 g2
    rw [c41] at g3
    obtain ⟨s, q0, _, w0⟩ := DataW.trod_string Tryz.underlying9 g0
    obtain ⟨k1, q1, _, w1⟩ := DataW.trod_int Tryz.underlying3 g1
    obtain ⟨k2, q2, _, w2⟩ := DataW.trod_int Tryz.underlying3 g2
    simp only [List.take_succ_cons, List.take_zero, List.cons.injEq, and_true] at q0 q1 q2
    subst q0; subst q1; subst q2
    rcases open_slice1 Tryz.underlying41 c23 g3 with ⟨q3, _⟩ | ⟨a, len, cap, mm, n, V, D, Pl, q3, hb, hl, hm, hmm, _, hx⟩
    · simp only [List.take_succ_cons, List.take_zero, List.cons.injEq, and_true] at q3
      subst q3
      exact ⟨⟨s, k1, k2, []⟩, none, 0, rfl, fun h => absurd h (by simp [fl]), fun _ => ⟨rfl, rfl⟩, Nat.le_refl _, w0, w1, w2⟩
    · simp only [List.take_succ_cons, List.take_zero, List.cons.injEq, and_true] at q3
      subst q3
      have hle : len ≤ mm := by rw [hmm]; split <;> omega
      have hv : ∀ i, i < len → W.cell? (a.add i) = some (.float .f32 (bitsOf (V i))) := fun i hi => by
        obtain ⟨h1, h2⟩ := hx i (by omega)
        obtain ⟨b, hb'⟩ := trod_floatC Tryz.underlying23 h2
        simp only [List.cons.injEq, and_true] at hb'
        rw [h1, hb']; rfl
      have hlen : ((List.range len).map fun i => bitsOf (V i)).length = len := by simp
      refine ⟨⟨s, k1, k2, (List.range len).map fun i => bitsOf (V i)⟩, some a, cap, ?_, ?_, (fun h => by cases h), by rw [hlen]; exact hl, w0, w1, w2⟩
      · unfold Pic.val; rw [hlen]
      · intro hpos
        rw [show (fl ((List.range len).map fun i => bitsOf (V i))).length = len by simp [fl]] at hpos
        refine ⟨a, rfl, ?_, ?_⟩
        · have := cell_lt' (hv 0 hpos)
          rwa [block_add] at this
        · intro j u hj
          have hjl : j < len := by have := (List.getElem?_eq_some_iff.1 hj).1; simpa [fl] using this
          rw [hv j hjl]
          rw [fl_get (by rw [hlen]; exact hjl)] at hj
          rw [← hj]
          simp [List.getD, hjl]
end Go.Proofs.YtnbpcfakkphmcaaGreatDoor
