/- The row's step for any law: what the laid variables give; what a law owes behind its walk. -/
import Derived.Test.YtkjkjhheckfhbaaGreatDoorRows
import Derived.Test.YtkjkjhheckfhbaaGreatDoorP3
import Derived.ProofKit
import Derived.LaidMore
import Derived.OpenShut
import Derived.Stop.Joined
import Derived.Lib.LaidTab
import Derived.Stop.LaidErr
namespace Go.Proofs.YtkjkjhheckfhbaaGreatDoor
open Go.ChangeShapes Go.WideShapes Go.ChangeAt Go.WideMaps Go.WideElems Go.RowKit
set_option linter.unusedVariables false
set_option maxRecDepth 100000
theorem own : ownKnob Tryz.prog.godebug = none := by kernel_rfl
theorem laidOut : laidOutB Tryz.prog = true := by kernel_rfl
theorem below_all {P : Program} (hl : laidOutB P = true) {H : Type} {enc : TypeId × Value → H} {W W' : World} (hb : Below W.heap.size W W') (ts : List TypeId) :
    ∀ (vs : List Value) (ds : List (DataW H)) (ps : List MemPlace), (ts.all fun t => P.readableRec t && decide (t < P.types.size)) = true →
      DataW.TrodAll enc P W 0 (fun _ => true) true ts vs ds ps → (∀ x ∈ ps, x.block < W.heap.size) → DataW.TrodAll enc P W' 0 (fun b => decide (b < W.heap.size)) true ts vs ds ps := by
  induction ts with
  | nil => intro vs ds ps _ h _; cases vs <;> cases ds <;> exact h
  | cons t ts ih =>
    intro vs ds ps ht h hlt
    cases vs with
    | nil => exact h.elim
    | cons v vs =>
      cases ds with
      | nil => exact h.elim
      | cons d ds =>
        obtain ⟨p, q, h1, h2, rfl⟩ := h
        rw [List.all_cons, Bool.and_eq_true, Bool.and_eq_true, decide_eq_true_eq] at ht
        exact ⟨p, q, Below.trod hl ht.1.1 ht.1.2 h1 hb (fun x hx => hlt x (List.mem_append_left _ hx)), ih vs ds q ht.2 h2 (fun x hx => hlt x (List.mem_append_right _ hx)), rfl⟩
/-- WHAT A LAW OWES BEHIND ITS WALK: true, and nothing turned. -/
theorem law_post {H : Type} {enc : TypeId × Value → H} {f : Func} {s : ChangeSpec} {W W' : World} {args : Array Value} {ds gs : List (DataW H)} {before : List MemPlace}
    (hts : (f.params.toList.all fun t => Tryz.prog.readableRec t && decide (t < Tryz.prog.types.size)) = true) (hv : s.vars = []) (hr : f.resultTypes = #[4])
    (hW : DataW.Whole enc Tryz.prog f.params.toList s.vars false W args.toList ds gs before) (h1 : (s.fn H (ds ++ gs)).results = [.lit (.bool true)]) (h2 : (s.fn H (ds ++ gs)).args = ds) (h3 : (s.fn H (ds ++ gs)).vars = [])
    (hb : Below W.heap.size W W') : s.post enc Tryz.prog f false true false false W args (.bool true) W' := by
  have hlt : ∀ x ∈ before, x.block < W.heap.size := fun x hx => by simpa using hW.lt x hx
  have hW0 := hW
  obtain ⟨p, q, hA, hV, rfl, _, _⟩ := hW
  have hA' := below_all (enc := enc) laidOut hb _ _ _ _ hts hA (fun x hx => hlt x (List.mem_append_left _ hx))
  refine ⟨ds, gs, p ++ q, [], p, [], hW0, ?_, by rw [h2]; exact hA', by rw [h3, hv]; rfl, hb.frame _, fun h => by cases h⟩
  rw [h1, hr]
  exact trodAll_mk1 (shut_bool Tryz.underlying4 _)
theorem gPowers : Tryz.prog.globalNamed "genlock/common.powers" = some 1 := by kernel_rfl
theorem gTens : Tryz.prog.globalNamed "internal/strconv.uint64pow10" = some 2 := by kernel_rfl
theorem tPowers : (Tryz.prog.globals[1]?).map (·.type) = some 277 := by kernel_rfl
theorem tTens : (Tryz.prog.globals[2]?).map (·.type) = some 292 := by kernel_rfl
theorem c250 : Tryz.prog.cellsOf 257 = 2 := by kernel_rfl
theorem c251 : Tryz.prog.cellsOf 277 = 8 := by kernel_rfl
theorem c3 : Tryz.prog.cellsOf 3 = 1 := by kernel_rfl
theorem cU64 : Tryz.prog.cellsOf 292 = 20 := by kernel_rfl
section
variable {H : Type} {enc : TypeId × Value → H} {W : World} {base : Nat} {sp : Nat → Bool} {held : Bool}
theorem gauss_of {fuel : Nat} {cs : List Value} {a b : Int} {p : List MemPlace} (h : DataW.trod enc Tryz.prog W base sp held fuel 257 cs = some (.agg [.lit (.int .i64 a), .lit (.int .i64 b)], p)) : cs = [.int .i64 a, .int .i64 b] := by
  obtain ⟨xs, n, _, hx, hl, hxl, hf⟩ := DataW.trod_struct Tryz.underlying257 h
  rw [c250] at hl
  match cs, hl with
  | [x0, x1], _ =>
    simp only [Prod.mk.injEq, DataW.agg.injEq] at hx
    match xs, hxl, hx.1 with
    | [y0, y1], _, hx1 =>
      simp only [List.map_cons, List.map_nil, List.cons.injEq, and_true] at hx1
      have f0 := hf 0 _ rfl
      have f1 := hf 1 _ rfl
      obtain ⟨k0, e0, g0, _⟩ := DataW.trod_int Tryz.underlying3 f0
      obtain ⟨k1, e1, g1, _⟩ := DataW.trod_int Tryz.underlying3 f1
      change List.take (Tryz.prog.cellsOf 3) [x0, x1] = _ at e0
      change List.take (Tryz.prog.cellsOf 3) [x1] = _ at e1
      rw [c3] at e0 e1
      have d0 : y0 = (.lit (.int .i64 k0), []) := g0
      have d1 : y1 = (.lit (.int .i64 k1), []) := g1
      subst d0; subst d1
      simp only [List.take_succ_cons, List.take_zero, List.cons.injEq, and_true] at e0 e1
      simp only [DataW.lit.injEq, Lit.int.injEq, true_and] at hx1
      rw [e0, e1, hx1.1, hx1.2]
theorem take_two {l : List Value} {k : Nat} {u v : Value} (h : (l.drop k).take 2 = [u, v]) : l[k]? = some u ∧ l[k + 1]? = some v := by
  have h0 : ((l.drop k).take 2)[0]? = some u := by rw [h]; rfl
  have h1 : ((l.drop k).take 2)[1]? = some v := by rw [h]; rfl
  simp at h0 h1
  exact ⟨h0, h1⟩
end
/-- The four variables that the rows list. -/
abbrev LAID : List (String × DataW Unit) := [("math/bits.deBruijn32tab", Rows.laid_math_bits_deBruijn32tab), ("math/bits.deBruijn64tab", Rows.laid_math_bits_deBruijn64tab), ("internal/strconv.uint64pow10", Rows.laid_internal_strconv_uint64pow10), ("genlock/common.powers", Rows.laid_genlock_common_powers)]
theorem tens_data : (Rows.laid_internal_strconv_uint64pow10 : DataW Unit) = Lib.tabData .u64 Lib.pow10Tab := by kernel_rfl
theorem cell_lt {W : World} {b o : Nat} {v : Value} (h : W.cell? ⟨b, o, none⟩ = some v) : b < W.heap.size := by
  rcases Nat.lt_or_ge b W.heap.size with hlt | hge
  · exact hlt
  · simp [World.cell?, Array.getElem?_eq_none hge] at h
theorem of_laid {W : World} (h : laidMetH Tryz.prog LAID W) : Laid W := by
  rw [MakeChecks.laidMetH_plain _ _ _ (by kernel_rfl)] at h
  have h2 := h.tail.tail
  have h3 := h2.tail
  rw [tens_data] at h2
  suffices hp : ∀ i, i < 4 → W.cell? ⟨1, i * 2, none⟩ = some (.int .i64 (pwR i)) ∧ W.cell? ⟨1, i * 2 + 1, none⟩ = some (.int .i64 (pwI i)) from ⟨hp, cell_lt (hp 0 (by omega)).1, Lib.tabIs_of_head gTens tTens Tryz.underlying292 Tryz.underlying260 (by kernel_rfl) cU64 h2⟩
  obtain ⟨ps, ⟨g0, t0, cs, fuel, p0, q0, hg0, ht0, hv0, hd0, _, _⟩, _⟩ := h3
  obtain rfl := Option.some.inj (gPowers.symm.trans hg0)
  obtain rfl := Option.some.inj (tPowers.symm.trans ht0)
  obtain ⟨xs, m, _, hx, hlen, hn, hel⟩ := DataW.trod_array Tryz.underlying277 hd0
  rw [c251] at hlen
  simp only [c250] at hel
  simp only [Prod.mk.injEq, Rows.laid_genlock_common_powers, DataW.agg.injEq] at hx
  have hcell := fun j => World.var?_cell hg0 hv0 j
  match xs, hn, hx.1, hel with
  | [y0, y1, y2, y3], _, hx1, hel =>
    simp only [List.map_cons, List.map_nil, List.cons.injEq, and_true] at hx1
    obtain ⟨z0, z1, z2, z3⟩ := hx1
    obtain ⟨d0, p0'⟩ := y0
    obtain ⟨d1, p1'⟩ := y1
    obtain ⟨d2, p2'⟩ := y2
    obtain ⟨d3, p3'⟩ := y3
    simp only at z0 z1 z2 z3
    subst z0; subst z1; subst z2; subst z3
    have f0 := take_two (gauss_of (hel 0 (by omega)))
    have f1 := take_two (gauss_of (hel 1 (by omega)))
    have f2 := take_two (gauss_of (hel 2 (by omega)))
    have f3 := take_two (gauss_of (hel 3 (by omega)))
    intro i hi
    rw [hcell, hcell]
    rcases (show i = 0 ∨ i = 1 ∨ i = 2 ∨ i = 3 by omega) with rfl | rfl | rfl | rfl
    · exact ⟨by simpa [pwR] using f0.1, by simpa [pwI] using f0.2⟩
    · exact ⟨by simpa [pwR] using f1.1, by simpa [pwI] using f1.2⟩
    · exact ⟨by simpa [pwR] using f2.1, by simpa [pwI] using f2.2⟩
    · exact ⟨by simpa [pwR] using f3.1, by simpa [pwI] using f3.2⟩

end Go.Proofs.YtkjkjhheckfhbaaGreatDoor
