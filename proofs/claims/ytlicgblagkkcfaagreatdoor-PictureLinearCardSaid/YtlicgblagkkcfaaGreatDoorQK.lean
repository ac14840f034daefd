/- Parts of a proof: The row's step for any law: what the laid variables give; what a law owes behind its walk. A picture among the arguments, opened. Four samples among the arguments, opened. The closed facts of the row of PictureLinear, one by one. The closed facts of the card of PictureLinear: each its own theorem, for the kernel's memory. -/
import Derived.Test.YtlicgblagkkcfaaGreatDoorRows
import Derived.Test.YtlicgblagkkcfaaGreatDoorP3
import Derived.ProofKit
import Derived.LaidMore
import Derived.OpenShut
import Derived.Stop.Joined
import Derived.Lib.LaidTab
import Derived.Stop.LaidErr
import Derived.Deep.Slices
import Derived.Laws.Cover2
import Derived.Deep.Fields
import Derived.Test.YtlicgblagkkcfaaGreatDoorCards
namespace Go.Proofs.YtlicgblagkkcfaaGreatDoor
open Go.ChangeShapes Go.WideShapes Go.ChangeAt Go.WideMaps Go.WideElems Go.RowKit
set_option linter.unusedVariables false
set_option maxRecDepth 100000
theorem own : ownKnob Tryz.prog.godebug = none := by kernel_rfl
theorem laidOut : laidOutB Tryz.prog = true := by kernel_rfl
theorem below_all {P : Program} (hl : laidOutB P = true) {H : Type} {enc : TypeId × Value → H} {W W' : World} (hb : Below W.heap.size W W') (ts : List TypeId) :
    ∀ (vs : List Value) (ds : List (DataW H)) (ps : List MemPlace), (ts.all fun t => P.readableRec t && decide (t < P.types.size)) = true →
      DataW.TrodAll enc P W 0 (fun _ => true) true ts vs ds ps → (∀ x ∈ ps, x.block < W.heap.size) → DataW.TrodAll enc P W' 0 (fun b => decide (b < W.heap.size)) true ts vs ds ps := by
  induction ts with
  | nil => intro vs ds ps _ h _; cases vs <;> cases ds <;> exact h
  | cons t ts ih =>
    intro vs ds ps ht h hlt
    cases vs with
    | nil => exact h.elim
    | cons v vs =>
      cases ds with
      | nil => exact h.elim
      | cons d ds =>
        obtain ⟨p, q, h1, h2, rfl⟩ := h
        rw [List.all_cons, Bool.and_eq_true, Bool.and_eq_true, decide_eq_true_eq] at ht
        exact ⟨p, q, Below.trod hl ht.1.1 ht.1.2 h1 hb (fun x hx => hlt x (List.mem_append_left _ hx)), ih vs ds q ht.2 h2 (fun x hx => hlt x (List.mem_append_right _ hx)), rfl⟩
/-- WHAT A LAW OWES BEHIND ITS WALK: true, and nothing turned. -/
theorem law_post {H : Type} {enc : TypeId × Value → H} {f : Func} {s : ChangeSpec} {W W' : World} {args : Array Value} {ds gs : List (DataW H)} {before : List MemPlace}
    (hts : (f.params.toList.all fun t => Tryz.prog.readableRec t && decide (t < Tryz.prog.types.size)) = true) (hv : s.vars = []) (hr : f.resultTypes = #[4])
    (hW : DataW.Whole enc Tryz.prog f.params.toList s.vars false W args.toList ds gs before) (h1 : (s.fn H (ds ++ gs)).results = [.lit (.bool true)]) (h2 : (s.fn H (ds ++ gs)).args = ds) (h3 : (s.fn H (ds ++ gs)).vars = [])
    (hb : Below W.heap.size W W') : s.post enc Tryz.prog f false true false false W args (.bool true) W' := by
  have hlt : ∀ x ∈ before, x.block < W.heap.size := fun x hx => by simpa using hW.lt x hx
  have hW0 := hW
  obtain ⟨p, q, hA, hV, rfl, _, _⟩ := hW
  have hA' := below_all (enc := enc) laidOut hb _ _ _ _ hts hA (fun x hx => hlt x (List.mem_append_left _ hx))
  refine ⟨ds, gs, p ++ q, [], p, [], hW0, ?_, by rw [h2]; exact hA', by rw [h3, hv]; rfl, hb.frame _, fun h => by cases h⟩
  rw [h1, hr]
  exact trodAll_mk1 (shut_bool Tryz.underlying4 _)
theorem gPowers : Tryz.prog.globalNamed "genlock/common.powers" = some 1 := by kernel_rfl
theorem gTens : Tryz.prog.globalNamed "internal/strconv.uint64pow10" = some 2 := by kernel_rfl
theorem tPowers : (Tryz.prog.globals[1]?).map (·.type) = some 277 := by kernel_rfl
theorem tTens : (Tryz.prog.globals[2]?).map (·.type) = some 292 := by kernel_rfl
theorem c250 : Tryz.prog.cellsOf 257 = 2 := by kernel_rfl
theorem c251 : Tryz.prog.cellsOf 277 = 8 := by kernel_rfl
theorem c3 : Tryz.prog.cellsOf 3 = 1 := by kernel_rfl
theorem cU64 : Tryz.prog.cellsOf 292 = 20 := by kernel_rfl
section
variable {H : Type} {enc : TypeId × Value → H} {W : World} {base : Nat} {sp : Nat → Bool} {held : Bool}
theorem gauss_of {fuel : Nat} {cs : List Value} {a b : Int} {p : List MemPlace} (h : DataW.trod enc Tryz.prog W base sp held fuel 257 cs = some (.agg [.lit (.int .i64 a), .lit (.int .i64 b)], p)) : cs = [.int .i64 a, .int .i64 b] := by
  obtain ⟨xs, n, _, hx, hl, hxl, hf⟩ := DataW.trod_struct Tryz.underlying257 h
  rw [c250] at hl
  match cs, hl with
  | [x0, x1], _ =>
    simp only [Prod.mk.injEq, DataW.agg.injEq] at hx
    match xs, hxl, hx.1 with
    | [y0, y1], _, hx1 =>
      simp only [List.map_cons, List.map_nil, List.cons.injEq, and_true] at hx1
      have f0 := hf 0 _ rfl
      have f1 := hf 1 _ rfl
      obtain ⟨k0, e0, g0, _⟩ := DataW.trod_int Tryz.underlying3 f0
      obtain ⟨k1, e1, g1, _⟩ := DataW.trod_int Tryz.underlying3 f1
      change List.take (Tryz.prog.cellsOf 3) [x0, x1] = _ at e0
      change List.take (Tryz.prog.cellsOf 3) [x1] = _ at e1
      rw [c3] at e0 e1
      have d0 : y0 = (.lit (.int .i64 k0), []) := g0
      have d1 : y1 = (.lit (.int .i64 k1), []) := g1
      subst d0; subst d1
      simp only [List.take_succ_cons, List.take_zero, List.cons.injEq, and_true] at e0 e1
      simp only [DataW.lit.injEq, Lit.int.injEq, true_and] at hx1
      rw [e0, e1, hx1.1, hx1.2]
theorem take_two {l : List Value} {k : Nat} {u v : Value} (h : (l.drop k).take 2 = [u, v]) : l[k]? = some u ∧ l[k + 1]? = some v := by
  have h0 : ((l.drop k).take 2)[0]? = some u := by rw [h]; rfl
  have h1 : ((l.drop k).take 2)[1]? = some v := by rw [h]; rfl
  simp at h0 h1
  exact ⟨h0, h1⟩
end
/-- The four variables that the rows list. -/
abbrev LAID : List (String × DataW Unit) := [("math/bits.deBruijn32tab", Rows.laid_math_bits_deBruijn32tab), ("math/bits.deBruijn64tab", Rows.laid_math_bits_deBruijn64tab), ("internal/strconv.uint64pow10", Rows.laid_internal_strconv_uint64pow10), ("genlock/common.powers", Rows.laid_genlock_common_powers)]
theorem tens_data : (Rows.laid_internal_strconv_uint64pow10 : DataW Unit) = Lib.tabData .u64 Lib.pow10Tab := by kernel_rfl
theorem cell_lt {W : World} {b o : Nat} {v : Value} (h : W.cell? ⟨b, o, none⟩ = some v) : b < W.heap.size := by
  rcases Nat.lt_or_ge b W.heap.size with hlt | hge
  · exact hlt
  · simp [World.cell?, Array.getElem?_eq_none hge] at h
theorem of_laid {W : World} (h : laidMetH Tryz.prog LAID W) : Laid W := by
  rw [MakeChecks.laidMetH_plain _ _ _ (by kernel_rfl)] at h
  have h2 := h.tail.tail
  have h3 := h2.tail
  rw [tens_data] at h2
  suffices hp : ∀ i, i < 4 → W.cell? ⟨1, i * 2, none⟩ = some (.int .i64 (pwR i)) ∧ W.cell? ⟨1, i * 2 + 1, none⟩ = some (.int .i64 (pwI i)) from ⟨hp, cell_lt (hp 0 (by omega)).1, Lib.tabIs_of_head gTens tTens Tryz.underlying292 Tryz.underlying260 (by kernel_rfl) cU64 h2⟩
  obtain ⟨ps, ⟨g0, t0, cs, fuel, p0, q0, hg0, ht0, hv0, hd0, _, _⟩, _⟩ := h3
  obtain rfl := Option.some.inj (gPowers.symm.trans hg0)
  obtain rfl := Option.some.inj (tPowers.symm.trans ht0)
  obtain ⟨xs, m, _, hx, hlen, hn, hel⟩ := DataW.trod_array Tryz.underlying277 hd0
  rw [c251] at hlen
  simp only [c250] at hel
  simp only [Prod.mk.injEq, Rows.laid_genlock_common_powers, DataW.agg.injEq] at hx
  have hcell := fun j => World.var?_cell hg0 hv0 j
  match xs, hn, hx.1, hel with
  | [y0, y1, y2, y3], _, hx1, hel =>
    simp only [List.map_cons, List.map_nil, List.cons.injEq, and_true] at hx1
    obtain ⟨z0, z1, z2, z3⟩ := hx1
    obtain ⟨d0, p0'⟩ := y0
    obtain ⟨d1, p1'⟩ := y1
    obtain ⟨d2, p2'⟩ := y2
    obtain ⟨d3, p3'⟩ := y3
    simp only at z0 z1 z2 z3
    subst z0; subst z1; subst z2; subst z3
    have f0 := take_two (gauss_of (hel 0 (by omega)))
    have f1 := take_two (gauss_of (hel 1 (by omega)))
    have f2 := take_two (gauss_of (hel 2 (by omega)))
    have f3 := take_two (gauss_of (hel 3 (by omega)))
    intro i hi
    rw [hcell, hcell]
    rcases (show i = 0 ∨ i = 1 ∨ i = 2 ∨ i = 3 by omega) with rfl | rfl | rfl | rfl
    · exact ⟨by simpa [pwR] using f0.1, by simpa [pwI] using f0.2⟩
    · exact ⟨by simpa [pwR] using f1.1, by simpa [pwI] using f1.2⟩
    · exact ⟨by simpa [pwR] using f2.1, by simpa [pwI] using f2.2⟩
    · exact ⟨by simpa [pwR] using f3.1, by simpa [pwI] using f3.2⟩

end Go.Proofs.YtlicgblagkkcfaaGreatDoor
namespace Go.Proofs.YtlicgblagkkcfaaGreatDoor
open Go.ChangeShapes Go.WideShapes Go.ChangeAt Go.WideMaps Go.WideElems Go.RowKit Go.Deep
set_option linter.unusedVariables false
set_option maxRecDepth 100000
theorem trod_floatC {H : Type} {enc : TypeId × Value → H} {P : Program} {w : World} {base : Nat} {spare : Nat → Bool} {held : Bool} {t : TypeId} {fuel : Nat} {cs : List Value} {x : DataW H × List MemPlace} {k : FloatKind} (ht : P.underlying t = some (.float k)) (h : DataW.trod enc P w base spare held fuel t cs = some x) : ∃ b, cs = [.float k b] := by
  cases fuel with
  | zero => simp [DataW.trod] at h
  | succ n =>
    unfold DataW.trod at h
    rw [ht] at h
    split at h <;> simp_all
theorem c43 : Tryz.prog.cellsOf 43 = 4 := by kernel_rfl
theorem c23 : Tryz.prog.cellsOf 23 = 1 := by kernel_rfl
theorem c9 : Tryz.prog.cellsOf 9 = 1 := by kernel_rfl
theorem c41 : Tryz.prog.cellsOf 41 = 1 := by kernel_rfl
def bitsOf : Value → Nat
  | .float _ b => b
  | _ => 0
theorem cell_lt' {W : World} {p : Addr} {v : Value} (h : W.cell? p = some v) : p.block < W.heap.size := by
  rcases Nat.lt_or_ge p.block W.heap.size with hlt | hge
  · exact hlt
  · simp [World.cell?, Array.getElem?_eq_none hge] at h
/-- A picture of the reference among the arguments, opened. -/
theorem open_pic {H : Type} {enc : TypeId × Value → H} {W : World} {r : Reach} {b0 base : Nat} {sp : Nat → Bool} {held : Bool} {v : Value} {d : DataW H} {ps : List MemPlace} (hval : Value.okWide Tryz.prog W r b0 43 v) (hd : DataW.Trod enc Tryz.prog W base sp held 43 v d ps) :
    ∃ (p : Pic) (A : Option Addr) (c : Nat), v = p.val A c ∧ Rd W A (fl p.l) ∧ (A = none → p.l.length = 0 ∧ c = 0) ∧ p.l.length ≤ c ∧ p.name.size ≤ maxLen ∧ (Lit.int .i64 p.w).wf = true ∧ (Lit.int .i64 p.h).wf = true := by
  obtain ⟨cs, rfl, hsz, _⟩ : ∃ cs, v = .agg cs ∧ cs.size = Tryz.prog.cellsOf 43 ∧ Row.okWide Tryz.prog W r b0 43 cs := by
    simpa [Value.okWide, Tryz.underlying43] using hval
  rw [c43] at hsz
  obtain ⟨l⟩ := cs
  obtain ⟨fuel, hf⟩ := hd
  obtain ⟨xs, m, _, _, _, hn, hel⟩ := DataW.trod_struct Tryz.underlying43 hf
  have hn' : xs.length = 4 := hn
  match l, hsz with
  | [a0, a1, a2, a3], _ =>
    have g0 := hel 0 _ rfl
    have g1 := hel 1 _ rfl
    have g2 := hel 2 _ rfl
    have g3 := hel 3 _ rfl
    rw [List.getElem?_eq_getElem (by omega)] at g0 g1 g2 g3
    change DataW.trod enc Tryz.prog W base sp held m 9 (List.take (Tryz.prog.cellsOf 9) [a0, a1, a2, a3]) = _ at g0
    change DataW.trod enc Tryz.prog W base sp held m 3 (List.take (Tryz.prog.cellsOf 3) [a1, a2, a3]) = _ at g1
    change DataW.trod enc Tryz.prog W base sp held m 3 (List.take (Tryz.prog.cellsOf 3) [a2, a3]) = _ at g2
    change DataW.trod enc Tryz.prog W base sp held m 41 (List.take (Tryz.prog.cellsOf 41) [a3]) = _ at g3
    rw [c9] at g0
    rw [c3] at g1 g2
    rw [c41] at g3
    obtain ⟨s, q0, _, w0⟩ := DataW.trod_string Tryz.underlying9 g0
    obtain ⟨k1, q1, _, w1⟩ := DataW.trod_int Tryz.underlying3 g1
    obtain ⟨k2, q2, _, w2⟩ := DataW.trod_int Tryz.underlying3 g2
    simp only [List.take_succ_cons, List.take_zero, List.cons.injEq, and_true] at q0 q1 q2
    subst q0; subst q1; subst q2
    rcases open_slice1 Tryz.underlying41 c23 g3 with ⟨q3, _⟩ | ⟨a, len, cap, mm, n, V, D, Pl, q3, hb, hl, hm, hmm, _, hx⟩
    · simp only [List.take_succ_cons, List.take_zero, List.cons.injEq, and_true] at q3
      subst q3
      exact ⟨⟨s, k1, k2, []⟩, none, 0, rfl, fun h => absurd h (by simp [fl]), fun _ => ⟨rfl, rfl⟩, Nat.le_refl _, w0, w1, w2⟩
    · simp only [List.take_succ_cons, List.take_zero, List.cons.injEq, and_true] at q3
      subst q3
      have hle : len ≤ mm := by rw [hmm]; split <;> omega
      have hv : ∀ i, i < len → W.cell? (a.add i) = some (.float .f32 (bitsOf (V i))) := fun i hi => by
        obtain ⟨h1, h2⟩ := hx i (by omega)
        obtain ⟨b, hb'⟩ := trod_floatC Tryz.underlying23 h2
        simp only [List.cons.injEq, and_true] at hb'
        rw [h1, hb']; rfl
      have hlen : ((List.range len).map fun i => bitsOf (V i)).length = len := by simp
      refine ⟨⟨s, k1, k2, (List.range len).map fun i => bitsOf (V i)⟩, some a, cap, ?_, ?_, (fun h => by cases h), by rw [hlen]; exact hl, w0, w1, w2⟩
      · unfold Pic.val; rw [hlen]
      · intro hpos
        rw [show (fl ((List.range len).map fun i => bitsOf (V i))).length = len by simp [fl]] at hpos
        refine ⟨a, rfl, ?_, ?_⟩
        · have := cell_lt' (hv 0 hpos)
          rwa [block_add] at this
        · intro j u hj
          have hjl : j < len := by have := (List.getElem?_eq_some_iff.1 hj).1; simpa [fl] using this
          rw [hv j hjl]
          rw [fl_get (by rw [hlen]; exact hjl)] at hj
          rw [← hj]
          simp [List.getD, hjl]
end Go.Proofs.YtlicgblagkkcfaaGreatDoor
namespace Go.Proofs.YtlicgblagkkcfaaGreatDoor
open Go.ChangeShapes Go.WideShapes Go.ChangeAt Go.WideMaps Go.WideElems Go.RowKit Go.Deep
set_option linter.unusedVariables false
set_option maxRecDepth 100000
theorem cF4 : Tryz.prog.cellsOf 135 = 4 := by kernel_rfl
theorem open_fours {H : Type} {enc : TypeId × Value → H} {W : World} {r : Reach} {b0 base : Nat} {sp : Nat → Bool} {held : Bool} {v : Value} {d : DataW H} {ps : List MemPlace} (hval : Value.okWide Tryz.prog W r b0 135 v) (hd : DataW.Trod enc Tryz.prog W base sp held 135 v d ps) :
    ∃ L : Nat → Nat, v = .agg #[.float .f32 (L 0), .float .f32 (L 1), .float .f32 (L 2), .float .f32 (L 3)] := by
  obtain ⟨cs, rfl, hsz, _⟩ : ∃ cs, v = .agg cs ∧ cs.size = Tryz.prog.cellsOf 135 ∧ Row.okWide Tryz.prog W r b0 135 cs := by
    simpa [Value.okWide, Tryz.underlying135] using hval
  rw [cF4] at hsz
  obtain ⟨l⟩ := cs
  obtain ⟨fuel, hf⟩ := hd
  obtain ⟨xs, m, _, _, _, hn, hel⟩ := DataW.trod_array Tryz.underlying135 hf
  rw [c23] at hel
  match l, hsz with
  | [a0, a1, a2, a3], _ =>
    have key : ∀ i, i < 4 → ∃ b : Nat, ([a0, a1, a2, a3].drop (i * 1)).take 1 = [.float .f32 b] := fun i hi => by
      have h1 := hel i hi
      rw [List.getElem?_eq_getElem (by omega)] at h1
      exact trod_floatC Tryz.underlying23 h1
    obtain ⟨f0, e0⟩ := key 0 (by omega)
    obtain ⟨f1, e1⟩ := key 1 (by omega)
    obtain ⟨f2, e2⟩ := key 2 (by omega)
    obtain ⟨f3, e3⟩ := key 3 (by omega)
    simp only [List.take_succ_cons, List.take_zero, List.drop_succ_cons, List.drop_zero, Nat.zero_mul, Nat.reduceMul, List.cons.injEq, and_true] at e0 e1 e2 e3
    exact ⟨fun n => [f0, f1, f2, f3].getD n 0, by rw [e0, e1, e2, e3]; rfl⟩
end Go.Proofs.YtlicgblagkkcfaaGreatDoor
namespace Go.Proofs.YtlicgblagkkcfaaGreatDoor
open Go.RowKit
set_option linter.unusedVariables false
set_option maxRecDepth 100000
theorem bothQ {a b : Bool} (h : a = true) (k : b = true) : (a && b) = true := by rw [h, k]; rfl
theorem pictureLinearF_0 : (Rows.pictureLinearRow.wf (OpenSpec.ofChange Rows.pictureLinearSpec)) = true := by kernel_rfl
theorem pictureLinearF_1 : (laidOutB Tryz.prog) = true := by kernel_rfl
theorem pictureLinearF_2 : (mapsRowed Tryz.prog) = true := by kernel_rfl
theorem pictureLinearF_3 : (Tryz.f13.params.all (Tryz.prog.readableRec ·)) = true := by kernel_rfl
theorem pictureLinearF_4 : (namedTie Tryz.prog Rows.pictureLinearRow.named Rows.pictureLinearSpec.vars) = true := by kernel_rfl
theorem pictureLinearF_5 : ((Rows.pictureLinearRow.stops == [])) = true := by kernel_rfl
theorem pictureLinearF_6 : ((Tryz.prog.stops == [])) = true := by kernel_rfl
theorem pictureLinearF_7 : ((Rows.pictureLinearRow.knobs == [])) = true := by kernel_rfl
theorem pictureLinearF_8 : ((Tryz.prog.stopKnobs == [])) = true := by kernel_rfl
theorem pictureLinearF_9 : ((Rows.pictureLinearRow.inPlace == Tryz.prog.inPlace 13)) = true := by kernel_rfl
theorem pictureLinearF_10 : ((Rows.pictureLinearRow.unfollowed == Tryz.prog.unfollowed 13)) = true := by kernel_rfl
theorem pictureLinearF_11 : ((Rows.pictureLinearRow.recurses == Tryz.prog.recurses 13)) = true := by kernel_rfl
theorem pictureLinearF_12 : ((Rows.pictureLinearRow.named == Tryz.prog.varsNamed 13)) = true := by kernel_rfl
theorem pictureLinearF_13 : ((Rows.pictureLinearRow.maps == (Tryz.f13.params.toList ++ Rows.pictureLinearSpec.plain.varTypes Tryz.prog).any (Tryz.prog.mapsRec ·))) = true := by kernel_rfl
theorem pictureLinearF_14 : ((Rows.pictureLinearRow.ifaces == (Tryz.f13.params.toList ++ Rows.pictureLinearSpec.plain.varTypes Tryz.prog).any (Tryz.prog.ifacesRec ·))) = true := by kernel_rfl
theorem pictureLinearF_15 : ((Rows.pictureLinearRow.mapsOut == Tryz.prog.mapsAmong Tryz.f13.resultTypes.toList)) = true := by kernel_rfl
theorem pictureLinearF_16 : ((Rows.pictureLinearRow.loops == (Tryz.f13.params.toList ++ Rows.pictureLinearSpec.plain.varTypes Tryz.prog).any (Tryz.prog.loopsFrom ·))) = true := by kernel_rfl
theorem pictureLinearF_17 : ((Rows.pictureLinearRow.wideKeys == (Tryz.f13.params.toList ++ Rows.pictureLinearSpec.plain.varTypes Tryz.prog ++ Tryz.f13.resultTypes.toList).any (Tryz.prog.wideKeysFrom ·))) = true := by kernel_rfl
theorem pictureLinearF_18 : (Rows.pictureLinearSpec.vars.all (Tryz.prog.varReadable ·)) = true := by kernel_rfl
theorem pictureLinearF_19 : (Tryz.f13.resultTypes.all (fun t => Tryz.prog.readableRec t && decide (t < Tryz.prog.types.size))) = true := by kernel_rfl
theorem pictureLinearF_20 : ((Rows.pictureLinearRow.ifacesOut == Tryz.f13.resultTypes.toList.any (Tryz.prog.ifacesRec ·))) = true := by kernel_rfl
theorem pictureLinearF_21 : ((Rows.pictureLinearRow.loopsOut == Tryz.f13.resultTypes.toList.any (Tryz.prog.loopsFrom ·))) = true := by kernel_rfl
theorem pictureLinearF_22 : ((Rows.pictureLinearRow.plainKeys == Tryz.prog.plainKeys)) = true := by kernel_rfl
theorem pictureLinearF_23 : (Rows.pictureLinearRow.shortTexts.isNone) = true := by kernel_rfl
theorem pictureLinearF_24 : (Tryz.prog.stopsHeard) = true := by kernel_rfl
theorem pictureLinearF_25 : (Tryz.prog.mayEnter) = true := by kernel_rfl
theorem pictureLinearF_26 : ((Rows.pictureLinearRow.lifted == Tryz.prog.liftsFinal)) = true := by kernel_rfl
theorem pictureLinearF_27 : ((Tryz.prog.make == some Rows.pictureLinearRow.make)) = true := by kernel_rfl
theorem pictureLinearF_28 : ((Rows.pictureLinearRow.kinds == (if Rows.pictureLinearRow.domain.isEmpty then [] else Tryz.f13.params.toList.map fun t => match Tryz.prog.underlying t with | some (.int k) => some k | _ => none))) = true := by kernel_rfl
theorem pictureLinearF_29 : ((Rows.pictureLinearRow.pinned == Rows.pictureLinearRow.pinnedBy)) = true := by kernel_rfl
theorem pictureLinearF_30 : ((Rows.pictureLinearRow.veiled == (Tryz.f13.params.toList ++ Rows.pictureLinearSpec.plain.varTypes Tryz.prog ++ Tryz.f13.resultTypes.toList).any (Tryz.prog.veiledRec ·))) = true := by kernel_rfl
theorem pictureLinearF_31 : (Rows.pictureLinearRow.veiledFits Tryz.prog Tryz.f13.params.toList (Tryz.f13.params.toList ++ Rows.pictureLinearSpec.plain.varTypes Tryz.prog ++ Tryz.f13.resultTypes.toList)) = true := by kernel_rfl
theorem pictureLinearF_all : joinedFacts Tryz.prog 13 Tryz.f13 Rows.pictureLinearSpec Rows.pictureLinearRow = true := (bothQ (bothQ (bothQ (bothQ (bothQ (bothQ (bothQ (bothQ (bothQ (bothQ (bothQ (bothQ (bothQ (bothQ (bothQ (bothQ (bothQ (bothQ (bothQ (bothQ (bothQ (bothQ (bothQ (bothQ (bothQ (bothQ (bothQ (bothQ (bothQ (bothQ (bothQ pictureLinearF_0 pictureLinearF_1) pictureLinearF_2) pictureLinearF_3) pictureLinearF_4) pictureLinearF_5) pictureLinearF_6) pictureLinearF_7) pictureLinearF_8) pictureLinearF_9) pictureLinearF_10) pictureLinearF_11) pictureLinearF_12) pictureLinearF_13) pictureLinearF_14) pictureLinearF_15) pictureLinearF_16) pictureLinearF_17) pictureLinearF_18) pictureLinearF_19) pictureLinearF_20) pictureLinearF_21) pictureLinearF_22) pictureLinearF_23) pictureLinearF_24) pictureLinearF_25) pictureLinearF_26) pictureLinearF_27) pictureLinearF_28) pictureLinearF_29) pictureLinearF_30) pictureLinearF_31)
end Go.Proofs.YtlicgblagkkcfaaGreatDoor
namespace Go.Proofs.YtlicgblagkkcfaaGreatDoor
open Go.RowKit
set_option linter.unusedVariables false
set_option maxRecDepth 100000
theorem pictureLinearC_main : Tryz.pinned.checked.prog.mainIs = some (Rows.pictureLinearCard.stood.harness.1, Rows.pictureLinearCard.stood.harness.2.toList) := by kernel_rfl
theorem pictureLinearC_goes : false = Rows.pictureLinearRow.goesBy Tryz.pinned.checked.prog := by kernel_rfl
theorem pictureLinearC_looks : false = Tryz.pinned.checked.prog.looks [] := by kernel_rfl
theorem pictureLinearC_wf : Rows.pictureLinearRow.wfByText (OpenSpec.ofChange Rows.pictureLinearSpec) = true := by kernel_rfl
theorem pictureLinearC_fn : Tryz.prog.funcNamed Rows.pictureLinearRow.func = some 13 := by kernel_rfl
end Go.Proofs.YtlicgblagkkcfaaGreatDoor
