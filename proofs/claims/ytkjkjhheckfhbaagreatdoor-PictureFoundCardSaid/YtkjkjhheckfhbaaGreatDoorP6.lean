/- Parts of a proof: Packets, and a frame, among the arguments, opened. Four bytes, and two words, among the arguments, opened; a slice of packets is no longer than its capacity. -/
import Derived.Test.YtkjkjhheckfhbaaGreatDoorGe
import Derived.Test.YtkjkjhheckfhbaaGreatDoorAy
import Derived.Deep.Slices
import Derived.Deep.Fields
import Derived.Laws.Cover2
namespace Go.Proofs.YtkjkjhheckfhbaaGreatDoor
open Go.ChangeShapes Go.WideShapes Go.ChangeAt Go.WideMaps Go.WideElems Go.RowKit Go.Deep
set_option linter.unusedVariables false
set_option maxRecDepth 100000
section
variable {H : Type} {enc : TypeId × Value → H} {W : World} {base : Nat} {sp : Nat → Bool} {held : Bool}
theorem cRP : Tryz.prog.cellsOf 89 = 12 := by kernel_rfl
theorem cU8 : Tryz.prog.cellsOf 5 = 1 := by kernel_rfl
theorem cInt : Tryz.prog.cellsOf 3 = 1 := by kernel_rfl
theorem cD10 : Tryz.prog.cellsOf 87 = 10 := by kernel_rfl
theorem cF16 : Tryz.prog.cellsOf 85 = 16 := by kernel_rfl
theorem bounds_u8 {n : Int} (h : (Lit.int .u8 n).wf = true) : 0 ≤ n ∧ n ≤ 255 := by
  have h1 := IntKind.wrap_u8 n
  simp [Lit.wf] at h
  first | omega | (rw [h1] at h; omega) | exact h
theorem cell_lt2 {W : World} {p : Addr} {v : Value} (h : W.cell? p = some v) : p.block < W.heap.size := by
  rcases Nat.lt_or_ge p.block W.heap.size with hlt | hge
  · exact hlt
  · simp [World.cell?, Array.getElem?_eq_none hge] at h
theorem open_pk {m : Nat} {cs : List Value} {x : DataW H × List MemPlace} (hl : cs.length = 12) (h : DataW.trod enc Tryz.prog W base sp held m 89 cs = some x) : ∃ p : Pk, cs = p.cells ∧ p.Bytes := by
  obtain ⟨xs, m', _, _, _, hn, hel⟩ := DataW.trod_struct Tryz.underlying89 h
  have hn' : xs.length = 3 := hn
  match cs, hl with
  | [a0, a1, a2, a3, a4, a5, a6, a7, a8, a9, a10, a11], _ =>
    have g0 := hel 0 _ rfl
    have g1 := hel 1 _ rfl
    have g2 := hel 2 _ rfl
    rw [List.getElem?_eq_getElem (by omega)] at g0 g1 g2
    change DataW.trod enc Tryz.prog W base sp held m' 3 (List.take (Tryz.prog.cellsOf 3) [a0, a1, a2, a3, a4, a5, a6, a7, a8, a9, a10, a11]) = _ at g0
    change DataW.trod enc Tryz.prog W base sp held m' 3 (List.take (Tryz.prog.cellsOf 3) [a1, a2, a3, a4, a5, a6, a7, a8, a9, a10, a11]) = _ at g1
    change DataW.trod enc Tryz.prog W base sp held m' 87 (List.take (Tryz.prog.cellsOf 87) [a2, a3, a4, a5, a6, a7, a8, a9, a10, a11]) = _ at g2
    rw [cInt] at g0 g1
    rw [cD10] at g2
    obtain ⟨k, q0, _, _⟩ := DataW.trod_int Tryz.underlying3 g0
    obtain ⟨c, q1, _, _⟩ := DataW.trod_int Tryz.underlying3 g1
    simp only [List.take_succ_cons, List.take_zero, List.cons.injEq, and_true] at q0 q1
    obtain ⟨ys, m2, _, _, _, hn2, hel2⟩ := DataW.trod_array Tryz.underlying87 g2
    rw [cU8] at hel2
    have key : ∀ i, i < 10 → ∃ n : Int, (([a2, a3, a4, a5, a6, a7, a8, a9, a10, a11].take 10).drop (i * 1)).take 1 = [.int .u8 n] ∧ 0 ≤ n ∧ n ≤ 255 := fun i hi => by
      have h1 := hel2 i hi
      rw [List.getElem?_eq_getElem (by omega)] at h1
      obtain ⟨n, e, _, w⟩ := DataW.trod_int Tryz.underlying5 h1
      exact ⟨n, e, bounds_u8 w⟩
    obtain ⟨d0, e0, b0⟩ := key 0 (by omega)
    obtain ⟨d1, e1, b1⟩ := key 1 (by omega)
    obtain ⟨d2, e2, b2⟩ := key 2 (by omega)
    obtain ⟨d3, e3, b3⟩ := key 3 (by omega)
    obtain ⟨d4, e4, b4⟩ := key 4 (by omega)
    obtain ⟨d5, e5, b5⟩ := key 5 (by omega)
    obtain ⟨d6, e6, b6⟩ := key 6 (by omega)
    obtain ⟨d7, e7, b7⟩ := key 7 (by omega)
    obtain ⟨d8, e8, b8⟩ := key 8 (by omega)
    obtain ⟨d9, e9, b9⟩ := key 9 (by omega)
    simp only [List.take_succ_cons, List.take_zero, List.drop_succ_cons, List.drop_zero, Nat.zero_mul, Nat.reduceMul, List.cons.injEq, and_true] at e0 e1 e2 e3 e4 e5 e6 e7 e8 e9
    refine ⟨⟨k, c, d0, d1, d2, d3, d4, d5, d6, d7, d8, d9⟩, by rw [q0, q1, e0, e1, e2, e3, e4, e5, e6, e7, e8, e9]; rfl, fun x hx => ?_⟩
    simp only [Pk.data, List.mem_cons, List.not_mem_nil, or_false] at hx
    rcases hx with rfl | rfl | rfl | rfl | rfl | rfl | rfl | rfl | rfl | rfl <;> assumption
/-- Packets of the reference among the arguments, opened. -/
theorem open_pks {v : Value} {d : DataW H} {ps : List MemPlace} {r : Reach} {b0 : Nat} (hval : Value.okWide Tryz.prog W r b0 84 v) (hd : DataW.Trod enc Tryz.prog W base sp held 84 v d ps) :
    ∃ (l : List Pk) (A : Option Addr) (c : Nat), v = .slice A l.length c ∧ Rd W A (pksC l) ∧ ∀ p ∈ l, p.Bytes := by
  obtain ⟨a0, len0, cap0, rfl⟩ := okWide_slice Tryz.underlying84 hval
  obtain ⟨fuel, hf⟩ := hd
  rcases open_slice Tryz.underlying84 hf with ⟨h0, _⟩ | ⟨a, len, cap, m, n, D, Pl, h0, _, hl, hm, hmm, _, hx⟩
  · refine ⟨[], none, 0, ?_, fun h => absurd h (by simp [pksC]), fun p hp => by cases hp⟩
    have h1 : Value.slice a0 len0 cap0 = .slice none 0 0 := (List.cons.inj h0).1
    rw [h1]; rfl
  · have hle : len ≤ m := by rw [hmm]; split <;> omega
    rw [cRP] at hx
    have hpk : ∀ i, ∃ p : Pk, i < len → (∀ j u, p.cells[j]? = some u → W.cell? (a.add (i * 12 + j)) = some u) ∧ p.Bytes := fun i => by
      by_cases hi : i < len
      · obtain ⟨cs', hc, ht⟩ := hx i (by omega)
        obtain ⟨_, hcl, hat⟩ := World.cells?_some hc
        obtain ⟨p, rfl, hb⟩ := open_pk hcl ht
        refine ⟨p, fun _ => ⟨fun j u hj => ?_, hb⟩⟩
        have hjl : j < 12 := by have := (List.getElem?_eq_some_iff.1 hj).1; rw [hcl] at this; exact this
        rw [← Go.Deep.add_add, hat j hjl, hj]
      · exact ⟨pk0, fun h => absurd h hi⟩
    obtain ⟨P, hP⟩ := Classical.axiomOfChoice hpk
    have hlen : ((List.range len).map P).length = len := by simp
    refine ⟨(List.range len).map P, some a, cap, ?_, ?_, ?_⟩
    · rw [hlen]
      exact (List.cons.inj h0).1
    · intro hpos
      have key : ∀ k u, (pksC ((List.range len).map P))[k]? = some u → W.cell? (a.add k) = some u := fun k u hk => by
        have hkl : k < len * 12 := by have := (List.getElem?_eq_some_iff.1 hk).1; rw [pksC_len, hlen] at this; exact this
        have hi : k / 12 < len := by omega
        have hj : k % 12 < 12 := Nat.mod_lt _ (by omega)
        have he : k = k / 12 * 12 + k % 12 := by omega
        have hg : ((List.range len).map P)[k / 12]'(by rw [hlen]; exact hi) = P (k / 12) := by simp
        have hcl : (P (k / 12)).cells.length = 12 := rfl
        have h1 := pksC_at (l := (List.range len).map P) (i := k / 12) (by rw [hlen]; exact hi) (k % 12) ((P (k / 12)).cells[k % 12]'(by rw [hcl]; exact hj)) (by rw [hg]; exact List.getElem?_eq_getElem _)
        rw [← he, hk] at h1
        have h2 := (hP (k / 12) hi).1 (k % 12) u (by rw [Option.some.inj h1]; exact List.getElem?_eq_getElem _)
        rwa [← he] at h2
      have hz : 0 < (pksC ((List.range len).map P)).length := hpos
      have h0c := key 0 _ (List.getElem?_eq_getElem hz)
      refine ⟨a, rfl, ?_, key⟩
      have := cell_lt2 h0c
      rwa [block_of_add] at this
    · intro p hp
      obtain ⟨i, hi, rfl⟩ := List.mem_map.1 hp
      exact (hP i (by simpa using hi)).2
/-- A frame among the arguments, opened. -/
theorem open_frame {v : Value} {d : DataW H} {ps : List MemPlace} {r : Reach} {b0 : Nat} (hval : Value.okWide Tryz.prog W r b0 85 v) (hd : DataW.Trod enc Tryz.prog W base sp held 85 v d ps) :
    ∃ f0 f1 f2 f3 f4 f5 f6 f7 f8 f9 f10 f11 f12 f13 f14 f15 : U8, v = .agg #[.int .u8 f0.1, .int .u8 f1.1, .int .u8 f2.1, .int .u8 f3.1, .int .u8 f4.1, .int .u8 f5.1, .int .u8 f6.1, .int .u8 f7.1, .int .u8 f8.1, .int .u8 f9.1, .int .u8 f10.1, .int .u8 f11.1, .int .u8 f12.1, .int .u8 f13.1, .int .u8 f14.1, .int .u8 f15.1] := by
  obtain ⟨cs, rfl, hsz, _⟩ : ∃ cs, v = .agg cs ∧ cs.size = Tryz.prog.cellsOf 85 ∧ Row.okWide Tryz.prog W r b0 85 cs := by
    simpa [Value.okWide, Tryz.underlying85] using hval
  rw [cF16] at hsz
  obtain ⟨l⟩ := cs
  obtain ⟨fuel, hf⟩ := hd
  obtain ⟨xs, m, _, _, _, hn, hel⟩ := DataW.trod_array Tryz.underlying85 hf
  rw [cU8] at hel
  match l, hsz with
  | [a0, a1, a2, a3, a4, a5, a6, a7, a8, a9, a10, a11, a12, a13, a14, a15], _ =>
    have key : ∀ i, i < 16 → ∃ b : U8, ([a0, a1, a2, a3, a4, a5, a6, a7, a8, a9, a10, a11, a12, a13, a14, a15].drop (i * 1)).take 1 = [.int .u8 b.1] := fun i hi => by
      have h1 := hel i hi
      rw [List.getElem?_eq_getElem (by omega)] at h1
      obtain ⟨n, e, _, w⟩ := DataW.trod_int Tryz.underlying5 h1
      exact ⟨⟨n, bounds_u8 w⟩, e⟩
    obtain ⟨f0, e0⟩ := key 0 (by omega)
    obtain ⟨f1, e1⟩ := key 1 (by omega)
    obtain ⟨f2, e2⟩ := key 2 (by omega)
    obtain ⟨f3, e3⟩ := key 3 (by omega)
    obtain ⟨f4, e4⟩ := key 4 (by omega)
    obtain ⟨f5, e5⟩ := key 5 (by omega)
    obtain ⟨f6, e6⟩ := key 6 (by omega)
    obtain ⟨f7, e7⟩ := key 7 (by omega)
    obtain ⟨f8, e8⟩ := key 8 (by omega)
    obtain ⟨f9, e9⟩ := key 9 (by omega)
    obtain ⟨f10, e10⟩ := key 10 (by omega)
    obtain ⟨f11, e11⟩ := key 11 (by omega)
    obtain ⟨f12, e12⟩ := key 12 (by omega)
    obtain ⟨f13, e13⟩ := key 13 (by omega)
    obtain ⟨f14, e14⟩ := key 14 (by omega)
    obtain ⟨f15, e15⟩ := key 15 (by omega)
    simp only [List.take_succ_cons, List.take_zero, List.drop_succ_cons, List.drop_zero, Nat.zero_mul, Nat.reduceMul, List.cons.injEq, and_true] at e0 e1 e2 e3 e4 e5 e6 e7 e8 e9 e10 e11 e12 e13 e14 e15
    exact ⟨f0, f1, f2, f3, f4, f5, f6, f7, f8, f9, f10, f11, f12, f13, f14, f15, by rw [e0, e1, e2, e3, e4, e5, e6, e7, e8, e9, e10, e11, e12, e13, e14, e15]⟩
end
end Go.Proofs.YtkjkjhheckfhbaaGreatDoor
namespace Go.Proofs.YtkjkjhheckfhbaaGreatDoor
open Go.ChangeShapes Go.WideShapes Go.ChangeAt Go.WideMaps Go.WideElems Go.RowKit Go.Deep
set_option linter.unusedVariables false
set_option maxRecDepth 100000
section
variable {H : Type} {enc : TypeId × Value → H} {W : World} {base : Nat} {sp : Nat → Bool} {held : Bool}
theorem cquad : Tryz.prog.cellsOf 144 = 4 := by kernel_rfl
theorem cquad_el : Tryz.prog.cellsOf 5 = 1 := by kernel_rfl
theorem bounds_quad {n : Int} (h : (Lit.int .u8 n).wf = true) : ∃ m : Nat, n = (m : Int) ∧ m < 256 := by
  have h1 := IntKind.wrap_u8 n
  simp [Lit.wf] at h
  have h2 : 0 ≤ n ∧ n ≤ 255 := by first | omega | (rw [h1] at h; omega) | exact h
  exact ⟨n.toNat, by omega, by omega⟩
theorem open_quad {v : Value} {d : DataW H} {ps : List MemPlace} {r : Reach} {b0 : Nat} (hval : Value.okWide Tryz.prog W r b0 144 v) (hd : DataW.Trod enc Tryz.prog W base sp held 144 v d ps) :
    ∃ f0 f1 f2 f3 : Nat, v = .agg #[.int .u8 (f0 : Int), .int .u8 (f1 : Int), .int .u8 (f2 : Int), .int .u8 (f3 : Int)] ∧ f0 < 256 ∧ f1 < 256 ∧ f2 < 256 ∧ f3 < 256 := by
  obtain ⟨cs, rfl, hsz, _⟩ : ∃ cs, v = .agg cs ∧ cs.size = Tryz.prog.cellsOf 144 ∧ Row.okWide Tryz.prog W r b0 144 cs := by
    simpa [Value.okWide, Tryz.underlying144] using hval
  rw [cquad] at hsz
  obtain ⟨l⟩ := cs
  obtain ⟨fuel, hf⟩ := hd
  obtain ⟨xs, m, _, _, _, hn, hel⟩ := DataW.trod_array Tryz.underlying144 hf
  rw [cquad_el] at hel
  match l, hsz with
  | [a0, a1, a2, a3], _ =>
    have key : ∀ i, i < 4 → ∃ b : Nat, ([a0, a1, a2, a3].drop (i * 1)).take 1 = [.int .u8 (b : Int)] ∧ b < 256 := fun i hi => by
      have h1 := hel i hi
      rw [List.getElem?_eq_getElem (by omega)] at h1
      obtain ⟨n, e, _, w⟩ := DataW.trod_int Tryz.underlying5 h1
      obtain ⟨m, rfl, hm⟩ := bounds_quad w
      exact ⟨m, e, hm⟩
    obtain ⟨f0, e0, b0⟩ := key 0 (by omega)
    obtain ⟨f1, e1, b1⟩ := key 1 (by omega)
    obtain ⟨f2, e2, b2⟩ := key 2 (by omega)
    obtain ⟨f3, e3, b3⟩ := key 3 (by omega)
    simp only [List.take_succ_cons, List.take_zero, List.drop_succ_cons, List.drop_zero, Nat.zero_mul, Nat.reduceMul, List.cons.injEq, and_true] at e0 e1 e2 e3
    exact ⟨f0, f1, f2, f3, by rw [e0, e1, e2, e3], b0, b1, b2, b3⟩
theorem cwords : Tryz.prog.cellsOf 146 = 2 := by kernel_rfl
theorem cwords_el : Tryz.prog.cellsOf 145 = 1 := by kernel_rfl
theorem bounds_words {n : Int} (h : (Lit.int .u16 n).wf = true) : ∃ m : Nat, n = (m : Int) ∧ m < 65536 := by
  have h1 := IntKind.wrap_u16 n
  simp [Lit.wf] at h
  have h2 : 0 ≤ n ∧ n ≤ 65535 := by first | omega | (rw [h1] at h; omega) | exact h
  exact ⟨n.toNat, by omega, by omega⟩
theorem open_words {v : Value} {d : DataW H} {ps : List MemPlace} {r : Reach} {b0 : Nat} (hval : Value.okWide Tryz.prog W r b0 146 v) (hd : DataW.Trod enc Tryz.prog W base sp held 146 v d ps) :
    ∃ f0 f1 : Nat, v = .agg #[.int .u16 (f0 : Int), .int .u16 (f1 : Int)] ∧ f0 < 65536 ∧ f1 < 65536 := by
  obtain ⟨cs, rfl, hsz, _⟩ : ∃ cs, v = .agg cs ∧ cs.size = Tryz.prog.cellsOf 146 ∧ Row.okWide Tryz.prog W r b0 146 cs := by
    simpa [Value.okWide, Tryz.underlying146] using hval
  rw [cwords] at hsz
  obtain ⟨l⟩ := cs
  obtain ⟨fuel, hf⟩ := hd
  obtain ⟨xs, m, _, _, _, hn, hel⟩ := DataW.trod_array Tryz.underlying146 hf
  rw [cwords_el] at hel
  match l, hsz with
  | [a0, a1], _ =>
    have key : ∀ i, i < 2 → ∃ b : Nat, ([a0, a1].drop (i * 1)).take 1 = [.int .u16 (b : Int)] ∧ b < 65536 := fun i hi => by
      have h1 := hel i hi
      rw [List.getElem?_eq_getElem (by omega)] at h1
      obtain ⟨n, e, _, w⟩ := DataW.trod_int Tryz.underlying145 h1
      obtain ⟨m, rfl, hm⟩ := bounds_words w
      exact ⟨m, e, hm⟩
    obtain ⟨f0, e0, b0⟩ := key 0 (by omega)
    obtain ⟨f1, e1, b1⟩ := key 1 (by omega)
    simp only [List.take_succ_cons, List.take_zero, List.drop_succ_cons, List.drop_zero, Nat.zero_mul, Nat.reduceMul, List.cons.injEq, and_true] at e0 e1
    exact ⟨f0, f1, by rw [e0, e1], b0, b1⟩
theorem pks_cap {A : Option Addr} {n c : Nat} {d : DataW H} {ps : List MemPlace} (hd : DataW.Trod enc Tryz.prog W base sp held 84 (.slice A n c) d ps) : n ≤ c := by
  obtain ⟨fuel, hf⟩ := hd
  rcases open_slice Tryz.underlying84 hf with ⟨h0, _⟩ | ⟨a, len, cap, m, k, D, Pl, h0, _, hl, hm, hmm, _, hx⟩
  · have h1 : Value.slice A n c = .slice none 0 0 := (List.cons.inj h0).1
    cases h1
    exact Nat.le_refl _
  · have h1 : Value.slice A n c = .slice (some a) len cap := (List.cons.inj h0).1
    cases h1
    exact hl
end
end Go.Proofs.YtkjkjhheckfhbaaGreatDoor
