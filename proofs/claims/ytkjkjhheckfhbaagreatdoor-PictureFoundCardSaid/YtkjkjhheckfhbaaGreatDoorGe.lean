/- What the program and the reference answer of packets. -/
import Derived.Test.YtkjkjhheckfhbaaGreatDoorGc
import Derived.Test.YtkjkjhheckfhbaaGreatDoorGd
import Derived.Test.YtkjkjhheckfhbaaGreatDoorP3
namespace Go.Proofs.YtkjkjhheckfhbaaGreatDoor
open Go.RowKit
set_option linter.unusedVariables false
theorem blk_set16 {w : World} {g : Nat} {t : TypeId} {x0 x1 x2 x3 x4 x5 x6 x7 x8 x9 x10 x11 x12 x13 x14 x15 y0 y1 y2 y3 y4 y5 y6 y7 y8 y9 y10 y11 y12 y13 y14 y15 : Value} (h : Blk w g t #[x0, x1, x2, x3, x4, x5, x6, x7, x8, x9, x10, x11, x12, x13, x14, x15]) : Blk ((((((((((((((((w.setCell ⟨g, 0, none⟩ y0).setCell ⟨g, 1, none⟩ y1).setCell ⟨g, 2, none⟩ y2).setCell ⟨g, 3, none⟩ y3).setCell ⟨g, 4, none⟩ y4).setCell ⟨g, 5, none⟩ y5).setCell ⟨g, 6, none⟩ y6).setCell ⟨g, 7, none⟩ y7).setCell ⟨g, 8, none⟩ y8).setCell ⟨g, 9, none⟩ y9).setCell ⟨g, 10, none⟩ y10).setCell ⟨g, 11, none⟩ y11).setCell ⟨g, 12, none⟩ y12).setCell ⟨g, 13, none⟩ y13).setCell ⟨g, 14, none⟩ y14).setCell ⟨g, 15, none⟩ y15) g t #[y0, y1, y2, y3, y4, y5, y6, y7, y8, y9, y10, y11, y12, y13, y14, y15] := by
  have h1 := (((((((((((((((h.set_ 0 y0).set_ 1 y1).set_ 2 y2).set_ 3 y3).set_ 4 y4).set_ 5 y5).set_ 6 y6).set_ 7 y7).set_ 8 y8).set_ 9 y9).set_ 10 y10).set_ 11 y11).set_ 12 y12).set_ 13 y13).set_ 14 y14).set_ 15 y15
  simpa using h1
theorem below_set16 {w0 w : World} {g B : Nat} (h : Below B w0 w) (hg : B ≤ g) (y0 y1 y2 y3 y4 y5 y6 y7 y8 y9 y10 y11 y12 y13 y14 y15 : Value) : Below B w0 ((((((((((((((((w.setCell ⟨g, 0, none⟩ y0).setCell ⟨g, 1, none⟩ y1).setCell ⟨g, 2, none⟩ y2).setCell ⟨g, 3, none⟩ y3).setCell ⟨g, 4, none⟩ y4).setCell ⟨g, 5, none⟩ y5).setCell ⟨g, 6, none⟩ y6).setCell ⟨g, 7, none⟩ y7).setCell ⟨g, 8, none⟩ y8).setCell ⟨g, 9, none⟩ y9).setCell ⟨g, 10, none⟩ y10).setCell ⟨g, 11, none⟩ y11).setCell ⟨g, 12, none⟩ y12).setCell ⟨g, 13, none⟩ y13).setCell ⟨g, 14, none⟩ y14).setCell ⟨g, 15, none⟩ y15) :=
  (((((((((((((((h.setCell (p := ⟨g, 0, none⟩) hg y0).setCell (p := ⟨g, 1, none⟩) hg y1).setCell (p := ⟨g, 2, none⟩) hg y2).setCell (p := ⟨g, 3, none⟩) hg y3).setCell (p := ⟨g, 4, none⟩) hg y4).setCell (p := ⟨g, 5, none⟩) hg y5).setCell (p := ⟨g, 6, none⟩) hg y6).setCell (p := ⟨g, 7, none⟩) hg y7).setCell (p := ⟨g, 8, none⟩) hg y8).setCell (p := ⟨g, 9, none⟩) hg y9).setCell (p := ⟨g, 10, none⟩) hg y10).setCell (p := ⟨g, 11, none⟩) hg y11).setCell (p := ⟨g, 12, none⟩) hg y12).setCell (p := ⟨g, 13, none⟩) hg y13).setCell (p := ⟨g, 14, none⟩) hg y14).setCell (p := ⟨g, 15, none⟩) hg y15
theorem blk_far16 {w : World} {g k : Nat} {t : TypeId} {cs : Array Value} (h : Blk w k t cs) (hg : k ≠ g) (y0 y1 y2 y3 y4 y5 y6 y7 y8 y9 y10 y11 y12 y13 y14 y15 : Value) : Blk ((((((((((((((((w.setCell ⟨g, 0, none⟩ y0).setCell ⟨g, 1, none⟩ y1).setCell ⟨g, 2, none⟩ y2).setCell ⟨g, 3, none⟩ y3).setCell ⟨g, 4, none⟩ y4).setCell ⟨g, 5, none⟩ y5).setCell ⟨g, 6, none⟩ y6).setCell ⟨g, 7, none⟩ y7).setCell ⟨g, 8, none⟩ y8).setCell ⟨g, 9, none⟩ y9).setCell ⟨g, 10, none⟩ y10).setCell ⟨g, 11, none⟩ y11).setCell ⟨g, 12, none⟩ y12).setCell ⟨g, 13, none⟩ y13).setCell ⟨g, 14, none⟩ y14).setCell ⟨g, 15, none⟩ y15) k t cs :=
  (((((((((((((((h.far (p := ⟨g, 0, none⟩) hg y0).far (p := ⟨g, 1, none⟩) hg y1).far (p := ⟨g, 2, none⟩) hg y2).far (p := ⟨g, 3, none⟩) hg y3).far (p := ⟨g, 4, none⟩) hg y4).far (p := ⟨g, 5, none⟩) hg y5).far (p := ⟨g, 6, none⟩) hg y6).far (p := ⟨g, 7, none⟩) hg y7).far (p := ⟨g, 8, none⟩) hg y8).far (p := ⟨g, 9, none⟩) hg y9).far (p := ⟨g, 10, none⟩) hg y10).far (p := ⟨g, 11, none⟩) hg y11).far (p := ⟨g, 12, none⟩) hg y12).far (p := ⟨g, 13, none⟩) hg y13).far (p := ⟨g, 14, none⟩) hg y14).far (p := ⟨g, 15, none⟩) hg y15
/-- A list that lies below a bound. -/
def RdB (m : Nat) (w : World) (A : Option Addr) (xs : List Value) : Prop :=
  0 < xs.length → ∃ ad, A = some ad ∧ ad.block < m ∧ ∀ j u, xs[j]? = some u → w.cell? (ad.add j) = some u
theorem rdB_of {w : World} {A : Option Addr} {xs : List Value} (h : Rd w A xs) : RdB w.heap.size w A xs := h
theorem RdB.below {m : Nat} {w w' : World} {A : Option Addr} {xs : List Value} (h : RdB m w A xs) (hb : Below m w w') : RdB m w' A xs := fun h0 => by
  obtain ⟨ad, e, hl, hc⟩ := h h0
  exact ⟨ad, e, hl, fun j u hj => (hb.cell (by rw [block_of_add]; exact hl)).trans (hc j u hj)⟩
theorem RdB.rd {m : Nat} {w : World} {A : Option Addr} {xs : List Value} (h : RdB m w A xs) (hm : m ≤ w.heap.size) : Rd w A xs := fun h0 => by
  obtain ⟨ad, e, hl, hc⟩ := h h0
  exact ⟨ad, e, Nat.lt_of_lt_of_le hl hm, hc⟩
def Pk.Bytes (p : Pk) : Prop := ∀ x ∈ p.data, 0 ≤ x ∧ x ≤ 255
theorem Pk.u8 {p : Pk} (h : p.Bytes) (i : Nat) (x : Int) (hx : p.data[i]? = some x) : ∃ b : U8, x = b.1 := ⟨⟨x, h x (List.mem_of_getElem? hx)⟩, rfl⟩
theorem pkErr_zero {k c : Int} (h : pkErr k c = 0) : (0 ≤ k ∧ k ≤ 255) ∧ 0 ≤ c ∧ c ≤ 255 := by
  have h0 := firstE_zero h
  exact ⟨outs_zero (h0 _ (by simp)), outs_zero (h0 _ (by simp))⟩
/-- A frame beside an error. -/
def FrEnd (l : List Int) (E : Int) (w : World) (e : Ending) (w' : World) : Prop := e = .returned (.tuple #[.agg (l.map (Value.int .u8)).toArray, .int .i64 E]) ∧ Below w.heap.size w w'
def FrEndR (l : List Int) (w : World) (e : Ending) (w' : World) : Prop := e = .returned (.agg (l.map (Value.int .u8)).toArray) ∧ Below w.heap.size w w'
theorem encode_fit (p : Pk) (hb : p.Bytes) : ∃ F0 F1 F2 F3 F4 F5 F6 F7 F8 F9 F10 F11 F12 F13 F14 F15 : Int, (∀ w, Calls Tryz.prog 64 #[.agg #[.int .i64 p.k, .int .i64 p.c, .int .u8 p.d0, .int .u8 p.d1, .int .u8 p.d2, .int .u8 p.d3, .int .u8 p.d4, .int .u8 p.d5, .int .u8 p.d6, .int .u8 p.d7, .int .u8 p.d8, .int .u8 p.d9]] w (FrEnd [F0, F1, F2, F3, F4, F5, F6, F7, F8, F9, F10, F11, F12, F13, F14, F15] (pkErr p.k p.c) w)) ∧ (pkErr p.k p.c = 0 → ∀ w, Calls Tryz.prog 70 #[.agg #[.int .i64 p.k, .int .i64 p.c, .int .u8 p.d0, .int .u8 p.d1, .int .u8 p.d2, .int .u8 p.d3, .int .u8 p.d4, .int .u8 p.d5, .int .u8 p.d6, .int .u8 p.d7, .int .u8 p.d8, .int .u8 p.d9]] w (FrEndR [F0, F1, F2, F3, F4, F5, F6, F7, F8, F9, F10, F11, F12, F13, F14, F15] w)) ∧ (pkErr p.k p.c ≠ 0 → [F0, F1, F2, F3, F4, F5, F6, F7, F8, F9, F10, F11, F12, F13, F14, F15] = [0, 0, 0, 0, 0, 0, 0, 0, 0, 0, 0, 0, 0, 0, 0, 0]) := by
  by_cases he : pkErr p.k p.c = 0
  · obtain ⟨hk, hc⟩ := pkErr_zero he
    obtain ⟨k, ek⟩ : ∃ b : U8, p.k = b.1 := ⟨⟨p.k, hk⟩, rfl⟩
    obtain ⟨c, ec⟩ : ∃ b : U8, p.c = b.1 := ⟨⟨p.c, hc⟩, rfl⟩
    obtain ⟨d0, e0⟩ := Pk.u8 hb 0 p.d0 rfl
    obtain ⟨d1, e1⟩ := Pk.u8 hb 1 p.d1 rfl
    obtain ⟨d2, e2⟩ := Pk.u8 hb 2 p.d2 rfl
    obtain ⟨d3, e3⟩ := Pk.u8 hb 3 p.d3 rfl
    obtain ⟨d4, e4⟩ := Pk.u8 hb 4 p.d4 rfl
    obtain ⟨d5, e5⟩ := Pk.u8 hb 5 p.d5 rfl
    obtain ⟨d6, e6⟩ := Pk.u8 hb 6 p.d6 rfl
    obtain ⟨d7, e7⟩ := Pk.u8 hb 7 p.d7 rfl
    obtain ⟨d8, e8⟩ := Pk.u8 hb 8 p.d8 rfl
    obtain ⟨d9, e9⟩ := Pk.u8 hb 9 p.d9 rfl
    rw [he, ek, ec, e0, e1, e2, e3, e4, e5, e6, e7, e8, e9]
    obtain ⟨P, hP⟩ : ∃ P : U8, xorF [k, c, d0, d1, d2, d3, d4, d5, d6, d7, d8, d9] 0 = P.1 := ⟨⟨xorF [k, c, d0, d1, d2, d3, d4, d5, d6, d7, d8, d9] 0, xorF_bd _ 0 (by decide)⟩, rfl⟩
    obtain ⟨S, hS⟩ : ∃ S, rollF 251 65521 [u171, k, c, d0, d1, d2, d3, d4, d5, d6, d7, d8, d9, P] 1 = S := ⟨_, rfl⟩
    refine ⟨171, k.1, c.1, d0.1, d1.1, d2.1, d3.1, d4.1, d5.1, d6.1, d7.1, d8.1, d9.1, P.1, S / 256, S % 256, fun w => (encode_ok k c d0 d1 d2 d3 d4 d5 d6 d7 d8 d9 w).mono ?_, fun _ w => (encodeR_ok k c d0 d1 d2 d3 d4 d5 d6 d7 d8 d9 w).mono ?_, fun h => absurd rfl h⟩
    all_goals
      rintro e w' ⟨P', S', hP', hS', rfl, hbl⟩
      have e1 : P' = P := Subtype.ext (hP'.symm.trans hP)
      subst e1
      rw [hS] at hS'
      subst hS'
      exact ⟨rfl, hbl⟩
  · exact ⟨0, 0, 0, 0, 0, 0, 0, 0, 0, 0, 0, 0, 0, 0, 0, 0, fun w => (encode_bad p.k p.c p.d0 p.d1 p.d2 p.d3 p.d4 p.d5 p.d6 p.d7 p.d8 p.d9 w he).mono fun e w' ⟨h1, h2⟩ => ⟨h1, h2⟩, fun h => absurd h he, fun _ => rfl⟩
/-- A packet beside an error. -/
def PkEnd (p : Pk) (E : Int) (w : World) (e : Ending) (w' : World) : Prop := e = .returned (.tuple #[.agg p.cells.toArray, .int .i64 E]) ∧ Below w.heap.size w w'
theorem decode_fit (f0 f1 f2 f3 f4 f5 f6 f7 f8 f9 f10 f11 f12 f13 f14 f15 : U8) : ∃ (y : Pk) (E : Int), (∀ w, Calls Tryz.prog 65 #[.agg #[.int .u8 f0.1, .int .u8 f1.1, .int .u8 f2.1, .int .u8 f3.1, .int .u8 f4.1, .int .u8 f5.1, .int .u8 f6.1, .int .u8 f7.1, .int .u8 f8.1, .int .u8 f9.1, .int .u8 f10.1, .int .u8 f11.1, .int .u8 f12.1, .int .u8 f13.1, .int .u8 f14.1, .int .u8 f15.1]] w (PkEnd y E w)) ∧ (∀ w, Calls Tryz.prog 72 #[.agg #[.int .u8 f0.1, .int .u8 f1.1, .int .u8 f2.1, .int .u8 f3.1, .int .u8 f4.1, .int .u8 f5.1, .int .u8 f6.1, .int .u8 f7.1, .int .u8 f8.1, .int .u8 f9.1, .int .u8 f10.1, .int .u8 f11.1, .int .u8 f12.1, .int .u8 f13.1, .int .u8 f14.1, .int .u8 f15.1]] w (PkEnd y E w)) := by
  have hv : ∃ y : Pk, pkV (goodB [f0, f1, f2, f3, f4, f5, f6, f7, f8, f9, f10, f11, f12, f13, f14, f15]) [f0, f1, f2, f3, f4, f5, f6, f7, f8, f9, f10, f11, f12, f13, f14, f15] = .agg y.cells.toArray := by
    cases goodB [f0, f1, f2, f3, f4, f5, f6, f7, f8, f9, f10, f11, f12, f13, f14, f15] with
    | true => exact ⟨pkOf [f0, f1, f2, f3, f4, f5, f6, f7, f8, f9, f10, f11, f12, f13, f14, f15], rfl⟩
    | false => exact ⟨pk0, rfl⟩
  obtain ⟨y, hy⟩ := hv
  refine ⟨y, errD [f0, f1, f2, f3, f4, f5, f6, f7, f8, f9, f10, f11, f12, f13, f14, f15], fun w => (decode_any f0 f1 f2 f3 f4 f5 f6 f7 f8 f9 f10 f11 f12 f13 f14 f15 w).mono ?_, fun w => (decodeR_any f0 f1 f2 f3 f4 f5 f6 f7 f8 f9 f10 f11 f12 f13 f14 f15 w).mono ?_⟩
  all_goals
    rintro e w' ⟨rfl, hb⟩
    rw [hy]
    exact ⟨rfl, hb⟩
/-- Lost counters beside an error. -/
def LoEnd (R : List Int) (E : Int) (w : World) (e : Ending) (w' : World) : Prop := ∃ A c, e = .returned (.tuple #[.slice A R.length c, .int .i64 E]) ∧ Rd w' A (R.map (.int .i64)) ∧ Below w.heap.size w w'
theorem lost_fit (l : List Pk) (kind : Int) (hl : l.length ≤ 1025) : ∃ (R : List Int) (z : Int), R.length ≤ maxLen ∧ (∀ A c w, Rd w A (pksC l) → Calls Tryz.prog 66 #[.slice A l.length c, .int .i64 kind] w (LoEnd R z w)) ∧
    (firstE [pksErr l, outs kind 0 255] = 0 → ∀ A c w, Rd w A (pksC l) → Calls Tryz.prog 71 #[.slice A l.length c, .int .i64 kind] w (LoEnd R z w)) ∧ (firstE [pksErr l, outs kind 0 255] ≠ 0 → R = [] ∧ z = firstE [pksErr l, outs kind 0 255]) := by
  by_cases he : firstE [pksErr l, outs kind 0 255] = 0
  · have he2 : lostErr l kind = 0 := (lostErr_eq l kind).trans he
    obtain ⟨h1, h2⟩ := lostErr_zero he2
    obtain ⟨a1, a2⟩ := lost_agree h2 kind
    by_cases hb : (lostR kind l (-1) []).length ≤ 256
    · have e1 := a1 hb
      have key : ∀ (w : World) (e : Ending) (w' : World), LostEnd w.heap.size (lostR kind l (-1) []) w e w' → LoEnd (lostR kind l (-1) []) 0 w e w' := by
        rintro w e w' ⟨⟨_, v, rfl, hown⟩ | ⟨h3, _⟩, hbl⟩
        · obtain ⟨A', c', rfl⟩ := own_shape hown
          exact ⟨A', c', rfl, rd_own hown, hbl⟩
        · omega
      refine ⟨lostR kind l (-1) [], 0, by unfold maxLen; omega, fun A c w hr => (lost_good A c l kind w (by unfold maxLen; omega) hr he2).mono ?_, fun _ A c w hr => (lostRef_any A c l kind w h1 hr h2).mono ?_, fun h => absurd he h⟩
      · rintro e w' h
        rw [e1] at h
        exact key w e w' h
      · rintro e w' h
        exact key w e w' h
    · have e1 := a2 (by omega)
      have key : ∀ (R : List Int) (hR : 256 < R.length) (w : World) (e : Ending) (w' : World), LostEnd w.heap.size R w e w' → LoEnd [] 5 w e w' := by
        rintro R hR w e w' ⟨⟨h3, _⟩ | ⟨_, rfl⟩, hbl⟩
        · omega
        · exact ⟨none, 0, rfl, fun h => absurd h (by simp), hbl⟩
      exact ⟨[], 5, by simp, fun A c w hr => (lost_good A c l kind w (by unfold maxLen; omega) hr he2).mono (fun e w' h => key _ e1 w e w' h), fun _ A c w hr => (lostRef_any A c l kind w h1 hr h2).mono (fun e w' h => key _ (by omega) w e w' h), fun h => absurd he h⟩
  · have he2 : lostErr l kind ≠ 0 := fun h => he ((lostErr_eq l kind).symm.trans h)
    refine ⟨[], firstE [pksErr l, outs kind 0 255], by simp, fun A c w hr => (lost_bad A c l kind w (by unfold maxLen; omega) hr he2).mono ?_, fun h => absurd h he, fun _ => ⟨rfl, rfl⟩⟩
    rintro e w' ⟨rfl, hb⟩
    rw [lostErr_eq]
    exact ⟨none, 0, rfl, fun h => absurd h (by simp), hb⟩
theorem packetR_fields : (Tryz.prog.fieldsOf 89).toList = [{ name := "Kind", type := 3, offset := 0, embedded := false, tag := "", pkgPath := "", byteOffset := 0 }, { name := "Counter", type := 3, offset := 1, embedded := false, tag := "", pkgPath := "", byteOffset := 8 }, { name := "Data", type := 87, offset := 2, embedded := false, tag := "", pkgPath := "", byteOffset := 16 }] := by kernel_rfl
theorem run_equalIn_packetR (p q : Pk) (w : World) : (Op.equalIn 10000 89 (.agg #[.int .i64 p.k, .int .i64 p.c, .int .u8 p.d0, .int .u8 p.d1, .int .u8 p.d2, .int .u8 p.d3, .int .u8 p.d4, .int .u8 p.d5, .int .u8 p.d6, .int .u8 p.d7, .int .u8 p.d8, .int .u8 p.d9]) (.agg #[.int .i64 q.k, .int .i64 q.c, .int .u8 q.d0, .int .u8 q.d1, .int .u8 q.d2, .int .u8 q.d3, .int .u8 q.d4, .int .u8 q.d5, .int .u8 q.d6, .int .u8 q.d7, .int .u8 q.d8, .int .u8 q.d9])).run Tryz.prog w = .ok (pkEq p q) w := by
  have h87 := Tryz.isAgg87
  have hs := Tryz.sizeOf87
  have h3 := Tryz.isAgg3
  rw [show (10000 : Nat) = 9999 + 1 from rfl, run_equalIn_struct w 9999 89 _ _ (by kernel_rfl) (by kernel_rfl), packetR_fields]
  have hd := run_equalIn_data p q 9997 w
  simp only [Op.eqFields, Sem.run_bind, Sem.run_ite]
  unfold pkEq
  cases hk : p.k == q.k <;> cases hc : p.c == q.c
  all_goals simp [part, h3, h87, hs, run_equalIn_int w 9998 3 .i64 .i64 _ _ Tryz.underlying3, hk, hc, Result.andThen_ok]
  rw [hd]
  by_cases h : p.data = q.data <;> simp [h]
/-- The law answers true; nothing that was there has turned. -/
def YesEnd (w : World) (e : Ending) (w' : World) : Prop := e = .returned (.bool true) ∧ Below w.heap.size w w'
theorem yesEnd_mk {w w' : World} {e : Ending} (h : e = .returned (.bool true)) (hb : Below w.heap.size w w') : YesEnd w e w' := ⟨h, hb⟩
theorem eq_packetR (p : Pk) (w : World) : (Op.equalIn 10000 89 (.agg #[.int .i64 p.k, .int .i64 p.c, .int .u8 p.d0, .int .u8 p.d1, .int .u8 p.d2, .int .u8 p.d3, .int .u8 p.d4, .int .u8 p.d5, .int .u8 p.d6, .int .u8 p.d7, .int .u8 p.d8, .int .u8 p.d9]) (.agg #[.int .i64 p.k, .int .i64 p.c, .int .u8 p.d0, .int .u8 p.d1, .int .u8 p.d2, .int .u8 p.d3, .int .u8 p.d4, .int .u8 p.d5, .int .u8 p.d6, .int .u8 p.d7, .int .u8 p.d8, .int .u8 p.d9])).run Tryz.prog w = .ok true w := by
  rw [run_equalIn_packetR]; simp [pkEq]
theorem eq_frame (F0 F1 F2 F3 F4 F5 F6 F7 F8 F9 F10 F11 F12 F13 F14 F15 : Int) (w : World) : (Op.equalIn 10000 85 (.agg #[.int .u8 F0, .int .u8 F1, .int .u8 F2, .int .u8 F3, .int .u8 F4, .int .u8 F5, .int .u8 F6, .int .u8 F7, .int .u8 F8, .int .u8 F9, .int .u8 F10, .int .u8 F11, .int .u8 F12, .int .u8 F13, .int .u8 F14, .int .u8 F15]) (.agg #[.int .u8 F0, .int .u8 F1, .int .u8 F2, .int .u8 F3, .int .u8 F4, .int .u8 F5, .int .u8 F6, .int .u8 F7, .int .u8 F8, .int .u8 F9, .int .u8 F10, .int .u8 F11, .int .u8 F12, .int .u8 F13, .int .u8 F14, .int .u8 F15])).run Tryz.prog w = .ok true w := by
  rw [run_equalIn_frame, decide_eq_true rfl]
end Go.Proofs.YtkjkjhheckfhbaaGreatDoor
