/- The reference's frame of a packet. -/
import Derived.Test.YtkjkjhheckfhbaaGreatDoorGa
import Derived.Test.YtkjkjhheckfhbaaGreatDoorAj
namespace Go.Proofs.YtkjkjhheckfhbaaGreatDoor
open Go.RowKit
set_option linter.unusedVariables false
def u8A (l : List Int) : Array Value := (l.map (Value.int .u8)).toArray
theorem u8A_set (l : List Int) (i : Nat) (v : Int) : (u8A l).setIfInBounds i (.int .u8 v) = u8A (l.set i v) := by
  unfold u8A
  rw [List.map_set]
  simp
theorem u8A_get {l : List Int} {i : Nat} (h : i < l.length) : (u8A l)[i]? = some (.int .u8 (l.getD i 0)) := by
  unfold u8A
  simp [h, List.getD]
theorem blk_u8_set {w : World} {g : Nat} {t : TypeId} {l : List Int} (h : Blk w g t (u8A l)) (i : Nat) (v : Int) : Blk (w.setCell ⟨g, i, none⟩ (.int .u8 v)) g t (u8A (l.set i v)) := by
  rw [← u8A_set]; exact h.set_ i _
theorem blk_u8_get {w : World} {g : Nat} {t : TypeId} {l : List Int} (h : Blk w g t (u8A l)) {i : Nat} (hi : i < l.length) : w.cell? ⟨g, i, none⟩ = some (.int .u8 (l.getD i 0)) := (h.cell i).trans (u8A_get hi)
/-- The bytes of a frame, with the first k bytes of the data put in. -/
def putD (ds : List U8) : Nat → List Int → List Int
  | 0, l => l
  | k + 1, l => (putD ds k l).set (3 + k) (ds.getD k u0).1
theorem putD_len (ds : List U8) (k : Nat) (l : List Int) : (putD ds k l).length = l.length := by
  induction k with
  | zero => rfl
  | succ k ih => unfold putD; rw [List.length_set, ih]
set_option maxRecDepth 100000 in
set_option maxHeartbeats 2000000 in
theorem encodeR_ok (ki co : U8) (d0 d1 d2 d3 d4 d5 d6 d7 d8 d9 : U8) (w : World) : Calls Tryz.prog 70 #[.agg #[.int .i64 ki.1, .int .i64 co.1, .int .u8 d0.1, .int .u8 d1.1, .int .u8 d2.1, .int .u8 d3.1, .int .u8 d4.1, .int .u8 d5.1, .int .u8 d6.1, .int .u8 d7.1, .int .u8 d8.1, .int .u8 d9.1]] w fun e w' => ∃ (P : U8) (S : Int), xorF [ki, co, d0, d1, d2, d3, d4, d5, d6, d7, d8, d9] 0 = P.1 ∧ rollF 251 65521 [u171, ki, co, d0, d1, d2, d3, d4, d5, d6, d7, d8, d9, P] 1 = S ∧ e = .returned (.agg #[.int .u8 171, .int .u8 ki.1, .int .u8 co.1, .int .u8 d0.1, .int .u8 d1.1, .int .u8 d2.1, .int .u8 d3.1, .int .u8 d4.1, .int .u8 d5.1, .int .u8 d6.1, .int .u8 d7.1, .int .u8 d8.1, .int .u8 d9.1, .int .u8 P.1, .int .u8 (S / 256), .int .u8 (S % 256)]) ∧ Below w.heap.size w w' := by
  have hki := ki.2
  have hco := co.2
  go_enter Tryz.func70, Tryz.ntmps70
  go_upto_region 2 with fail
  have hp := ((Blk.new w 89 #[.int .i64 ki.1, .int .i64 co.1, .int .u8 d0.1, .int .u8 d1.1, .int .u8 d2.1, .int .u8 d3.1, .int .u8 d4.1, .int .u8 d5.1, .int .u8 d6.1, .int .u8 d7.1, .int .u8 d8.1, .int .u8 d9.1]).alloc (.cells #[.int .u8 0, .int .u8 0, .int .u8 0, .int .u8 0, .int .u8 0, .int .u8 0, .int .u8 0, .int .u8 0, .int .u8 0, .int .u8 0, .int .u8 0, .int .u8 0, .int .u8 0, .int .u8 0, .int .u8 0, .int .u8 0] 85)).alloc (.cells #[.int .u8 0, .int .u8 0, .int .u8 0, .int .u8 0, .int .u8 0, .int .u8 0, .int .u8 0, .int .u8 0, .int .u8 0, .int .u8 0, .int .u8 0, .int .u8 0, .int .u8 0, .int .u8 0, .int .u8 0, .int .u8 0] 85)
  have hr := (Blk.new (w.alloc (.cells #[.int .i64 ki.1, .int .i64 co.1, .int .u8 d0.1, .int .u8 d1.1, .int .u8 d2.1, .int .u8 d3.1, .int .u8 d4.1, .int .u8 d5.1, .int .u8 d6.1, .int .u8 d7.1, .int .u8 d8.1, .int .u8 d9.1] 89)) 85 #[.int .u8 0, .int .u8 0, .int .u8 0, .int .u8 0, .int .u8 0, .int .u8 0, .int .u8 0, .int .u8 0, .int .u8 0, .int .u8 0, .int .u8 0, .int .u8 0, .int .u8 0, .int .u8 0, .int .u8 0, .int .u8 0]).alloc (.cells #[.int .u8 0, .int .u8 0, .int .u8 0, .int .u8 0, .int .u8 0, .int .u8 0, .int .u8 0, .int .u8 0, .int .u8 0, .int .u8 0, .int .u8 0, .int .u8 0, .int .u8 0, .int .u8 0, .int .u8 0, .int .u8 0] 85)
  have ho := Blk.new ((w.alloc (.cells #[.int .i64 ki.1, .int .i64 co.1, .int .u8 d0.1, .int .u8 d1.1, .int .u8 d2.1, .int .u8 d3.1, .int .u8 d4.1, .int .u8 d5.1, .int .u8 d6.1, .int .u8 d7.1, .int .u8 d8.1, .int .u8 d9.1] 89)).alloc (.cells #[.int .u8 0, .int .u8 0, .int .u8 0, .int .u8 0, .int .u8 0, .int .u8 0, .int .u8 0, .int .u8 0, .int .u8 0, .int .u8 0, .int .u8 0, .int .u8 0, .int .u8 0, .int .u8 0, .int .u8 0, .int .u8 0] 85)) 85 #[.int .u8 0, .int .u8 0, .int .u8 0, .int .u8 0, .int .u8 0, .int .u8 0, .int .u8 0, .int .u8 0, .int .u8 0, .int .u8 0, .int .u8 0, .int .u8 0, .int .u8 0, .int .u8 0, .int .u8 0, .int .u8 0]
  have hb := ((((Below.refl w.heap.size w).alloc (Nat.le_refl _) (.cells #[.int .i64 ki.1, .int .i64 co.1, .int .u8 d0.1, .int .u8 d1.1, .int .u8 d2.1, .int .u8 d3.1, .int .u8 d4.1, .int .u8 d5.1, .int .u8 d6.1, .int .u8 d7.1, .int .u8 d8.1, .int .u8 d9.1] 89)).alloc (by simp only [World.size_alloc]; omega) (.cells #[.int .u8 0, .int .u8 0, .int .u8 0, .int .u8 0, .int .u8 0, .int .u8 0, .int .u8 0, .int .u8 0, .int .u8 0, .int .u8 0, .int .u8 0, .int .u8 0, .int .u8 0, .int .u8 0, .int .u8 0, .int .u8 0] 85)).alloc (by simp only [World.size_alloc]; omega) (.cells #[.int .u8 0, .int .u8 0, .int .u8 0, .int .u8 0, .int .u8 0, .int .u8 0, .int .u8 0, .int .u8 0, .int .u8 0, .int .u8 0, .int .u8 0, .int .u8 0, .int .u8 0, .int .u8 0, .int .u8 0, .int .u8 0] 85))
  simp only [World.size_alloc] at hr ho
  generalize (((w.alloc (.cells #[.int .i64 ki.1, .int .i64 co.1, .int .u8 d0.1, .int .u8 d1.1, .int .u8 d2.1, .int .u8 d3.1, .int .u8 d4.1, .int .u8 d5.1, .int .u8 d6.1, .int .u8 d7.1, .int .u8 d8.1, .int .u8 d9.1] 89)).alloc (.cells #[.int .u8 0, .int .u8 0, .int .u8 0, .int .u8 0, .int .u8 0, .int .u8 0, .int .u8 0, .int .u8 0, .int .u8 0, .int .u8 0, .int .u8 0, .int .u8 0, .int .u8 0, .int .u8 0, .int .u8 0, .int .u8 0] 85)).alloc (.cells #[.int .u8 0, .int .u8 0, .int .u8 0, .int .u8 0, .int .u8 0, .int .u8 0, .int .u8 0, .int .u8 0, .int .u8 0, .int .u8 0, .int .u8 0, .int .u8 0, .int .u8 0, .int .u8 0, .int .u8 0, .int .u8 0] 85)) = w0 at hp hr ho hb ⊢
  have k0 := hp.cell 0
  have k1 := hp.cell 1
  have o0 := ho.cell 0; have of0 := ho.frozen 0
  have o1 := ho.cell 1; have of1 := ho.frozen 1
  have o2 := ho.cell 2; have of2 := ho.frozen 2
  simp only [List.getElem?_toArray, List.getElem?_cons_zero, List.getElem?_cons_succ] at k0 k1 o0 o1 o2
  have z1 := hp.lt; have z3 := ho.lt
  have HP := Lib.hid hp; have HR := Lib.hid hr; have HO := Lib.hid ho; have HB := Lib.hid hb
  clear hp hr ho hb
  go_region
  have ho : Blk (((w0.setCell ⟨w.heap.size + 1 + 1, 0, none⟩ (.int .u8 171)).setCell ⟨w.heap.size + 1 + 1, 1, none⟩ (.int .u8 ki.1)).setCell ⟨w.heap.size + 1 + 1, 2, none⟩ (.int .u8 co.1)).drew (w.heap.size + 1 + 1) 85 (u8A [171, ki.1, co.1, 0, 0, 0, 0, 0, 0, 0, 0, 0, 0, 0, 0, 0]) := ((HO.out.set_ 0 (.int .u8 171)).set_ 1 (.int .u8 ki.1)).set_ 2 (.int .u8 co.1)
  have hp : Blk (((w0.setCell ⟨w.heap.size + 1 + 1, 0, none⟩ (.int .u8 171)).setCell ⟨w.heap.size + 1 + 1, 1, none⟩ (.int .u8 ki.1)).setCell ⟨w.heap.size + 1 + 1, 2, none⟩ (.int .u8 co.1)).drew w.heap.size 89 #[.int .i64 ki.1, .int .i64 co.1, .int .u8 d0.1, .int .u8 d1.1, .int .u8 d2.1, .int .u8 d3.1, .int .u8 d4.1, .int .u8 d5.1, .int .u8 d6.1, .int .u8 d7.1, .int .u8 d8.1, .int .u8 d9.1] := ((HP.out.far (p := ⟨w.heap.size + 1 + 1, 0, none⟩) (by dsimp only; omega) _).far (p := ⟨w.heap.size + 1 + 1, 1, none⟩) (by dsimp only; omega) _).far (p := ⟨w.heap.size + 1 + 1, 2, none⟩) (by dsimp only; omega) _
  have hr : Blk (((w0.setCell ⟨w.heap.size + 1 + 1, 0, none⟩ (.int .u8 171)).setCell ⟨w.heap.size + 1 + 1, 1, none⟩ (.int .u8 ki.1)).setCell ⟨w.heap.size + 1 + 1, 2, none⟩ (.int .u8 co.1)).drew (w.heap.size + 1) 85 #[.int .u8 0, .int .u8 0, .int .u8 0, .int .u8 0, .int .u8 0, .int .u8 0, .int .u8 0, .int .u8 0, .int .u8 0, .int .u8 0, .int .u8 0, .int .u8 0, .int .u8 0, .int .u8 0, .int .u8 0, .int .u8 0] := ((HR.out.far (p := ⟨w.heap.size + 1 + 1, 0, none⟩) (by dsimp only; omega) _).far (p := ⟨w.heap.size + 1 + 1, 1, none⟩) (by dsimp only; omega) _).far (p := ⟨w.heap.size + 1 + 1, 2, none⟩) (by dsimp only; omega) _
  have hb := (((HB.out.setCell (p := ⟨w.heap.size + 1 + 1, 0, none⟩) (by dsimp only; omega) (.int .u8 171)).setCell (p := ⟨w.heap.size + 1 + 1, 1, none⟩) (by dsimp only; omega) (.int .u8 ki.1)).setCell (p := ⟨w.heap.size + 1 + 1, 2, none⟩) (by dsimp only; omega) (.int .u8 co.1)).drew
  clear HP HR HO HB z1 z3 k0 k1 o0 o1 o2 of0 of1 of2
  generalize (((w0.setCell ⟨w.heap.size + 1 + 1, 0, none⟩ (.int .u8 171)).setCell ⟨w.heap.size + 1 + 1, 1, none⟩ (.int .u8 ki.1)).setCell ⟨w.heap.size + 1 + 1, 2, none⟩ (.int .u8 co.1)).drew = w1 at ho hp hr hb ⊢
  have HP := Lib.hid hp; have HR := Lib.hid hr; have HO := Lib.hid ho; have HB := Lib.hid hb
  clear hp hr ho hb
  obtain ⟨ds, hds⟩ : ∃ ds : List U8, ds = [d0, d1, d2, d3, d4, d5, d6, d7, d8, d9] := ⟨_, rfl⟩
  obtain ⟨L0, hL0⟩ : ∃ L0 : List Int, L0 = [171, ki.1, co.1, 0, 0, 0, 0, 0, 0, 0, 0, 0, 0, 0, 0, 0] := ⟨_, rfl⟩
  have HL0 : RowKit.Hid (L0.length = 16) := Lib.hid (by rw [hL0]; rfl)
  rw [← hL0] at HO
  have HDS : RowKit.Hid (∀ k, k < 10 → (#[.int .i64 ki.1, .int .i64 co.1, .int .u8 d0.1, .int .u8 d1.1, .int .u8 d2.1, .int .u8 d3.1, .int .u8 d4.1, .int .u8 d5.1, .int .u8 d6.1, .int .u8 d7.1, .int .u8 d8.1, .int .u8 d9.1] : Array Value)[2 + k]? = some (.int .u8 (ds.getD k u0).1)) := Lib.hid (fun k hk => by
    subst hds
    match k, hk with
    | 0, _ => rfl
    | 1, _ => rfl
    | 2, _ => rfl
    | 3, _ => rfl
    | 4, _ => rfl
    | 5, _ => rfl
    | 6, _ => rfl
    | 7, _ => rfl
    | 8, _ => rfl
    | 9, _ => rfl)
  have HEND : RowKit.Hid (putD ds 10 L0 = [171, ki.1, co.1, d0.1, d1.1, d2.1, d3.1, d4.1, d5.1, d6.1, d7.1, d8.1, d9.1, 0, 0, 0]) := Lib.hid (by subst hds; subst hL0; rfl)
  clear hds hL0
  go_wp2
  go_loopw [4] (fun v wr => ∃ k : Nat, k ≤ 10 ∧ v = .int .i64 k ∧ Blk wr (w.heap.size + 1 + 1) 85 (u8A (putD ds k L0)) ∧ Blk wr w.heap.size 89 #[.int .i64 ki.1, .int .i64 co.1, .int .u8 d0.1, .int .u8 d1.1, .int .u8 d2.1, .int .u8 d3.1, .int .u8 d4.1, .int .u8 d5.1, .int .u8 d6.1, .int .u8 d7.1, .int .u8 d8.1, .int .u8 d9.1] ∧ Blk wr (w.heap.size + 1) 85 #[.int .u8 0, .int .u8 0, .int .u8 0, .int .u8 0, .int .u8 0, .int .u8 0, .int .u8 0, .int .u8 0, .int .u8 0, .int .u8 0, .int .u8 0, .int .u8 0, .int .u8 0, .int .u8 0, .int .u8 0, .int .u8 0] ∧ Below w.heap.size w wr) (fun v _ => 10 - (intOf v).toNat)
  case atStart => exact ⟨0, by omega, rfl, HO.out, HP.out, HR.out, HB.out⟩
  case round =>
    obtain ⟨k, hk, rfl, ho, hp, hr, hb⟩ := hrel
    clear HO HP HR HB
    by_cases hlt : k < 10
    · have hlt' : (k : Int) < 10 := by omega
      obtain ⟨m, hm⟩ : ∃ m : Nat, (3 : Int) + k = m := ⟨3 + k, by omega⟩
      have hm16 : (m : Int) < 16 := by omega
      have hmk : m = 3 + k := by omega
      have q := (hp.cell (2 + k)).trans (HDS.out k hlt)
      have fo := ho.frozen m
      have z1 := hp.lt
      have z3 := ho.lt
      have ho2 := Lib.hid (blk_u8_set ho m (ds.getD k u0).1)
      have hp2 := Lib.hid (hp.far (p := ⟨w.heap.size + 1 + 1, m, none⟩) (by dsimp only; omega) (.int .u8 (ds.getD k u0).1))
      have hr2 := Lib.hid (hr.far (p := ⟨w.heap.size + 1 + 1, m, none⟩) (by dsimp only; omega) (.int .u8 (ds.getD k u0).1))
      have hb2 := Lib.hid (hb.setCell (p := ⟨w.heap.size + 1 + 1, m, none⟩) (by dsimp only; omega) (.int .u8 (ds.getD k u0).1))
      have HM := Lib.hid hmk
      have cw := (ho.cell m).trans (u8A_get (by rw [putD_len, HL0.out]; omega))
      clear ho hp hr hb hmk
      obtain ⟨y, hy⟩ : ∃ y, (ds.getD k u0).1 = y := ⟨_, rfl⟩
      rw [hy] at q ho2 hp2 hr2 hb2
      have HY := Lib.hid hy
      clear hy
      go_wp2
      go_roundw
      case rel => exact ⟨k + 1, by omega, by go_num, by (show Blk _ _ _ (u8A ((putD ds k L0).set (3 + k) (ds.getD k u0).1))); rw [HY.out, ← HM.out]; exact ho2.out, hp2.out, hr2.out, hb2.out⟩
      case measure => simp [intOf]; omega
    · have hk10 : k = 10 := by omega
      subst hk10
      have HP := Lib.hid hp; have HR := Lib.hid hr; have HB := Lib.hid hb
      rw [HEND.out] at ho
      obtain ⟨es, hes⟩ : ∃ es : List U8, es = [ki, co, d0, d1, d2, d3, d4, d5, d6, d7, d8, d9] := ⟨_, rfl⟩
      obtain ⟨L1, hL1⟩ : ∃ L1 : List Int, L1 = [171, ki.1, co.1, d0.1, d1.1, d2.1, d3.1, d4.1, d5.1, d6.1, d7.1, d8.1, d9.1, 0, 0, 0] := ⟨_, rfl⟩
      have HL1 : RowKit.Hid (L1.length = 16) := Lib.hid (by rw [hL1]; rfl)
      have HEL : RowKit.Hid (es.length = 12) := Lib.hid (by rw [hes]; rfl)
      have HST : RowKit.Hid (L1.set 13 (xorF (es.take 0) 0) = L1) := Lib.hid (by subst hL1; rfl)
      rw [← hL1] at ho
      have HES : RowKit.Hid (∀ i, 1 ≤ i → i < 13 → L1.getD i 0 = (es.getD (i - 1) u0).1) := Lib.hid (fun i h1 h2 => by
        subst hes; subst hL1
        match i, h1, h2 with
        | 1, _, _ => rfl
        | 2, _, _ => rfl
        | 3, _, _ => rfl
        | 4, _, _ => rfl
        | 5, _, _ => rfl
        | 6, _, _ => rfl
        | 7, _, _ => rfl
        | 8, _, _ => rfl
        | 9, _, _ => rfl
        | 10, _, _ => rfl
        | 11, _, _ => rfl
        | 12, _, _ => rfl)
      have HL1E := Lib.hid hL1; have HESE := Lib.hid hes
      have HO := Lib.hid ho
      clear hL1 hes ho hp hr hb HDS HEND HL0
      go_wp2
      go_loopw [5] (fun v wr => ∃ i : Nat, 1 ≤ i ∧ i ≤ 13 ∧ v = .int .i64 i ∧ Blk wr (w.heap.size + 1 + 1) 85 (u8A (L1.set 13 (xorF (es.take (i - 1)) 0))) ∧ Blk wr (w.heap.size + 1) 85 #[.int .u8 0, .int .u8 0, .int .u8 0, .int .u8 0, .int .u8 0, .int .u8 0, .int .u8 0, .int .u8 0, .int .u8 0, .int .u8 0, .int .u8 0, .int .u8 0, .int .u8 0, .int .u8 0, .int .u8 0, .int .u8 0] ∧ Below w.heap.size w wr) (fun v _ => 13 - (intOf v).toNat)
      case atStart => exact ⟨1, by omega, by omega, rfl, by rw [HST.out]; exact HO.out, HR.out, HB.out⟩
      case round =>
        clear HO HP HR HB
        obtain ⟨i, hi1, hi2, rfl, ho, hr, hb⟩ := hrel
        by_cases hlt : i < 13
        · have hlt' : (i : Int) < 13 := by omega
          obtain ⟨X, hX⟩ : ∃ X, xorF (es.take (i - 1)) 0 = X := ⟨_, rfl⟩
          obtain ⟨Y, hY⟩ : ∃ Y, (es.getD (i - 1) u0).1 = Y := ⟨_, rfl⟩
          have HXY : RowKit.Hid (xorF (es.take (i + 1 - 1)) 0 = bits .xor .u8 X Y) := Lib.hid (by
            have e : es.take (i + 1 - 1) = es.take (i - 1) ++ [es.getD (i - 1) u0] := by
              have e1 : i + 1 - 1 = (i - 1) + 1 := by omega
              have e2 : i - 1 < es.length := by rw [HEL.out]; omega
              rw [e1, List.take_succ_eq_append_getElem e2]
              simp [List.getD, e2]
            rw [e, xorF_snoc, hX, hY])
          rw [hX] at ho
          have q13 : wr.cell? ⟨w.heap.size + 1 + 1, 13, none⟩ = some (.int .u8 X) := (blk_u8_get ho (i := 13) (by rw [List.length_set, HL1.out]; omega)).trans (by simp [List.getD, HL1.out])
          have qi : wr.cell? ⟨w.heap.size + 1 + 1, i, none⟩ = some (.int .u8 Y) := (blk_u8_get ho (i := i) (by rw [List.length_set, HL1.out]; omega)).trans (by
            have h := HES.out i hi1 hlt
            rw [hY] at h
            rw [← h]
            have hne : ¬ 13 = i := by omega
            simp [List.getD, hne])
          have f13 := ho.frozen 13
          have z3 := ho.lt
          have ho2 : RowKit.Hid (Blk (wr.setCell ⟨w.heap.size + 1 + 1, 13, none⟩ (.int .u8 (bits .xor .u8 X Y))) (w.heap.size + 1 + 1) 85 (u8A (L1.set 13 (bits .xor .u8 X Y)))) := Lib.hid (by
            have h := blk_u8_set ho 13 (bits .xor .u8 X Y)
            rwa [List.set_set] at h)
          have hr2 := Lib.hid (hr.far (p := ⟨w.heap.size + 1 + 1, 13, none⟩) (by dsimp only; omega) (.int .u8 (bits .xor .u8 X Y)))
          have hb2 := Lib.hid (hb.setCell (p := ⟨w.heap.size + 1 + 1, 13, none⟩) (by dsimp only; omega) (.int .u8 (bits .xor .u8 X Y)))
          clear ho hr hb hX hY
          have hi16 : (i : Int) < 16 := by omega
          go_wp2
          go_region
          go_wp2
          go_roundw
          case rel => exact ⟨i + 1, by omega, by omega, by go_num, by rw [HXY.out]; exact ho2.out, hr2.out, hb2.out.drew⟩
          case measure => simp [intOf]; omega
        · have hi13 : i = 13 := by omega
          subst hi13
          obtain ⟨P, hP⟩ : ∃ P : U8, xorF es 0 = P.1 := ⟨⟨xorF es 0, xorF_bd es 0 (by decide)⟩, rfl⟩
          have e12 : es.take (13 - 1) = es := List.take_of_length_le (by rw [HEL.out]; omega)
          rw [e12, hP, HL1E.out] at ho
          rw [HESE.out] at hP
          have HP := Lib.hid hP
          have ho' : Blk wr (w.heap.size + 1 + 1) 85 #[.int .u8 171, .int .u8 ki.1, .int .u8 co.1, .int .u8 d0.1, .int .u8 d1.1, .int .u8 d2.1, .int .u8 d3.1, .int .u8 d4.1, .int .u8 d5.1, .int .u8 d6.1, .int .u8 d7.1, .int .u8 d8.1, .int .u8 d9.1, .int .u8 P.1, .int .u8 0, .int .u8 0] := ho
          have HBR := Lib.hid (brd_of_blk ho' (off := 0) (bs := [u171, ki, co, d0, d1, d2, d3, d4, d5, d6, d7, d8, d9, P]) [.int .u8 0, .int .u8 0] rfl)
          have HO := Lib.hid ho'; have HR := Lib.hid hr; have HB := Lib.hid hb
          have z3 := ho'.lt
          clear ho ho' hr hb hP e12 HL1 HEL HST HES HL1E HESE
          go_wp2_with fail
          refine (checkRef_any (some ⟨w.heap.size + 1 + 1, 0, none⟩) 16 [u171, ki, co, d0, d1, d2, d3, d4, d5, d6, d7, d8, d9, P] (by simp) wr HBR.out).mono ?_
          rintro e w6 ⟨rfl, rfl⟩
          obtain ⟨S, hS⟩ : ∃ S, rollF 251 65521 [u171, ki, co, d0, d1, d2, d3, d4, d5, d6, d7, d8, d9, P] 1 = S := ⟨_, rfl⟩
          have hSb := rollF_bd 251 65521 (by omega) [u171, ki, co, d0, d1, d2, d3, d4, d5, d6, d7, d8, d9, P] 1 (by omega)
          rw [hS] at hSb ⊢
          have HS := Lib.hid hS
          clear hS
          have ho := HO.out; have hr := HR.out
          have g0 := ho.cell 0
          have g1 := ho.cell 1
          have g2 := ho.cell 2
          have g3 := ho.cell 3
          have g4 := ho.cell 4
          have g5 := ho.cell 5
          have g6 := ho.cell 6
          have g7 := ho.cell 7
          have g8 := ho.cell 8
          have g9 := ho.cell 9
          have g10 := ho.cell 10
          have g11 := ho.cell 11
          have g12 := ho.cell 12
          have g13 := ho.cell 13
          have g14 := ho.cell 14
          have g15 := ho.cell 15
          simp only [List.getElem?_toArray, List.getElem?_cons_zero, List.getElem?_cons_succ] at g0 g1 g2 g3 g4 g5 g6 g7 g8 g9 g10 g11 g12 g13 g14 g15
          have e0 := hr.cell 0
          have e1 := hr.cell 1
          have e2 := hr.cell 2
          have e3 := hr.cell 3
          have e4 := hr.cell 4
          have e5 := hr.cell 5
          have e6 := hr.cell 6
          have e7 := hr.cell 7
          have e8 := hr.cell 8
          have e9 := hr.cell 9
          have e10 := hr.cell 10
          have e11 := hr.cell 11
          have e12 := hr.cell 12
          have e13 := hr.cell 13
          have e14 := hr.cell 14
          have e15 := hr.cell 15
          simp only [List.getElem?_toArray, List.getElem?_cons_zero, List.getElem?_cons_succ] at e0 e1 e2 e3 e4 e5 e6 e7 e8 e9 e10 e11 e12 e13 e14 e15
          have ef0 := hr.frozen 0
          have ef1 := hr.frozen 1
          have ef2 := hr.frozen 2
          have ef3 := hr.frozen 3
          have ef4 := hr.frozen 4
          have ef5 := hr.frozen 5
          have ef6 := hr.frozen 6
          have ef7 := hr.frozen 7
          have ef8 := hr.frozen 8
          have ef9 := hr.frozen 9
          have ef10 := hr.frozen 10
          have ef11 := hr.frozen 11
          have ef12 := hr.frozen 12
          have ef13 := hr.frozen 13
          have ef14 := hr.frozen 14
          have ef15 := hr.frozen 15
          have f14 := ho.frozen 14
          have f15 := ho.frozen 15
          have z2 := hr.lt
          clear ho hr HBR HO HR
          go_wp2
          refine bodyPost_ret (v := .agg #[.int .u8 171, .int .u8 ki.1, .int .u8 co.1, .int .u8 d0.1, .int .u8 d1.1, .int .u8 d2.1, .int .u8 d3.1, .int .u8 d4.1, .int .u8 d5.1, .int .u8 d6.1, .int .u8 d7.1, .int .u8 d8.1, .int .u8 d9.1, .int .u8 P.1, .int .u8 (S / 256), .int .u8 (S % 256)]) (by simp [results, Tryz.results70, go_sem, e0, e1, e2, e3, e4, e5, e6, e7, e8, e9, e10, e11, e12, e13, e14, e15]) rfl ⟨P, S, HP.out, HS.out, rfl, ?_⟩
          exact ((((((((((((((((((HB.out.setCell (p := ⟨w.heap.size + 1 + 1, 14, none⟩) (by simp; omega) _).setCell (p := ⟨w.heap.size + 1 + 1, 15, none⟩) (by simp; omega) _).setCell (p := ⟨w.heap.size + 1, 0, none⟩) (by simp) _).setCell (p := ⟨w.heap.size + 1, 1, none⟩) (by simp) _).setCell (p := ⟨w.heap.size + 1, 2, none⟩) (by simp) _).setCell (p := ⟨w.heap.size + 1, 3, none⟩) (by simp) _).setCell (p := ⟨w.heap.size + 1, 4, none⟩) (by simp) _).setCell (p := ⟨w.heap.size + 1, 5, none⟩) (by simp) _).setCell (p := ⟨w.heap.size + 1, 6, none⟩) (by simp) _).setCell (p := ⟨w.heap.size + 1, 7, none⟩) (by simp) _).setCell (p := ⟨w.heap.size + 1, 8, none⟩) (by simp) _).setCell (p := ⟨w.heap.size + 1, 9, none⟩) (by simp) _).setCell (p := ⟨w.heap.size + 1, 10, none⟩) (by simp) _).setCell (p := ⟨w.heap.size + 1, 11, none⟩) (by simp) _).setCell (p := ⟨w.heap.size + 1, 12, none⟩) (by simp) _).setCell (p := ⟨w.heap.size + 1, 13, none⟩) (by simp) _).setCell (p := ⟨w.heap.size + 1, 14, none⟩) (by simp) _).setCell (p := ⟨w.heap.size + 1, 15, none⟩) (by simp) _)
end Go.Proofs.YtkjkjhheckfhbaaGreatDoor
