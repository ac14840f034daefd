/- The reference's packet of a frame. -/
import Derived.Test.YtkjkjhheckfhbaaGreatDoorGb
import Derived.Test.YtkjkjhheckfhbaaGreatDoorPF
import Derived.Test.YtkjkjhheckfhbaaGreatDoorPF
import Derived.Test.YtkjkjhheckfhbaaGreatDoorRe
namespace Go.Proofs.YtkjkjhheckfhbaaGreatDoor
open Go.RowKit
set_option linter.unusedVariables false
attribute [local go_sem] run_neq_struct
/-- The cells of a packet, with the first k bytes of the data put in. -/
def putP (ds : List U8) : Nat → List Value → List Value
  | 0, c => c
  | k + 1, c => (putP ds k c).set (2 + k) (.int .u8 (ds.getD k u0).1)
theorem putP_len (ds : List U8) (k : Nat) (l : List Value) : (putP ds k l).length = l.length := by
  induction k with
  | zero => rfl
  | succ k ih => unfold putP; rw [List.length_set, ih]
theorem blk_l_set {w : World} {g : Nat} {t : TypeId} {l : List Value} (h : Blk w g t l.toArray) (i : Nat) (v : Value) : Blk (w.setCell ⟨g, i, none⟩ v) g t (l.set i v).toArray := by
  have e : (l.set i v).toArray = l.toArray.setIfInBounds i v := by simp
  rw [e]; exact h.set_ i v
set_option maxRecDepth 100000 in
set_option maxHeartbeats 1000000 in
theorem decodeR_form (f0 f1 f2 f3 f4 f5 f6 f7 f8 f9 f10 f11 f12 f13 f14 f15 : U8) (h0 : f0.1 ≠ 171) (w : World) : Calls Tryz.prog 72 #[.agg #[.int .u8 f0.1, .int .u8 f1.1, .int .u8 f2.1, .int .u8 f3.1, .int .u8 f4.1, .int .u8 f5.1, .int .u8 f6.1, .int .u8 f7.1, .int .u8 f8.1, .int .u8 f9.1, .int .u8 f10.1, .int .u8 f11.1, .int .u8 f12.1, .int .u8 f13.1, .int .u8 f14.1, .int .u8 f15.1]] w fun e w' => e = .returned (.tuple #[.agg #[.int .i64 0, .int .i64 0, .int .u8 0, .int .u8 0, .int .u8 0, .int .u8 0, .int .u8 0, .int .u8 0, .int .u8 0, .int .u8 0, .int .u8 0, .int .u8 0], .int .i64 1]) ∧ Below w.heap.size w w' := by
  have h0' : (f0.1 != 171) = true := by simpa using h0
  clear h0
  go_enter Tryz.func72, Tryz.ntmps72
  go_upto_region 1 with fail
  have hs := (Blk.new w 85 #[.int .u8 f0.1, .int .u8 f1.1, .int .u8 f2.1, .int .u8 f3.1, .int .u8 f4.1, .int .u8 f5.1, .int .u8 f6.1, .int .u8 f7.1, .int .u8 f8.1, .int .u8 f9.1, .int .u8 f10.1, .int .u8 f11.1, .int .u8 f12.1, .int .u8 f13.1, .int .u8 f14.1, .int .u8 f15.1]).alloc (.cells #[.int .i64 0, .int .i64 0, .int .u8 0, .int .u8 0, .int .u8 0, .int .u8 0, .int .u8 0, .int .u8 0, .int .u8 0, .int .u8 0, .int .u8 0, .int .u8 0] 89)
  have hr := Blk.new (w.alloc (.cells #[.int .u8 f0.1, .int .u8 f1.1, .int .u8 f2.1, .int .u8 f3.1, .int .u8 f4.1, .int .u8 f5.1, .int .u8 f6.1, .int .u8 f7.1, .int .u8 f8.1, .int .u8 f9.1, .int .u8 f10.1, .int .u8 f11.1, .int .u8 f12.1, .int .u8 f13.1, .int .u8 f14.1, .int .u8 f15.1] 85)) 89 #[.int .i64 0, .int .i64 0, .int .u8 0, .int .u8 0, .int .u8 0, .int .u8 0, .int .u8 0, .int .u8 0, .int .u8 0, .int .u8 0, .int .u8 0, .int .u8 0]
  have hb := (((Below.refl w.heap.size w).alloc (Nat.le_refl _) (.cells #[.int .u8 f0.1, .int .u8 f1.1, .int .u8 f2.1, .int .u8 f3.1, .int .u8 f4.1, .int .u8 f5.1, .int .u8 f6.1, .int .u8 f7.1, .int .u8 f8.1, .int .u8 f9.1, .int .u8 f10.1, .int .u8 f11.1, .int .u8 f12.1, .int .u8 f13.1, .int .u8 f14.1, .int .u8 f15.1] 85)).alloc (by simp only [World.size_alloc]; omega) (.cells #[.int .i64 0, .int .i64 0, .int .u8 0, .int .u8 0, .int .u8 0, .int .u8 0, .int .u8 0, .int .u8 0, .int .u8 0, .int .u8 0, .int .u8 0, .int .u8 0] 89))
  simp only [World.size_alloc] at hr
  generalize ((w.alloc (.cells #[.int .u8 f0.1, .int .u8 f1.1, .int .u8 f2.1, .int .u8 f3.1, .int .u8 f4.1, .int .u8 f5.1, .int .u8 f6.1, .int .u8 f7.1, .int .u8 f8.1, .int .u8 f9.1, .int .u8 f10.1, .int .u8 f11.1, .int .u8 f12.1, .int .u8 f13.1, .int .u8 f14.1, .int .u8 f15.1] 85)).alloc (.cells #[.int .i64 0, .int .i64 0, .int .u8 0, .int .u8 0, .int .u8 0, .int .u8 0, .int .u8 0, .int .u8 0, .int .u8 0, .int .u8 0, .int .u8 0, .int .u8 0] 89)) = w0 at hs hr hb ⊢
  have k0 : w0.cell? ⟨w.heap.size, 0, none⟩ = some (.int .u8 f0.1) := hs.cell 0
  have z1 := hs.lt
  have z2 := hr.lt
  have e0 := hr.cell 0
  have e1 := hr.cell 1
  have e2 := hr.cell 2
  have e3 := hr.cell 3
  have e4 := hr.cell 4
  have e5 := hr.cell 5
  have e6 := hr.cell 6
  have e7 := hr.cell 7
  have e8 := hr.cell 8
  have e9 := hr.cell 9
  have e10 := hr.cell 10
  have e11 := hr.cell 11
  simp only [List.getElem?_toArray, List.getElem?_cons_zero, List.getElem?_cons_succ] at e0 e1 e2 e3 e4 e5 e6 e7 e8 e9 e10 e11
  have ef0 := hr.frozen 0
  have ef1 := hr.frozen 1
  have ef2 := hr.frozen 2
  have ef3 := hr.frozen 3
  have ef4 := hr.frozen 4
  have ef5 := hr.frozen 5
  have ef6 := hr.frozen 6
  have ef7 := hr.frozen 7
  have ef8 := hr.frozen 8
  have ef9 := hr.frozen 9
  have ef10 := hr.frozen 10
  have ef11 := hr.frozen 11
  have HB := Lib.hid hb
  clear hs hr hb
  go_wp2
  refine bodyPost_ret (v := .tuple #[.agg #[.int .i64 0, .int .i64 0, .int .u8 0, .int .u8 0, .int .u8 0, .int .u8 0, .int .u8 0, .int .u8 0, .int .u8 0, .int .u8 0, .int .u8 0, .int .u8 0], .int .i64 1]) (by simp [results, Tryz.results72, go_sem, e0, e1, e2, e3, e4, e5, e6, e7, e8, e9, e10, e11]) rfl ⟨rfl, ?_⟩
  exact ((((((((((((HB.out.setCell (p := ⟨w.heap.size + 1, 0, none⟩) (by simp) _).setCell (p := ⟨w.heap.size + 1, 1, none⟩) (by simp) _).setCell (p := ⟨w.heap.size + 1, 2, none⟩) (by simp) _).setCell (p := ⟨w.heap.size + 1, 3, none⟩) (by simp) _).setCell (p := ⟨w.heap.size + 1, 4, none⟩) (by simp) _).setCell (p := ⟨w.heap.size + 1, 5, none⟩) (by simp) _).setCell (p := ⟨w.heap.size + 1, 6, none⟩) (by simp) _).setCell (p := ⟨w.heap.size + 1, 7, none⟩) (by simp) _).setCell (p := ⟨w.heap.size + 1, 8, none⟩) (by simp) _).setCell (p := ⟨w.heap.size + 1, 9, none⟩) (by simp) _).setCell (p := ⟨w.heap.size + 1, 10, none⟩) (by simp) _).setCell (p := ⟨w.heap.size + 1, 11, none⟩) (by simp) _)
set_option maxRecDepth 100000 in
set_option maxHeartbeats 1000000 in
theorem decodeR_sync (f1 f2 f3 f4 f5 f6 f7 f8 f9 f10 f11 f12 f13 f14 f15 : U8) (w : World) : Calls Tryz.prog 72 #[.agg #[.int .u8 171, .int .u8 f1.1, .int .u8 f2.1, .int .u8 f3.1, .int .u8 f4.1, .int .u8 f5.1, .int .u8 f6.1, .int .u8 f7.1, .int .u8 f8.1, .int .u8 f9.1, .int .u8 f10.1, .int .u8 f11.1, .int .u8 f12.1, .int .u8 f13.1, .int .u8 f14.1, .int .u8 f15.1]] w fun e w' => ∃ (P : U8) (S : Int), xorF [f1, f2, f3, f4, f5, f6, f7, f8, f9, f10, f11, f12] 0 = P.1 ∧ rollF 251 65521 [u171, f1, f2, f3, f4, f5, f6, f7, f8, f9, f10, f11, f12, P] 1 = S ∧ ((goodEnd P S f13 f14 f15 ∧ e = .returned (.tuple #[.agg #[.int .i64 f1.1, .int .i64 f2.1, .int .u8 f3.1, .int .u8 f4.1, .int .u8 f5.1, .int .u8 f6.1, .int .u8 f7.1, .int .u8 f8.1, .int .u8 f9.1, .int .u8 f10.1, .int .u8 f11.1, .int .u8 f12.1], .int .i64 0])) ∨ (¬ goodEnd P S f13 f14 f15 ∧ e = .returned (.tuple #[.agg #[.int .i64 0, .int .i64 0, .int .u8 0, .int .u8 0, .int .u8 0, .int .u8 0, .int .u8 0, .int .u8 0, .int .u8 0, .int .u8 0, .int .u8 0, .int .u8 0], .int .i64 27]))) ∧ Below w.heap.size w w' := by
  go_enter Tryz.func72, Tryz.ntmps72
  go_upto_region 1 with fail
  have hs := (Blk.new w 85 #[.int .u8 171, .int .u8 f1.1, .int .u8 f2.1, .int .u8 f3.1, .int .u8 f4.1, .int .u8 f5.1, .int .u8 f6.1, .int .u8 f7.1, .int .u8 f8.1, .int .u8 f9.1, .int .u8 f10.1, .int .u8 f11.1, .int .u8 f12.1, .int .u8 f13.1, .int .u8 f14.1, .int .u8 f15.1]).alloc (.cells #[.int .i64 0, .int .i64 0, .int .u8 0, .int .u8 0, .int .u8 0, .int .u8 0, .int .u8 0, .int .u8 0, .int .u8 0, .int .u8 0, .int .u8 0, .int .u8 0] 89)
  have hr := Blk.new (w.alloc (.cells #[.int .u8 171, .int .u8 f1.1, .int .u8 f2.1, .int .u8 f3.1, .int .u8 f4.1, .int .u8 f5.1, .int .u8 f6.1, .int .u8 f7.1, .int .u8 f8.1, .int .u8 f9.1, .int .u8 f10.1, .int .u8 f11.1, .int .u8 f12.1, .int .u8 f13.1, .int .u8 f14.1, .int .u8 f15.1] 85)) 89 #[.int .i64 0, .int .i64 0, .int .u8 0, .int .u8 0, .int .u8 0, .int .u8 0, .int .u8 0, .int .u8 0, .int .u8 0, .int .u8 0, .int .u8 0, .int .u8 0]
  have hb := (((Below.refl w.heap.size w).alloc (Nat.le_refl _) (.cells #[.int .u8 171, .int .u8 f1.1, .int .u8 f2.1, .int .u8 f3.1, .int .u8 f4.1, .int .u8 f5.1, .int .u8 f6.1, .int .u8 f7.1, .int .u8 f8.1, .int .u8 f9.1, .int .u8 f10.1, .int .u8 f11.1, .int .u8 f12.1, .int .u8 f13.1, .int .u8 f14.1, .int .u8 f15.1] 85)).alloc (by simp only [World.size_alloc]; omega) (.cells #[.int .i64 0, .int .i64 0, .int .u8 0, .int .u8 0, .int .u8 0, .int .u8 0, .int .u8 0, .int .u8 0, .int .u8 0, .int .u8 0, .int .u8 0, .int .u8 0] 89))
  simp only [World.size_alloc] at hr
  generalize ((w.alloc (.cells #[.int .u8 171, .int .u8 f1.1, .int .u8 f2.1, .int .u8 f3.1, .int .u8 f4.1, .int .u8 f5.1, .int .u8 f6.1, .int .u8 f7.1, .int .u8 f8.1, .int .u8 f9.1, .int .u8 f10.1, .int .u8 f11.1, .int .u8 f12.1, .int .u8 f13.1, .int .u8 f14.1, .int .u8 f15.1] 85)).alloc (.cells #[.int .i64 0, .int .i64 0, .int .u8 0, .int .u8 0, .int .u8 0, .int .u8 0, .int .u8 0, .int .u8 0, .int .u8 0, .int .u8 0, .int .u8 0, .int .u8 0] 89)) = w0 at hs hr hb ⊢
  have k0 := hs.cell 0
  have k1 := hs.cell 1
  have k2 := hs.cell 2
  have k3 := hs.cell 3
  have k4 := hs.cell 4
  have k5 := hs.cell 5
  have k6 := hs.cell 6
  have k7 := hs.cell 7
  have k8 := hs.cell 8
  have k9 := hs.cell 9
  have k10 := hs.cell 10
  have k11 := hs.cell 11
  have k12 := hs.cell 12
  have k13 := hs.cell 13
  have k14 := hs.cell 14
  have k15 := hs.cell 15
  simp only [List.getElem?_toArray, List.getElem?_cons_zero, List.getElem?_cons_succ] at k0 k1 k2 k3 k4 k5 k6 k7 k8 k9 k10 k11 k12 k13 k14 k15
  have z1 := hs.lt
  have HS := Lib.hid hs; have HR := Lib.hid hr; have HB := Lib.hid hb
  clear hs hr hb k3 k4 k5 k6 k7 k8 k9 k10 k11 k12 k13 k14 k15
  go_upto_region 4 with fail
  have hp := Blk.new w0 89 #[.int .i64 f1.1, .int .i64 f2.1, .int .u8 0, .int .u8 0, .int .u8 0, .int .u8 0, .int .u8 0, .int .u8 0, .int .u8 0, .int .u8 0, .int .u8 0, .int .u8 0]
  have hs := HS.out.alloc (.cells #[.int .i64 f1.1, .int .i64 f2.1, .int .u8 0, .int .u8 0, .int .u8 0, .int .u8 0, .int .u8 0, .int .u8 0, .int .u8 0, .int .u8 0, .int .u8 0, .int .u8 0] 89)
  have hr := HR.out.alloc (.cells #[.int .i64 f1.1, .int .i64 f2.1, .int .u8 0, .int .u8 0, .int .u8 0, .int .u8 0, .int .u8 0, .int .u8 0, .int .u8 0, .int .u8 0, .int .u8 0, .int .u8 0] 89)
  have hb := HB.out.alloc HB.out.size (.cells #[.int .i64 f1.1, .int .i64 f2.1, .int .u8 0, .int .u8 0, .int .u8 0, .int .u8 0, .int .u8 0, .int .u8 0, .int .u8 0, .int .u8 0, .int .u8 0, .int .u8 0] 89)
  have z2 := HR.out.lt
  obtain ⟨gp, hgp⟩ : ∃ g, w0.heap.size = g := ⟨_, rfl⟩
  rw [hgp] at hp z1 z2 ⊢
  generalize w0.alloc (.cells #[.int .i64 f1.1, .int .i64 f2.1, .int .u8 0, .int .u8 0, .int .u8 0, .int .u8 0, .int .u8 0, .int .u8 0, .int .u8 0, .int .u8 0, .int .u8 0, .int .u8 0] 89) = w1 at hp hs hr hb ⊢
  clear hgp HS HR HB k0 k1 k2
  obtain ⟨ds, hds⟩ : ∃ ds : List U8, ds = [f3, f4, f5, f6, f7, f8, f9, f10, f11, f12] := ⟨_, rfl⟩
  obtain ⟨C0, hC0⟩ : ∃ C0 : List Value, C0 = [.int .i64 f1.1, .int .i64 f2.1, .int .u8 0, .int .u8 0, .int .u8 0, .int .u8 0, .int .u8 0, .int .u8 0, .int .u8 0, .int .u8 0, .int .u8 0, .int .u8 0] := ⟨_, rfl⟩
  have hp : Blk w1 gp 89 C0.toArray := by rw [hC0]; exact hp
  have HDS : RowKit.Hid (∀ k, k < 10 → (#[.int .u8 171, .int .u8 f1.1, .int .u8 f2.1, .int .u8 f3.1, .int .u8 f4.1, .int .u8 f5.1, .int .u8 f6.1, .int .u8 f7.1, .int .u8 f8.1, .int .u8 f9.1, .int .u8 f10.1, .int .u8 f11.1, .int .u8 f12.1, .int .u8 f13.1, .int .u8 f14.1, .int .u8 f15.1] : Array Value)[3 + k]? = some (.int .u8 (ds.getD k u0).1)) := Lib.hid (fun k hk => by
    subst hds
    match k, hk with
    | 0, _ => rfl
    | 1, _ => rfl
    | 2, _ => rfl
    | 3, _ => rfl
    | 4, _ => rfl
    | 5, _ => rfl
    | 6, _ => rfl
    | 7, _ => rfl
    | 8, _ => rfl
    | 9, _ => rfl)
  have HC0L : RowKit.Hid (C0.length = 12) := Lib.hid (by rw [hC0]; rfl)
  have HEND : RowKit.Hid (putP ds 10 C0 = [.int .i64 f1.1, .int .i64 f2.1, .int .u8 f3.1, .int .u8 f4.1, .int .u8 f5.1, .int .u8 f6.1, .int .u8 f7.1, .int .u8 f8.1, .int .u8 f9.1, .int .u8 f10.1, .int .u8 f11.1, .int .u8 f12.1]) := Lib.hid (by subst hds; subst hC0; rfl)
  have HP := Lib.hid hp; have HS := Lib.hid hs; have HR := Lib.hid hr; have HB := Lib.hid hb
  clear hds hC0 hp hs hr hb
  go_wp2
  go_loopw [5] (fun v wr => ∃ k : Nat, k ≤ 10 ∧ v = .int .i64 k ∧ Blk wr gp 89 (putP ds k C0).toArray ∧ Blk wr w.heap.size 85 #[.int .u8 171, .int .u8 f1.1, .int .u8 f2.1, .int .u8 f3.1, .int .u8 f4.1, .int .u8 f5.1, .int .u8 f6.1, .int .u8 f7.1, .int .u8 f8.1, .int .u8 f9.1, .int .u8 f10.1, .int .u8 f11.1, .int .u8 f12.1, .int .u8 f13.1, .int .u8 f14.1, .int .u8 f15.1] ∧ Blk wr (w.heap.size + 1) 89 #[.int .i64 0, .int .i64 0, .int .u8 0, .int .u8 0, .int .u8 0, .int .u8 0, .int .u8 0, .int .u8 0, .int .u8 0, .int .u8 0, .int .u8 0, .int .u8 0] ∧ Below w.heap.size w wr) (fun v _ => 10 - (intOf v).toNat)
  case atStart => exact ⟨0, by omega, rfl, HP.out, HS.out, HR.out, HB.out⟩
  case round =>
    obtain ⟨k, hk, rfl, hp, hs, hr, hb⟩ := hrel
    clear HP HS HR HB
    by_cases hlt : k < 10
    · have hlt' : (k : Int) < 10 := by omega
      obtain ⟨m, hm⟩ : ∃ m : Nat, (3 : Int) + k = m := ⟨3 + k, by omega⟩
      have hm16 : (m : Int) < 16 := by omega
      have hmk : m = 3 + k := by omega
      have q : wr.cell? ⟨w.heap.size, m, none⟩ = some (.int .u8 (ds.getD k u0).1) := by rw [hmk]; exact (hs.cell (3 + k)).trans (HDS.out k hlt)
      have fo := hp.frozen (2 + k)
      obtain ⟨x, cw⟩ : ∃ x, wr.cell? ⟨gp, 2 + k, none⟩ = some x := ⟨_, (hp.cell (2 + k)).trans (by rw [List.getElem?_toArray]; exact List.getElem?_eq_getElem (by rw [putP_len, HC0L.out]; omega))⟩
      have y1 := hs.lt
      have y3 := hp.lt
      have hp2 : RowKit.Hid (Blk (wr.setCell ⟨gp, 2 + k, none⟩ (.int .u8 (ds.getD k u0).1)) gp 89 (putP ds (k + 1) C0).toArray) := Lib.hid (blk_l_set hp (2 + k) (.int .u8 (ds.getD k u0).1))
      have hs2 := Lib.hid (hs.far (p := ⟨gp, 2 + k, none⟩) (by dsimp only; omega) (.int .u8 (ds.getD k u0).1))
      have hr2 := Lib.hid (hr.far (p := ⟨gp, 2 + k, none⟩) (by dsimp only; omega) (.int .u8 (ds.getD k u0).1))
      have hb2 := Lib.hid (hb.setCell (p := ⟨gp, 2 + k, none⟩) (by dsimp only; omega) (.int .u8 (ds.getD k u0).1))
      clear hp hs hr hb hmk
      generalize (ds.getD k u0).1 = y at q hp2 hs2 hr2 hb2
      go_wp2
      go_roundw
      case rel => exact ⟨k + 1, by omega, by go_num, hp2.out, hs2.out, hr2.out, hb2.out⟩
      case measure => simp [intOf]; omega
    · have hk10 : k = 10 := by omega
      subst hk10
      rw [HEND.out] at hp
      have c0 := hp.cell 0
      have c1 := hp.cell 1
      have c2 := hp.cell 2
      have c3 := hp.cell 3
      have c4 := hp.cell 4
      have c5 := hp.cell 5
      have c6 := hp.cell 6
      have c7 := hp.cell 7
      have c8 := hp.cell 8
      have c9 := hp.cell 9
      have c10 := hp.cell 10
      have c11 := hp.cell 11
      simp only [List.getElem?_toArray, List.getElem?_cons_zero, List.getElem?_cons_succ] at c0 c1 c2 c3 c4 c5 c6 c7 c8 c9 c10 c11
      have s0 := hs.cell 0
      have s1 := hs.cell 1
      have s2 := hs.cell 2
      have s3 := hs.cell 3
      have s4 := hs.cell 4
      have s5 := hs.cell 5
      have s6 := hs.cell 6
      have s7 := hs.cell 7
      have s8 := hs.cell 8
      have s9 := hs.cell 9
      have s10 := hs.cell 10
      have s11 := hs.cell 11
      have s12 := hs.cell 12
      have s13 := hs.cell 13
      have s14 := hs.cell 14
      have s15 := hs.cell 15
      simp only [List.getElem?_toArray, List.getElem?_cons_zero, List.getElem?_cons_succ] at s0 s1 s2 s3 s4 s5 s6 s7 s8 s9 s10 s11 s12 s13 s14 s15
      have y1 := hs.lt
      have y3 := hp.lt
      have HR := Lib.hid hr; have HB := Lib.hid hb; have HPB := Lib.hid hp
      clear hp hs hr hb HEND HDS
      obtain ⟨P, hP⟩ : ∃ P : U8, xorF [f1, f2, f3, f4, f5, f6, f7, f8, f9, f10, f11, f12] 0 = P.1 := ⟨⟨xorF [f1, f2, f3, f4, f5, f6, f7, f8, f9, f10, f11, f12] 0, xorF_bd [f1, f2, f3, f4, f5, f6, f7, f8, f9, f10, f11, f12] 0 (by decide)⟩, rfl⟩
      obtain ⟨S, hS⟩ : ∃ S, rollF 251 65521 [u171, f1, f2, f3, f4, f5, f6, f7, f8, f9, f10, f11, f12, P] 1 = S := ⟨_, rfl⟩
      have HENC : RowKit.Hid (∀ w, Calls Tryz.prog 70 #[.agg #[.int .i64 f1.1, .int .i64 f2.1, .int .u8 f3.1, .int .u8 f4.1, .int .u8 f5.1, .int .u8 f6.1, .int .u8 f7.1, .int .u8 f8.1, .int .u8 f9.1, .int .u8 f10.1, .int .u8 f11.1, .int .u8 f12.1]] w fun e w' => e = .returned (.agg #[.int .u8 171, .int .u8 f1.1, .int .u8 f2.1, .int .u8 f3.1, .int .u8 f4.1, .int .u8 f5.1, .int .u8 f6.1, .int .u8 f7.1, .int .u8 f8.1, .int .u8 f9.1, .int .u8 f10.1, .int .u8 f11.1, .int .u8 f12.1, .int .u8 P.1, .int .u8 (S / 256), .int .u8 (S % 256)]) ∧ Below w.heap.size w w') := Lib.hid (fun w => (encodeR_ok f1 f2 f3 f4 f5 f6 f7 f8 f9 f10 f11 f12 w).mono (by
        rintro e w' ⟨P', S', hP', hS', rfl, hb⟩
        have e1 : P' = P := Subtype.ext (hP'.symm.trans hP)
        subst e1
        rw [hS] at hS'
        subst hS'
        exact ⟨rfl, hb⟩))
      have HPP := Lib.hid hP; have HSS := Lib.hid hS
      clear hP hS
      have z2 := HR.out.lt
      by_cases hg : goodEnd P S f13 f14 f15
      · have hr : ∀ w, (Op.equalIn 10000 85 (.agg #[.int .u8 171, .int .u8 f1.1, .int .u8 f2.1, .int .u8 f3.1, .int .u8 f4.1, .int .u8 f5.1, .int .u8 f6.1, .int .u8 f7.1, .int .u8 f8.1, .int .u8 f9.1, .int .u8 f10.1, .int .u8 f11.1, .int .u8 f12.1, .int .u8 P.1, .int .u8 (S / 256), .int .u8 (S % 256)]) (.agg #[.int .u8 171, .int .u8 f1.1, .int .u8 f2.1, .int .u8 f3.1, .int .u8 f4.1, .int .u8 f5.1, .int .u8 f6.1, .int .u8 f7.1, .int .u8 f8.1, .int .u8 f9.1, .int .u8 f10.1, .int .u8 f11.1, .int .u8 f12.1, .int .u8 f13.1, .int .u8 f14.1, .int .u8 f15.1])).run Tryz.prog w = .ok true w := fun w => by
          rw [run_equalIn_frame, hg.1, hg.2.1, hg.2.2, decide_eq_true rfl]
        have HG := Lib.hid hg
        clear hg
        go_upto_region 8 with fail
        refine wp_region_facts [Fact.is (.agg #[.int .i64 f1.1, .int .i64 f2.1, .int .u8 f3.1, .int .u8 f4.1, .int .u8 f5.1, .int .u8 f6.1, .int .u8 f7.1, .int .u8 f8.1, .int .u8 f9.1, .int .u8 f10.1, .int .u8 f11.1, .int .u8 f12.1]), Fact.is (.agg #[.int .u8 171, .int .u8 f1.1, .int .u8 f2.1, .int .u8 f3.1, .int .u8 f4.1, .int .u8 f5.1, .int .u8 f6.1, .int .u8 f7.1, .int .u8 f8.1, .int .u8 f9.1, .int .u8 f10.1, .int .u8 f11.1, .int .u8 f12.1, .int .u8 P.1, .int .u8 (S / 256), .int .u8 (S % 256)]), Fact.is (.agg #[.int .u8 171, .int .u8 f1.1, .int .u8 f2.1, .int .u8 f3.1, .int .u8 f4.1, .int .u8 f5.1, .int .u8 f6.1, .int .u8 f7.1, .int .u8 f8.1, .int .u8 f9.1, .int .u8 f10.1, .int .u8 f11.1, .int .u8 f12.1, .int .u8 f13.1, .int .u8 f14.1, .int .u8 f15.1]), Fact.is (.bool false)] [[], [0], [], [1, 2]] [(some 28, 0), (some 29, 1), (some 30, 2), (some 31, 3)] (by kernel_rfl) (by kernel_rfl) (by kernel_rfl) (by kernel_rfl) (fun _ _ _ _ e h => by have h1 : _ ∧ _ := h; exact ⟨e ▸ h1.1, h1.2⟩) ?hstep ?hend
        case hstep =>
          intro i hi
          match i, hi with
          | 0, _ =>
            intro v w' hR hd
            change SpecOp _ _ _ _ 0 (canon _ v _ []) w' _
            simp only [canon_nil]
            have q0 := (hR.cell (p := ⟨gp, 0, none⟩) y3).trans c0
            have q1 := (hR.cell (p := ⟨gp, 1, none⟩) y3).trans c1
            have q2 := (hR.cell (p := ⟨gp, 2, none⟩) y3).trans c2
            have q3 := (hR.cell (p := ⟨gp, 3, none⟩) y3).trans c3
            have q4 := (hR.cell (p := ⟨gp, 4, none⟩) y3).trans c4
            have q5 := (hR.cell (p := ⟨gp, 5, none⟩) y3).trans c5
            have q6 := (hR.cell (p := ⟨gp, 6, none⟩) y3).trans c6
            have q7 := (hR.cell (p := ⟨gp, 7, none⟩) y3).trans c7
            have q8 := (hR.cell (p := ⟨gp, 8, none⟩) y3).trans c8
            have q9 := (hR.cell (p := ⟨gp, 9, none⟩) y3).trans c9
            have q10 := (hR.cell (p := ⟨gp, 10, none⟩) y3).trans c10
            have q11 := (hR.cell (p := ⟨gp, 11, none⟩) y3).trans c11
            refine spec_of rfl (fun KK hK => ?_)
            go_simp
            exact hK.out _ _ (Below.refl _ _) rfl
          | 1, _ =>
            intro v w' hR hd
            have e0 : v 0 = .agg #[.int .i64 f1.1, .int .i64 f2.1, .int .u8 f3.1, .int .u8 f4.1, .int .u8 f5.1, .int .u8 f6.1, .int .u8 f7.1, .int .u8 f8.1, .int .u8 f9.1, .int .u8 f10.1, .int .u8 f11.1, .int .u8 f12.1] := hd 0 (by decide)
            change SpecOp _ _ _ _ 1 (Act.put (canon _ v _ []) (some 28) (v 0)) w' _
            rw [e0]
            simp only [canon_nil, Act.put, List.setIfInBounds_toArray, List.set_cons_zero, List.set_cons_succ]
            refine spec_of rfl (fun KK hK => ?_)
            go_simp
            refine (HENC.out _).mono ?_
            rintro e wn ⟨rfl, hbn⟩
            exact hK.out _ _ hbn rfl
          | 2, _ =>
            intro v w' hR hd
            change SpecOp _ _ _ _ 2 (canon _ v _ []) w' _
            simp only [canon_nil]
            have q0 := (hR.cell (p := ⟨w.heap.size, 0, none⟩) y1).trans s0
            have q1 := (hR.cell (p := ⟨w.heap.size, 1, none⟩) y1).trans s1
            have q2 := (hR.cell (p := ⟨w.heap.size, 2, none⟩) y1).trans s2
            have q3 := (hR.cell (p := ⟨w.heap.size, 3, none⟩) y1).trans s3
            have q4 := (hR.cell (p := ⟨w.heap.size, 4, none⟩) y1).trans s4
            have q5 := (hR.cell (p := ⟨w.heap.size, 5, none⟩) y1).trans s5
            have q6 := (hR.cell (p := ⟨w.heap.size, 6, none⟩) y1).trans s6
            have q7 := (hR.cell (p := ⟨w.heap.size, 7, none⟩) y1).trans s7
            have q8 := (hR.cell (p := ⟨w.heap.size, 8, none⟩) y1).trans s8
            have q9 := (hR.cell (p := ⟨w.heap.size, 9, none⟩) y1).trans s9
            have q10 := (hR.cell (p := ⟨w.heap.size, 10, none⟩) y1).trans s10
            have q11 := (hR.cell (p := ⟨w.heap.size, 11, none⟩) y1).trans s11
            have q12 := (hR.cell (p := ⟨w.heap.size, 12, none⟩) y1).trans s12
            have q13 := (hR.cell (p := ⟨w.heap.size, 13, none⟩) y1).trans s13
            have q14 := (hR.cell (p := ⟨w.heap.size, 14, none⟩) y1).trans s14
            have q15 := (hR.cell (p := ⟨w.heap.size, 15, none⟩) y1).trans s15
            refine spec_of rfl (fun KK hK => ?_)
            go_simp
            exact hK.out _ _ (Below.refl _ _) rfl
          | 3, _ =>
            intro v w' hR hd
            have e1 : v 1 = .agg #[.int .u8 171, .int .u8 f1.1, .int .u8 f2.1, .int .u8 f3.1, .int .u8 f4.1, .int .u8 f5.1, .int .u8 f6.1, .int .u8 f7.1, .int .u8 f8.1, .int .u8 f9.1, .int .u8 f10.1, .int .u8 f11.1, .int .u8 f12.1, .int .u8 P.1, .int .u8 (S / 256), .int .u8 (S % 256)] := hd 1 (by decide)
            have e2 : v 2 = .agg #[.int .u8 171, .int .u8 f1.1, .int .u8 f2.1, .int .u8 f3.1, .int .u8 f4.1, .int .u8 f5.1, .int .u8 f6.1, .int .u8 f7.1, .int .u8 f8.1, .int .u8 f9.1, .int .u8 f10.1, .int .u8 f11.1, .int .u8 f12.1, .int .u8 f13.1, .int .u8 f14.1, .int .u8 f15.1] := hd 2 (by decide)
            change SpecOp _ _ _ _ 3 (Act.put (Act.put (canon _ v _ []) (some 30) (v 2)) (some 29) (v 1)) w' _
            rw [e1, e2]
            simp only [canon_nil, Act.put, List.setIfInBounds_toArray, List.set_cons_zero, List.set_cons_succ]
            refine spec_of rfl (fun KK hK => ?_)
            go_simp
            exact hK.out _ _ (Below.refl _ _) rfl
          | i + 4, h => exact absurd h (Nat.not_lt.2 (Nat.le_add_left 4 i))
        case hend =>
          intro v w' hR hall
          simp only [putL, Act.put, List.setIfInBounds_toArray, List.set_cons_zero, List.set_cons_succ]
          have e0 : v 0 = .agg #[.int .i64 f1.1, .int .i64 f2.1, .int .u8 f3.1, .int .u8 f4.1, .int .u8 f5.1, .int .u8 f6.1, .int .u8 f7.1, .int .u8 f8.1, .int .u8 f9.1, .int .u8 f10.1, .int .u8 f11.1, .int .u8 f12.1] := hall 0 (by decide)
          have e1 : v 1 = .agg #[.int .u8 171, .int .u8 f1.1, .int .u8 f2.1, .int .u8 f3.1, .int .u8 f4.1, .int .u8 f5.1, .int .u8 f6.1, .int .u8 f7.1, .int .u8 f8.1, .int .u8 f9.1, .int .u8 f10.1, .int .u8 f11.1, .int .u8 f12.1, .int .u8 P.1, .int .u8 (S / 256), .int .u8 (S % 256)] := hall 1 (by decide)
          have e2 : v 2 = .agg #[.int .u8 171, .int .u8 f1.1, .int .u8 f2.1, .int .u8 f3.1, .int .u8 f4.1, .int .u8 f5.1, .int .u8 f6.1, .int .u8 f7.1, .int .u8 f8.1, .int .u8 f9.1, .int .u8 f10.1, .int .u8 f11.1, .int .u8 f12.1, .int .u8 f13.1, .int .u8 f14.1, .int .u8 f15.1] := hall 2 (by decide)
          have e3 : v 3 = .bool false := hall 3 (by decide)
          rw [e0, e1, e2, e3]
          clear e0 e1 e2 e3 hall v
          have hr2 := HR.out.below hR
          have hp2 := HPB.out.below hR
          have HB2 := Lib.hid (HB.out.trans (hR.mono HB.out.size))
          have y5 := hr2.lt
          have y6 := hp2.lt
          have e0 := hr2.cell 0
          have e1 := hr2.cell 1
          have e2 := hr2.cell 2
          have e3 := hr2.cell 3
          have e4 := hr2.cell 4
          have e5 := hr2.cell 5
          have e6 := hr2.cell 6
          have e7 := hr2.cell 7
          have e8 := hr2.cell 8
          have e9 := hr2.cell 9
          have e10 := hr2.cell 10
          have e11 := hr2.cell 11
          simp only [List.getElem?_toArray, List.getElem?_cons_zero, List.getElem?_cons_succ] at e0 e1 e2 e3 e4 e5 e6 e7 e8 e9 e10 e11
          have ef0 := hr2.frozen 0
          have ef1 := hr2.frozen 1
          have ef2 := hr2.frozen 2
          have ef3 := hr2.frozen 3
          have ef4 := hr2.frozen 4
          have ef5 := hr2.frozen 5
          have ef6 := hr2.frozen 6
          have ef7 := hr2.frozen 7
          have ef8 := hr2.frozen 8
          have ef9 := hr2.frozen 9
          have ef10 := hr2.frozen 10
          have ef11 := hr2.frozen 11
          have x0 := hp2.cell 0
          have x1 := hp2.cell 1
          have x2 := hp2.cell 2
          have x3 := hp2.cell 3
          have x4 := hp2.cell 4
          have x5 := hp2.cell 5
          have x6 := hp2.cell 6
          have x7 := hp2.cell 7
          have x8 := hp2.cell 8
          have x9 := hp2.cell 9
          have x10 := hp2.cell 10
          have x11 := hp2.cell 11
          simp only [List.getElem?_toArray, List.getElem?_cons_zero, List.getElem?_cons_succ] at x0 x1 x2 x3 x4 x5 x6 x7 x8 x9 x10 x11
          clear hr2 hp2 hR HR HB HPB
          go_wp2
          refine bodyPost_ret (v := .tuple #[.agg #[.int .i64 f1.1, .int .i64 f2.1, .int .u8 f3.1, .int .u8 f4.1, .int .u8 f5.1, .int .u8 f6.1, .int .u8 f7.1, .int .u8 f8.1, .int .u8 f9.1, .int .u8 f10.1, .int .u8 f11.1, .int .u8 f12.1], .int .i64 0]) (by simp [results, Tryz.results72, go_sem, e0, e1, e2, e3, e4, e5, e6, e7, e8, e9, e10, e11]) rfl ⟨P, S, HPP.out, HSS.out, .inl ⟨HG.out, rfl⟩, ?_⟩
          exact ((((((((((((HB2.out.setCell (p := ⟨w.heap.size + 1, 0, none⟩) (by simp) _).setCell (p := ⟨w.heap.size + 1, 1, none⟩) (by simp) _).setCell (p := ⟨w.heap.size + 1, 2, none⟩) (by simp) _).setCell (p := ⟨w.heap.size + 1, 3, none⟩) (by simp) _).setCell (p := ⟨w.heap.size + 1, 4, none⟩) (by simp) _).setCell (p := ⟨w.heap.size + 1, 5, none⟩) (by simp) _).setCell (p := ⟨w.heap.size + 1, 6, none⟩) (by simp) _).setCell (p := ⟨w.heap.size + 1, 7, none⟩) (by simp) _).setCell (p := ⟨w.heap.size + 1, 8, none⟩) (by simp) _).setCell (p := ⟨w.heap.size + 1, 9, none⟩) (by simp) _).setCell (p := ⟨w.heap.size + 1, 10, none⟩) (by simp) _).setCell (p := ⟨w.heap.size + 1, 11, none⟩) (by simp) _)
      · have hr : ∀ w, (Op.equalIn 10000 85 (.agg #[.int .u8 171, .int .u8 f1.1, .int .u8 f2.1, .int .u8 f3.1, .int .u8 f4.1, .int .u8 f5.1, .int .u8 f6.1, .int .u8 f7.1, .int .u8 f8.1, .int .u8 f9.1, .int .u8 f10.1, .int .u8 f11.1, .int .u8 f12.1, .int .u8 P.1, .int .u8 (S / 256), .int .u8 (S % 256)]) (.agg #[.int .u8 171, .int .u8 f1.1, .int .u8 f2.1, .int .u8 f3.1, .int .u8 f4.1, .int .u8 f5.1, .int .u8 f6.1, .int .u8 f7.1, .int .u8 f8.1, .int .u8 f9.1, .int .u8 f10.1, .int .u8 f11.1, .int .u8 f12.1, .int .u8 f13.1, .int .u8 f14.1, .int .u8 f15.1])).run Tryz.prog w = .ok false w := fun w => by
          rw [run_equalIn_frame, decide_eq_false (fun h => hg (by simp only [List.cons.injEq, true_and, and_true] at h; exact h))]
        have HG := Lib.hid hg
        clear hg
        go_upto_region 8 with fail
        refine wp_region_facts [Fact.is (.agg #[.int .i64 f1.1, .int .i64 f2.1, .int .u8 f3.1, .int .u8 f4.1, .int .u8 f5.1, .int .u8 f6.1, .int .u8 f7.1, .int .u8 f8.1, .int .u8 f9.1, .int .u8 f10.1, .int .u8 f11.1, .int .u8 f12.1]), Fact.is (.agg #[.int .u8 171, .int .u8 f1.1, .int .u8 f2.1, .int .u8 f3.1, .int .u8 f4.1, .int .u8 f5.1, .int .u8 f6.1, .int .u8 f7.1, .int .u8 f8.1, .int .u8 f9.1, .int .u8 f10.1, .int .u8 f11.1, .int .u8 f12.1, .int .u8 P.1, .int .u8 (S / 256), .int .u8 (S % 256)]), Fact.is (.agg #[.int .u8 171, .int .u8 f1.1, .int .u8 f2.1, .int .u8 f3.1, .int .u8 f4.1, .int .u8 f5.1, .int .u8 f6.1, .int .u8 f7.1, .int .u8 f8.1, .int .u8 f9.1, .int .u8 f10.1, .int .u8 f11.1, .int .u8 f12.1, .int .u8 f13.1, .int .u8 f14.1, .int .u8 f15.1]), Fact.is (.bool true)] [[], [0], [], [1, 2]] [(some 28, 0), (some 29, 1), (some 30, 2), (some 31, 3)] (by kernel_rfl) (by kernel_rfl) (by kernel_rfl) (by kernel_rfl) (fun _ _ _ _ e h => by have h1 : _ ∧ _ := h; exact ⟨e ▸ h1.1, h1.2⟩) ?hstep ?hend
        case hstep =>
          intro i hi
          match i, hi with
          | 0, _ =>
            intro v w' hR hd
            change SpecOp _ _ _ _ 0 (canon _ v _ []) w' _
            simp only [canon_nil]
            have q0 := (hR.cell (p := ⟨gp, 0, none⟩) y3).trans c0
            have q1 := (hR.cell (p := ⟨gp, 1, none⟩) y3).trans c1
            have q2 := (hR.cell (p := ⟨gp, 2, none⟩) y3).trans c2
            have q3 := (hR.cell (p := ⟨gp, 3, none⟩) y3).trans c3
            have q4 := (hR.cell (p := ⟨gp, 4, none⟩) y3).trans c4
            have q5 := (hR.cell (p := ⟨gp, 5, none⟩) y3).trans c5
            have q6 := (hR.cell (p := ⟨gp, 6, none⟩) y3).trans c6
            have q7 := (hR.cell (p := ⟨gp, 7, none⟩) y3).trans c7
            have q8 := (hR.cell (p := ⟨gp, 8, none⟩) y3).trans c8
            have q9 := (hR.cell (p := ⟨gp, 9, none⟩) y3).trans c9
            have q10 := (hR.cell (p := ⟨gp, 10, none⟩) y3).trans c10
            have q11 := (hR.cell (p := ⟨gp, 11, none⟩) y3).trans c11
            refine spec_of rfl (fun KK hK => ?_)
            go_simp
            exact hK.out _ _ (Below.refl _ _) rfl
          | 1, _ =>
            intro v w' hR hd
            have e0 : v 0 = .agg #[.int .i64 f1.1, .int .i64 f2.1, .int .u8 f3.1, .int .u8 f4.1, .int .u8 f5.1, .int .u8 f6.1, .int .u8 f7.1, .int .u8 f8.1, .int .u8 f9.1, .int .u8 f10.1, .int .u8 f11.1, .int .u8 f12.1] := hd 0 (by decide)
            change SpecOp _ _ _ _ 1 (Act.put (canon _ v _ []) (some 28) (v 0)) w' _
            rw [e0]
            simp only [canon_nil, Act.put, List.setIfInBounds_toArray, List.set_cons_zero, List.set_cons_succ]
            refine spec_of rfl (fun KK hK => ?_)
            go_simp
            refine (HENC.out _).mono ?_
            rintro e wn ⟨rfl, hbn⟩
            exact hK.out _ _ hbn rfl
          | 2, _ =>
            intro v w' hR hd
            change SpecOp _ _ _ _ 2 (canon _ v _ []) w' _
            simp only [canon_nil]
            have q0 := (hR.cell (p := ⟨w.heap.size, 0, none⟩) y1).trans s0
            have q1 := (hR.cell (p := ⟨w.heap.size, 1, none⟩) y1).trans s1
            have q2 := (hR.cell (p := ⟨w.heap.size, 2, none⟩) y1).trans s2
            have q3 := (hR.cell (p := ⟨w.heap.size, 3, none⟩) y1).trans s3
            have q4 := (hR.cell (p := ⟨w.heap.size, 4, none⟩) y1).trans s4
            have q5 := (hR.cell (p := ⟨w.heap.size, 5, none⟩) y1).trans s5
            have q6 := (hR.cell (p := ⟨w.heap.size, 6, none⟩) y1).trans s6
            have q7 := (hR.cell (p := ⟨w.heap.size, 7, none⟩) y1).trans s7
            have q8 := (hR.cell (p := ⟨w.heap.size, 8, none⟩) y1).trans s8
            have q9 := (hR.cell (p := ⟨w.heap.size, 9, none⟩) y1).trans s9
            have q10 := (hR.cell (p := ⟨w.heap.size, 10, none⟩) y1).trans s10
            have q11 := (hR.cell (p := ⟨w.heap.size, 11, none⟩) y1).trans s11
            have q12 := (hR.cell (p := ⟨w.heap.size, 12, none⟩) y1).trans s12
            have q13 := (hR.cell (p := ⟨w.heap.size, 13, none⟩) y1).trans s13
            have q14 := (hR.cell (p := ⟨w.heap.size, 14, none⟩) y1).trans s14
            have q15 := (hR.cell (p := ⟨w.heap.size, 15, none⟩) y1).trans s15
            refine spec_of rfl (fun KK hK => ?_)
            go_simp
            exact hK.out _ _ (Below.refl _ _) rfl
          | 3, _ =>
            intro v w' hR hd
            have e1 : v 1 = .agg #[.int .u8 171, .int .u8 f1.1, .int .u8 f2.1, .int .u8 f3.1, .int .u8 f4.1, .int .u8 f5.1, .int .u8 f6.1, .int .u8 f7.1, .int .u8 f8.1, .int .u8 f9.1, .int .u8 f10.1, .int .u8 f11.1, .int .u8 f12.1, .int .u8 P.1, .int .u8 (S / 256), .int .u8 (S % 256)] := hd 1 (by decide)
            have e2 : v 2 = .agg #[.int .u8 171, .int .u8 f1.1, .int .u8 f2.1, .int .u8 f3.1, .int .u8 f4.1, .int .u8 f5.1, .int .u8 f6.1, .int .u8 f7.1, .int .u8 f8.1, .int .u8 f9.1, .int .u8 f10.1, .int .u8 f11.1, .int .u8 f12.1, .int .u8 f13.1, .int .u8 f14.1, .int .u8 f15.1] := hd 2 (by decide)
            change SpecOp _ _ _ _ 3 (Act.put (Act.put (canon _ v _ []) (some 30) (v 2)) (some 29) (v 1)) w' _
            rw [e1, e2]
            simp only [canon_nil, Act.put, List.setIfInBounds_toArray, List.set_cons_zero, List.set_cons_succ]
            refine spec_of rfl (fun KK hK => ?_)
            go_simp
            exact hK.out _ _ (Below.refl _ _) rfl
          | i + 4, h => exact absurd h (Nat.not_lt.2 (Nat.le_add_left 4 i))
        case hend =>
          intro v w' hR hall
          simp only [putL, Act.put, List.setIfInBounds_toArray, List.set_cons_zero, List.set_cons_succ]
          have e0 : v 0 = .agg #[.int .i64 f1.1, .int .i64 f2.1, .int .u8 f3.1, .int .u8 f4.1, .int .u8 f5.1, .int .u8 f6.1, .int .u8 f7.1, .int .u8 f8.1, .int .u8 f9.1, .int .u8 f10.1, .int .u8 f11.1, .int .u8 f12.1] := hall 0 (by decide)
          have e1 : v 1 = .agg #[.int .u8 171, .int .u8 f1.1, .int .u8 f2.1, .int .u8 f3.1, .int .u8 f4.1, .int .u8 f5.1, .int .u8 f6.1, .int .u8 f7.1, .int .u8 f8.1, .int .u8 f9.1, .int .u8 f10.1, .int .u8 f11.1, .int .u8 f12.1, .int .u8 P.1, .int .u8 (S / 256), .int .u8 (S % 256)] := hall 1 (by decide)
          have e2 : v 2 = .agg #[.int .u8 171, .int .u8 f1.1, .int .u8 f2.1, .int .u8 f3.1, .int .u8 f4.1, .int .u8 f5.1, .int .u8 f6.1, .int .u8 f7.1, .int .u8 f8.1, .int .u8 f9.1, .int .u8 f10.1, .int .u8 f11.1, .int .u8 f12.1, .int .u8 f13.1, .int .u8 f14.1, .int .u8 f15.1] := hall 2 (by decide)
          have e3 : v 3 = .bool true := hall 3 (by decide)
          rw [e0, e1, e2, e3]
          clear e0 e1 e2 e3 hall v
          have hr2 := HR.out.below hR
          have hp2 := HPB.out.below hR
          have HB2 := Lib.hid (HB.out.trans (hR.mono HB.out.size))
          have y5 := hr2.lt
          have y6 := hp2.lt
          have e0 := hr2.cell 0
          have e1 := hr2.cell 1
          have e2 := hr2.cell 2
          have e3 := hr2.cell 3
          have e4 := hr2.cell 4
          have e5 := hr2.cell 5
          have e6 := hr2.cell 6
          have e7 := hr2.cell 7
          have e8 := hr2.cell 8
          have e9 := hr2.cell 9
          have e10 := hr2.cell 10
          have e11 := hr2.cell 11
          simp only [List.getElem?_toArray, List.getElem?_cons_zero, List.getElem?_cons_succ] at e0 e1 e2 e3 e4 e5 e6 e7 e8 e9 e10 e11
          have ef0 := hr2.frozen 0
          have ef1 := hr2.frozen 1
          have ef2 := hr2.frozen 2
          have ef3 := hr2.frozen 3
          have ef4 := hr2.frozen 4
          have ef5 := hr2.frozen 5
          have ef6 := hr2.frozen 6
          have ef7 := hr2.frozen 7
          have ef8 := hr2.frozen 8
          have ef9 := hr2.frozen 9
          have ef10 := hr2.frozen 10
          have ef11 := hr2.frozen 11
          have x0 := hp2.cell 0
          have x1 := hp2.cell 1
          have x2 := hp2.cell 2
          have x3 := hp2.cell 3
          have x4 := hp2.cell 4
          have x5 := hp2.cell 5
          have x6 := hp2.cell 6
          have x7 := hp2.cell 7
          have x8 := hp2.cell 8
          have x9 := hp2.cell 9
          have x10 := hp2.cell 10
          have x11 := hp2.cell 11
          simp only [List.getElem?_toArray, List.getElem?_cons_zero, List.getElem?_cons_succ] at x0 x1 x2 x3 x4 x5 x6 x7 x8 x9 x10 x11
          clear hr2 hp2 hR HR HB HPB
          go_wp2
          refine bodyPost_ret (v := .tuple #[.agg #[.int .i64 0, .int .i64 0, .int .u8 0, .int .u8 0, .int .u8 0, .int .u8 0, .int .u8 0, .int .u8 0, .int .u8 0, .int .u8 0, .int .u8 0, .int .u8 0], .int .i64 27]) (by simp [results, Tryz.results72, go_sem, e0, e1, e2, e3, e4, e5, e6, e7, e8, e9, e10, e11]) rfl ⟨P, S, HPP.out, HSS.out, .inr ⟨HG.out, rfl⟩, ?_⟩
          exact ((((((((((((HB2.out.setCell (p := ⟨w.heap.size + 1, 0, none⟩) (by simp) _).setCell (p := ⟨w.heap.size + 1, 1, none⟩) (by simp) _).setCell (p := ⟨w.heap.size + 1, 2, none⟩) (by simp) _).setCell (p := ⟨w.heap.size + 1, 3, none⟩) (by simp) _).setCell (p := ⟨w.heap.size + 1, 4, none⟩) (by simp) _).setCell (p := ⟨w.heap.size + 1, 5, none⟩) (by simp) _).setCell (p := ⟨w.heap.size + 1, 6, none⟩) (by simp) _).setCell (p := ⟨w.heap.size + 1, 7, none⟩) (by simp) _).setCell (p := ⟨w.heap.size + 1, 8, none⟩) (by simp) _).setCell (p := ⟨w.heap.size + 1, 9, none⟩) (by simp) _).setCell (p := ⟨w.heap.size + 1, 10, none⟩) (by simp) _).setCell (p := ⟨w.heap.size + 1, 11, none⟩) (by simp) _)
theorem decodeR_any (f0 f1 f2 f3 f4 f5 f6 f7 f8 f9 f10 f11 f12 f13 f14 f15 : U8) (w : World) : Calls Tryz.prog 72 #[.agg #[.int .u8 f0.1, .int .u8 f1.1, .int .u8 f2.1, .int .u8 f3.1, .int .u8 f4.1, .int .u8 f5.1, .int .u8 f6.1, .int .u8 f7.1, .int .u8 f8.1, .int .u8 f9.1, .int .u8 f10.1, .int .u8 f11.1, .int .u8 f12.1, .int .u8 f13.1, .int .u8 f14.1, .int .u8 f15.1]] w fun e w' => e = .returned (.tuple #[pkV (goodB [f0, f1, f2, f3, f4, f5, f6, f7, f8, f9, f10, f11, f12, f13, f14, f15]) [f0, f1, f2, f3, f4, f5, f6, f7, f8, f9, f10, f11, f12, f13, f14, f15], .int .i64 (errD [f0, f1, f2, f3, f4, f5, f6, f7, f8, f9, f10, f11, f12, f13, f14, f15])]) ∧ Below w.heap.size w w' := by
  by_cases h0 : f0.1 = 171
  · have e0 : f0 = u171 := Subtype.ext h0
    subst e0
    refine (decodeR_sync f1 f2 f3 f4 f5 f6 f7 f8 f9 f10 f11 f12 f13 f14 f15 w).mono ?_
    rintro e w' ⟨P, S, hP, hS, hr, hb⟩
    refine ⟨?_, hb⟩
    have key : goodB [u171, f1, f2, f3, f4, f5, f6, f7, f8, f9, f10, f11, f12, f13, f14, f15] = true ↔ goodEnd P S f13 f14 f15 := by
      unfold goodB goodEnd
      simp only [decide_eq_true_eq, List.getD_cons_zero, List.getD_cons_succ, List.drop_succ_cons, List.drop_zero, List.take_succ_cons, List.take_zero]
      rw [hP]
      constructor
      · rintro ⟨_, h1, h2, h3⟩
        have : f13 = P := Subtype.ext h1.symm
        subst this
        rw [hS] at h2 h3
        exact ⟨rfl, h2, h3⟩
      · rintro ⟨h1, h2, h3⟩
        have : P = f13 := Subtype.ext h1
        subst this
        rw [hS]
        exact ⟨rfl, rfl, h2, h3⟩
    rcases hr with ⟨hg, rfl⟩ | ⟨hg, rfl⟩
    · rw [errD_good (key.2 hg), key.2 hg]; rfl
    · have hb0 : goodB [u171, f1, f2, f3, f4, f5, f6, f7, f8, f9, f10, f11, f12, f13, f14, f15] = false := by
        cases h : goodB [u171, f1, f2, f3, f4, f5, f6, f7, f8, f9, f10, f11, f12, f13, f14, f15] with
        | true => exact absurd (key.1 h) hg
        | false => rfl
      unfold errD
      rw [hb0]; rfl
  · refine (decodeR_form f0 f1 f2 f3 f4 f5 f6 f7 f8 f9 f10 f11 f12 f13 f14 f15 h0 w).mono ?_
    rintro e w' ⟨rfl, hb⟩
    have hb0 : goodB [f0, f1, f2, f3, f4, f5, f6, f7, f8, f9, f10, f11, f12, f13, f14, f15] = false := decide_eq_false (fun h => h0 h.1)
    refine ⟨?_, hb⟩
    unfold errD
    rw [hb0, if_neg (by simp), List.getD_cons_zero, if_neg h0]; rfl
end Go.Proofs.YtkjkjhheckfhbaaGreatDoor
