/- Parts of a proof: Every second row, by the reference; too few rows. Both fields, by the reference. -/
import Derived.Test.YtlicgblagkkcfaaGreatDoorP2
import Derived.Test.YtlicgblagkkcfaaGreatDoorAl
import Derived.StillTailTactics
namespace Go.Proofs.YtlicgblagkkcfaaGreatDoor
open Go.RowKit
set_option linter.unusedVariables false
attribute [local go_sem] run_store_float run_store_complex
set_option maxRecDepth 100000
theorem upon_append_own {P : Program} {o : Oper} {a : Act} {w : World} {K : Act → World → Prop} {Q : Exit → Act → World → Prop} (t ty : TypeId) (base : Nat) (e : TypeId) (i : TypeInfo) (z : Value) (size bytes : Nat) (ht : P.underlying t = some (.slice e)) (hi : P.info? e = some i) (hz : i.zero = some z)
    (hsize : i.size = size) (hby : i.bytes = bytes) (hzs : z.cells.size = size) (hsz : 0 < size)
    (v : Value) (n : Nat) (xs : List Value) (hown : w.ownsRow base e size v n xs)
    (ad : Addr) (m c : Nat) (news : List Value) (hl : news.length = m * size) (hnews : ∀ j u, news[j]? = some u → w.cell? (ad.add j) = some u) (h1 : ∀ u ∈ news, u.oneCell' = true)
    (h63 : n + m ≤ maxLen) (hbytes : (n + m) * bytes ≤ 140737488355328) (hbase : base ≤ w.heap.size)
    (h : ∀ v' w', w'.ownsRow base e size v' (n + m) (xs ++ news) → w.grownBy w' v.ownBlock → (v'.ownBlock = v.ownBlock ∨ v'.ownBlock = some w.heap.size) → K (a.put o.dst v') w') :
    o.upon P a K Q ((Sem.run P (Builtin.append_ #[t, t] ty #[v, .slice (some ad) m c]) w).andThen fun a w' => .ok (.value a) w') := by
  obtain ⟨v', w', hr, h2, h3, _, h5⟩ := run_append_own_at (P := P) w base t ty e i z size bytes ht hi hz hsize hby hzs hsz v n xs hown ad m c news hl hnews h1 h63 hbytes hbase
  rw [hr]
  exact h v' w' h2 h3 h5
def fieldL (l : List Nat) (W d n : Nat) : List Nat := (List.range n).map fun i => l.getD ((2 * (i / W) + d) * W + i % W) 0
theorem fieldL_len (l : List Nat) (W d n : Nat) : (fieldL l W d n).length = n := by simp [fieldL]
theorem take_row (l : List Nat) (o W : Nat) (h : o + W ≤ l.length) : (l.drop o).take W = (List.range W).map fun j => l.getD (o + j) 0 := by
  apply List.ext_getElem?
  intro i
  by_cases hi : i < W
  · rw [List.getElem?_take, if_pos hi, List.getElem?_drop, List.getElem?_map, List.getElem?_range hi]
    simp [List.getD, show o + i < l.length by omega]
  · rw [List.getElem?_take, if_neg hi, List.getElem?_map, List.getElem?_eq_none (by simp; omega)]; rfl
theorem fieldL_next (l : List Nat) (W d k : Nat) (hW : 1 ≤ W) (h : (2 * k + d) * W + W ≤ l.length) : fieldL l W d ((k + 1) * W) = fieldL l W d (k * W) ++ (l.drop ((2 * k + d) * W)).take W := by
  rw [take_row _ _ _ h]
  unfold fieldL
  rw [Nat.add_mul, Nat.one_mul, List.range_add, List.map_append, List.map_map]
  congr 1
  apply List.map_congr_left
  intro j hj
  have hj : j < W := by simpa using hj
  have h1 : (k * W + j) / W = k := by rw [Nat.mul_comm, Nat.mul_add_div (by omega), Nat.div_eq_of_lt hj, Nat.add_zero]
  have h2 : (k * W + j) % W = j := by rw [Nat.mul_comm, Nat.mul_add_mod, Nat.mod_eq_of_lt hj]
  simp only [Function.comp, h1, h2]
def RowsEnd (nm : ByteArray) (W K : Nat) (l : List Nat) (d : Nat) (w : World) (e : Ending) (w' : World) : Prop := ∃ A c, e = .returned (.agg #[.string nm, .int .i64 (W : Int), .int .i64 (K : Int), .slice A (K * W) c]) ∧ Rd w' A (fl (fieldL l W d (K * W))) ∧ Below w.heap.size w w'
set_option maxHeartbeats 2000000 in
theorem rowsR_ok (nm : ByteArray) (W H K d : Nat) (l : List Nat) (hW : 1 ≤ W ∧ W ≤ 64) (hH : 1 ≤ H ∧ H ≤ 64) (hlen : l.length = W * H) (hd : d ≤ 1) (hK1 : H ≤ 2 * K + d) (hK2 : 2 * K + d ≤ H + 1) (hK3 : 1 ≤ K) (A : Option Addr) (c : Nat) (hcap : l.length ≤ c) (w : World) (hr : Rd w A (fl l)) :
    Calls Tryz.prog 117 #[.agg #[.string nm, .int .i64 (W : Int), .int .i64 (H : Int), .slice A l.length c], .int .i64 (d : Int)] w (RowsEnd nm W K l d w) := by
  obtain ⟨i0, hi, hz0, hz1, hz2⟩ := info_parts info_mapIF
  have hl4 : l.length ≤ 4096 := by rw [hlen]; exact Nat.le_trans (Nat.mul_le_mul hW.2 hH.2) (by decide)
  have hpos : 0 < (fl l).length := by have := prod_pos hW.1 hH.1; simp [fl]; omega
  obtain ⟨ad, rfl, hadb, hadc⟩ := hr.some_ hpos
  have HR := Lib.hid hr
  have HLEN := Lib.hid hlen
  clear hr hadb hadc hpos hlen
  go_enter Tryz.func117, Tryz.ntmps117
  go_upto_region 2 with fail
  have hx0 := ((Blk.new w 43 #[.string nm, .int .i64 (W : Int), .int .i64 (H : Int), .slice (some ad) l.length c]).alloc (.cells #[.string ⟨#[]⟩, .int .i64 0, .int .i64 0, .slice none 0 0] 43)).alloc (.cells #[.string nm, .int .i64 (W : Int), .int .i64 0, .slice none 0 0] 43)
  have hx1 := (Blk.new (w.alloc (.cells #[.string nm, .int .i64 (W : Int), .int .i64 (H : Int), .slice (some ad) l.length c] 43)) 43 #[.string ⟨#[]⟩, .int .i64 0, .int .i64 0, .slice none 0 0]).alloc (.cells #[.string nm, .int .i64 (W : Int), .int .i64 0, .slice none 0 0] 43)
  have hx2 := Blk.new ((w.alloc (.cells #[.string nm, .int .i64 (W : Int), .int .i64 (H : Int), .slice (some ad) l.length c] 43)).alloc (.cells #[.string ⟨#[]⟩, .int .i64 0, .int .i64 0, .slice none 0 0] 43)) 43 #[.string nm, .int .i64 (W : Int), .int .i64 0, .slice none 0 0]
  simp only [World.size_alloc] at hx1 hx2
  have hb0 := (((Below.refl w.heap.size w).alloc (Nat.le_refl _) (.cells #[.string nm, .int .i64 (W : Int), .int .i64 (H : Int), .slice (some ad) l.length c] 43)).alloc (by simp only [World.size_alloc]; omega) (.cells #[.string ⟨#[]⟩, .int .i64 0, .int .i64 0, .slice none 0 0] 43)).alloc (by simp only [World.size_alloc]; omega) (.cells #[.string nm, .int .i64 (W : Int), .int .i64 0, .slice none 0 0] 43)
  generalize (((w.alloc (.cells #[.string nm, .int .i64 (W : Int), .int .i64 (H : Int), .slice (some ad) l.length c] 43)).alloc (.cells #[.string ⟨#[]⟩, .int .i64 0, .int .i64 0, .slice none 0 0] 43)).alloc (.cells #[.string nm, .int .i64 (W : Int), .int .i64 0, .slice none 0 0] 43)) = w0 at hx0 hx1 hx2 hb0 ⊢
  have HX0 := Lib.hid hx0; have HX1 := Lib.hid hx1; have HX2 := Lib.hid hx2; have HB := Lib.hid hb0; clear hx0 hx1 hx2 hb0
  go_wp2
  go_loopw [6] (fun i wr => ∃ (k y : Nat) (A' : Option Addr) (c' : Nat), k ≤ K ∧ i = .int .i64 y ∧ y = 2 * k + d ∧ Blk wr w.heap.size 43 #[.string nm, .int .i64 (W : Int), .int .i64 (H : Int), .slice (some ad) l.length c] ∧ Blk wr (w.heap.size + 1) 43 #[.string ⟨#[]⟩, .int .i64 0, .int .i64 0, .slice none 0 0] ∧ Blk wr (w.heap.size + 1 + 1) 43 #[.string nm, .int .i64 (W : Int), .int .i64 (k : Int), .slice A' (k * W) c'] ∧ wr.ownsRow (w.heap.size + 1 + 1 + 1) 23 1 (.slice A' (k * W) c') (k * W) (fl (fieldL l W d (k * W))) ∧ Below w.heap.size w wr) (fun i _ => H - (intOf i).toNat)
  case atStart =>
    refine ⟨0, d, none, 0, by omega, rfl, by omega, HX0.out, HX1.out, by rw [Nat.zero_mul]; exact HX2.out, ?_, HB.out⟩
    rw [Nat.zero_mul]; exact World.ownsRow_nil _ _ _ _
  case round =>
    clear HX0 HX1 HX2 HB
    obtain ⟨k, y, A', c', hk, rfl, hye, hx0, hx1, hx2, hown, hbel⟩ := hrel
    obtain ⟨wo, rfl⟩ : ∃ wo : World, wo = wr := ⟨_, rfl⟩
    have HX0 := Lib.hid hx0; have HX1 := Lib.hid hx1; have HX2 := Lib.hid hx2; have HOWN := Lib.hid hown; have HB := Lib.hid hbel
    have HYE := Lib.hid hye
    obtain ⟨k0, k1, k2, k3⟩ := box4 hx0
    obtain ⟨q0, q1, q2, q3⟩ := box4 hx2
    clear hx0 hx1 hx2 hown hbel
    by_cases hlt : y < H
    · have hkK : k < K := by omega
      have hro := row_le (W := W) hlt
      obtain ⟨o, ho⟩ : ∃ o, y * W = o := ⟨_, rfl⟩
      have hol : o + W ≤ l.length := by rw [← ho, HLEN.out]; exact hro
      obtain ⟨n, hn⟩ : ∃ n, k * W = n := ⟨_, rfl⟩
      have hn2 : n + W = (k + 1) * W := by rw [Nat.add_mul, hn, Nat.one_mul]
      have hn3 : n ≤ 4096 := by rw [← hn]; exact Nat.le_trans (Nat.mul_le_mul (show k ≤ 64 by omega) hW.2) (by decide)
      have HNX := Lib.hid (show fieldL l W d (n + W) = fieldL l W d n ++ (l.drop o).take W by
        rw [hn2, ← hn, fieldL_next l W d k hW.1 (by rw [← hye, ho]; exact hol), ← hye, ho])
      rw [hn] at HOWN HX2 q3
      have e0 : IntKind.i64.wrap ((y : Int) * (W : Int)) = (o : Int) := by rw [show (y : Int) * (W : Int) = (o : Int) by rw [← ho]; simp]; exact IntWalk.i64_in _ (by omega)
      have e1 : IntKind.i64.wrap ((y : Int) + 1) = (y : Int) + 1 := IntWalk.i64_in _ (by omega)
      have e2 : IntKind.i64.wrap (((y : Int) + 1) * (W : Int)) = (o : Int) + (W : Int) := by rw [show ((y : Int) + 1) * (W : Int) = (o : Int) + (W : Int) by rw [Int.add_mul, Int.one_mul]; congr 1; rw [← ho]; simp]; exact IntWalk.i64_in _ (by omega)
      have HSRC := Lib.hid (HR.out.below HB.out)
      have HN := Lib.hid hn; have HN2 := Lib.hid hn2
      have g0 := HX0.out.lt; have g1 := HX1.out.lt; have g2 := HX2.out.lt
      have hsx : SX (w.heap.size + 1 + 1) wo wo.drew := sx_below (Below.refl _ _).drew
      clear hye ho hn hn2 hro
      go_upto_region 5 with fail
      have e3 : (0 : Int) ≤ (o : Int) := by omega
      have e4 : (o : Int) ≤ (o : Int) + (W : Int) := by omega
      have e5 : (o : Int) + (W : Int) ≤ (c : Int) := by omega
      refine wp_region_still_tail 14 (by kernel_rfl) (by kernel_rfl) ?_
      simp only [List.take_succ_cons, List.take_zero, List.drop_succ_cons, List.drop_zero]
      still_step; still_step; still_step; still_step; still_step; still_step; still_step; still_step; still_step; still_step; still_step; still_step; still_step
      still_step
      refine wpStill_nil ?_
      rw [if_neg (show ¬ c = o by omega), show ((o : Int) + (W : Int)).toNat - o = W by omega]
      change wpList _ _ _ _ _ wo.drew
      clear e0 e1 e2 e3 e4 e5 k0 k1 k2 k3 hsx
      have HLN : RowKit.Hid ((fl ((l.drop o).take W)).length = W * 1) := Lib.hid (by simp [fl]; omega)
      refine wpList_append_own_at _ (by rfl) (.tmp 20) (.tmp 32) 41 (by rfl) (w.heap.size + 1 + 1 + 1) 23 i0 (.float .f32 0) 1 4 Tryz.underlying41 hi hz0 hz1 hz2 (by rfl) (by decide) (.slice A' n c') n (fl (fieldL l W d n)) (by rfl) (HOWN.out.drew) (ad.add o) W (c - o) (fl ((l.drop o).take W)) (by rfl) HLN.out (fun j u hj => by
          have hjW : j < W := by have h1 := (List.getElem?_eq_some_iff.1 hj).1; rw [HLN.out] at h1; omega
          obtain ⟨ad2, e2, _, hc2⟩ := HSRC.out (by simp [fl]; omega)
          cases e2
          rw [add_of_add]
          refine hc2 (o + j) u ?_
          rw [← hj]
          simp only [fl, List.map_take, List.map_drop]
          rw [List.getElem?_take, if_pos hjW, List.getElem?_drop]) (by intro u hu; obtain ⟨b, _, rfl⟩ := List.mem_map.1 hu; rfl) (by unfold maxLen; omega) (by omega) (by have := HX2.out.lt; exact this) ?_
      intro v' w1 hown hgrow hnil hat
      clear hnil hat
      obtain ⟨A2, c2, rfl⟩ := own_shape hown
      have hob := owns_block HOWN.out
      have hx0 := blk_grown (HX0.out.drew) hgrow (fun e => by have := (hob _ e).1; omega)
      have hx1 := blk_grown (HX1.out.drew) hgrow (fun e => by have := (hob _ e).1; omega)
      have hx2 := blk_grown (HX2.out.drew) hgrow (fun e => by have := (hob _ e).1; omega)
      have hb2 := (HB.out.drew).grown hgrow HB.out.size (fun r hr => by have := (hob r hr).1; omega)
      clear q0 q1 q2 q3 g0 g1 g2 hgrow
      obtain ⟨q0, q1, q2, q3⟩ := box4 hx2
      have z2 := hx2.lt
      have f2 := hx2.frozen 2; have f3 := hx2.frozen 3
      have ek : IntKind.i64.wrap ((k : Int) + 1) = ((k + 1 : Nat) : Int) := by rw [IntWalk.i64_in _ (by omega)]; simp
      have HOWN2 : RowKit.Hid (((w1.setCell ⟨w.heap.size + 1 + 1, 3, none⟩ (.slice A2 (n + W) c2)).setCell ⟨w.heap.size + 1 + 1, 2, none⟩ (.int .i64 ((k + 1 : Nat) : Int))).ownsRow (w.heap.size + 1 + 1 + 1) 23 1 (.slice A2 ((k + 1) * W) c2) ((k + 1) * W) (fl (fieldL l W d ((k + 1) * W)))) := Lib.hid (by
        have h : w1.ownsRow (w.heap.size + 1 + 1 + 1) 23 1 (.slice A2 (n + W) c2) (n + W) (fl (fieldL l W d (n + W))) := by rw [HNX.out]; simpa [fl] using hown
        rw [HN2.out] at h
        exact owns_far (owns_far h (by simp) _) (by simp) _)
      have HX0' := Lib.hid ((hx0.far (p := ⟨w.heap.size + 1 + 1, 3, none⟩) (by simp; omega) (.slice A2 (n + W) c2)).far (p := ⟨w.heap.size + 1 + 1, 2, none⟩) (by simp; omega) (.int .i64 ((k + 1 : Nat) : Int)))
      have HX1' := Lib.hid ((hx1.far (p := ⟨w.heap.size + 1 + 1, 3, none⟩) (by simp) (.slice A2 (n + W) c2)).far (p := ⟨w.heap.size + 1 + 1, 2, none⟩) (by simp) (.int .i64 ((k + 1 : Nat) : Int)))
      have HX2' := Lib.hid (show Blk ((w1.setCell ⟨w.heap.size + 1 + 1, 3, none⟩ (.slice A2 (n + W) c2)).setCell ⟨w.heap.size + 1 + 1, 2, none⟩ (.int .i64 ((k + 1 : Nat) : Int))) (w.heap.size + 1 + 1) 43 #[.string nm, .int .i64 (W : Int), .int .i64 ((k + 1 : Nat) : Int), .slice A2 ((k + 1) * W) c2] from by rw [HN2.out]; exact (hx2.set_ 3 (.slice A2 ((k + 1) * W) c2)).set_ 2 (.int .i64 ((k + 1 : Nat) : Int)))
      have HB' := Lib.hid ((hb2.setCell (p := ⟨w.heap.size + 1 + 1, 3, none⟩) (by simp; omega) (.slice A2 (n + W) c2)).setCell (p := ⟨w.heap.size + 1 + 1, 2, none⟩) (by simp; omega) (.int .i64 ((k + 1 : Nat) : Int)))
      clear hx0 hx1 hx2 hb2 hown HOWN HX0 HX1 HX2 HB hob
      go_wp2
      go_roundw
      case rel => exact ⟨k + 1, y + 2, A2, c2, by omega, by go_num, by have := HYE.out; omega, HX0'.out, HX1'.out, HX2'.out, HOWN2.out, HB'.out⟩
      case measure => simp [intOf]; omega
    · have hkK : k = K := by omega
      subst hkK
      have hy := HX1.out
      have z1 := hy.lt
      have f0 := hy.frozen 0; have f1 := hy.frozen 1; have f2 := hy.frozen 2; have f3 := hy.frozen 3
      obtain ⟨d0, d1, d2, d3⟩ := box4 hy
      have hyy := Lib.hid (show Blk ((((wo.setCell ⟨w.heap.size + 1, 0, none⟩ (.string nm)).setCell ⟨w.heap.size + 1, 1, none⟩ (.int .i64 (W : Int))).setCell ⟨w.heap.size + 1, 2, none⟩ (.int .i64 (k : Int))).setCell ⟨w.heap.size + 1, 3, none⟩ (.slice A' (k * W) c')) (w.heap.size + 1) 43 #[.string nm, .int .i64 (W : Int), .int .i64 (k : Int), .slice A' (k * W) c'] from (((hy.set_ 0 _).set_ 1 _).set_ 2 _).set_ 3 _)
      have HOWN3 := Lib.hid (owns_far (owns_far (owns_far (owns_far HOWN.out (p := ⟨w.heap.size + 1, 0, none⟩) (by simp) (.string nm)) (p := ⟨w.heap.size + 1, 1, none⟩) (by simp) (.int .i64 (W : Int))) (p := ⟨w.heap.size + 1, 2, none⟩) (by simp) (.int .i64 (k : Int))) (p := ⟨w.heap.size + 1, 3, none⟩) (by simp) (.slice A' (k * W) c'))
      clear hy HYE hye
      go_wp2
      obtain ⟨r0, r1, r2, r3⟩ := box4 hyy.out
      exact bodyPost_ret (v := .agg #[.string nm, .int .i64 (W : Int), .int .i64 (k : Int), .slice A' (k * W) c']) (by simp [results, Tryz.results117, go_sem, r0, r1, r2, r3]) rfl ⟨A', c', rfl, rd_own HOWN3.out, below_set4 HB.out (by omega) _ _ _ _⟩
theorem fieldsR_short (nm : ByteArray) (W H n : Int) (hH : H < 2) (A : Option Addr) (m c : Nat) (w : World) :
    Calls Tryz.prog 51 #[.agg #[.string nm, .int .i64 W, .int .i64 H, .slice A m c]] w fun e w' => e = .returned (.tuple #[.agg #[.string ⟨#[]⟩, .int .i64 0, .int .i64 0, .slice none 0 0, .string ⟨#[]⟩, .int .i64 0, .int .i64 0, .slice none 0 0], .int .i64 16]) ∧ Below w.heap.size w w' := by
  go_enter Tryz.func51, Tryz.ntmps51
  go_upto_region 1 with fail
  have hbx := (Blk.new w 43 #[.string nm, .int .i64 W, .int .i64 H, .slice A m c]).alloc (.cells #[.string ⟨#[]⟩, .int .i64 0, .int .i64 0, .slice none 0 0, .string ⟨#[]⟩, .int .i64 0, .int .i64 0, .slice none 0 0] 70)
  have hby := Blk.new (w.alloc (.cells #[.string nm, .int .i64 W, .int .i64 H, .slice A m c] 43)) 70 #[.string ⟨#[]⟩, .int .i64 0, .int .i64 0, .slice none 0 0, .string ⟨#[]⟩, .int .i64 0, .int .i64 0, .slice none 0 0]
  have hb0 : Below w.heap.size w ((w.alloc (.cells #[.string nm, .int .i64 W, .int .i64 H, .slice A m c] 43)).alloc (.cells #[.string ⟨#[]⟩, .int .i64 0, .int .i64 0, .slice none 0 0, .string ⟨#[]⟩, .int .i64 0, .int .i64 0, .slice none 0 0] 70)) := ((Below.refl _ _).alloc (Nat.le_refl _) _).alloc (by simp) _
  simp only [World.size_alloc] at hby
  generalize (w.alloc (.cells #[.string nm, .int .i64 W, .int .i64 H, .slice A m c] 43)).alloc (.cells #[.string ⟨#[]⟩, .int .i64 0, .int .i64 0, .slice none 0 0, .string ⟨#[]⟩, .int .i64 0, .int .i64 0, .slice none 0 0] 70) = w0 at hbx hby hb0 ⊢
  obtain ⟨c0, c1, c2, c3⟩ := box4 hbx
  have z0 := hbx.lt; have z1 := hby.lt
  have HB := Lib.hid hb0
  have f := fun i => hby.frozen i
  have f0 := f 0; have f1 := f 1; have f2 := f 2; have f3 := f 3; have f4 := f 4; have f5 := f 5; have f6 := f 6; have f7 := f 7
  obtain ⟨d0, d1, d2, d3, d4, d5, d6, d7⟩ := box8' hby
  have hyy := Lib.hid (show Blk ((((((((w0.setCell ⟨w.heap.size + 1, 0, none⟩ (.string ⟨#[]⟩)).setCell ⟨w.heap.size + 1, 1, none⟩ (.int .i64 0)).setCell ⟨w.heap.size + 1, 2, none⟩ (.int .i64 0)).setCell ⟨w.heap.size + 1, 3, none⟩ (.slice none 0 0)).setCell ⟨w.heap.size + 1, 4, none⟩ (.string ⟨#[]⟩)).setCell ⟨w.heap.size + 1, 5, none⟩ (.int .i64 0)).setCell ⟨w.heap.size + 1, 6, none⟩ (.int .i64 0)).setCell ⟨w.heap.size + 1, 7, none⟩ (.slice none 0 0)) (w.heap.size + 1) 70 #[.string ⟨#[]⟩, .int .i64 0, .int .i64 0, .slice none 0 0, .string ⟨#[]⟩, .int .i64 0, .int .i64 0, .slice none 0 0] from (((((((hby.set_ 0 _).set_ 1 _).set_ 2 _).set_ 3 _).set_ 4 _).set_ 5 _).set_ 6 _).set_ 7 _)
  clear hbx hby hb0 f
  go_wp2
  obtain ⟨r0, r1, r2, r3, r4, r5, r6, r7⟩ := box8' hyy.out
  exact bodyPost_ret (v := .tuple #[.agg #[.string ⟨#[]⟩, .int .i64 0, .int .i64 0, .slice none 0 0, .string ⟨#[]⟩, .int .i64 0, .int .i64 0, .slice none 0 0], .int .i64 16]) (by simp [results, Tryz.results51, go_sem, r0, r1, r2, r3, r4, r5, r6, r7]) rfl ⟨rfl, below_set8 HB.out (by omega) _ _ _ _ _ _ _ _⟩

end Go.Proofs.YtlicgblagkkcfaaGreatDoor
namespace Go.Proofs.YtlicgblagkkcfaaGreatDoor
open Go.RowKit
set_option linter.unusedVariables false
attribute [local go_sem] run_store_float run_store_complex
set_option maxRecDepth 100000
theorem rd_set8 {w : World} {A : Option Addr} {l : List Nat} {g : Nat} {t : TypeId} {cs : Array Value} (h : Rd w A (fl l)) (hb : Blk w g t cs) (hn : NF cs) (x0 x1 x2 x3 x4 x5 x6 x7 : Value) (f0 : fltV x0 = false) (f1 : fltV x1 = false) (f2 : fltV x2 = false) (f3 : fltV x3 = false) (f4 : fltV x4 = false) (f5 : fltV x5 = false) (f6 : fltV x6 = false) : Rd ((((((((w.setCell ⟨g, 0, none⟩ x0).setCell ⟨g, 1, none⟩ x1).setCell ⟨g, 2, none⟩ x2).setCell ⟨g, 3, none⟩ x3).setCell ⟨g, 4, none⟩ x4).setCell ⟨g, 5, none⟩ x5).setCell ⟨g, 6, none⟩ x6).setCell ⟨g, 7, none⟩ x7) A (fl l) :=
  rd_set (rd_set (rd_set (rd_set (rd_set (rd_set (rd_set (rd_set (h) (hb) (hn) 0 x0) ((hb).set_ 0 x0) ((hn).set 0 x0 f0) 1 x1) (((hb).set_ 0 x0).set_ 1 x1) (((hn).set 0 x0 f0).set 1 x1 f1) 2 x2) ((((hb).set_ 0 x0).set_ 1 x1).set_ 2 x2) ((((hn).set 0 x0 f0).set 1 x1 f1).set 2 x2 f2) 3 x3) (((((hb).set_ 0 x0).set_ 1 x1).set_ 2 x2).set_ 3 x3) (((((hn).set 0 x0 f0).set 1 x1 f1).set 2 x2 f2).set 3 x3 f3) 4 x4) ((((((hb).set_ 0 x0).set_ 1 x1).set_ 2 x2).set_ 3 x3).set_ 4 x4) ((((((hn).set 0 x0 f0).set 1 x1 f1).set 2 x2 f2).set 3 x3 f3).set 4 x4 f4) 5 x5) (((((((hb).set_ 0 x0).set_ 1 x1).set_ 2 x2).set_ 3 x3).set_ 4 x4).set_ 5 x5) (((((((hn).set 0 x0 f0).set 1 x1 f1).set 2 x2 f2).set 3 x3 f3).set 4 x4 f4).set 5 x5 f5) 6 x6) ((((((((hb).set_ 0 x0).set_ 1 x1).set_ 2 x2).set_ 3 x3).set_ 4 x4).set_ 5 x5).set_ 6 x6) ((((((((hn).set 0 x0 f0).set 1 x1 f1).set 2 x2 f2).set 3 x3 f3).set 4 x4 f4).set 5 x5 f5).set 6 x6 f6) 7 x7
theorem nf_eight {a b c d e f i j : Value} (ha : fltV a = false) (hb : fltV b = false) (hc : fltV c = false) (hd : fltV d = false) (he : fltV e = false) (hf : fltV f = false) (hi : fltV i = false) (hj : fltV j = false) : NF #[a, b, c, d, e, f, i, j] := fun k u hu => by
  match k with
  | 0 => cases hu; exact ha
  | 1 => cases hu; exact hb
  | 2 => cases hu; exact hc
  | 3 => cases hu; exact hd
  | 4 => cases hu; exact he
  | 5 => cases hu; exact hf
  | 6 => cases hu; exact hi
  | 7 => cases hu; exact hj
  | k + 8 => simp at hu
def FieldsEnd (nm : ByteArray) (W K1 K2 : Nat) (l : List Nat) (w : World) (e : Ending) (w' : World) : Prop := ∃ A1 e1 A2 e2, e = .returned (.tuple #[.agg #[.string nm, .int .i64 (W : Int), .int .i64 (K1 : Int), .slice A1 (K1 * W) e1, .string nm, .int .i64 (W : Int), .int .i64 (K2 : Int), .slice A2 (K2 * W) e2], .int .i64 0]) ∧ Rd w' A1 (fl (fieldL l W 0 (K1 * W))) ∧ Rd w' A2 (fl (fieldL l W 1 (K2 * W))) ∧ Below w.heap.size w w'
set_option maxHeartbeats 4000000 in
theorem fieldsR_ok (nm : ByteArray) (W H K1 K2 : Nat) (l : List Nat) (hW : 1 ≤ W ∧ W ≤ 64) (hH : 2 ≤ H ∧ H ≤ 64) (hlen : l.length = W * H) (hK1 : K1 = (H + 1) / 2) (hK2 : K2 = H / 2) (ad : Addr) (c : Nat) (hcap : l.length ≤ c) (w : World) (hr : Rd w (some ad) (fl l)) :
    Calls Tryz.prog 51 #[.agg #[.string nm, .int .i64 (W : Int), .int .i64 (H : Int), .slice (some ad) l.length c]] w (FieldsEnd nm W K1 K2 l w) := by
  have HR := Lib.hid hr
  have HS0 : RowKit.Hid (∀ w, Rd w (some ad) (fl l) → Calls Tryz.prog 117 #[.agg #[.string nm, .int .i64 (W : Int), .int .i64 (H : Int), .slice (some ad) l.length c], .int .i64 0] w (RowsEnd nm W K1 l 0 w)) := Lib.hid (fun w hr => rowsR_ok nm W H K1 0 l hW (by omega) hlen (by omega) (by omega) (by omega) (by omega) (some ad) c hcap w hr)
  have HS1 : RowKit.Hid (∀ w, Rd w (some ad) (fl l) → Calls Tryz.prog 117 #[.agg #[.string nm, .int .i64 (W : Int), .int .i64 (H : Int), .slice (some ad) l.length c], .int .i64 1] w (RowsEnd nm W K2 l 1 w)) := Lib.hid (fun w hr => rowsR_ok nm W H K2 1 l hW (by omega) hlen (by omega) (by omega) (by omega) (by omega) (some ad) c hcap w hr)
  clear hr hlen hK1 hK2
  go_enter Tryz.func51, Tryz.ntmps51
  go_upto_region 1 with fail
  have hbx := (Blk.new w 43 #[.string nm, .int .i64 (W : Int), .int .i64 (H : Int), .slice (some ad) l.length c]).alloc (.cells #[.string ⟨#[]⟩, .int .i64 0, .int .i64 0, .slice none 0 0, .string ⟨#[]⟩, .int .i64 0, .int .i64 0, .slice none 0 0] 70)
  have hby := Blk.new (w.alloc (.cells #[.string nm, .int .i64 (W : Int), .int .i64 (H : Int), .slice (some ad) l.length c] 43)) 70 #[.string ⟨#[]⟩, .int .i64 0, .int .i64 0, .slice none 0 0, .string ⟨#[]⟩, .int .i64 0, .int .i64 0, .slice none 0 0]
  have hb0 : Below w.heap.size w ((w.alloc (.cells #[.string nm, .int .i64 (W : Int), .int .i64 (H : Int), .slice (some ad) l.length c] 43)).alloc (.cells #[.string ⟨#[]⟩, .int .i64 0, .int .i64 0, .slice none 0 0, .string ⟨#[]⟩, .int .i64 0, .int .i64 0, .slice none 0 0] 70)) := ((Below.refl _ _).alloc (Nat.le_refl _) _).alloc (by simp) _
  simp only [World.size_alloc] at hby
  generalize (w.alloc (.cells #[.string nm, .int .i64 (W : Int), .int .i64 (H : Int), .slice (some ad) l.length c] 43)).alloc (.cells #[.string ⟨#[]⟩, .int .i64 0, .int .i64 0, .slice none 0 0, .string ⟨#[]⟩, .int .i64 0, .int .i64 0, .slice none 0 0] 70) = w0 at hbx hby hb0 ⊢
  obtain ⟨c0, c1, c2, c3⟩ := box4 hbx
  have HX := Lib.hid hbx; have HY := Lib.hid hby; have HB := Lib.hid hb0; clear hbx hby hb0
  have hge : ¬ (H : Int) < 2 := by omega
  go_upto_region 3 with fail
  go_region_with (first
    | (go_at_call_of 117 (Value.int IntKind.i64 0); refine (HS0.out _ (by exact HR.out.below HB.out.drew)).mono ?_; rintro e wn ⟨A1, e1, rfl, hr1, hbn⟩; have hbx := ((Below.refl w0.heap.size w0).drew).trans hbn; have hx := HX.out.below hbx; have hy := HY.out.below hbx; have HB1 := Lib.hid (HB.out.trans (hbx.mono HB.out.size)); have HR1 := Lib.hid hr1; obtain ⟨k0, k1, k2, k3⟩ := box4 hx; have HY1 := Lib.hid hy; clear hr1 hx hy hbn hbx)
    | (go_at_call_of 117 (Value.int IntKind.i64 1); refine (HS1.out _ (by exact HR.out.below HB1.out)).mono ?_; rintro e wm ⟨A2, e2, rfl, hr2, hbm⟩; have hy := HY1.out.below hbm; have HB2 := Lib.hid (HB1.out.trans (hbm.mono HB1.out.size)); have HR2 := Lib.hid hr2; have HRX := Lib.hid (HR1.out.below hbm); obtain ⟨d0, d1, d2, d3, d4, d5, d6, d7⟩ := box8' hy; have f0 := hy.frozen 0; have f1 := hy.frozen 1; have f2 := hy.frozen 2; have f3 := hy.frozen 3; have f4 := hy.frozen 4; have f5 := hy.frozen 5; have f6 := hy.frozen 6; have f7 := hy.frozen 7; have zy := hy.lt; have HY2 := Lib.hid hy; clear hr2 hy hbm))
  all_goals
    have hyy := Lib.hid (show Blk ((((((((wm.setCell ⟨w.heap.size + 1, 0, none⟩ (.string nm)).setCell ⟨w.heap.size + 1, 1, none⟩ (.int .i64 (W : Int))).setCell ⟨w.heap.size + 1, 2, none⟩ (.int .i64 (K1 : Int))).setCell ⟨w.heap.size + 1, 3, none⟩ (.slice A1 (K1 * W) e1)).setCell ⟨w.heap.size + 1, 4, none⟩ (.string nm)).setCell ⟨w.heap.size + 1, 5, none⟩ (.int .i64 (W : Int))).setCell ⟨w.heap.size + 1, 6, none⟩ (.int .i64 (K2 : Int))).setCell ⟨w.heap.size + 1, 7, none⟩ (.slice A2 (K2 * W) e2)) (w.heap.size + 1) 70 #[.string nm, .int .i64 (W : Int), .int .i64 (K1 : Int), .slice A1 (K1 * W) e1, .string nm, .int .i64 (W : Int), .int .i64 (K2 : Int), .slice A2 (K2 * W) e2] from (((((((HY2.out.set_ 0 _).set_ 1 _).set_ 2 _).set_ 3 _).set_ 4 _).set_ 5 _).set_ 6 _).set_ 7 _)
    have HRA := Lib.hid (rd_set8 HRX.out HY2.out (nf_eight rfl rfl rfl rfl rfl rfl rfl rfl) (.string nm) (.int .i64 (W : Int)) (.int .i64 (K1 : Int)) (.slice A1 (K1 * W) e1) (.string nm) (.int .i64 (W : Int)) (.int .i64 (K2 : Int)) (.slice A2 (K2 * W) e2) rfl rfl rfl rfl rfl rfl rfl)
    have HRB := Lib.hid (rd_set8 HR2.out HY2.out (nf_eight rfl rfl rfl rfl rfl rfl rfl rfl) (.string nm) (.int .i64 (W : Int)) (.int .i64 (K1 : Int)) (.slice A1 (K1 * W) e1) (.string nm) (.int .i64 (W : Int)) (.int .i64 (K2 : Int)) (.slice A2 (K2 * W) e2) rfl rfl rfl rfl rfl rfl rfl)
    have HBE := Lib.hid (below_set8 HB2.out (g := w.heap.size + 1) (by omega) (.string nm) (.int .i64 (W : Int)) (.int .i64 (K1 : Int)) (.slice A1 (K1 * W) e1) (.string nm) (.int .i64 (W : Int)) (.int .i64 (K2 : Int)) (.slice A2 (K2 * W) e2))
    clear d0 d1 d2 d3 d4 d5 d6 d7 f0 f1 f2 f3 f4 f5 f6 f7
    go_wp2
    obtain ⟨r0, r1, r2, r3, r4, r5, r6, r7⟩ := box8' hyy.out
    exact bodyPost_ret (v := .tuple #[.agg #[.string nm, .int .i64 (W : Int), .int .i64 (K1 : Int), .slice A1 (K1 * W) e1, .string nm, .int .i64 (W : Int), .int .i64 (K2 : Int), .slice A2 (K2 * W) e2], .int .i64 0]) (by simp [results, Tryz.results51, go_sem, r0, r1, r2, r3, r4, r5, r6, r7]) rfl ⟨A1, e1, A2, e2, rfl, HRA.out, HRB.out, HBE.out⟩

end Go.Proofs.YtlicgblagkkcfaaGreatDoor
