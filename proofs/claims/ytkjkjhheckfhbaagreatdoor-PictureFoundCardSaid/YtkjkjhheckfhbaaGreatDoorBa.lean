/- A picture with samples of its own, by the reference. -/
import Derived.Test.YtkjkjhheckfhbaaGreatDoorAv
import Derived.Test.YtkjkjhheckfhbaaGreatDoorPL
import Derived.Test.YtkjkjhheckfhbaaGreatDoorQ
import Derived.Deep.Upon
namespace Go.Proofs.YtkjkjhheckfhbaaGreatDoor
open Go.RowKit
set_option linter.unusedVariables false
attribute [local go_sem] run_store_float run_store_complex
set_option maxRecDepth 100000
theorem wpList_append_nothing {P : Program} (w : World) {ops : Array Oper} {rest : List Oper} {o : Oper} {a : Act} {Q : Exit → Act → World → Prop} (hgd : o.guard = none) (s x : Operand) (t tx : TypeId)
    (ho : o.op = .call { callee := .builtin .append, args := #[s, x], argTypes := #[t, tx] }) (e : TypeId) (i : TypeInfo) (ht : P.underlying t = some (.slice e)) (hi : P.info? e = some i)
    (base : Option Addr) (sLen sCap : Nat) (hle : sLen ≤ sCap) (hv : a.eval s = .slice base sLen sCap) (xv : Value) (hx : a.eval x = xv) (hs : Src P i.size tx xv 0 [] w)
    (hK : wpList P ops Q rest (a.put o.dst (.slice base sLen sCap)) w) : wpList P ops Q (o :: rest) a w := by
  refine wpList_plain hgd fun K hK' => ?_
  have hrun := run_append_nothing (P := P) w t tx o.type e i ht hi base sLen sCap hle xv hs
  unfold Oper.wp
  simp [execOp, ho, resolve, invoke, builtin, hv, hx, hrun, Result.andThen]
  exact hK' _ _ hK
theorem rd_far {w : World} {g : Nat} {xs : List Value} (h : Rd w (some ⟨g, 0, none⟩) xs) {p : Addr} (hp : g ≠ p.block) (u : Value) : Rd (w.setCell p u) (some ⟨g, 0, none⟩) xs := fun h0 => by
  obtain ⟨ad, e, hb, hc⟩ := h h0
  cases e
  refine ⟨_, rfl, by simpa using hb, fun j v hj => ?_⟩
  rw [← hc j v hj]
  exact World.cell?_of_block (w := w) (by rw [block_of_add]; exact Below.heap_setCell w p u g hp)
theorem own_form {w : World} {B : Nat} {e : TypeId} {size : Nat} {v : Value} {n : Nat} {xs : List Value} (h : w.ownsRow B e size v n xs) (hn : 0 < n) : ∃ g cap, v = .slice (some ⟨g, 0, none⟩) n cap ∧ n ≤ cap := by
  rcases h.2 with ⟨_, h0⟩ | ⟨g, cap, cur, rfl, _, _, hc, _⟩
  · omega
  · exact ⟨g, cap, rfl, hc⟩
theorem own_none (w : World) : (w.alloc (.cells #[] 23)).ownsRow w.heap.size 23 1 (.slice (some ⟨w.heap.size, 0, none⟩) 0 0) 0 [] :=
  ⟨rfl, .inr ⟨_, 0, #[], rfl, Nat.le_refl _, heap_alloc_new w _, Nat.le_refl _, by decide, rfl, rfl⟩⟩
/-- A picture with samples of its own. -/
def OwnEnd (p : Pic) (n : Nat) (w : World) (e : Ending) (w' : World) : Prop := ∃ g c', e = .returned (.agg #[.string p.name, .int .i64 p.w, .int .i64 p.h, .slice (some ⟨g, 0, none⟩) n c']) ∧ n ≤ c' ∧ Rd w' (some ⟨g, 0, none⟩) (fl p.l) ∧ Below w.heap.size w w'
theorem ownR_any (p : Pic) (A : Option Addr) (c : Nat) (w : World) (hl : p.l.length ≤ 4096) (hA : A = none → p.l.length = 0 ∧ c = 0) (hr : Rd w A (fl p.l)) :
    Calls Tryz.prog 110 #[p.val A c] w (OwnEnd p p.l.length w) := by
  obtain ⟨i0, hi, hz0, hz1, hz2⟩ := info_parts info_mapIF
  unfold Pic.val
  obtain ⟨n, hn⟩ : ∃ n, p.l.length = n := ⟨_, rfl⟩
  rw [hn] at hl hA ⊢
  have HN := Lib.hid hn; clear hn
  have HR := Lib.hid hr; clear hr
  go_enter Tryz.func110, Tryz.ntmps110
  go_upto_region 1 with fail
  have hbx := (Blk.new w 43 #[.string p.name, .int .i64 p.w, .int .i64 p.h, .slice A n c]).alloc (.cells #[.string ⟨#[]⟩, .int .i64 0, .int .i64 0, .slice none 0 0] 43)
  have hby := Blk.new (w.alloc (.cells #[.string p.name, .int .i64 p.w, .int .i64 p.h, .slice A n c] 43)) 43 #[.string ⟨#[]⟩, .int .i64 0, .int .i64 0, .slice none 0 0]
  have hb0 : Below w.heap.size w ((w.alloc (.cells #[.string p.name, .int .i64 p.w, .int .i64 p.h, .slice A n c] 43)).alloc (.cells #[.string ⟨#[]⟩, .int .i64 0, .int .i64 0, .slice none 0 0] 43)) := ((Below.refl _ _).alloc (Nat.le_refl _) _).alloc (by simp) _
  simp only [World.size_alloc] at hby
  generalize (w.alloc (.cells #[.string p.name, .int .i64 p.w, .int .i64 p.h, .slice A n c] 43)).alloc (.cells #[.string ⟨#[]⟩, .int .i64 0, .int .i64 0, .slice none 0 0] 43) = w0 at hbx hby hb0 ⊢
  have z0 := hbx.lt; have z1 := hby.lt
  obtain ⟨c0, c1, c2, c3⟩ := box4 hbx
  obtain ⟨d0, d1, d2, d3⟩ := box4 hby
  have HX := Lib.hid hbx; have HY := Lib.hid hby; have HB := Lib.hid hb0; clear hbx hby hb0
  by_cases hn0 : n = 0
  · subst hn0
    have hsrc : ∀ W, Src Tryz.prog i0.size 41 (.slice A 0 c) 0 [] W := fun W => by
      cases A with
      | none => rw [(hA rfl).2]; exact Src.ofNil W Tryz.underlying41 0
      | some a => exact Src.ofSlice W Tryz.underlying41 a 0 c [] (by simp) (fun j u h => by simp at h) (fun u h => by cases h)
    have HS := Lib.hid hsrc; clear hsrc
    have HL : RowKit.Hid (p.l = []) := Lib.hid (List.eq_nil_of_length_eq_zero HN.out)
    go_step; go_step; go_step; go_step; go_step; go_step; go_step; go_step; go_step; go_step
    refine wpList_append_nothing _ (by rfl) (.tmp 3) (.tmp 5) 41 41 (by rfl) 23 i0 Tryz.underlying41 hi (some ⟨w0.heap.size, 0, none⟩) 0 0 (Nat.le_refl _) (by rfl) (.slice A 0 c) (by rfl) (HS.out _) ?_
    have hxa := HX.out.alloc (.cells #[] 23)
    have hya := HY.out.alloc (.cells #[] 23)
    have hba := HB.out.alloc HB.out.size (.cells #[] 23)
    have hrd : Rd (w0.alloc (.cells #[] 23)) (some ⟨w0.heap.size, 0, none⟩) (fl p.l) := fun h0 => by rw [HL.out] at h0; simp [fl] at h0
    have hg : w.heap.size + 1 < w0.heap.size := z1
    clear HX HY HB c0 c1 c2 c3 d0 d1 d2 d3 z0 z1
    obtain ⟨g, hge⟩ : ∃ g, w0.heap.size = g := ⟨_, rfl⟩
    rw [hge] at hg hrd ⊢
    clear hge
    generalize w0.alloc (.cells #[] 23) = w1 at hxa hya hba hrd ⊢
    have e3 := hxa.cell 3
    have z0 := hxa.lt
    have f3 := hxa.frozen 3
    simp only [List.getElem?_toArray, List.getElem?_cons_zero, List.getElem?_cons_succ] at e3
    have HX := Lib.hid (show Blk (w1.setCell ⟨w.heap.size, 3, none⟩ (.slice (some ⟨g, 0, none⟩) 0 0)) w.heap.size 43 #[.string p.name, .int .i64 p.w, .int .i64 p.h, .slice (some ⟨g, 0, none⟩) 0 0] from hxa.set_ 3 (.slice (some ⟨g, 0, none⟩) 0 0))
    have HY := Lib.hid (hya.far (p := ⟨w.heap.size, 3, none⟩) (by simp) (.slice (some ⟨g, 0, none⟩) 0 0))
    have HB := Lib.hid (hba.setCell (p := ⟨w.heap.size, 3, none⟩) (Nat.le_refl _) (.slice (some ⟨g, 0, none⟩) 0 0))
    have HRD := Lib.hid (rd_far hrd (p := ⟨w.heap.size, 3, none⟩) (by simp; omega) (.slice (some ⟨g, 0, none⟩) 0 0))
    clear hxa hya hba hrd
    go_upto_region 2 with fail
    generalize w1.setCell ⟨w.heap.size, 3, none⟩ (.slice (some ⟨g, 0, none⟩) 0 0) = w2 at HX HY HB HRD ⊢
    clear e3 f3 z0
    obtain ⟨c0, c1, c2, c3⟩ := box4 HX.out
    have hy := HY.out
    have z1 := hy.lt
    have f0 := hy.frozen 0; have f1 := hy.frozen 1; have f2 := hy.frozen 2; have f3 := hy.frozen 3
    obtain ⟨d0, d1, d2, d3⟩ := box4 hy
    clear hy
    go_wp2
    have hyy := Lib.hid (show Blk ((((w2.setCell ⟨w.heap.size + 1, 0, none⟩ (.string p.name)).setCell ⟨w.heap.size + 1, 1, none⟩ (.int .i64 p.w)).setCell ⟨w.heap.size + 1, 2, none⟩ (.int .i64 p.h)).setCell ⟨w.heap.size + 1, 3, none⟩ (.slice (some ⟨g, 0, none⟩) 0 0)) (w.heap.size + 1) 43 #[.string p.name, .int .i64 p.w, .int .i64 p.h, .slice (some ⟨g, 0, none⟩) 0 0] from (((HY.out.set_ 0 _).set_ 1 _).set_ 2 _).set_ 3 _)
    obtain ⟨r0, r1, r2, r3⟩ := box4 hyy.out
    refine bodyPost_ret (v := .agg #[.string p.name, .int .i64 p.w, .int .i64 p.h, .slice (some ⟨g, 0, none⟩) 0 0]) (by simp [results, Tryz.results110, go_sem, r0, r1, r2, r3]) rfl ⟨g, 0, rfl, Nat.le_refl _, ?_, below_set4 HB.out (by omega) _ _ _ _⟩
    exact rd_far (rd_far (rd_far (rd_far HRD.out (by simp; omega) _) (by simp; omega) _) (by simp; omega) _) (by simp; omega) _
  · obtain ⟨ad, rfl, had, hcells⟩ := HR.out (by simp only [fl, List.length_map]; rw [HN.out]; omega)
    have HA2 := Lib.hid (HR.out.below (HB.out.alloc HB.out.size (.cells #[] 23)))
    have HOW := Lib.hid (own_none w0)
    have HFL : RowKit.Hid ((fl p.l).length = n * 1) := Lib.hid (by simp [fl]; exact HN.out)
    have hsz0 := HB.out.size
    clear had hcells
    go_step; go_step; go_step; go_step; go_step; go_step; go_step; go_step; go_step; go_step
    refine wpList_append_own_at _ (by rfl) (.tmp 3) (.tmp 5) 41 (by rfl) w0.heap.size 23 i0 (.float .f32 0) 1 4 Tryz.underlying41 hi hz0 hz1 hz2 (by rfl) (by decide) (.slice (some ⟨w0.heap.size, 0, none⟩) 0 0) 0 [] (by rfl) HOW.out ad n c (fl p.l) (by rfl) HFL.out (fun j u hj => by
        obtain ⟨ad2, e2, _, hc2⟩ := HA2.out (by have := (List.getElem?_eq_some_iff.1 hj).1; omega)
        cases e2; exact hc2 j u hj) (by intro u hu; obtain ⟨b, _, rfl⟩ := List.mem_map.1 hu; rfl) (by unfold maxLen; omega) (by omega) (by simp) ?_
    intro v' w1 hown hgrow hnil hat
    rw [Nat.zero_add, List.nil_append] at hown
    obtain ⟨g, c', rfl, hcap⟩ := own_form hown (by omega)
    have hg0 := (owns_block hown g rfl).1
    have hrd := rd_own hown
    have hxa := blk_grown (HX.out.alloc (.cells #[] 23)) hgrow (fun e => by have : w0.heap.size = w.heap.size := by simpa [Value.ownBlock] using e
                                                                            omega)
    have hya := blk_grown (HY.out.alloc (.cells #[] 23)) hgrow (fun e => by have : w0.heap.size = w.heap.size + 1 := by simpa [Value.ownBlock] using e
                                                                            omega)
    have hba := (HB.out.alloc HB.out.size (.cells #[] 23)).grown hgrow (by simp; omega) (fun r hr => by have : w0.heap.size = r := by simpa [Value.ownBlock] using hr
                                                                                                        omega)
    have hg : w.heap.size + 1 < g := Nat.lt_of_lt_of_le z1 hg0
    clear HX HY HB HOW HA2 c0 c1 c2 c3 d0 d1 d2 d3 z0 z1 hown hgrow hnil hat hg0
    have e3 := hxa.cell 3
    have z0 := hxa.lt
    have f3 := hxa.frozen 3
    simp only [List.getElem?_toArray, List.getElem?_cons_zero, List.getElem?_cons_succ] at e3
    have HX := Lib.hid (show Blk (w1.setCell ⟨w.heap.size, 3, none⟩ (.slice (some ⟨g, 0, none⟩) n c')) w.heap.size 43 #[.string p.name, .int .i64 p.w, .int .i64 p.h, .slice (some ⟨g, 0, none⟩) n c'] from hxa.set_ 3 (.slice (some ⟨g, 0, none⟩) n c'))
    have HY := Lib.hid (hya.far (p := ⟨w.heap.size, 3, none⟩) (by simp) (.slice (some ⟨g, 0, none⟩) n c'))
    have HB := Lib.hid (hba.setCell (p := ⟨w.heap.size, 3, none⟩) (Nat.le_refl _) (.slice (some ⟨g, 0, none⟩) n c'))
    have HRD := Lib.hid (rd_far hrd (p := ⟨w.heap.size, 3, none⟩) (by simp; omega) (.slice (some ⟨g, 0, none⟩) n c'))
    clear hxa hya hba hrd
    go_upto_region 2 with fail
    generalize w1.setCell ⟨w.heap.size, 3, none⟩ (.slice (some ⟨g, 0, none⟩) n c') = w2 at HX HY HB HRD ⊢
    clear e3 f3 z0
    obtain ⟨c0, c1, c2, c3⟩ := box4 HX.out
    have hy := HY.out
    have z1 := hy.lt
    have f0 := hy.frozen 0; have f1 := hy.frozen 1; have f2 := hy.frozen 2; have f3 := hy.frozen 3
    obtain ⟨d0, d1, d2, d3⟩ := box4 hy
    clear hy
    go_wp2
    have hyy := Lib.hid (show Blk ((((w2.setCell ⟨w.heap.size + 1, 0, none⟩ (.string p.name)).setCell ⟨w.heap.size + 1, 1, none⟩ (.int .i64 p.w)).setCell ⟨w.heap.size + 1, 2, none⟩ (.int .i64 p.h)).setCell ⟨w.heap.size + 1, 3, none⟩ (.slice (some ⟨g, 0, none⟩) n c')) (w.heap.size + 1) 43 #[.string p.name, .int .i64 p.w, .int .i64 p.h, .slice (some ⟨g, 0, none⟩) n c'] from (((HY.out.set_ 0 _).set_ 1 _).set_ 2 _).set_ 3 _)
    obtain ⟨r0, r1, r2, r3⟩ := box4 hyy.out
    refine bodyPost_ret (v := .agg #[.string p.name, .int .i64 p.w, .int .i64 p.h, .slice (some ⟨g, 0, none⟩) n c']) (by simp [results, Tryz.results110, go_sem, r0, r1, r2, r3]) rfl ⟨g, c', rfl, hcap, ?_, below_set4 HB.out (by omega) _ _ _ _⟩
    exact rd_far (rd_far (rd_far (rd_far HRD.out (by simp; omega) _) (by simp; omega) _) (by simp; omega) _) (by simp; omega) _

end Go.Proofs.YtkjkjhheckfhbaaGreatDoor
