/- Parts of a proof: A picture with samples of its own, by the reference. A picture of one's own, told, and compared. The law's comparison of a picture and an error. The reference's check of a picture. Pictures that are short, valid, and one's own; what a function of pictures gives. -/
import Derived.Test.YtlicgblagkkcfaaGreatDoorAv
import Derived.Test.YtlicgblagkkcfaaGreatDoorW
import Derived.Test.YtlicgblagkkcfaaGreatDoorQ
import Derived.Deep.Upon
import Derived.Laws.StructEq
import Derived.Test.YtlicgblagkkcfaaGreatDoorP3
namespace Go.Proofs.YtlicgblagkkcfaaGreatDoor
open Go.RowKit
set_option linter.unusedVariables false
attribute [local go_sem] run_store_float run_store_complex
set_option maxRecDepth 100000
theorem wpList_append_nothing {P : Program} (w : World) {ops : Array Oper} {rest : List Oper} {o : Oper} {a : Act} {Q : Exit → Act → World → Prop} (hgd : o.guard = none) (s x : Operand) (t tx : TypeId)
    (ho : o.op = .call { callee := .builtin .append, args := #[s, x], argTypes := #[t, tx] }) (e : TypeId) (i : TypeInfo) (ht : P.underlying t = some (.slice e)) (hi : P.info? e = some i)
    (base : Option Addr) (sLen sCap : Nat) (hle : sLen ≤ sCap) (hv : a.eval s = .slice base sLen sCap) (xv : Value) (hx : a.eval x = xv) (hs : Src P i.size tx xv 0 [] w)
    (hK : wpList P ops Q rest (a.put o.dst (.slice base sLen sCap)) w) : wpList P ops Q (o :: rest) a w := by
  refine wpList_plain hgd fun K hK' => ?_
  have hrun := run_append_nothing (P := P) w t tx o.type e i ht hi base sLen sCap hle xv hs
  unfold Oper.wp
  simp [execOp, ho, resolve, invoke, builtin, hv, hx, hrun, Result.andThen]
  exact hK' _ _ hK
theorem rd_far {w : World} {g : Nat} {xs : List Value} (h : Rd w (some ⟨g, 0, none⟩) xs) {p : Addr} (hp : g ≠ p.block) (u : Value) : Rd (w.setCell p u) (some ⟨g, 0, none⟩) xs := fun h0 => by
  obtain ⟨ad, e, hb, hc⟩ := h h0
  cases e
  refine ⟨_, rfl, by simpa using hb, fun j v hj => ?_⟩
  rw [← hc j v hj]
  exact World.cell?_of_block (w := w) (by rw [block_of_add]; exact Below.heap_setCell w p u g hp)
theorem own_form {w : World} {B : Nat} {e : TypeId} {size : Nat} {v : Value} {n : Nat} {xs : List Value} (h : w.ownsRow B e size v n xs) (hn : 0 < n) : ∃ g cap, v = .slice (some ⟨g, 0, none⟩) n cap ∧ n ≤ cap := by
  rcases h.2 with ⟨_, h0⟩ | ⟨g, cap, cur, rfl, _, _, hc, _⟩
  · omega
  · exact ⟨g, cap, rfl, hc⟩
theorem own_none (w : World) : (w.alloc (.cells #[] 23)).ownsRow w.heap.size 23 1 (.slice (some ⟨w.heap.size, 0, none⟩) 0 0) 0 [] :=
  ⟨rfl, .inr ⟨_, 0, #[], rfl, Nat.le_refl _, heap_alloc_new w _, Nat.le_refl _, by decide, rfl, rfl⟩⟩
/-- A picture with samples of its own. -/
def OwnEnd (p : Pic) (n : Nat) (w : World) (e : Ending) (w' : World) : Prop := ∃ g c', e = .returned (.agg #[.string p.name, .int .i64 p.w, .int .i64 p.h, .slice (some ⟨g, 0, none⟩) n c']) ∧ n ≤ c' ∧ Rd w' (some ⟨g, 0, none⟩) (fl p.l) ∧ Below w.heap.size w w'
theorem ownR_any (p : Pic) (A : Option Addr) (c : Nat) (w : World) (hl : p.l.length ≤ 4096) (hA : A = none → p.l.length = 0 ∧ c = 0) (hr : Rd w A (fl p.l)) :
    Calls Tryz.prog 110 #[p.val A c] w (OwnEnd p p.l.length w) := by
  obtain ⟨i0, hi, hz0, hz1, hz2⟩ := info_parts info_mapIF
  unfold Pic.val
  obtain ⟨n, hn⟩ : ∃ n, p.l.length = n := ⟨_, rfl⟩
  rw [hn] at hl hA ⊢
  have HN := Lib.hid hn; clear hn
  have HR := Lib.hid hr; clear hr
  go_enter Tryz.func110, Tryz.ntmps110
  go_upto_region 1 with fail
  have hbx := (Blk.new w 43 #[.string p.name, .int .i64 p.w, .int .i64 p.h, .slice A n c]).alloc (.cells #[.string ⟨#[]⟩, .int .i64 0, .int .i64 0, .slice none 0 0] 43)
  have hby := Blk.new (w.alloc (.cells #[.string p.name, .int .i64 p.w, .int .i64 p.h, .slice A n c] 43)) 43 #[.string ⟨#[]⟩, .int .i64 0, .int .i64 0, .slice none 0 0]
  have hb0 : Below w.heap.size w ((w.alloc (.cells #[.string p.name, .int .i64 p.w, .int .i64 p.h, .slice A n c] 43)).alloc (.cells #[.string ⟨#[]⟩, .int .i64 0, .int .i64 0, .slice none 0 0] 43)) := ((Below.refl _ _).alloc (Nat.le_refl _) _).alloc (by simp) _
  simp only [World.size_alloc] at hby
  generalize (w.alloc (.cells #[.string p.name, .int .i64 p.w, .int .i64 p.h, .slice A n c] 43)).alloc (.cells #[.string ⟨#[]⟩, .int .i64 0, .int .i64 0, .slice none 0 0] 43) = w0 at hbx hby hb0 ⊢
  have z0 := hbx.lt; have z1 := hby.lt
  obtain ⟨c0, c1, c2, c3⟩ := box4 hbx
  obtain ⟨d0, d1, d2, d3⟩ := box4 hby
  have HX := Lib.hid hbx; have HY := Lib.hid hby; have HB := Lib.hid hb0; clear hbx hby hb0
  by_cases hn0 : n = 0
  · subst hn0
    have hsrc : ∀ W, Src Tryz.prog i0.size 41 (.slice A 0 c) 0 [] W := fun W => by
      cases A with
      | none => rw [(hA rfl).2]; exact Src.ofNil W Tryz.underlying41 0
      | some a => exact Src.ofSlice W Tryz.underlying41 a 0 c [] (by simp) (fun j u h => by simp at h) (fun u h => by cases h)
    have HS := Lib.hid hsrc; clear hsrc
    have HL : RowKit.Hid (p.l = []) := Lib.hid (List.eq_nil_of_length_eq_zero HN.out)
    go_step; go_step; go_step; go_step; go_step; go_step; go_step; go_step; go_step; go_step
    refine wpList_append_nothing _ (by rfl) (.tmp 3) (.tmp 5) 41 41 (by rfl) 23 i0 Tryz.underlying41 hi (some ⟨w0.heap.size, 0, none⟩) 0 0 (Nat.le_refl _) (by rfl) (.slice A 0 c) (by rfl) (HS.out _) ?_
    have hxa := HX.out.alloc (.cells #[] 23)
    have hya := HY.out.alloc (.cells #[] 23)
    have hba := HB.out.alloc HB.out.size (.cells #[] 23)
    have hrd : Rd (w0.alloc (.cells #[] 23)) (some ⟨w0.heap.size, 0, none⟩) (fl p.l) := fun h0 => by rw [HL.out] at h0; simp [fl] at h0
    have hg : w.heap.size + 1 < w0.heap.size := z1
    clear HX HY HB c0 c1 c2 c3 d0 d1 d2 d3 z0 z1
    obtain ⟨g, hge⟩ : ∃ g, w0.heap.size = g := ⟨_, rfl⟩
    rw [hge] at hg hrd ⊢
    clear hge
    generalize w0.alloc (.cells #[] 23) = w1 at hxa hya hba hrd ⊢
    have e3 := hxa.cell 3
    have z0 := hxa.lt
    have f3 := hxa.frozen 3
    simp only [List.getElem?_toArray, List.getElem?_cons_zero, List.getElem?_cons_succ] at e3
    have HX := Lib.hid (show Blk (w1.setCell ⟨w.heap.size, 3, none⟩ (.slice (some ⟨g, 0, none⟩) 0 0)) w.heap.size 43 #[.string p.name, .int .i64 p.w, .int .i64 p.h, .slice (some ⟨g, 0, none⟩) 0 0] from hxa.set_ 3 (.slice (some ⟨g, 0, none⟩) 0 0))
    have HY := Lib.hid (hya.far (p := ⟨w.heap.size, 3, none⟩) (by simp) (.slice (some ⟨g, 0, none⟩) 0 0))
    have HB := Lib.hid (hba.setCell (p := ⟨w.heap.size, 3, none⟩) (Nat.le_refl _) (.slice (some ⟨g, 0, none⟩) 0 0))
    have HRD := Lib.hid (rd_far hrd (p := ⟨w.heap.size, 3, none⟩) (by simp; omega) (.slice (some ⟨g, 0, none⟩) 0 0))
    clear hxa hya hba hrd
    go_upto_region 2 with fail
    generalize w1.setCell ⟨w.heap.size, 3, none⟩ (.slice (some ⟨g, 0, none⟩) 0 0) = w2 at HX HY HB HRD ⊢
    clear e3 f3 z0
    obtain ⟨c0, c1, c2, c3⟩ := box4 HX.out
    have hy := HY.out
    have z1 := hy.lt
    have f0 := hy.frozen 0; have f1 := hy.frozen 1; have f2 := hy.frozen 2; have f3 := hy.frozen 3
    obtain ⟨d0, d1, d2, d3⟩ := box4 hy
    clear hy
    go_wp2
    have hyy := Lib.hid (show Blk ((((w2.setCell ⟨w.heap.size + 1, 0, none⟩ (.string p.name)).setCell ⟨w.heap.size + 1, 1, none⟩ (.int .i64 p.w)).setCell ⟨w.heap.size + 1, 2, none⟩ (.int .i64 p.h)).setCell ⟨w.heap.size + 1, 3, none⟩ (.slice (some ⟨g, 0, none⟩) 0 0)) (w.heap.size + 1) 43 #[.string p.name, .int .i64 p.w, .int .i64 p.h, .slice (some ⟨g, 0, none⟩) 0 0] from (((HY.out.set_ 0 _).set_ 1 _).set_ 2 _).set_ 3 _)
    obtain ⟨r0, r1, r2, r3⟩ := box4 hyy.out
    refine bodyPost_ret (v := .agg #[.string p.name, .int .i64 p.w, .int .i64 p.h, .slice (some ⟨g, 0, none⟩) 0 0]) (by simp [results, Tryz.results110, go_sem, r0, r1, r2, r3]) rfl ⟨g, 0, rfl, Nat.le_refl _, ?_, below_set4 HB.out (by omega) _ _ _ _⟩
    exact rd_far (rd_far (rd_far (rd_far HRD.out (by simp; omega) _) (by simp; omega) _) (by simp; omega) _) (by simp; omega) _
  · obtain ⟨ad, rfl, had, hcells⟩ := HR.out (by simp only [fl, List.length_map]; rw [HN.out]; omega)
    have HA2 := Lib.hid (HR.out.below (HB.out.alloc HB.out.size (.cells #[] 23)))
    have HOW := Lib.hid (own_none w0)
    have HFL : RowKit.Hid ((fl p.l).length = n * 1) := Lib.hid (by simp [fl]; exact HN.out)
    have hsz0 := HB.out.size
    clear had hcells
    go_step; go_step; go_step; go_step; go_step; go_step; go_step; go_step; go_step; go_step
    refine wpList_append_own_at _ (by rfl) (.tmp 3) (.tmp 5) 41 (by rfl) w0.heap.size 23 i0 (.float .f32 0) 1 4 Tryz.underlying41 hi hz0 hz1 hz2 (by rfl) (by decide) (.slice (some ⟨w0.heap.size, 0, none⟩) 0 0) 0 [] (by rfl) HOW.out ad n c (fl p.l) (by rfl) HFL.out (fun j u hj => by
        obtain ⟨ad2, e2, _, hc2⟩ := HA2.out (by have := (List.getElem?_eq_some_iff.1 hj).1; omega)
        cases e2; exact hc2 j u hj) (by intro u hu; obtain ⟨b, _, rfl⟩ := List.mem_map.1 hu; rfl) (by unfold maxLen; omega) (by omega) (by simp) ?_
    intro v' w1 hown hgrow hnil hat
    rw [Nat.zero_add, List.nil_append] at hown
    obtain ⟨g, c', rfl, hcap⟩ := own_form hown (by omega)
    have hg0 := (owns_block hown g rfl).1
    have hrd := rd_own hown
    have hxa := blk_grown (HX.out.alloc (.cells #[] 23)) hgrow (fun e => by have : w0.heap.size = w.heap.size := by simpa [Value.ownBlock] using e
                                                                            omega)
    have hya := blk_grown (HY.out.alloc (.cells #[] 23)) hgrow (fun e => by have : w0.heap.size = w.heap.size + 1 := by simpa [Value.ownBlock] using e
                                                                            omega)
    have hba := (HB.out.alloc HB.out.size (.cells #[] 23)).grown hgrow (by simp; omega) (fun r hr => by have : w0.heap.size = r := by simpa [Value.ownBlock] using hr
                                                                                                        omega)
    have hg : w.heap.size + 1 < g := Nat.lt_of_lt_of_le z1 hg0
    clear HX HY HB HOW HA2 c0 c1 c2 c3 d0 d1 d2 d3 z0 z1 hown hgrow hnil hat hg0
    have e3 := hxa.cell 3
    have z0 := hxa.lt
    have f3 := hxa.frozen 3
    simp only [List.getElem?_toArray, List.getElem?_cons_zero, List.getElem?_cons_succ] at e3
    have HX := Lib.hid (show Blk (w1.setCell ⟨w.heap.size, 3, none⟩ (.slice (some ⟨g, 0, none⟩) n c')) w.heap.size 43 #[.string p.name, .int .i64 p.w, .int .i64 p.h, .slice (some ⟨g, 0, none⟩) n c'] from hxa.set_ 3 (.slice (some ⟨g, 0, none⟩) n c'))
    have HY := Lib.hid (hya.far (p := ⟨w.heap.size, 3, none⟩) (by simp) (.slice (some ⟨g, 0, none⟩) n c'))
    have HB := Lib.hid (hba.setCell (p := ⟨w.heap.size, 3, none⟩) (Nat.le_refl _) (.slice (some ⟨g, 0, none⟩) n c'))
    have HRD := Lib.hid (rd_far hrd (p := ⟨w.heap.size, 3, none⟩) (by simp; omega) (.slice (some ⟨g, 0, none⟩) n c'))
    clear hxa hya hba hrd
    go_upto_region 2 with fail
    generalize w1.setCell ⟨w.heap.size, 3, none⟩ (.slice (some ⟨g, 0, none⟩) n c') = w2 at HX HY HB HRD ⊢
    clear e3 f3 z0
    obtain ⟨c0, c1, c2, c3⟩ := box4 HX.out
    have hy := HY.out
    have z1 := hy.lt
    have f0 := hy.frozen 0; have f1 := hy.frozen 1; have f2 := hy.frozen 2; have f3 := hy.frozen 3
    obtain ⟨d0, d1, d2, d3⟩ := box4 hy
    clear hy
    go_wp2
    have hyy := Lib.hid (show Blk ((((w2.setCell ⟨w.heap.size + 1, 0, none⟩ (.string p.name)).setCell ⟨w.heap.size + 1, 1, none⟩ (.int .i64 p.w)).setCell ⟨w.heap.size + 1, 2, none⟩ (.int .i64 p.h)).setCell ⟨w.heap.size + 1, 3, none⟩ (.slice (some ⟨g, 0, none⟩) n c')) (w.heap.size + 1) 43 #[.string p.name, .int .i64 p.w, .int .i64 p.h, .slice (some ⟨g, 0, none⟩) n c'] from (((HY.out.set_ 0 _).set_ 1 _).set_ 2 _).set_ 3 _)
    obtain ⟨r0, r1, r2, r3⟩ := box4 hyy.out
    refine bodyPost_ret (v := .agg #[.string p.name, .int .i64 p.w, .int .i64 p.h, .slice (some ⟨g, 0, none⟩) n c']) (by simp [results, Tryz.results110, go_sem, r0, r1, r2, r3]) rfl ⟨g, c', rfl, hcap, ?_, below_set4 HB.out (by omega) _ _ _ _⟩
    exact rd_far (rd_far (rd_far (rd_far HRD.out (by simp; omega) _) (by simp; omega) _) (by simp; omega) _) (by simp; omega) _

end Go.Proofs.YtlicgblagkkcfaaGreatDoor
namespace Go.Proofs.YtlicgblagkkcfaaGreatDoor
open Go.RowKit
set_option linter.unusedVariables false
attribute [local go_sem] run_store_float run_store_complex
set_option maxRecDepth 100000
theorem own_any (p : Pic) (A : Option Addr) (c : Nat) (w : World) (hl : p.l.length ≤ 4096) (hA : A = none → p.l.length = 0 ∧ c = 0) (hr : Rd w A (fl p.l)) :
    Calls Tryz.prog 30 #[p.val A c] w (OwnEnd p p.l.length w) := by
  have HO := Lib.hid (fun w hr => ownR_any p A c w hl hA hr)
  unfold Pic.val at HO ⊢
  obtain ⟨n, hn⟩ : ∃ n, p.l.length = n := ⟨_, rfl⟩
  rw [hn] at HO ⊢
  clear hl hA hn
  have HR := Lib.hid hr; clear hr
  go_enter Tryz.func30, Tryz.ntmps30
  go_upto_region 1 with fail
  have hbx := (Blk.new w 43 #[.string p.name, .int .i64 p.w, .int .i64 p.h, .slice A n c]).alloc (.cells #[.string ⟨#[]⟩, .int .i64 0, .int .i64 0, .slice none 0 0] 50)
  have hby := Blk.new (w.alloc (.cells #[.string p.name, .int .i64 p.w, .int .i64 p.h, .slice A n c] 43)) 50 #[.string ⟨#[]⟩, .int .i64 0, .int .i64 0, .slice none 0 0]
  have hb0 : Below w.heap.size w ((w.alloc (.cells #[.string p.name, .int .i64 p.w, .int .i64 p.h, .slice A n c] 43)).alloc (.cells #[.string ⟨#[]⟩, .int .i64 0, .int .i64 0, .slice none 0 0] 50)) := ((Below.refl _ _).alloc (Nat.le_refl _) _).alloc (by simp) _
  simp only [World.size_alloc] at hby
  generalize (w.alloc (.cells #[.string p.name, .int .i64 p.w, .int .i64 p.h, .slice A n c] 43)).alloc (.cells #[.string ⟨#[]⟩, .int .i64 0, .int .i64 0, .slice none 0 0] 50) = w0 at hbx hby hb0 ⊢
  have HR0 := Lib.hid (HR.out.below hb0)
  obtain ⟨c0, c1, c2, c3⟩ := box4 hbx
  have HX := Lib.hid hbx; have HY := Lib.hid hby; have HB := Lib.hid hb0; clear hbx hby hb0
  go_wp2_with fail
  refine (HO.out _ HR0.out).mono ?_
  rintro e w2 ⟨g, c', rfl, hcap, hrd, hb⟩
  have hy := HY.out.below hb
  have hg : w.heap.size + 1 < w0.heap.size := HY.out.lt
  have HB2 := Lib.hid (HB.out.trans (hb.mono HB.out.size))
  clear c0 c1 c2 c3 HX HY HB HO HR HR0 hb
  have z1 := hy.lt
  have f0 := hy.frozen 0; have f1 := hy.frozen 1; have f2 := hy.frozen 2; have f3 := hy.frozen 3
  obtain ⟨d0, d1, d2, d3⟩ := box4 hy
  have hyy := Lib.hid (show Blk ((((w2.setCell ⟨w.heap.size + 1, 0, none⟩ (.string p.name)).setCell ⟨w.heap.size + 1, 1, none⟩ (.int .i64 p.w)).setCell ⟨w.heap.size + 1, 2, none⟩ (.int .i64 p.h)).setCell ⟨w.heap.size + 1, 3, none⟩ (.slice (some ⟨g, 0, none⟩) n c')) (w.heap.size + 1) 50 #[.string p.name, .int .i64 p.w, .int .i64 p.h, .slice (some ⟨g, 0, none⟩) n c'] from (((hy.set_ 0 _).set_ 1 _).set_ 2 _).set_ 3 _)
  have HRD := Lib.hid (rd_set4 hrd hy (.four rfl rfl rfl rfl) (.string p.name) (.int .i64 p.w) (.int .i64 p.h) (.slice (some ⟨g, 0, none⟩) n c') rfl rfl rfl)
  clear hy hrd
  go_wp2
  obtain ⟨r0, r1, r2, r3⟩ := box4 hyy.out
  exact bodyPost_ret (v := .agg #[.string p.name, .int .i64 p.w, .int .i64 p.h, .slice (some ⟨g, 0, none⟩) n c']) (by simp [results, Tryz.results30, go_sem, r0, r1, r2, r3]) rfl ⟨g, c', rfl, hcap, HRD.out, below_set4 HB2.out (by omega) _ _ _ _⟩
theorem told_any (nm : ByteArray) (W H : Int) (A : Option Addr) (n c : Nat) (w : World) :
    Calls Tryz.prog 87 #[.agg #[.string nm, .int .i64 W, .int .i64 H, .slice A n c]] w fun e w' => e = .returned (.agg #[.string nm, .int .i64 W, .int .i64 H, .slice A n c]) ∧ Below w.heap.size w w' := by
  go_enter Tryz.func87, Tryz.ntmps87
  go_upto_region 1 with fail
  have hbx := (Blk.new w 50 #[.string nm, .int .i64 W, .int .i64 H, .slice A n c]).alloc (.cells #[.string ⟨#[]⟩, .int .i64 0, .int .i64 0, .slice none 0 0] 43)
  have hby := Blk.new (w.alloc (.cells #[.string nm, .int .i64 W, .int .i64 H, .slice A n c] 50)) 43 #[.string ⟨#[]⟩, .int .i64 0, .int .i64 0, .slice none 0 0]
  have hb0 : Below w.heap.size w ((w.alloc (.cells #[.string nm, .int .i64 W, .int .i64 H, .slice A n c] 50)).alloc (.cells #[.string ⟨#[]⟩, .int .i64 0, .int .i64 0, .slice none 0 0] 43)) := ((Below.refl _ _).alloc (Nat.le_refl _) _).alloc (by simp) _
  simp only [World.size_alloc] at hby
  generalize (w.alloc (.cells #[.string nm, .int .i64 W, .int .i64 H, .slice A n c] 50)).alloc (.cells #[.string ⟨#[]⟩, .int .i64 0, .int .i64 0, .slice none 0 0] 43) = w0 at hbx hby hb0 ⊢
  obtain ⟨c0, c1, c2, c3⟩ := box4 hbx
  have z1 := hby.lt
  have f0 := hby.frozen 0; have f1 := hby.frozen 1; have f2 := hby.frozen 2; have f3 := hby.frozen 3
  obtain ⟨d0, d1, d2, d3⟩ := box4 hby
  have hyy := Lib.hid (show Blk ((((w0.setCell ⟨w.heap.size + 1, 0, none⟩ (.string nm)).setCell ⟨w.heap.size + 1, 1, none⟩ (.int .i64 W)).setCell ⟨w.heap.size + 1, 2, none⟩ (.int .i64 H)).setCell ⟨w.heap.size + 1, 3, none⟩ (.slice A n c)) (w.heap.size + 1) 43 #[.string nm, .int .i64 W, .int .i64 H, .slice A n c] from (((hby.set_ 0 _).set_ 1 _).set_ 2 _).set_ 3 _)
  have HB := Lib.hid hb0; clear hbx hby hb0
  go_wp2
  obtain ⟨r0, r1, r2, r3⟩ := box4 hyy.out
  exact bodyPost_ret (v := .agg #[.string nm, .int .i64 W, .int .i64 H, .slice A n c]) (by simp [results, Tryz.results87, go_sem, r0, r1, r2, r3]) rfl ⟨rfl, below_set4 HB.out (by omega) _ _ _ _⟩
theorem samePicture_true (nm : ByteArray) (W H : Int) (A B : Option Addr) (n c d : Nat) (l k : List Nat) (w : World) (hl : l.length = n) (hk : k.length = n) (hn : n ≤ maxLen) (hs : sameF l k = true) (hr : Rd w A (fl l)) (hr2 : Rd w B (fl k)) :
    Calls Tryz.prog 88 #[.agg #[.string nm, .int .i64 W, .int .i64 H, .slice A n c], .agg #[.string nm, .int .i64 W, .int .i64 H, .slice B n d]] w fun e w' => e = .returned (.bool true) ∧ Below w.heap.size w w' := by
  have hss := fun w h1 h2 => sameSamples_any A B c d l k w (by rw [hl]; exact hn) (by rw [hk]; exact hn) h1 h2
  rw [hl, hk, hs] at hss
  have HS := Lib.hid hss; have HR := Lib.hid hr; have HR2 := Lib.hid hr2
  clear hss hr hr2 hl hk hs
  go_enter Tryz.func88, Tryz.ntmps88
  go_upto_region 1 with fail
  have hbx := (Blk.new w 43 #[.string nm, .int .i64 W, .int .i64 H, .slice A n c]).alloc (.cells #[.string nm, .int .i64 W, .int .i64 H, .slice B n d] 43)
  have hby := Blk.new (w.alloc (.cells #[.string nm, .int .i64 W, .int .i64 H, .slice A n c] 43)) 43 #[.string nm, .int .i64 W, .int .i64 H, .slice B n d]
  have hb0 : Below w.heap.size w ((w.alloc (.cells #[.string nm, .int .i64 W, .int .i64 H, .slice A n c] 43)).alloc (.cells #[.string nm, .int .i64 W, .int .i64 H, .slice B n d] 43)) := ((Below.refl _ _).alloc (Nat.le_refl _) _).alloc (by simp) _
  simp only [World.size_alloc] at hby
  generalize (w.alloc (.cells #[.string nm, .int .i64 W, .int .i64 H, .slice A n c] 43)).alloc (.cells #[.string nm, .int .i64 W, .int .i64 H, .slice B n d] 43) = w0 at hbx hby hb0 ⊢
  obtain ⟨c0, c1, c2, c3⟩ := box4 hbx
  obtain ⟨d0, d1, d2, d3⟩ := box4 hby
  have HB := Lib.hid hb0; clear hbx hby
  have HRa := Lib.hid (HR.out.below hb0); have HRb := Lib.hid (HR2.out.below hb0)
  clear hb0
  have hnm : (nm == nm) = true := by rw [beq_toListBytes]; simp
  go_wp2_with fail
  refine (HS.out _ HRa.out HRb.out).mono ?_
  rintro e w1 ⟨rfl, hb⟩
  go_wp2
  go_ret
  exact ⟨rfl, HB.out.trans (hb.mono HB.out.size)⟩

end Go.Proofs.YtlicgblagkkcfaaGreatDoor
namespace Go.Proofs.YtlicgblagkkcfaaGreatDoor
open Go.RowKit
set_option linter.unusedVariables false
set_option maxRecDepth 100000
/-- The law's 'one', where all is well. -/
theorem one_true (nm : ByteArray) (W H : Int) (A B : Option Addr) (n c d : Nat) (l k : List Nat) (w : World) (hl : l.length = n) (hk : k.length = n) (hn : n ≤ maxLen) (hs : sameF l k = true) (hr : Rd w A (fl l)) (hr2 : Rd w B (fl k)) :
    Calls Tryz.prog 38 #[.agg #[.string nm, .int .i64 W, .int .i64 H, .slice A n c], .int .i64 0, .int .i64 0, .agg #[.string nm, .int .i64 W, .int .i64 H, .slice B n d]] w fun e w' => e = .returned (.bool true) ∧ Below w.heap.size w w' := by
  have hss := fun w h1 h2 => samePicture_true nm W H A B n c d l k w hl hk hn hs h1 h2
  have HS := Lib.hid hss; have HR := Lib.hid hr; have HR2 := Lib.hid hr2
  clear hss hr hr2 hl hk hs
  go_enter Tryz.func38, Tryz.ntmps38
  go_upto_region 1 with fail
  have hbx := (Blk.new w 50 #[.string nm, .int .i64 W, .int .i64 H, .slice A n c]).alloc (.cells #[.string nm, .int .i64 W, .int .i64 H, .slice B n d] 43)
  have hby := Blk.new (w.alloc (.cells #[.string nm, .int .i64 W, .int .i64 H, .slice A n c] 50)) 43 #[.string nm, .int .i64 W, .int .i64 H, .slice B n d]
  have hb0 : Below w.heap.size w ((w.alloc (.cells #[.string nm, .int .i64 W, .int .i64 H, .slice A n c] 50)).alloc (.cells #[.string nm, .int .i64 W, .int .i64 H, .slice B n d] 43)) := ((Below.refl _ _).alloc (Nat.le_refl _) _).alloc (by simp) _
  simp only [World.size_alloc] at hby
  generalize (w.alloc (.cells #[.string nm, .int .i64 W, .int .i64 H, .slice A n c] 50)).alloc (.cells #[.string nm, .int .i64 W, .int .i64 H, .slice B n d] 43) = w0 at hbx hby hb0 ⊢
  obtain ⟨c0, c1, c2, c3⟩ := box4 hbx
  obtain ⟨d0, d1, d2, d3⟩ := box4 hby
  have z0 := hbx.lt; have z1 := hby.lt
  have HB := Lib.hid hb0; clear hbx hby
  have HRa := Lib.hid (HR.out.below hb0); have HRb := Lib.hid (HR2.out.below hb0)
  clear hb0 HR HR2
  go_upto_region 3 with fail
  go_region_held3 (SK w0)
    (first | exact sk_drew0 _ | exact sk_drew (by assumption) | assumption | exact sk_call (by assumption) (by assumption) | exact sk_alloc (by assumption) _)
    (first
      | (go_at_call 87; refine (told_any _ _ _ _ _ _ _).mono ?_; rintro e wn ⟨rfl, hbn⟩; have hch := sk_call (w0 := w0) (by assumption) hbn)
      | (go_at_call 88; refine (HS.out _ (HRa.out.below (And.left (by assumption : SK w0 _))) (HRb.out.below (And.left (by assumption : SK w0 _)))).mono ?_; rintro e wn ⟨rfl, hbn⟩; have hch := sk_call (w0 := w0) (by assumption) hbn))
  have hfin := sk_call (w0 := w0) (by assumption) hbn
  go_wp2
  go_ret
  exact ⟨rfl, HB.out.trans (hfin.1.mono HB.out.size)⟩
/-- The law's 'one', where an error is expected. -/
theorem one_bad (nm : ByteArray) (W H : Int) (B : Option Addr) (n d : Nat) (z : Int) (hz : z ≠ 0) (w : World) :
    Calls Tryz.prog 38 #[.agg #[.string ⟨#[]⟩, .int .i64 0, .int .i64 0, .slice none 0 0], .int .i64 z, .int .i64 z, .agg #[.string nm, .int .i64 W, .int .i64 H, .slice B n d]] w fun e w' => e = .returned (.bool true) ∧ Below w.heap.size w w' := by
  have hz' : (z != 0) = true := by simpa using hz
  have HZ := Lib.hid hz; clear hz
  go_enter Tryz.func38, Tryz.ntmps38
  go_upto_region 1 with fail
  have hbx := (Blk.new w 50 #[.string ⟨#[]⟩, .int .i64 0, .int .i64 0, .slice none 0 0]).alloc (.cells #[.string nm, .int .i64 W, .int .i64 H, .slice B n d] 43)
  have hby := Blk.new (w.alloc (.cells #[.string ⟨#[]⟩, .int .i64 0, .int .i64 0, .slice none 0 0] 50)) 43 #[.string nm, .int .i64 W, .int .i64 H, .slice B n d]
  have hb0 : Below w.heap.size w ((w.alloc (.cells #[.string ⟨#[]⟩, .int .i64 0, .int .i64 0, .slice none 0 0] 50)).alloc (.cells #[.string nm, .int .i64 W, .int .i64 H, .slice B n d] 43)) := ((Below.refl _ _).alloc (Nat.le_refl _) _).alloc (by simp) _
  simp only [World.size_alloc] at hby
  generalize (w.alloc (.cells #[.string ⟨#[]⟩, .int .i64 0, .int .i64 0, .slice none 0 0] 50)).alloc (.cells #[.string nm, .int .i64 W, .int .i64 H, .slice B n d] 43) = u0 at hbx hby hb0 ⊢
  have hx2 := (((hbx.far (p := ⟨w.heap.size + 1, 0, none⟩) (by simp) (.string ⟨#[]⟩)).far (p := ⟨w.heap.size + 1, 1, none⟩) (by simp) (.int .i64 0)).far (p := ⟨w.heap.size + 1, 2, none⟩) (by simp) (.int .i64 0)).far (p := ⟨w.heap.size + 1, 3, none⟩) (by simp) (.slice none 0 0)
  have hy2 : Blk ((((u0.setCell ⟨w.heap.size + 1, 0, none⟩ (.string ⟨#[]⟩)).setCell ⟨w.heap.size + 1, 1, none⟩ (.int .i64 0)).setCell ⟨w.heap.size + 1, 2, none⟩ (.int .i64 0)).setCell ⟨w.heap.size + 1, 3, none⟩ (.slice none 0 0)) (w.heap.size + 1) 43 #[.string ⟨#[]⟩, .int .i64 0, .int .i64 0, .slice none 0 0] := (((hby.set_ 0 _).set_ 1 _).set_ 2 _).set_ 3 _
  have hb2 := below_set4 hb0 (g := w.heap.size + 1) (by omega) (.string ⟨#[]⟩) (.int .i64 0) (.int .i64 0) (.slice none 0 0)
  have HX := Lib.hid hx2; have HY := Lib.hid hy2; have HB := Lib.hid hb2
  have f0 := hby.frozen 0; have f1 := hby.frozen 1; have f2 := hby.frozen 2; have f3 := hby.frozen 3
  obtain ⟨d0, d1, d2, d3⟩ := box4 hby
  have z1 := hby.lt
  clear hbx hby hb0 hx2 hy2 hb2
  go_upto_region 3 with fail
  generalize (((u0.setCell ⟨w.heap.size + 1, 0, none⟩ (.string ⟨#[]⟩)).setCell ⟨w.heap.size + 1, 1, none⟩ (.int .i64 0)).setCell ⟨w.heap.size + 1, 2, none⟩ (.int .i64 0)).setCell ⟨w.heap.size + 1, 3, none⟩ (.slice none 0 0) = w0 at HX HY HB ⊢
  clear d0 d1 d2 d3 f0 f1 f2 f3 z1
  obtain ⟨c0, c1, c2, c3⟩ := box4 HX.out
  obtain ⟨d0, d1, d2, d3⟩ := box4 HY.out
  have z0 := HX.out.lt; have z1 := HY.out.lt
  have HR : RowKit.Hid (∀ W, Rd W none (fl [])) := Lib.hid (fun W h => absurd h (by simp [fl]))
  clear HX HY
  go_region_held3 (SK w0)
    (first | exact sk_drew0 _ | exact sk_drew (by assumption) | assumption | exact sk_call (by assumption) (by assumption) | exact sk_alloc (by assumption) _)
    (first
      | (go_at_call 87; refine (told_any _ _ _ _ _ _ _).mono ?_; rintro e wn ⟨rfl, hbn⟩; have hch := sk_call (w0 := w0) (by assumption) hbn)
      | (go_at_call 88; refine (samePicture_true ⟨#[]⟩ 0 0 none none 0 0 0 [] [] _ rfl rfl (by decide) (by decide) (HR.out _) (HR.out _)).mono ?_; rintro e wn ⟨rfl, hbn⟩; have hch := sk_call (w0 := w0) (by assumption) hbn))
  have hfin := sk_call (w0 := w0) (by assumption) hbn
  go_wp2
  go_ret
  exact ⟨rfl, HB.out.trans (hfin.1.mono HB.out.size)⟩

end Go.Proofs.YtlicgblagkkcfaaGreatDoor
namespace Go.Proofs.YtlicgblagkkcfaaGreatDoor
open Go.RowKit
set_option linter.unusedVariables false
set_option maxRecDepth 100000
theorem firstF_drop (f : Nat → Int) (l : List Nat) (k : Nat) (hk : k < l.length) : firstF f (l.drop k) = if f (l.getD k 0) = 0 then firstF f (l.drop (k + 1)) else f (l.getD k 0) := by
  rw [List.drop_eq_getElem_cons hk]
  simp [firstF, List.getD, hk]
def Pic.head (p : Pic) : Int := firstE [errIf (!nameOk p.name) 8, outs p.w 1 64, outs p.h 1 64]
theorem err_head {p : Pic} (h : p.head ≠ 0) : p.err = p.head := by
  unfold Pic.err; unfold Pic.head at h ⊢
  simp only [firstE] at h ⊢
  repeat' split
  all_goals simp_all
theorem err_shape {p : Pic} (h : p.head = 0) (hs : ((p.l.length : Int) != IntKind.i64.wrap (p.w * p.h)) = true) : p.err = 2 := by
  unfold Pic.err; unfold Pic.head at h
  simp only [firstE] at h ⊢
  rw [hs]
  repeat' split
  all_goals simp_all [errIf]
theorem err_rest {p : Pic} (h : p.head = 0) (hs : ((p.l.length : Int) != IntKind.i64.wrap (p.w * p.h)) = false) : p.err = firstF (chk 1024) p.l := by
  unfold Pic.err; unfold Pic.head at h
  simp only [firstE] at h ⊢
  rw [hs]
  repeat' split
  all_goals simp_all [errIf]
set_option maxHeartbeats 1000000 in
theorem checkPictureR_any (p : Pic) (A : Option Addr) (c : Nat) (w : World) (hs : p.name.size ≤ maxLen) (hl : p.l.length ≤ 4096) (hr : Rd w A (fl p.l)) :
    Calls Tryz.prog 32 #[p.val A c] w fun e w' => e = .returned (.int .i64 p.err) ∧ Below w.heap.size w w' := by
  have HR := Lib.hid hr; clear hr
  obtain ⟨n, hn⟩ : ∃ n, p.l.length = n := ⟨_, rfl⟩
  have HN := Lib.hid hn
  unfold Pic.val
  rw [hn] at hl ⊢
  clear hn
  go_enter Tryz.func32, Tryz.ntmps32
  go_upto_region 1 with fail
  have hbx := Blk.new w 43 #[.string p.name, .int .i64 p.w, .int .i64 p.h, .slice A n c]
  have hb0 : Below w.heap.size w (w.alloc (.cells #[.string p.name, .int .i64 p.w, .int .i64 p.h, .slice A n c] 43)) := (Below.refl _ _).alloc (Nat.le_refl _) _
  generalize w.alloc (.cells #[.string p.name, .int .i64 p.w, .int .i64 p.h, .slice A n c] 43) = w0 at hbx hb0 ⊢
  obtain ⟨c0, c1, c2, c3⟩ := box4 hbx
  have z0 := hbx.lt
  have HX := Lib.hid hbx; have HB := Lib.hid hb0; clear hbx hb0
  go_region_held3 (SK w0)
    (first | exact sk_drew0 _ | exact sk_drew (by assumption) | assumption | exact sk_call (by assumption) (by assumption) | exact sk_alloc (by assumption) _)
    (first
      | (go_at_call 113; refine (checkName_any _ _ hs).mono ?_; rintro e wn ⟨rfl, rfl⟩)
      | (go_at_call 19; refine (checkRange_any _ _ _ _).mono ?_; rintro e wn ⟨rfl, rfl⟩)
      | (go_at_call 99; refine (firstR_n _ _ _ [_, _, _] _ rfl (by simp [maxLen]) (by exact rd_of_blk (Blk.new _ _ _) rfl)).mono ?_; rintro e wn ⟨rfl, rfl⟩))
  have hch := sk_drew (sk_alloc (sk_refl w0) (.cells #[.int .i64 (errIf (!nameOk p.name) 8), .int .i64 (outs p.w 1 64), .int .i64 (outs p.h 1 64)] 3))
  have HH : RowKit.Hid (firstE [errIf (!nameOk p.name) 8, outs p.w 1 64, outs p.h 1 64] = p.head) := Lib.hid rfl
  rw [HH.out]
  generalize (w0.alloc (.cells #[.int .i64 (errIf (!nameOk p.name) 8), .int .i64 (outs p.w 1 64), .int .i64 (outs p.h 1 64)] 3)).drew = w1 at hch ⊢
  replace HX := Lib.hid (HX.out.below hch.1)
  have HB1 := Lib.hid (HB.out.trans (hch.1.mono HB.out.size))
  clear hch c0 c1 c2 c3 z0 HB HH
  obtain ⟨c0, c1, c2, c3⟩ := box4 HX.out
  by_cases hz : p.head = 0
  · rw [hz]
    have HZ := Lib.hid hz; clear hz
    cases hsh : ((n : Int) != wrap64 (p.w * p.h))
    · have HE := Lib.hid (err_rest HZ.out (by rw [HN.out, show IntKind.i64.wrap (p.w * p.h) = wrap64 (p.w * p.h) from by unfold wrap64; exact IntKind.wrap_i64 _]; exact hsh))
      go_wp2
      go_loopw [4] (fun i wr => ∃ k : Nat, k ≤ n ∧ i = .int .i64 k ∧ p.err = firstF (chk 1024) (p.l.drop k) ∧ Blk wr w.heap.size 43 #[.string p.name, .int .i64 p.w, .int .i64 p.h, .slice A n c] ∧ Below w.heap.size w wr) (fun i _ => n - (intOf i).toNat)
      case atStart => exact ⟨0, by omega, rfl, HE.out, HX.out, HB1.out⟩
      case round =>
        obtain ⟨k, hk, rfl, hf, hb, hbel⟩ := hrel
        have HF := Lib.hid hf; clear hf c0 c1 c2 c3
        obtain ⟨c0, c1, c2, c3⟩ := box4 hb
        have HX2 := Lib.hid hb; have HB2 := Lib.hid hbel
        by_cases hlt : k < n
        · have hkl : k < p.l.length := by rw [HN.out]; exact hlt
          have hd := Lib.hid (firstF_drop (chk 1024) p.l k hkl)
          obtain ⟨ad, rfl, hbl, hc⟩ := (HR.out.below hbel).get (k := k) (u := .float .f32 (p.l.getD k 0)) (by simp [fl, List.getD, hkl])
          obtain ⟨b, hbb⟩ : ∃ b, p.l.getD k 0 = b := ⟨_, rfl⟩
          rw [hbb] at hc hd
          clear hb hbel hkl hbb
          go_wp2_with fail
          refine (checkSampleR_any _ _).mono ?_
          rintro e w2 ⟨rfl, hb2⟩
          have HX3 := Lib.hid (HX2.out.below hb2); have HB3 := Lib.hid (HB2.out.trans (hb2.mono HB2.out.size))
          clear hb2 c0 c1 c2 c3 hc HX2 HB2
          by_cases hz : chk 1024 b = 0
          · rw [hz]
            have HFN := Lib.hid (HF.out.trans (hd.out.trans (if_pos hz)))
            clear hz
            go_wp2
            go_roundw
            case rel => exact ⟨k + 1, by omega, by go_num, HFN.out, HX3.out, HB3.out⟩
            case measure => simp [intOf]; omega
          · have HFN := Lib.hid (HF.out.trans (hd.out.trans (if_neg hz)))
            obtain ⟨z, hze⟩ : ∃ z, chk 1024 b = z := ⟨_, rfl⟩
            rw [hze] at hz HFN ⊢
            have hz' : (z != 0) = true := by simpa using hz
            clear hze
            go_wp2
            go_ret
            exact ⟨ret_int HFN.out.symm, HB3.out⟩
        · have hkn : k = n := by omega
          subst hkn
          have HFN := Lib.hid (HF.out.trans (show firstF (chk 1024) (p.l.drop k) = 0 by rw [List.drop_of_length_le (by rw [HN.out]; exact Nat.le_refl _)]; rfl))
          clear hb hbel
          go_wp2
          go_ret
          exact ⟨ret_int HFN.out.symm, HB2.out⟩
    · have HE := Lib.hid (err_shape HZ.out (by rw [HN.out, show IntKind.i64.wrap (p.w * p.h) = wrap64 (p.w * p.h) from by unfold wrap64; exact IntKind.wrap_i64 _]; exact hsh))
      go_wp2
      go_ret
      exact ⟨ret_int HE.out.symm, HB1.out⟩
  · have HE := Lib.hid (err_head hz)
    obtain ⟨z, hze⟩ : ∃ z, p.head = z := ⟨_, rfl⟩
    rw [hze] at hz HE ⊢
    have hz' : (z != 0) = true := by simpa using hz
    clear hze
    go_wp2
    go_ret
    exact ⟨ret_int HE.out.symm, HB1.out⟩

end Go.Proofs.YtlicgblagkkcfaaGreatDoor
namespace Go.Proofs.YtlicgblagkkcfaaGreatDoor
open Go.RowKit
set_option linter.unusedVariables false
set_option maxRecDepth 100000
attribute [local go_sem] run_store_float run_store_complex
def sideB (x : Int) : Bool := decide (x ≤ 12) || decide (64 < x)
def shortB (p : Pic) : Bool := decide (p.name.size ≤ 40 ∧ p.l.length ≤ 160) && (sideB p.w && sideB p.h)
theorem short_facts {p : Pic} (h : shortB p = true) : p.name.size ≤ 40 ∧ p.l.length ≤ 160 := by unfold shortB at h; simp at h; exact h.1
set_option maxHeartbeats 1000000 in
theorem shortR_any (p : Pic) (A : Option Addr) (c : Nat) (w : World) :
    Calls Tryz.prog 28 #[p.val A c] w fun e w' => e = .returned (.bool (shortB p)) ∧ Below w.heap.size w w' := by
  unfold Pic.val shortB
  obtain ⟨n, hn⟩ : ∃ n, p.l.length = n := ⟨_, rfl⟩
  obtain ⟨m, hm⟩ : ∃ m, p.name.size = m := ⟨_, rfl⟩
  rw [hn, hm]
  have HM := Lib.hid hm
  clear hn
  go_enter Tryz.func28, Tryz.ntmps28
  go_upto_region 1 with fail
  have hbx := Blk.new w 43 #[.string p.name, .int .i64 p.w, .int .i64 p.h, .slice A n c]
  have hb0 : Below w.heap.size w (w.alloc (.cells #[.string p.name, .int .i64 p.w, .int .i64 p.h, .slice A n c] 43)) := (Below.refl _ _).alloc (Nat.le_refl _) _
  generalize w.alloc (.cells #[.string p.name, .int .i64 p.w, .int .i64 p.h, .slice A n c] 43) = w0 at hbx hb0 ⊢
  obtain ⟨c0, c1, c2, c3⟩ := box4 hbx
  have HB := Lib.hid hb0; clear hbx hb0
  by_cases h1 : (m : Int) ≤ 40
  · by_cases h2 : (n : Int) ≤ 160
    · by_cases h3 : p.w ≤ 12
      · by_cases h5 : p.h ≤ 12
        · go_wp2
          go_ret
          exact ⟨ret_bool (by simp [sideB]; omega), HB.out⟩
        · by_cases h6 : 64 < p.h
          all_goals
            go_wp2
            go_ret
            exact ⟨ret_bool (by simp [sideB]; omega), HB.out⟩
      · by_cases h4 : 64 < p.w
        · by_cases h5 : p.h ≤ 12
          · go_wp2
            go_ret
            exact ⟨ret_bool (by simp [sideB]; omega), HB.out⟩
          · by_cases h6 : 64 < p.h
            all_goals
              go_wp2
              go_ret
              exact ⟨ret_bool (by simp [sideB]; omega), HB.out⟩
        · go_wp2
          go_ret
          exact ⟨ret_bool (by simp [sideB]; omega), HB.out⟩
    · go_wp2
      go_ret
      exact ⟨ret_bool (by simp [sideB]; omega), HB.out⟩
  · go_wp2
    go_ret
    exact ⟨ret_bool (by simp [sideB]; omega), HB.out⟩

theorem eqF_self {b : Nat} (h : chk 1024 b = 0) : eqF b b = true := by
  obtain ⟨s, n, hn, _, _⟩ := chk_zero h
  unfold eqF
  have h1 := hn.order hn
  rw [cmp_self] at h1
  rw [show FloatKind.f32.format.order b b = some .eq from h1]
  rfl
theorem sameF_self {l : List Nat} (h : ∀ b ∈ l, chk 1024 b = 0) : sameF l l = true := by
  induction l with
  | nil => rfl
  | cons a l ih =>
    simp only [sameF, eqF_self (h a (List.mem_cons_self ..)), Bool.true_and]
    exact ih fun b hb => h b (List.mem_cons_of_mem _ hb)
theorem chk_nil : chk 1024 0 = 0 := by decide +kernel
theorem chk_getD {l : List Nat} (h : ∀ b ∈ l, chk 1024 b = 0) (i : Nat) : chk 1024 (l.getD i 0) = 0 := by
  by_cases hi : i < l.length
  · exact h _ (by simp [List.getD, hi])
  · simp [List.getD, List.getElem?_eq_none (Nat.le_of_not_lt hi), chk_nil]
theorem ok_sizes {nm : ByteArray} {W H : Nat} {l : List Nat} (hp : (Pic.mk nm W H l).Ok) : (1 ≤ W ∧ W ≤ 64) ∧ (1 ≤ H ∧ H ≤ 64) ∧ l.length = W * H ∧ nm.size ≤ maxLen ∧ l.length ≤ maxLen := by
  have h1 := hp.w1; have h2 := hp.w2; have h3 := hp.h1; have h4 := hp.h2; have h5 := hp.len; have h6 := hp.big; have h7 := hp.name
  simp only [] at h1 h2 h3 h4 h5
  unfold nameOk at h7; simp at h7
  exact ⟨by omega, by omega, by exact_mod_cast h5, Nat.le_trans h7.1.2 (by decide), Nat.le_trans h6 (by decide)⟩
/-- A law's end: true, and nothing of old turned. -/
def TrueEnd (w : World) (e : Ending) (w' : World) : Prop := e = .returned (.bool true) ∧ Below w.heap.size w w'
theorem trueEnd_mk {w w' : World} {e : Ending} (h : e = .returned (.bool true)) (hb : Below w.heap.size w w') : TrueEnd w e w' := ⟨h, hb⟩
theorem bl_far4 {w : World} {k g : Nat} {t : TypeId} {cs : Array Value} (h : Blk w k t cs) (hk : ¬ k = g) (a b c d : Value) : Blk ((((w.setCell ⟨g, 0, none⟩ a).setCell ⟨g, 1, none⟩ b).setCell ⟨g, 2, none⟩ c).setCell ⟨g, 3, none⟩ d) k t cs :=
  (((h.far (p := ⟨g, 0, none⟩) hk a).far (p := ⟨g, 1, none⟩) hk b).far (p := ⟨g, 2, none⟩) hk c).far (p := ⟨g, 3, none⟩) hk d
theorem blk_set4' {w : World} {g : Nat} {t : TypeId} {x0 x1 x2 x3 : Value} (h : Blk w g t #[x0, x1, x2, x3]) (a b c d : Value) : Blk ((((w.setCell ⟨g, 0, none⟩ a).setCell ⟨g, 1, none⟩ b).setCell ⟨g, 2, none⟩ c).setCell ⟨g, 3, none⟩ d) g t #[a, b, c, d] := by
  have := (((h.set_ 0 a).set_ 1 b).set_ 2 c).set_ 3 d
  simpa using this
theorem nf_four {a b c d : Value} (ha : fltV a = false) (hb : fltV b = false) (hc : fltV c = false) (hd : fltV d = false) : NF #[a, b, c, d] := fun k u hu => by
  match k with
  | 0 => cases hu; exact ha
  | 1 => cases hu; exact hb
  | 2 => cases hu; exact hc
  | 3 => cases hu; exact hd
  | k + 4 => simp at hu
theorem rdl_set4 {w : World} {A : Option Addr} {l : List Nat} {g : Nat} {t : TypeId} {cs : Array Value} (h : Rd w A (fl l)) (hb : Blk w g t cs) (hn : NF cs) (x0 x1 x2 x3 : Value) (f0 : fltV x0 = false) (f1 : fltV x1 = false) (f2 : fltV x2 = false) : Rd ((((w.setCell ⟨g, 0, none⟩ x0).setCell ⟨g, 1, none⟩ x1).setCell ⟨g, 2, none⟩ x2).setCell ⟨g, 3, none⟩ x3) A (fl l) :=
  rd_set (rd_set (rd_set (rd_set h hb hn 0 x0) (hb.set_ 0 x0) (hn.set 0 x0 f0) 1 x1) ((hb.set_ 0 x0).set_ 1 x1) ((hn.set 0 x0 f0).set 1 x1 f1) 2 x2) (((hb.set_ 0 x0).set_ 1 x1).set_ 2 x2) (((hn.set 0 x0 f0).set 1 x1 f1).set 2 x2 f2) 3 x3
def BoolEnd (b : Bool) (w : World) (e : Ending) (w' : World) : Prop := e = .returned (.bool b) ∧ Below w.heap.size w w'
theorem firstF_none {f : Nat → Int} {l : List Nat} (h : ∀ b ∈ l, f b = 0) : firstF f l = 0 := by
  induction l with
  | nil => rfl
  | cons a l ih => rw [firstF, if_pos (h a (List.mem_cons_self ..))]; exact ih fun b hb => h b (List.mem_cons_of_mem _ hb)
theorem outs_none {n a b : Int} (h1 : a ≤ n) (h2 : n ≤ b) : outs n a b = 0 := by
  unfold outs errIf
  rw [if_neg (by simp; omega)]
theorem ok_err {p : Pic} (h : p.Ok) : p.err = 0 := by
  unfold Pic.err
  have h1 : errIf (!nameOk p.name) 8 = 0 := by rw [h.name]; rfl
  have h2 := outs_none h.w1 h.w2
  have h3 := outs_none h.h1 h.h2
  have h4 : errIf ((p.l.length : Int) != IntKind.i64.wrap (p.w * p.h)) 2 = 0 := by
    rw [← h.len, IntWalk.i64_in _ (by have := h.big; omega)]; simp [errIf]
  rw [h1, h2, h3, h4, firstF_none h.ok]
  rfl
/-- A valid picture, by its numbers. -/
theorem ok_mk {nm : ByteArray} {W H : Nat} {l : List Nat} (hn : nameOk nm = true) (hW : 1 ≤ W ∧ W ≤ 64) (hH : 1 ≤ H ∧ H ≤ 64) (hl : l.length = W * H) (hc : ∀ b ∈ l, chk 1024 b = 0) : (Pic.mk nm W H l).Ok :=
  ⟨hn, by simp; omega, by simp; omega, by simp; omega, by simp; omega, by simp [hl], by simp only []; rw [hl]; exact Nat.le_trans (Nat.mul_le_mul hW.2 hH.2) (by decide), hc⟩
def OwnOk (nm : ByteArray) (W H n : Nat) (l : List Nat) (w : World) (e : Ending) (w' : World) : Prop := ∃ g c', e = .returned (.agg #[.string nm, .int .i64 (W : Int), .int .i64 (H : Int), .slice (some ⟨g, 0, none⟩) n c']) ∧ n ≤ c' ∧ Rd w' (some ⟨g, 0, none⟩) (fl l) ∧ Below w.heap.size w w'
section
variable {nm : ByteArray} {W H : Nat} {l : List Nat} (hp : (Pic.mk nm W H l).Ok) {n : Nat} (hn : l.length = n) (A : Option Addr) (c : Nat) (w : World)
include hp hn
theorem own_v (hr : Rd w A (fl l)) : Calls Tryz.prog 30 #[.agg #[.string nm, .int .i64 (W : Int), .int .i64 (H : Int), .slice A n c]] w (OwnOk nm W H n l w) := by
  subst hn
  have hpos : 0 < (fl l).length := by have h := ok_sizes hp; have := prod_pos h.1.1 h.2.1.1; simp [fl]; omega
  obtain ⟨ad, rfl, _, _⟩ := hr.some_ hpos
  exact own_any (Pic.mk nm W H l) (some ad) c w hp.big (fun h => by cases h) hr
theorem mean_v (S : Int) (hS : sumF lvl l = S) (hr : Rd w A (fl l)) : Calls Tryz.prog 56 #[.agg #[.string nm, .int .i64 (W : Int), .int .i64 (H : Int), .slice A n c]] w fun e w' => e = .returned (.tuple #[.agg #[.int .i64 (S / (Int.gcd S (16 * n) : Nat)), .int .i64 (16 * n / (Int.gcd S (16 * n) : Nat))], .int .i64 0]) ∧ Below w.heap.size w w' := by
  subst hn; subst hS
  exact mean_ok (Pic.mk nm W H l) hp (ok_err hp) A c w (ok_sizes hp).2.2.2.1 (ok_sizes hp).2.2.2.2 hr
end
theorem valid_any (p : Pic) (A : Option Addr) (c : Nat) (w : World) (hr : Rd w A (fl p.l)) : Calls Tryz.prog 86 #[p.val A c] w (BoolEnd (shortB p && (p.err == 0)) w) := by
  have HS0 := Lib.hid (fun w => shortR_any p A c w)
  have HR := Lib.hid hr; clear hr
  by_cases hsh : shortB p = true
  · obtain ⟨hs0, hl0⟩ := short_facts hsh
    have HCK := Lib.hid (fun w hr => checkPictureR_any p A c w (Nat.le_trans hs0 (by decide)) (Nat.le_trans hl0 (by decide)) hr)
    rw [hsh] at HS0 ⊢
    obtain ⟨z, hz⟩ : ∃ z, p.err = z := ⟨_, rfl⟩
    rw [hz] at HCK ⊢
    unfold Pic.val at HCK HS0 ⊢
    have HB := Lib.hid (Below.refl w.heap.size w)
    clear hs0 hl0 hsh hz
    go_enter Tryz.func86, Tryz.ntmps86
    go_upto_region 1 with fail
    have hn := Blk.new w 43 #[.string p.name, .int .i64 p.w, .int .i64 p.h, .slice A p.l.length c]
    have hb := (Below.refl w.heap.size w).alloc (Nat.le_refl _) (.cells #[.string p.name, .int .i64 p.w, .int .i64 p.h, .slice A p.l.length c] 43)
    generalize w.alloc (.cells #[.string p.name, .int .i64 p.w, .int .i64 p.h, .slice A p.l.length c] 43) = w0 at hn hb ⊢
    obtain ⟨c0, c1, c2, c3⟩ := box4 hn
    replace HB := Lib.hid hb
    have HX := Lib.hid hn; clear hn hb
    go_wp2_with fail
    refine (HS0.out _).mono ?_
    rintro e u1 ⟨rfl, hb1⟩
    replace HX := Lib.hid (HX.out.below hb1); replace HB := Lib.hid (HB.out.trans (hb1.mono HB.out.size)); clear hb1 c0 c1 c2 c3
    obtain ⟨c0, c1, c2, c3⟩ := box4 HX.out
    go_wp2_with fail
    refine (HCK.out _ (HR.out.below HB.out)).mono ?_
    rintro e u2 ⟨rfl, hb1⟩
    replace HB := Lib.hid (HB.out.trans (hb1.mono HB.out.size)); clear hb1
    go_wp2
    go_ret
    exact ⟨by simp, HB.out⟩
  · have hsf : shortB p = false := by simpa using hsh
    rw [hsf] at HS0 ⊢
    unfold Pic.val at HS0 ⊢
    have HB := Lib.hid (Below.refl w.heap.size w)
    clear hsf hsh
    go_enter Tryz.func86, Tryz.ntmps86
    go_upto_region 1 with fail
    have hn := Blk.new w 43 #[.string p.name, .int .i64 p.w, .int .i64 p.h, .slice A p.l.length c]
    have hb := (Below.refl w.heap.size w).alloc (Nat.le_refl _) (.cells #[.string p.name, .int .i64 p.w, .int .i64 p.h, .slice A p.l.length c] 43)
    generalize w.alloc (.cells #[.string p.name, .int .i64 p.w, .int .i64 p.h, .slice A p.l.length c] 43) = w0 at hn hb ⊢
    obtain ⟨c0, c1, c2, c3⟩ := box4 hn
    replace HB := Lib.hid hb
    clear hn hb
    go_wp2_with fail
    refine (HS0.out _).mono ?_
    rintro e u1 ⟨rfl, hb1⟩
    replace HB := Lib.hid (HB.out.trans (hb1.mono HB.out.size)); clear hb1 c0 c1 c2 c3
    go_wp2
    go_ret
    exact ⟨by simp, HB.out⟩
def noPic : Pic := ⟨⟨#[]⟩, 0, 0, []⟩
def JoinEnd (R : Pic) (z : Int) (w : World) (e : Ending) (w' : World) : Prop := ∃ A c, e = .returned (.tuple #[.agg #[.string R.name, .int .i64 R.w, .int .i64 R.h, .slice A R.l.length c], .int .i64 z]) ∧ Rd w' A (fl R.l) ∧ Below w.heap.size w w'
theorem rd_nil (w : World) (A : Option Addr) : Rd w A (fl []) := fun h => absurd h (by simp [fl])
theorem join_none {z : Int} {w : World} {e : Ending} {w' : World} (h : e = .returned (.tuple #[.agg #[.string ⟨#[]⟩, .int .i64 0, .int .i64 0, .slice none 0 0], .int .i64 z]) ∧ Below w.heap.size w w') : JoinEnd noPic z w e w' :=
  ⟨none, 0, h.1, rd_nil _ _, h.2⟩
end Go.Proofs.YtlicgblagkkcfaaGreatDoor
