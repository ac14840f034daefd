/- Parts of a proof: A picture with samples of its own, by the reference. A picture of one's own, told, and compared. The law's comparison of a picture and an error. The reference's check of a picture. Pictures that are refused by their turns. Whether a picture is short. The reference's blank picture, and its sample at a place. Flipped and transposed, by the reference. -/
import Derived.Test.YtlicgblagkkcfaaGreatDoorAv
import Derived.Test.YtlicgblagkkcfaaGreatDoorW
import Derived.Test.YtlicgblagkkcfaaGreatDoorQ
import Derived.Deep.Upon
import Derived.Laws.StructEq
import Derived.Test.YtlicgblagkkcfaaGreatDoorX
import Derived.Test.YtlicgblagkkcfaaGreatDoorN
namespace Go.Proofs.YtlicgblagkkcfaaGreatDoor
open Go.RowKit
set_option linter.unusedVariables false
attribute [local go_sem] run_store_float run_store_complex
set_option maxRecDepth 100000
theorem wpList_append_nothing {P : Program} (w : World) {ops : Array Oper} {rest : List Oper} {o : Oper} {a : Act} {Q : Exit → Act → World → Prop} (hgd : o.guard = none) (s x : Operand) (t tx : TypeId)
    (ho : o.op = .call { callee := .builtin .append, args := #[s, x], argTypes := #[t, tx] }) (e : TypeId) (i : TypeInfo) (ht : P.underlying t = some (.slice e)) (hi : P.info? e = some i)
    (base : Option Addr) (sLen sCap : Nat) (hle : sLen ≤ sCap) (hv : a.eval s = .slice base sLen sCap) (xv : Value) (hx : a.eval x = xv) (hs : Src P i.size tx xv 0 [] w)
    (hK : wpList P ops Q rest (a.put o.dst (.slice base sLen sCap)) w) : wpList P ops Q (o :: rest) a w := by
  refine wpList_plain hgd fun K hK' => ?_
  have hrun := run_append_nothing (P := P) w t tx o.type e i ht hi base sLen sCap hle xv hs
  unfold Oper.wp
  simp [execOp, ho, resolve, invoke, builtin, hv, hx, hrun, Result.andThen]
  exact hK' _ _ hK
theorem rd_far {w : World} {g : Nat} {xs : List Value} (h : Rd w (some ⟨g, 0, none⟩) xs) {p : Addr} (hp : g ≠ p.block) (u : Value) : Rd (w.setCell p u) (some ⟨g, 0, none⟩) xs := fun h0 => by
  obtain ⟨ad, e, hb, hc⟩ := h h0
  cases e
  refine ⟨_, rfl, by simpa using hb, fun j v hj => ?_⟩
  rw [← hc j v hj]
  exact World.cell?_of_block (w := w) (by rw [block_of_add]; exact Below.heap_setCell w p u g hp)
theorem own_form {w : World} {B : Nat} {e : TypeId} {size : Nat} {v : Value} {n : Nat} {xs : List Value} (h : w.ownsRow B e size v n xs) (hn : 0 < n) : ∃ g cap, v = .slice (some ⟨g, 0, none⟩) n cap ∧ n ≤ cap := by
  rcases h.2 with ⟨_, h0⟩ | ⟨g, cap, cur, rfl, _, _, hc, _⟩
  · omega
  · exact ⟨g, cap, rfl, hc⟩
theorem own_none (w : World) : (w.alloc (.cells #[] 23)).ownsRow w.heap.size 23 1 (.slice (some ⟨w.heap.size, 0, none⟩) 0 0) 0 [] :=
  ⟨rfl, .inr ⟨_, 0, #[], rfl, Nat.le_refl _, heap_alloc_new w _, Nat.le_refl _, by decide, rfl, rfl⟩⟩
/-- A picture with samples of its own. -/
def OwnEnd (p : Pic) (n : Nat) (w : World) (e : Ending) (w' : World) : Prop := ∃ g c', e = .returned (.agg #[.string p.name, .int .i64 p.w, .int .i64 p.h, .slice (some ⟨g, 0, none⟩) n c']) ∧ n ≤ c' ∧ Rd w' (some ⟨g, 0, none⟩) (fl p.l) ∧ Below w.heap.size w w'
theorem ownR_any (p : Pic) (A : Option Addr) (c : Nat) (w : World) (hl : p.l.length ≤ 4096) (hA : A = none → p.l.length = 0 ∧ c = 0) (hr : Rd w A (fl p.l)) :
    Calls Tryz.prog 110 #[p.val A c] w (OwnEnd p p.l.length w) := by
  obtain ⟨i0, hi, hz0, hz1, hz2⟩ := info_parts info_mapIF
  unfold Pic.val
  obtain ⟨n, hn⟩ : ∃ n, p.l.length = n := ⟨_, rfl⟩
  rw [hn] at hl hA ⊢
  have HN := Lib.hid hn; clear hn
  have HR := Lib.hid hr; clear hr
  go_enter Tryz.func110, Tryz.ntmps110
  go_upto_region 1 with fail
  have hbx := (Blk.new w 43 #[.string p.name, .int .i64 p.w, .int .i64 p.h, .slice A n c]).alloc (.cells #[.string ⟨#[]⟩, .int .i64 0, .int .i64 0, .slice none 0 0] 43)
  have hby := Blk.new (w.alloc (.cells #[.string p.name, .int .i64 p.w, .int .i64 p.h, .slice A n c] 43)) 43 #[.string ⟨#[]⟩, .int .i64 0, .int .i64 0, .slice none 0 0]
  have hb0 : Below w.heap.size w ((w.alloc (.cells #[.string p.name, .int .i64 p.w, .int .i64 p.h, .slice A n c] 43)).alloc (.cells #[.string ⟨#[]⟩, .int .i64 0, .int .i64 0, .slice none 0 0] 43)) := ((Below.refl _ _).alloc (Nat.le_refl _) _).alloc (by simp) _
  simp only [World.size_alloc] at hby
  generalize (w.alloc (.cells #[.string p.name, .int .i64 p.w, .int .i64 p.h, .slice A n c] 43)).alloc (.cells #[.string ⟨#[]⟩, .int .i64 0, .int .i64 0, .slice none 0 0] 43) = w0 at hbx hby hb0 ⊢
  have z0 := hbx.lt; have z1 := hby.lt
  obtain ⟨c0, c1, c2, c3⟩ := box4 hbx
  obtain ⟨d0, d1, d2, d3⟩ := box4 hby
  have HX := Lib.hid hbx; have HY := Lib.hid hby; have HB := Lib.hid hb0; clear hbx hby hb0
  by_cases hn0 : n = 0
  · subst hn0
    have hsrc : ∀ W, Src Tryz.prog i0.size 41 (.slice A 0 c) 0 [] W := fun W => by
      cases A with
      | none => rw [(hA rfl).2]; exact Src.ofNil W Tryz.underlying41 0
      | some a => exact Src.ofSlice W Tryz.underlying41 a 0 c [] (by simp) (fun j u h => by simp at h) (fun u h => by cases h)
    have HS := Lib.hid hsrc; clear hsrc
    have HL : RowKit.Hid (p.l = []) := Lib.hid (List.eq_nil_of_length_eq_zero HN.out)
    go_step; go_step; go_step; go_step; go_step; go_step; go_step; go_step; go_step; go_step
    refine wpList_append_nothing _ (by rfl) (.tmp 3) (.tmp 5) 41 41 (by rfl) 23 i0 Tryz.underlying41 hi (some ⟨w0.heap.size, 0, none⟩) 0 0 (Nat.le_refl _) (by rfl) (.slice A 0 c) (by rfl) (HS.out _) ?_
    have hxa := HX.out.alloc (.cells #[] 23)
    have hya := HY.out.alloc (.cells #[] 23)
    have hba := HB.out.alloc HB.out.size (.cells #[] 23)
    have hrd : Rd (w0.alloc (.cells #[] 23)) (some ⟨w0.heap.size, 0, none⟩) (fl p.l) := fun h0 => by rw [HL.out] at h0; simp [fl] at h0
    have hg : w.heap.size + 1 < w0.heap.size := z1
    clear HX HY HB c0 c1 c2 c3 d0 d1 d2 d3 z0 z1
    obtain ⟨g, hge⟩ : ∃ g, w0.heap.size = g := ⟨_, rfl⟩
    rw [hge] at hg hrd ⊢
    clear hge
    generalize w0.alloc (.cells #[] 23) = w1 at hxa hya hba hrd ⊢
    have e3 := hxa.cell 3
    have z0 := hxa.lt
    have f3 := hxa.frozen 3
    simp only [List.getElem?_toArray, List.getElem?_cons_zero, List.getElem?_cons_succ] at e3
    have HX := Lib.hid (show Blk (w1.setCell ⟨w.heap.size, 3, none⟩ (.slice (some ⟨g, 0, none⟩) 0 0)) w.heap.size 43 #[.string p.name, .int .i64 p.w, .int .i64 p.h, .slice (some ⟨g, 0, none⟩) 0 0] from hxa.set_ 3 (.slice (some ⟨g, 0, none⟩) 0 0))
    have HY := Lib.hid (hya.far (p := ⟨w.heap.size, 3, none⟩) (by simp) (.slice (some ⟨g, 0, none⟩) 0 0))
    have HB := Lib.hid (hba.setCell (p := ⟨w.heap.size, 3, none⟩) (Nat.le_refl _) (.slice (some ⟨g, 0, none⟩) 0 0))
    have HRD := Lib.hid (rd_far hrd (p := ⟨w.heap.size, 3, none⟩) (by simp; omega) (.slice (some ⟨g, 0, none⟩) 0 0))
    clear hxa hya hba hrd
    go_upto_region 2 with fail
    generalize w1.setCell ⟨w.heap.size, 3, none⟩ (.slice (some ⟨g, 0, none⟩) 0 0) = w2 at HX HY HB HRD ⊢
    clear e3 f3 z0
    obtain ⟨c0, c1, c2, c3⟩ := box4 HX.out
    have hy := HY.out
    have z1 := hy.lt
    have f0 := hy.frozen 0; have f1 := hy.frozen 1; have f2 := hy.frozen 2; have f3 := hy.frozen 3
    obtain ⟨d0, d1, d2, d3⟩ := box4 hy
    clear hy
    go_wp2
    have hyy := Lib.hid (show Blk ((((w2.setCell ⟨w.heap.size + 1, 0, none⟩ (.string p.name)).setCell ⟨w.heap.size + 1, 1, none⟩ (.int .i64 p.w)).setCell ⟨w.heap.size + 1, 2, none⟩ (.int .i64 p.h)).setCell ⟨w.heap.size + 1, 3, none⟩ (.slice (some ⟨g, 0, none⟩) 0 0)) (w.heap.size + 1) 43 #[.string p.name, .int .i64 p.w, .int .i64 p.h, .slice (some ⟨g, 0, none⟩) 0 0] from (((HY.out.set_ 0 _).set_ 1 _).set_ 2 _).set_ 3 _)
    obtain ⟨r0, r1, r2, r3⟩ := box4 hyy.out
    refine bodyPost_ret (v := .agg #[.string p.name, .int .i64 p.w, .int .i64 p.h, .slice (some ⟨g, 0, none⟩) 0 0]) (by simp [results, Tryz.results110, go_sem, r0, r1, r2, r3]) rfl ⟨g, 0, rfl, Nat.le_refl _, ?_, below_set4 HB.out (by omega) _ _ _ _⟩
    exact rd_far (rd_far (rd_far (rd_far HRD.out (by simp; omega) _) (by simp; omega) _) (by simp; omega) _) (by simp; omega) _
  · obtain ⟨ad, rfl, had, hcells⟩ := HR.out (by simp only [fl, List.length_map]; rw [HN.out]; omega)
    have HA2 := Lib.hid (HR.out.below (HB.out.alloc HB.out.size (.cells #[] 23)))
    have HOW := Lib.hid (own_none w0)
    have HFL : RowKit.Hid ((fl p.l).length = n * 1) := Lib.hid (by simp [fl]; exact HN.out)
    have hsz0 := HB.out.size
    clear had hcells
    go_step; go_step; go_step; go_step; go_step; go_step; go_step; go_step; go_step; go_step
    refine wpList_append_own_at _ (by rfl) (.tmp 3) (.tmp 5) 41 (by rfl) w0.heap.size 23 i0 (.float .f32 0) 1 4 Tryz.underlying41 hi hz0 hz1 hz2 (by rfl) (by decide) (.slice (some ⟨w0.heap.size, 0, none⟩) 0 0) 0 [] (by rfl) HOW.out ad n c (fl p.l) (by rfl) HFL.out (fun j u hj => by
        obtain ⟨ad2, e2, _, hc2⟩ := HA2.out (by have := (List.getElem?_eq_some_iff.1 hj).1; omega)
        cases e2; exact hc2 j u hj) (by intro u hu; obtain ⟨b, _, rfl⟩ := List.mem_map.1 hu; rfl) (by unfold maxLen; omega) (by omega) (by simp) ?_
    intro v' w1 hown hgrow hnil hat
    rw [Nat.zero_add, List.nil_append] at hown
    obtain ⟨g, c', rfl, hcap⟩ := own_form hown (by omega)
    have hg0 := (owns_block hown g rfl).1
    have hrd := rd_own hown
    have hxa := blk_grown (HX.out.alloc (.cells #[] 23)) hgrow (fun e => by have : w0.heap.size = w.heap.size := by simpa [Value.ownBlock] using e
                                                                            omega)
    have hya := blk_grown (HY.out.alloc (.cells #[] 23)) hgrow (fun e => by have : w0.heap.size = w.heap.size + 1 := by simpa [Value.ownBlock] using e
                                                                            omega)
    have hba := (HB.out.alloc HB.out.size (.cells #[] 23)).grown hgrow (by simp; omega) (fun r hr => by have : w0.heap.size = r := by simpa [Value.ownBlock] using hr
                                                                                                        omega)
    have hg : w.heap.size + 1 < g := Nat.lt_of_lt_of_le z1 hg0
    clear HX HY HB HOW HA2 c0 c1 c2 c3 d0 d1 d2 d3 z0 z1 hown hgrow hnil hat hg0
    have e3 := hxa.cell 3
    have z0 := hxa.lt
    have f3 := hxa.frozen 3
    simp only [List.getElem?_toArray, List.getElem?_cons_zero, List.getElem?_cons_succ] at e3
    have HX := Lib.hid (show Blk (w1.setCell ⟨w.heap.size, 3, none⟩ (.slice (some ⟨g, 0, none⟩) n c')) w.heap.size 43 #[.string p.name, .int .i64 p.w, .int .i64 p.h, .slice (some ⟨g, 0, none⟩) n c'] from hxa.set_ 3 (.slice (some ⟨g, 0, none⟩) n c'))
    have HY := Lib.hid (hya.far (p := ⟨w.heap.size, 3, none⟩) (by simp) (.slice (some ⟨g, 0, none⟩) n c'))
    have HB := Lib.hid (hba.setCell (p := ⟨w.heap.size, 3, none⟩) (Nat.le_refl _) (.slice (some ⟨g, 0, none⟩) n c'))
    have HRD := Lib.hid (rd_far hrd (p := ⟨w.heap.size, 3, none⟩) (by simp; omega) (.slice (some ⟨g, 0, none⟩) n c'))
    clear hxa hya hba hrd
    go_upto_region 2 with fail
    generalize w1.setCell ⟨w.heap.size, 3, none⟩ (.slice (some ⟨g, 0, none⟩) n c') = w2 at HX HY HB HRD ⊢
    clear e3 f3 z0
    obtain ⟨c0, c1, c2, c3⟩ := box4 HX.out
    have hy := HY.out
    have z1 := hy.lt
    have f0 := hy.frozen 0; have f1 := hy.frozen 1; have f2 := hy.frozen 2; have f3 := hy.frozen 3
    obtain ⟨d0, d1, d2, d3⟩ := box4 hy
    clear hy
    go_wp2
    have hyy := Lib.hid (show Blk ((((w2.setCell ⟨w.heap.size + 1, 0, none⟩ (.string p.name)).setCell ⟨w.heap.size + 1, 1, none⟩ (.int .i64 p.w)).setCell ⟨w.heap.size + 1, 2, none⟩ (.int .i64 p.h)).setCell ⟨w.heap.size + 1, 3, none⟩ (.slice (some ⟨g, 0, none⟩) n c')) (w.heap.size + 1) 43 #[.string p.name, .int .i64 p.w, .int .i64 p.h, .slice (some ⟨g, 0, none⟩) n c'] from (((HY.out.set_ 0 _).set_ 1 _).set_ 2 _).set_ 3 _)
    obtain ⟨r0, r1, r2, r3⟩ := box4 hyy.out
    refine bodyPost_ret (v := .agg #[.string p.name, .int .i64 p.w, .int .i64 p.h, .slice (some ⟨g, 0, none⟩) n c']) (by simp [results, Tryz.results110, go_sem, r0, r1, r2, r3]) rfl ⟨g, c', rfl, hcap, ?_, below_set4 HB.out (by omega) _ _ _ _⟩
    exact rd_far (rd_far (rd_far (rd_far HRD.out (by simp; omega) _) (by simp; omega) _) (by simp; omega) _) (by simp; omega) _

end Go.Proofs.YtlicgblagkkcfaaGreatDoor
namespace Go.Proofs.YtlicgblagkkcfaaGreatDoor
open Go.RowKit
set_option linter.unusedVariables false
attribute [local go_sem] run_store_float run_store_complex
set_option maxRecDepth 100000
theorem own_any (p : Pic) (A : Option Addr) (c : Nat) (w : World) (hl : p.l.length ≤ 4096) (hA : A = none → p.l.length = 0 ∧ c = 0) (hr : Rd w A (fl p.l)) :
    Calls Tryz.prog 30 #[p.val A c] w (OwnEnd p p.l.length w) := by
  have HO := Lib.hid (fun w hr => ownR_any p A c w hl hA hr)
  unfold Pic.val at HO ⊢
  obtain ⟨n, hn⟩ : ∃ n, p.l.length = n := ⟨_, rfl⟩
  rw [hn] at HO ⊢
  clear hl hA hn
  have HR := Lib.hid hr; clear hr
  go_enter Tryz.func30, Tryz.ntmps30
  go_upto_region 1 with fail
  have hbx := (Blk.new w 43 #[.string p.name, .int .i64 p.w, .int .i64 p.h, .slice A n c]).alloc (.cells #[.string ⟨#[]⟩, .int .i64 0, .int .i64 0, .slice none 0 0] 50)
  have hby := Blk.new (w.alloc (.cells #[.string p.name, .int .i64 p.w, .int .i64 p.h, .slice A n c] 43)) 50 #[.string ⟨#[]⟩, .int .i64 0, .int .i64 0, .slice none 0 0]
  have hb0 : Below w.heap.size w ((w.alloc (.cells #[.string p.name, .int .i64 p.w, .int .i64 p.h, .slice A n c] 43)).alloc (.cells #[.string ⟨#[]⟩, .int .i64 0, .int .i64 0, .slice none 0 0] 50)) := ((Below.refl _ _).alloc (Nat.le_refl _) _).alloc (by simp) _
  simp only [World.size_alloc] at hby
  generalize (w.alloc (.cells #[.string p.name, .int .i64 p.w, .int .i64 p.h, .slice A n c] 43)).alloc (.cells #[.string ⟨#[]⟩, .int .i64 0, .int .i64 0, .slice none 0 0] 50) = w0 at hbx hby hb0 ⊢
  have HR0 := Lib.hid (HR.out.below hb0)
  obtain ⟨c0, c1, c2, c3⟩ := box4 hbx
  have HX := Lib.hid hbx; have HY := Lib.hid hby; have HB := Lib.hid hb0; clear hbx hby hb0
  go_wp2_with fail
  refine (HO.out _ HR0.out).mono ?_
  rintro e w2 ⟨g, c', rfl, hcap, hrd, hb⟩
  have hy := HY.out.below hb
  have hg : w.heap.size + 1 < w0.heap.size := HY.out.lt
  have HB2 := Lib.hid (HB.out.trans (hb.mono HB.out.size))
  clear c0 c1 c2 c3 HX HY HB HO HR HR0 hb
  have z1 := hy.lt
  have f0 := hy.frozen 0; have f1 := hy.frozen 1; have f2 := hy.frozen 2; have f3 := hy.frozen 3
  obtain ⟨d0, d1, d2, d3⟩ := box4 hy
  have hyy := Lib.hid (show Blk ((((w2.setCell ⟨w.heap.size + 1, 0, none⟩ (.string p.name)).setCell ⟨w.heap.size + 1, 1, none⟩ (.int .i64 p.w)).setCell ⟨w.heap.size + 1, 2, none⟩ (.int .i64 p.h)).setCell ⟨w.heap.size + 1, 3, none⟩ (.slice (some ⟨g, 0, none⟩) n c')) (w.heap.size + 1) 50 #[.string p.name, .int .i64 p.w, .int .i64 p.h, .slice (some ⟨g, 0, none⟩) n c'] from (((hy.set_ 0 _).set_ 1 _).set_ 2 _).set_ 3 _)
  have HRD := Lib.hid (rd_set4 hrd hy (.four rfl rfl rfl rfl) (.string p.name) (.int .i64 p.w) (.int .i64 p.h) (.slice (some ⟨g, 0, none⟩) n c') rfl rfl rfl)
  clear hy hrd
  go_wp2
  obtain ⟨r0, r1, r2, r3⟩ := box4 hyy.out
  exact bodyPost_ret (v := .agg #[.string p.name, .int .i64 p.w, .int .i64 p.h, .slice (some ⟨g, 0, none⟩) n c']) (by simp [results, Tryz.results30, go_sem, r0, r1, r2, r3]) rfl ⟨g, c', rfl, hcap, HRD.out, below_set4 HB2.out (by omega) _ _ _ _⟩
theorem told_any (nm : ByteArray) (W H : Int) (A : Option Addr) (n c : Nat) (w : World) :
    Calls Tryz.prog 87 #[.agg #[.string nm, .int .i64 W, .int .i64 H, .slice A n c]] w fun e w' => e = .returned (.agg #[.string nm, .int .i64 W, .int .i64 H, .slice A n c]) ∧ Below w.heap.size w w' := by
  go_enter Tryz.func87, Tryz.ntmps87
  go_upto_region 1 with fail
  have hbx := (Blk.new w 50 #[.string nm, .int .i64 W, .int .i64 H, .slice A n c]).alloc (.cells #[.string ⟨#[]⟩, .int .i64 0, .int .i64 0, .slice none 0 0] 43)
  have hby := Blk.new (w.alloc (.cells #[.string nm, .int .i64 W, .int .i64 H, .slice A n c] 50)) 43 #[.string ⟨#[]⟩, .int .i64 0, .int .i64 0, .slice none 0 0]
  have hb0 : Below w.heap.size w ((w.alloc (.cells #[.string nm, .int .i64 W, .int .i64 H, .slice A n c] 50)).alloc (.cells #[.string ⟨#[]⟩, .int .i64 0, .int .i64 0, .slice none 0 0] 43)) := ((Below.refl _ _).alloc (Nat.le_refl _) _).alloc (by simp) _
  simp only [World.size_alloc] at hby
  generalize (w.alloc (.cells #[.string nm, .int .i64 W, .int .i64 H, .slice A n c] 50)).alloc (.cells #[.string ⟨#[]⟩, .int .i64 0, .int .i64 0, .slice none 0 0] 43) = w0 at hbx hby hb0 ⊢
  obtain ⟨c0, c1, c2, c3⟩ := box4 hbx
  have z1 := hby.lt
  have f0 := hby.frozen 0; have f1 := hby.frozen 1; have f2 := hby.frozen 2; have f3 := hby.frozen 3
  obtain ⟨d0, d1, d2, d3⟩ := box4 hby
  have hyy := Lib.hid (show Blk ((((w0.setCell ⟨w.heap.size + 1, 0, none⟩ (.string nm)).setCell ⟨w.heap.size + 1, 1, none⟩ (.int .i64 W)).setCell ⟨w.heap.size + 1, 2, none⟩ (.int .i64 H)).setCell ⟨w.heap.size + 1, 3, none⟩ (.slice A n c)) (w.heap.size + 1) 43 #[.string nm, .int .i64 W, .int .i64 H, .slice A n c] from (((hby.set_ 0 _).set_ 1 _).set_ 2 _).set_ 3 _)
  have HB := Lib.hid hb0; clear hbx hby hb0
  go_wp2
  obtain ⟨r0, r1, r2, r3⟩ := box4 hyy.out
  exact bodyPost_ret (v := .agg #[.string nm, .int .i64 W, .int .i64 H, .slice A n c]) (by simp [results, Tryz.results87, go_sem, r0, r1, r2, r3]) rfl ⟨rfl, below_set4 HB.out (by omega) _ _ _ _⟩
theorem samePicture_true (nm : ByteArray) (W H : Int) (A B : Option Addr) (n c d : Nat) (l k : List Nat) (w : World) (hl : l.length = n) (hk : k.length = n) (hn : n ≤ maxLen) (hs : sameF l k = true) (hr : Rd w A (fl l)) (hr2 : Rd w B (fl k)) :
    Calls Tryz.prog 88 #[.agg #[.string nm, .int .i64 W, .int .i64 H, .slice A n c], .agg #[.string nm, .int .i64 W, .int .i64 H, .slice B n d]] w fun e w' => e = .returned (.bool true) ∧ Below w.heap.size w w' := by
  have hss := fun w h1 h2 => sameSamples_any A B c d l k w (by rw [hl]; exact hn) (by rw [hk]; exact hn) h1 h2
  rw [hl, hk, hs] at hss
  have HS := Lib.hid hss; have HR := Lib.hid hr; have HR2 := Lib.hid hr2
  clear hss hr hr2 hl hk hs
  go_enter Tryz.func88, Tryz.ntmps88
  go_upto_region 1 with fail
  have hbx := (Blk.new w 43 #[.string nm, .int .i64 W, .int .i64 H, .slice A n c]).alloc (.cells #[.string nm, .int .i64 W, .int .i64 H, .slice B n d] 43)
  have hby := Blk.new (w.alloc (.cells #[.string nm, .int .i64 W, .int .i64 H, .slice A n c] 43)) 43 #[.string nm, .int .i64 W, .int .i64 H, .slice B n d]
  have hb0 : Below w.heap.size w ((w.alloc (.cells #[.string nm, .int .i64 W, .int .i64 H, .slice A n c] 43)).alloc (.cells #[.string nm, .int .i64 W, .int .i64 H, .slice B n d] 43)) := ((Below.refl _ _).alloc (Nat.le_refl _) _).alloc (by simp) _
  simp only [World.size_alloc] at hby
  generalize (w.alloc (.cells #[.string nm, .int .i64 W, .int .i64 H, .slice A n c] 43)).alloc (.cells #[.string nm, .int .i64 W, .int .i64 H, .slice B n d] 43) = w0 at hbx hby hb0 ⊢
  obtain ⟨c0, c1, c2, c3⟩ := box4 hbx
  obtain ⟨d0, d1, d2, d3⟩ := box4 hby
  have HB := Lib.hid hb0; clear hbx hby
  have HRa := Lib.hid (HR.out.below hb0); have HRb := Lib.hid (HR2.out.below hb0)
  clear hb0
  have hnm : (nm == nm) = true := by rw [beq_toListBytes]; simp
  go_wp2_with fail
  refine (HS.out _ HRa.out HRb.out).mono ?_
  rintro e w1 ⟨rfl, hb⟩
  go_wp2
  go_ret
  exact ⟨rfl, HB.out.trans (hb.mono HB.out.size)⟩

end Go.Proofs.YtlicgblagkkcfaaGreatDoor
namespace Go.Proofs.YtlicgblagkkcfaaGreatDoor
open Go.RowKit
set_option linter.unusedVariables false
set_option maxRecDepth 100000
/-- The law's 'one', where all is well. -/
theorem one_true (nm : ByteArray) (W H : Int) (A B : Option Addr) (n c d : Nat) (l k : List Nat) (w : World) (hl : l.length = n) (hk : k.length = n) (hn : n ≤ maxLen) (hs : sameF l k = true) (hr : Rd w A (fl l)) (hr2 : Rd w B (fl k)) :
    Calls Tryz.prog 38 #[.agg #[.string nm, .int .i64 W, .int .i64 H, .slice A n c], .int .i64 0, .int .i64 0, .agg #[.string nm, .int .i64 W, .int .i64 H, .slice B n d]] w fun e w' => e = .returned (.bool true) ∧ Below w.heap.size w w' := by
  have hss := fun w h1 h2 => samePicture_true nm W H A B n c d l k w hl hk hn hs h1 h2
  have HS := Lib.hid hss; have HR := Lib.hid hr; have HR2 := Lib.hid hr2
  clear hss hr hr2 hl hk hs
  go_enter Tryz.func38, Tryz.ntmps38
  go_upto_region 1 with fail
  have hbx := (Blk.new w 50 #[.string nm, .int .i64 W, .int .i64 H, .slice A n c]).alloc (.cells #[.string nm, .int .i64 W, .int .i64 H, .slice B n d] 43)
  have hby := Blk.new (w.alloc (.cells #[.string nm, .int .i64 W, .int .i64 H, .slice A n c] 50)) 43 #[.string nm, .int .i64 W, .int .i64 H, .slice B n d]
  have hb0 : Below w.heap.size w ((w.alloc (.cells #[.string nm, .int .i64 W, .int .i64 H, .slice A n c] 50)).alloc (.cells #[.string nm, .int .i64 W, .int .i64 H, .slice B n d] 43)) := ((Below.refl _ _).alloc (Nat.le_refl _) _).alloc (by simp) _
  simp only [World.size_alloc] at hby
  generalize (w.alloc (.cells #[.string nm, .int .i64 W, .int .i64 H, .slice A n c] 50)).alloc (.cells #[.string nm, .int .i64 W, .int .i64 H, .slice B n d] 43) = w0 at hbx hby hb0 ⊢
  obtain ⟨c0, c1, c2, c3⟩ := box4 hbx
  obtain ⟨d0, d1, d2, d3⟩ := box4 hby
  have z0 := hbx.lt; have z1 := hby.lt
  have HB := Lib.hid hb0; clear hbx hby
  have HRa := Lib.hid (HR.out.below hb0); have HRb := Lib.hid (HR2.out.below hb0)
  clear hb0 HR HR2
  go_upto_region 3 with fail
  go_region_held3 (SK w0)
    (first | exact sk_drew0 _ | exact sk_drew (by assumption) | assumption | exact sk_call (by assumption) (by assumption) | exact sk_alloc (by assumption) _)
    (first
      | (go_at_call 87; refine (told_any _ _ _ _ _ _ _).mono ?_; rintro e wn ⟨rfl, hbn⟩; have hch := sk_call (w0 := w0) (by assumption) hbn)
      | (go_at_call 88; refine (HS.out _ (HRa.out.below (And.left (by assumption : SK w0 _))) (HRb.out.below (And.left (by assumption : SK w0 _)))).mono ?_; rintro e wn ⟨rfl, hbn⟩; have hch := sk_call (w0 := w0) (by assumption) hbn))
  have hfin := sk_call (w0 := w0) (by assumption) hbn
  go_wp2
  go_ret
  exact ⟨rfl, HB.out.trans (hfin.1.mono HB.out.size)⟩
/-- The law's 'one', where an error is expected. -/
theorem one_bad (nm : ByteArray) (W H : Int) (B : Option Addr) (n d : Nat) (z : Int) (hz : z ≠ 0) (w : World) :
    Calls Tryz.prog 38 #[.agg #[.string ⟨#[]⟩, .int .i64 0, .int .i64 0, .slice none 0 0], .int .i64 z, .int .i64 z, .agg #[.string nm, .int .i64 W, .int .i64 H, .slice B n d]] w fun e w' => e = .returned (.bool true) ∧ Below w.heap.size w w' := by
  have hz' : (z != 0) = true := by simpa using hz
  have HZ := Lib.hid hz; clear hz
  go_enter Tryz.func38, Tryz.ntmps38
  go_upto_region 1 with fail
  have hbx := (Blk.new w 50 #[.string ⟨#[]⟩, .int .i64 0, .int .i64 0, .slice none 0 0]).alloc (.cells #[.string nm, .int .i64 W, .int .i64 H, .slice B n d] 43)
  have hby := Blk.new (w.alloc (.cells #[.string ⟨#[]⟩, .int .i64 0, .int .i64 0, .slice none 0 0] 50)) 43 #[.string nm, .int .i64 W, .int .i64 H, .slice B n d]
  have hb0 : Below w.heap.size w ((w.alloc (.cells #[.string ⟨#[]⟩, .int .i64 0, .int .i64 0, .slice none 0 0] 50)).alloc (.cells #[.string nm, .int .i64 W, .int .i64 H, .slice B n d] 43)) := ((Below.refl _ _).alloc (Nat.le_refl _) _).alloc (by simp) _
  simp only [World.size_alloc] at hby
  generalize (w.alloc (.cells #[.string ⟨#[]⟩, .int .i64 0, .int .i64 0, .slice none 0 0] 50)).alloc (.cells #[.string nm, .int .i64 W, .int .i64 H, .slice B n d] 43) = u0 at hbx hby hb0 ⊢
  have hx2 := (((hbx.far (p := ⟨w.heap.size + 1, 0, none⟩) (by simp) (.string ⟨#[]⟩)).far (p := ⟨w.heap.size + 1, 1, none⟩) (by simp) (.int .i64 0)).far (p := ⟨w.heap.size + 1, 2, none⟩) (by simp) (.int .i64 0)).far (p := ⟨w.heap.size + 1, 3, none⟩) (by simp) (.slice none 0 0)
  have hy2 : Blk ((((u0.setCell ⟨w.heap.size + 1, 0, none⟩ (.string ⟨#[]⟩)).setCell ⟨w.heap.size + 1, 1, none⟩ (.int .i64 0)).setCell ⟨w.heap.size + 1, 2, none⟩ (.int .i64 0)).setCell ⟨w.heap.size + 1, 3, none⟩ (.slice none 0 0)) (w.heap.size + 1) 43 #[.string ⟨#[]⟩, .int .i64 0, .int .i64 0, .slice none 0 0] := (((hby.set_ 0 _).set_ 1 _).set_ 2 _).set_ 3 _
  have hb2 := below_set4 hb0 (g := w.heap.size + 1) (by omega) (.string ⟨#[]⟩) (.int .i64 0) (.int .i64 0) (.slice none 0 0)
  have HX := Lib.hid hx2; have HY := Lib.hid hy2; have HB := Lib.hid hb2
  have f0 := hby.frozen 0; have f1 := hby.frozen 1; have f2 := hby.frozen 2; have f3 := hby.frozen 3
  obtain ⟨d0, d1, d2, d3⟩ := box4 hby
  have z1 := hby.lt
  clear hbx hby hb0 hx2 hy2 hb2
  go_upto_region 3 with fail
  generalize (((u0.setCell ⟨w.heap.size + 1, 0, none⟩ (.string ⟨#[]⟩)).setCell ⟨w.heap.size + 1, 1, none⟩ (.int .i64 0)).setCell ⟨w.heap.size + 1, 2, none⟩ (.int .i64 0)).setCell ⟨w.heap.size + 1, 3, none⟩ (.slice none 0 0) = w0 at HX HY HB ⊢
  clear d0 d1 d2 d3 f0 f1 f2 f3 z1
  obtain ⟨c0, c1, c2, c3⟩ := box4 HX.out
  obtain ⟨d0, d1, d2, d3⟩ := box4 HY.out
  have z0 := HX.out.lt; have z1 := HY.out.lt
  have HR : RowKit.Hid (∀ W, Rd W none (fl [])) := Lib.hid (fun W h => absurd h (by simp [fl]))
  clear HX HY
  go_region_held3 (SK w0)
    (first | exact sk_drew0 _ | exact sk_drew (by assumption) | assumption | exact sk_call (by assumption) (by assumption) | exact sk_alloc (by assumption) _)
    (first
      | (go_at_call 87; refine (told_any _ _ _ _ _ _ _).mono ?_; rintro e wn ⟨rfl, hbn⟩; have hch := sk_call (w0 := w0) (by assumption) hbn)
      | (go_at_call 88; refine (samePicture_true ⟨#[]⟩ 0 0 none none 0 0 0 [] [] _ rfl rfl (by decide) (by decide) (HR.out _) (HR.out _)).mono ?_; rintro e wn ⟨rfl, hbn⟩; have hch := sk_call (w0 := w0) (by assumption) hbn))
  have hfin := sk_call (w0 := w0) (by assumption) hbn
  go_wp2
  go_ret
  exact ⟨rfl, HB.out.trans (hfin.1.mono HB.out.size)⟩

end Go.Proofs.YtlicgblagkkcfaaGreatDoor
namespace Go.Proofs.YtlicgblagkkcfaaGreatDoor
open Go.RowKit
set_option linter.unusedVariables false
set_option maxRecDepth 100000
theorem firstF_drop (f : Nat → Int) (l : List Nat) (k : Nat) (hk : k < l.length) : firstF f (l.drop k) = if f (l.getD k 0) = 0 then firstF f (l.drop (k + 1)) else f (l.getD k 0) := by
  rw [List.drop_eq_getElem_cons hk]
  simp [firstF, List.getD, hk]
def Pic.head (p : Pic) : Int := firstE [errIf (!nameOk p.name) 8, outs p.w 1 64, outs p.h 1 64]
theorem err_head {p : Pic} (h : p.head ≠ 0) : p.err = p.head := by
  unfold Pic.err; unfold Pic.head at h ⊢
  simp only [firstE] at h ⊢
  repeat' split
  all_goals simp_all
theorem err_shape {p : Pic} (h : p.head = 0) (hs : ((p.l.length : Int) != IntKind.i64.wrap (p.w * p.h)) = true) : p.err = 2 := by
  unfold Pic.err; unfold Pic.head at h
  simp only [firstE] at h ⊢
  rw [hs]
  repeat' split
  all_goals simp_all [errIf]
theorem err_rest {p : Pic} (h : p.head = 0) (hs : ((p.l.length : Int) != IntKind.i64.wrap (p.w * p.h)) = false) : p.err = firstF (chk 1024) p.l := by
  unfold Pic.err; unfold Pic.head at h
  simp only [firstE] at h ⊢
  rw [hs]
  repeat' split
  all_goals simp_all [errIf]
set_option maxHeartbeats 1000000 in
theorem checkPictureR_any (p : Pic) (A : Option Addr) (c : Nat) (w : World) (hs : p.name.size ≤ maxLen) (hl : p.l.length ≤ 4096) (hr : Rd w A (fl p.l)) :
    Calls Tryz.prog 32 #[p.val A c] w fun e w' => e = .returned (.int .i64 p.err) ∧ Below w.heap.size w w' := by
  have HR := Lib.hid hr; clear hr
  obtain ⟨n, hn⟩ : ∃ n, p.l.length = n := ⟨_, rfl⟩
  have HN := Lib.hid hn
  unfold Pic.val
  rw [hn] at hl ⊢
  clear hn
  go_enter Tryz.func32, Tryz.ntmps32
  go_upto_region 1 with fail
  have hbx := Blk.new w 43 #[.string p.name, .int .i64 p.w, .int .i64 p.h, .slice A n c]
  have hb0 : Below w.heap.size w (w.alloc (.cells #[.string p.name, .int .i64 p.w, .int .i64 p.h, .slice A n c] 43)) := (Below.refl _ _).alloc (Nat.le_refl _) _
  generalize w.alloc (.cells #[.string p.name, .int .i64 p.w, .int .i64 p.h, .slice A n c] 43) = w0 at hbx hb0 ⊢
  obtain ⟨c0, c1, c2, c3⟩ := box4 hbx
  have z0 := hbx.lt
  have HX := Lib.hid hbx; have HB := Lib.hid hb0; clear hbx hb0
  go_region_held3 (SK w0)
    (first | exact sk_drew0 _ | exact sk_drew (by assumption) | assumption | exact sk_call (by assumption) (by assumption) | exact sk_alloc (by assumption) _)
    (first
      | (go_at_call 113; refine (checkName_any _ _ hs).mono ?_; rintro e wn ⟨rfl, rfl⟩)
      | (go_at_call 19; refine (checkRange_any _ _ _ _).mono ?_; rintro e wn ⟨rfl, rfl⟩)
      | (go_at_call 99; refine (firstR_n _ _ _ [_, _, _] _ rfl (by simp [maxLen]) (by exact rd_of_blk (Blk.new _ _ _) rfl)).mono ?_; rintro e wn ⟨rfl, rfl⟩))
  have hch := sk_drew (sk_alloc (sk_refl w0) (.cells #[.int .i64 (errIf (!nameOk p.name) 8), .int .i64 (outs p.w 1 64), .int .i64 (outs p.h 1 64)] 3))
  have HH : RowKit.Hid (firstE [errIf (!nameOk p.name) 8, outs p.w 1 64, outs p.h 1 64] = p.head) := Lib.hid rfl
  rw [HH.out]
  generalize (w0.alloc (.cells #[.int .i64 (errIf (!nameOk p.name) 8), .int .i64 (outs p.w 1 64), .int .i64 (outs p.h 1 64)] 3)).drew = w1 at hch ⊢
  replace HX := Lib.hid (HX.out.below hch.1)
  have HB1 := Lib.hid (HB.out.trans (hch.1.mono HB.out.size))
  clear hch c0 c1 c2 c3 z0 HB HH
  obtain ⟨c0, c1, c2, c3⟩ := box4 HX.out
  by_cases hz : p.head = 0
  · rw [hz]
    have HZ := Lib.hid hz; clear hz
    cases hsh : ((n : Int) != wrap64 (p.w * p.h))
    · have HE := Lib.hid (err_rest HZ.out (by rw [HN.out, show IntKind.i64.wrap (p.w * p.h) = wrap64 (p.w * p.h) from by unfold wrap64; exact IntKind.wrap_i64 _]; exact hsh))
      go_wp2
      go_loopw [4] (fun i wr => ∃ k : Nat, k ≤ n ∧ i = .int .i64 k ∧ p.err = firstF (chk 1024) (p.l.drop k) ∧ Blk wr w.heap.size 43 #[.string p.name, .int .i64 p.w, .int .i64 p.h, .slice A n c] ∧ Below w.heap.size w wr) (fun i _ => n - (intOf i).toNat)
      case atStart => exact ⟨0, by omega, rfl, HE.out, HX.out, HB1.out⟩
      case round =>
        obtain ⟨k, hk, rfl, hf, hb, hbel⟩ := hrel
        have HF := Lib.hid hf; clear hf c0 c1 c2 c3
        obtain ⟨c0, c1, c2, c3⟩ := box4 hb
        have HX2 := Lib.hid hb; have HB2 := Lib.hid hbel
        by_cases hlt : k < n
        · have hkl : k < p.l.length := by rw [HN.out]; exact hlt
          have hd := Lib.hid (firstF_drop (chk 1024) p.l k hkl)
          obtain ⟨ad, rfl, hbl, hc⟩ := (HR.out.below hbel).get (k := k) (u := .float .f32 (p.l.getD k 0)) (by simp [fl, List.getD, hkl])
          obtain ⟨b, hbb⟩ : ∃ b, p.l.getD k 0 = b := ⟨_, rfl⟩
          rw [hbb] at hc hd
          clear hb hbel hkl hbb
          go_wp2_with fail
          refine (checkSampleR_any _ _).mono ?_
          rintro e w2 ⟨rfl, hb2⟩
          have HX3 := Lib.hid (HX2.out.below hb2); have HB3 := Lib.hid (HB2.out.trans (hb2.mono HB2.out.size))
          clear hb2 c0 c1 c2 c3 hc HX2 HB2
          by_cases hz : chk 1024 b = 0
          · rw [hz]
            have HFN := Lib.hid (HF.out.trans (hd.out.trans (if_pos hz)))
            clear hz
            go_wp2
            go_roundw
            case rel => exact ⟨k + 1, by omega, by go_num, HFN.out, HX3.out, HB3.out⟩
            case measure => simp [intOf]; omega
          · have HFN := Lib.hid (HF.out.trans (hd.out.trans (if_neg hz)))
            obtain ⟨z, hze⟩ : ∃ z, chk 1024 b = z := ⟨_, rfl⟩
            rw [hze] at hz HFN ⊢
            have hz' : (z != 0) = true := by simpa using hz
            clear hze
            go_wp2
            go_ret
            exact ⟨ret_int HFN.out.symm, HB3.out⟩
        · have hkn : k = n := by omega
          subst hkn
          have HFN := Lib.hid (HF.out.trans (show firstF (chk 1024) (p.l.drop k) = 0 by rw [List.drop_of_length_le (by rw [HN.out]; exact Nat.le_refl _)]; rfl))
          clear hb hbel
          go_wp2
          go_ret
          exact ⟨ret_int HFN.out.symm, HB2.out⟩
    · have HE := Lib.hid (err_shape HZ.out (by rw [HN.out, show IntKind.i64.wrap (p.w * p.h) = wrap64 (p.w * p.h) from by unfold wrap64; exact IntKind.wrap_i64 _]; exact hsh))
      go_wp2
      go_ret
      exact ⟨ret_int HE.out.symm, HB1.out⟩
  · have HE := Lib.hid (err_head hz)
    obtain ⟨z, hze⟩ : ∃ z, p.head = z := ⟨_, rfl⟩
    rw [hze] at hz HE ⊢
    have hz' : (z != 0) = true := by simpa using hz
    clear hze
    go_wp2
    go_ret
    exact ⟨ret_int HE.out.symm, HB1.out⟩

end Go.Proofs.YtlicgblagkkcfaaGreatDoor
namespace Go.Proofs.YtlicgblagkkcfaaGreatDoor
open Go.RowKit
set_option linter.unusedVariables false
set_option maxRecDepth 100000
theorem box8' {w : World} {g : Nat} {t : TypeId} {a b c d e f i j : Value} (h : Blk w g t #[a, b, c, d, e, f, i, j]) : w.cell? ⟨g, 0, none⟩ = some a ∧ w.cell? ⟨g, 1, none⟩ = some b ∧ w.cell? ⟨g, 2, none⟩ = some c ∧ w.cell? ⟨g, 3, none⟩ = some d ∧ w.cell? ⟨g, 4, none⟩ = some e ∧ w.cell? ⟨g, 5, none⟩ = some f ∧ w.cell? ⟨g, 6, none⟩ = some i ∧ w.cell? ⟨g, 7, none⟩ = some j :=
  ⟨h.cell 0, h.cell 1, h.cell 2, h.cell 3, h.cell 4, h.cell 5, h.cell 6, h.cell 7⟩
abbrev zeroPic : Value := .agg #[.string ⟨#[]⟩, .int .i64 0, .int .i64 0, .slice none 0 0]
theorem flipped_err (p : Pic) (A : Option Addr) (c : Nat) (w : World) (hs : p.name.size ≤ maxLen) (hl : p.l.length ≤ maxLen) (hr : Rd w A (fl p.l)) (he : p.err ≠ 0) :
    Calls Tryz.prog 46 #[p.val A c] w fun e w' => e = .returned (.tuple #[.agg #[.string ⟨#[]⟩, .int .i64 0, .int .i64 0, .slice none 0 0], .int .i64 p.err]) ∧ Below w.heap.size w w' := by
  have hcp := fun w hr => checkPicture_any p A c w hs hl hr
  obtain ⟨z, hz⟩ : ∃ z, p.err = z := ⟨_, rfl⟩
  rw [hz] at he hcp ⊢
  clear hz
  unfold Pic.val at hcp ⊢
  obtain ⟨n, hn⟩ : ∃ n, p.l.length = n := ⟨_, rfl⟩
  rw [hn] at hcp ⊢
  clear hn hl
  have HCP := Lib.hid hcp; have HR := Lib.hid hr
  have hz' : (z != 0) = true := by simpa using he
  clear hcp hr
  go_enter Tryz.func46, Tryz.ntmps46
  go_upto_region 1 with fail
  have hbx := (Blk.new w 50 #[.string p.name, .int .i64 p.w, .int .i64 p.h, .slice A n c]).alloc (.cells #[.string ⟨#[]⟩, .int .i64 0, .int .i64 0, .slice none 0 0] 50)
  have hby := Blk.new (w.alloc (.cells #[.string p.name, .int .i64 p.w, .int .i64 p.h, .slice A n c] 50)) 50 #[.string ⟨#[]⟩, .int .i64 0, .int .i64 0, .slice none 0 0]
  have hb0 : Below w.heap.size w ((w.alloc (.cells #[.string p.name, .int .i64 p.w, .int .i64 p.h, .slice A n c] 50)).alloc (.cells #[.string ⟨#[]⟩, .int .i64 0, .int .i64 0, .slice none 0 0] 50)) := ((Below.refl _ _).alloc (Nat.le_refl _) _).alloc (by simp) _
  simp only [World.size_alloc] at hby
  generalize (w.alloc (.cells #[.string p.name, .int .i64 p.w, .int .i64 p.h, .slice A n c] 50)).alloc (.cells #[.string ⟨#[]⟩, .int .i64 0, .int .i64 0, .slice none 0 0] 50) = w0 at hbx hby hb0 ⊢
  obtain ⟨c0, c1, c2, c3⟩ := box4 hbx
  have HY := Lib.hid hby; have HB := Lib.hid hb0; clear hbx hby hb0
  go_wp2_with fail
  refine (HCP.out _ (HR.out.below HB.out)).mono ?_
  rintro e w1 ⟨rfl, hb⟩
  have hy := HY.out.below hb
  have HB1 := Lib.hid (HB.out.trans (hb.mono HB.out.size))
  clear c0 c1 c2 c3 HY HB HCP HR hb
  have z1 := hy.lt
  have f0 := hy.frozen 0; have f1 := hy.frozen 1; have f2 := hy.frozen 2; have f3 := hy.frozen 3
  obtain ⟨d0, d1, d2, d3⟩ := box4 hy
  have hyy := Lib.hid (show Blk ((((w1.setCell ⟨w.heap.size + 1, 0, none⟩ (.string ⟨#[]⟩)).setCell ⟨w.heap.size + 1, 1, none⟩ (.int .i64 0)).setCell ⟨w.heap.size + 1, 2, none⟩ (.int .i64 0)).setCell ⟨w.heap.size + 1, 3, none⟩ (.slice none 0 0)) (w.heap.size + 1) 50 #[.string ⟨#[]⟩, .int .i64 0, .int .i64 0, .slice none 0 0] from (((hy.set_ 0 _).set_ 1 _).set_ 2 _).set_ 3 _)
  clear hy
  go_wp2
  obtain ⟨r0, r1, r2, r3⟩ := box4 hyy.out
  exact bodyPost_ret (v := .tuple #[.agg #[.string ⟨#[]⟩, .int .i64 0, .int .i64 0, .slice none 0 0], .int .i64 z]) (by simp [results, Tryz.results46, go_sem, r0, r1, r2, r3]) rfl ⟨rfl, below_set4 HB1.out (by omega) _ _ _ _⟩
theorem transposed_err (p : Pic) (A : Option Addr) (c : Nat) (w : World) (hs : p.name.size ≤ maxLen) (hl : p.l.length ≤ maxLen) (hr : Rd w A (fl p.l)) (he : p.err ≠ 0) :
    Calls Tryz.prog 47 #[p.val A c] w fun e w' => e = .returned (.tuple #[.agg #[.string ⟨#[]⟩, .int .i64 0, .int .i64 0, .slice none 0 0], .int .i64 p.err]) ∧ Below w.heap.size w w' := by
  have hcp := fun w hr => checkPicture_any p A c w hs hl hr
  obtain ⟨z, hz⟩ : ∃ z, p.err = z := ⟨_, rfl⟩
  rw [hz] at he hcp ⊢
  clear hz
  unfold Pic.val at hcp ⊢
  obtain ⟨n, hn⟩ : ∃ n, p.l.length = n := ⟨_, rfl⟩
  rw [hn] at hcp ⊢
  clear hn hl
  have HCP := Lib.hid hcp; have HR := Lib.hid hr
  have hz' : (z != 0) = true := by simpa using he
  clear hcp hr
  go_enter Tryz.func47, Tryz.ntmps47
  go_upto_region 1 with fail
  have hbx := (Blk.new w 50 #[.string p.name, .int .i64 p.w, .int .i64 p.h, .slice A n c]).alloc (.cells #[.string ⟨#[]⟩, .int .i64 0, .int .i64 0, .slice none 0 0] 50)
  have hby := Blk.new (w.alloc (.cells #[.string p.name, .int .i64 p.w, .int .i64 p.h, .slice A n c] 50)) 50 #[.string ⟨#[]⟩, .int .i64 0, .int .i64 0, .slice none 0 0]
  have hb0 : Below w.heap.size w ((w.alloc (.cells #[.string p.name, .int .i64 p.w, .int .i64 p.h, .slice A n c] 50)).alloc (.cells #[.string ⟨#[]⟩, .int .i64 0, .int .i64 0, .slice none 0 0] 50)) := ((Below.refl _ _).alloc (Nat.le_refl _) _).alloc (by simp) _
  simp only [World.size_alloc] at hby
  generalize (w.alloc (.cells #[.string p.name, .int .i64 p.w, .int .i64 p.h, .slice A n c] 50)).alloc (.cells #[.string ⟨#[]⟩, .int .i64 0, .int .i64 0, .slice none 0 0] 50) = w0 at hbx hby hb0 ⊢
  obtain ⟨c0, c1, c2, c3⟩ := box4 hbx
  have HY := Lib.hid hby; have HB := Lib.hid hb0; clear hbx hby hb0
  go_wp2_with fail
  refine (HCP.out _ (HR.out.below HB.out)).mono ?_
  rintro e w1 ⟨rfl, hb⟩
  have hy := HY.out.below hb
  have HB1 := Lib.hid (HB.out.trans (hb.mono HB.out.size))
  clear c0 c1 c2 c3 HY HB HCP HR hb
  have z1 := hy.lt
  have f0 := hy.frozen 0; have f1 := hy.frozen 1; have f2 := hy.frozen 2; have f3 := hy.frozen 3
  obtain ⟨d0, d1, d2, d3⟩ := box4 hy
  have hyy := Lib.hid (show Blk ((((w1.setCell ⟨w.heap.size + 1, 0, none⟩ (.string ⟨#[]⟩)).setCell ⟨w.heap.size + 1, 1, none⟩ (.int .i64 0)).setCell ⟨w.heap.size + 1, 2, none⟩ (.int .i64 0)).setCell ⟨w.heap.size + 1, 3, none⟩ (.slice none 0 0)) (w.heap.size + 1) 50 #[.string ⟨#[]⟩, .int .i64 0, .int .i64 0, .slice none 0 0] from (((hy.set_ 0 _).set_ 1 _).set_ 2 _).set_ 3 _)
  clear hy
  go_wp2
  obtain ⟨r0, r1, r2, r3⟩ := box4 hyy.out
  exact bodyPost_ret (v := .tuple #[.agg #[.string ⟨#[]⟩, .int .i64 0, .int .i64 0, .slice none 0 0], .int .i64 z]) (by simp [results, Tryz.results47, go_sem, r0, r1, r2, r3]) rfl ⟨rfl, below_set4 HB1.out (by omega) _ _ _ _⟩
theorem fields_err (p : Pic) (A : Option Addr) (c : Nat) (w : World) (hs : p.name.size ≤ maxLen) (hl : p.l.length ≤ maxLen) (hr : Rd w A (fl p.l)) (z : Int) (he : firstE [p.err, errIf (p.h == 1) 16] = z) (hz : z ≠ 0) :
    Calls Tryz.prog 48 #[p.val A c] w fun e w' => e = .returned (.tuple #[.agg #[.string ⟨#[]⟩, .int .i64 0, .int .i64 0, .slice none 0 0, .string ⟨#[]⟩, .int .i64 0, .int .i64 0, .slice none 0 0], .int .i64 z]) ∧ Below w.heap.size w w' := by
  have hcp := fun w hr => checkPicture_any p A c w hs hl hr
  have HE := Lib.hid he
  clear he
  unfold Pic.val at hcp ⊢
  obtain ⟨n, hn⟩ : ∃ n, p.l.length = n := ⟨_, rfl⟩
  rw [hn] at hcp ⊢
  clear hn hl
  have HCP := Lib.hid hcp; have HR := Lib.hid hr
  have hz' : (z != 0) = true := by simpa using hz
  clear hcp hr
  go_enter Tryz.func48, Tryz.ntmps48
  go_upto_region 1 with fail
  have hbx := (Blk.new w 50 #[.string p.name, .int .i64 p.w, .int .i64 p.h, .slice A n c]).alloc (.cells #[.string ⟨#[]⟩, .int .i64 0, .int .i64 0, .slice none 0 0, .string ⟨#[]⟩, .int .i64 0, .int .i64 0, .slice none 0 0] 67)
  have hby := Blk.new (w.alloc (.cells #[.string p.name, .int .i64 p.w, .int .i64 p.h, .slice A n c] 50)) 67 #[.string ⟨#[]⟩, .int .i64 0, .int .i64 0, .slice none 0 0, .string ⟨#[]⟩, .int .i64 0, .int .i64 0, .slice none 0 0]
  have hb0 : Below w.heap.size w ((w.alloc (.cells #[.string p.name, .int .i64 p.w, .int .i64 p.h, .slice A n c] 50)).alloc (.cells #[.string ⟨#[]⟩, .int .i64 0, .int .i64 0, .slice none 0 0, .string ⟨#[]⟩, .int .i64 0, .int .i64 0, .slice none 0 0] 67)) := ((Below.refl _ _).alloc (Nat.le_refl _) _).alloc (by simp) _
  simp only [World.size_alloc] at hby
  generalize (w.alloc (.cells #[.string p.name, .int .i64 p.w, .int .i64 p.h, .slice A n c] 50)).alloc (.cells #[.string ⟨#[]⟩, .int .i64 0, .int .i64 0, .slice none 0 0, .string ⟨#[]⟩, .int .i64 0, .int .i64 0, .slice none 0 0] 67) = w0 at hbx hby hb0 ⊢
  obtain ⟨c0, c1, c2, c3⟩ := box4 hbx
  have z0 := hbx.lt; have z1 := hby.lt
  have HY := Lib.hid hby; have HB := Lib.hid hb0; clear hbx hby hb0
  go_region_held3 (SK w0)
    (first | exact sk_drew0 _ | exact sk_drew (by assumption) | assumption | exact sk_call (by assumption) (by assumption) | exact sk_alloc (by assumption) _)
    (first
      | (go_at_call 37; refine (HCP.out _ (HR.out.below (HB.out.trans ((And.left (by assumption : SK w0 _)).mono HB.out.size)))).mono ?_; rintro e wn ⟨rfl, hbn⟩; have hch := sk_call (w0 := w0) (by assumption) hbn)
      | (go_at_call 104; refine (errorIf_any _ _ _).mono ?_; rintro e wn ⟨rfl, rfl⟩)
      | (go_at_call 97; refine (first_n _ _ _ [_, _] _ rfl (by simp [maxLen]) (by exact rd_of_blk (Blk.new _ _ _) rfl)).mono ?_; rintro e wn ⟨rfl, rfl⟩))
  rw [HE.out]
  have hch2 := sk_alloc hch (.cells #[.int .i64 p.err, .int .i64 (errIf (p.h == 1) 16)] 26)
  generalize wn.alloc (.cells #[.int .i64 p.err, .int .i64 (errIf (p.h == 1) 16)] 26) = w2 at hch2 ⊢
  have hy := HY.out.below hch2.1
  have HB1 := Lib.hid (HB.out.trans (hch2.1.mono HB.out.size))
  clear c0 c1 c2 c3 HY HB HCP HR hch2 hch hbn z0 z1 HE
  have z1 := hy.lt
  have f := fun i => hy.frozen i
  have f0 := f 0; have f1 := f 1; have f2 := f 2; have f3 := f 3; have f4 := f 4; have f5 := f 5; have f6 := f 6; have f7 := f 7
  clear f
  obtain ⟨d0, d1, d2, d3, d4, d5, d6, d7⟩ := box8' hy
  have hyy := Lib.hid (show Blk ((((((((w2.setCell ⟨w.heap.size + 1, 0, none⟩ (.string ⟨#[]⟩)).setCell ⟨w.heap.size + 1, 1, none⟩ (.int .i64 0)).setCell ⟨w.heap.size + 1, 2, none⟩ (.int .i64 0)).setCell ⟨w.heap.size + 1, 3, none⟩ (.slice none 0 0)).setCell ⟨w.heap.size + 1, 4, none⟩ (.string ⟨#[]⟩)).setCell ⟨w.heap.size + 1, 5, none⟩ (.int .i64 0)).setCell ⟨w.heap.size + 1, 6, none⟩ (.int .i64 0)).setCell ⟨w.heap.size + 1, 7, none⟩ (.slice none 0 0)) (w.heap.size + 1) 67 #[.string ⟨#[]⟩, .int .i64 0, .int .i64 0, .slice none 0 0, .string ⟨#[]⟩, .int .i64 0, .int .i64 0, .slice none 0 0] from (((((((hy.set_ 0 _).set_ 1 _).set_ 2 _).set_ 3 _).set_ 4 _).set_ 5 _).set_ 6 _).set_ 7 _)
  clear hy
  go_wp2
  obtain ⟨r0, r1, r2, r3, r4, r5, r6, r7⟩ := box8' hyy.out
  exact bodyPost_ret (v := .tuple #[.agg #[.string ⟨#[]⟩, .int .i64 0, .int .i64 0, .slice none 0 0, .string ⟨#[]⟩, .int .i64 0, .int .i64 0, .slice none 0 0], .int .i64 z]) (by simp [results, Tryz.results48, go_sem, r0, r1, r2, r3, r4, r5, r6, r7]) rfl ⟨rfl, below_set8 HB1.out (by omega) _ _ _ _ _ _ _ _⟩

end Go.Proofs.YtlicgblagkkcfaaGreatDoor
namespace Go.Proofs.YtlicgblagkkcfaaGreatDoor
open Go.RowKit
set_option linter.unusedVariables false
attribute [local go_sem] run_store_float run_store_complex
set_option maxRecDepth 100000
def sideB (x : Int) : Bool := decide (x ≤ 12) || decide (64 < x)
def shortB (p : Pic) : Bool := decide (p.name.size ≤ 40 ∧ p.l.length ≤ 160) && (sideB p.w && sideB p.h)
theorem short_facts {p : Pic} (h : shortB p = true) : p.name.size ≤ 40 ∧ p.l.length ≤ 160 := by unfold shortB at h; simp at h; exact h.1
set_option maxHeartbeats 1000000 in
theorem shortR_any (p : Pic) (A : Option Addr) (c : Nat) (w : World) :
    Calls Tryz.prog 28 #[p.val A c] w fun e w' => e = .returned (.bool (shortB p)) ∧ Below w.heap.size w w' := by
  unfold Pic.val shortB
  obtain ⟨n, hn⟩ : ∃ n, p.l.length = n := ⟨_, rfl⟩
  obtain ⟨m, hm⟩ : ∃ m, p.name.size = m := ⟨_, rfl⟩
  rw [hn, hm]
  have HM := Lib.hid hm
  clear hn
  go_enter Tryz.func28, Tryz.ntmps28
  go_upto_region 1 with fail
  have hbx := Blk.new w 43 #[.string p.name, .int .i64 p.w, .int .i64 p.h, .slice A n c]
  have hb0 : Below w.heap.size w (w.alloc (.cells #[.string p.name, .int .i64 p.w, .int .i64 p.h, .slice A n c] 43)) := (Below.refl _ _).alloc (Nat.le_refl _) _
  generalize w.alloc (.cells #[.string p.name, .int .i64 p.w, .int .i64 p.h, .slice A n c] 43) = w0 at hbx hb0 ⊢
  obtain ⟨c0, c1, c2, c3⟩ := box4 hbx
  have HB := Lib.hid hb0; clear hbx hb0
  by_cases h1 : (m : Int) ≤ 40
  · by_cases h2 : (n : Int) ≤ 160
    · by_cases h3 : p.w ≤ 12
      · by_cases h5 : p.h ≤ 12
        · go_wp2
          go_ret
          exact ⟨ret_bool (by simp [sideB]; omega), HB.out⟩
        · by_cases h6 : 64 < p.h
          all_goals
            go_wp2
            go_ret
            exact ⟨ret_bool (by simp [sideB]; omega), HB.out⟩
      · by_cases h4 : 64 < p.w
        · by_cases h5 : p.h ≤ 12
          · go_wp2
            go_ret
            exact ⟨ret_bool (by simp [sideB]; omega), HB.out⟩
          · by_cases h6 : 64 < p.h
            all_goals
              go_wp2
              go_ret
              exact ⟨ret_bool (by simp [sideB]; omega), HB.out⟩
        · go_wp2
          go_ret
          exact ⟨ret_bool (by simp [sideB]; omega), HB.out⟩
    · go_wp2
      go_ret
      exact ⟨ret_bool (by simp [sideB]; omega), HB.out⟩
  · go_wp2
    go_ret
    exact ⟨ret_bool (by simp [sideB]; omega), HB.out⟩

end Go.Proofs.YtlicgblagkkcfaaGreatDoor
namespace Go.Proofs.YtlicgblagkkcfaaGreatDoor
open Go.RowKit
set_option linter.unusedVariables false
attribute [local go_sem] run_store_float run_store_complex
set_option maxRecDepth 100000
theorem filled_any (nm : ByteArray) (a b n : Nat) (w : World) (hn : a * b = n) (hl : n ≤ 4096) : Calls Tryz.prog 115 #[.string nm, .int .i64 a, .int .i64 b] w fun e w' => ∃ g, e = .returned (.agg #[.string nm, .int .i64 a, .int .i64 b, .slice (some ⟨g, 0, none⟩) n n]) ∧ w.heap.size ≤ g ∧ Blk w' g 23 (fillN (fun _ => .float .f32 0) (.float .f32 0) n 0) ∧ Below w.heap.size w w' := by
  have hz : (a : Int) * (b : Int) = ((n : Nat) : Int) := by rw [← hn]; simp
  clear hn
  have hmk := fun W => Go.run_make_row' (P := Tryz.prog) 41 23 (.float .f32 0) 4 Tryz.underlying41 info_mapIF rfl .i64 .i64 n (by omega) (by omega) W
  go_enter Tryz.func115, Tryz.ntmps115
  go_wp2_with fail
  refine bodyPost_ret (v := .agg #[.string nm, .int .i64 a, .int .i64 b, .slice (some ⟨w.heap.size + 1, 0, none⟩) n n]) (by simp [results, Tryz.results115, go_sem]) rfl ⟨_, rfl, by omega, ?_, ?_⟩
  · rw [← fill_zero]; simpa using Blk.new (w.alloc _) 23 (madeCells #[.float .f32 0] n)
  · go_grown
theorem sampled_ok (nm : ByteArray) (W H : Nat) (n c : Nat) (l : List Nat) (hln : l.length = n) (ad : Addr) (x y k : Nat) (hk : y * W + x = k) (hkn : k < n) (hn : n ≤ 4096) (hW : W ≤ 64) (hy : y ≤ 64) (w : World) (hr : Rd w (some ad) (fl l)) :
    Calls Tryz.prog 35 #[.agg #[.string nm, .int .i64 (W : Int), .int .i64 (H : Int), .slice (some ad) n c], .int .i64 (x : Int), .int .i64 (y : Int)] w fun e w' => e = .returned (.float .f32 (l.getD k 0)) ∧ Below w.heap.size w w' := by
  have e1 : (y : Int) * (W : Int) + (x : Int) = (k : Int) := by rw [← hk]; simp
  have hq : y * W ≤ 4096 := Nat.le_trans (Nat.mul_le_mul hy hW) (by decide)
  obtain ⟨q, hqq⟩ : ∃ q : Nat, (y : Int) * (W : Int) = (q : Int) := ⟨y * W, by simp⟩
  have hq2 : (q : Int) ≤ 4096 := by have : (q : Int) = ((y * W : Nat) : Int) := by rw [← hqq]; simp
                                    omega
  rw [hqq] at e1
  obtain ⟨v, hv⟩ : ∃ v, l.getD k 0 = v := ⟨_, rfl⟩
  have hc := hr.get (k := k) (u := .float .f32 v) (by rw [← hv]; exact fl_get (by omega))
  obtain ⟨ad2, e2, hb, hc⟩ := hc
  cases e2
  rw [hv]
  have hkk : (k : Int) < (n : Int) := by omega
  have HK := Lib.hid hk
  clear hk hv hq hr
  go_enter Tryz.func35, Tryz.ntmps35
  go_upto_region 1 with fail
  have hbx := Blk.new w 43 #[.string nm, .int .i64 (W : Int), .int .i64 (H : Int), .slice (some ad) n c]
  have hb0 : Below w.heap.size w (w.alloc (.cells #[.string nm, .int .i64 (W : Int), .int .i64 (H : Int), .slice (some ad) n c] 43)) := (Below.refl _ _).alloc (Nat.le_refl _) _
  have hc0 := (hb0.cell (p := ad.add k) (by rw [block_of_add]; exact hb)).trans hc
  generalize w.alloc (.cells #[.string nm, .int .i64 (W : Int), .int .i64 (H : Int), .slice (some ad) n c] 43) = w0 at hbx hb0 hc0 ⊢
  obtain ⟨c0, c1, c2, c3⟩ := box4 hbx
  have HB := Lib.hid hb0; clear hbx hb0 hc hb
  go_wp2
  go_ret
  exact ⟨rfl, HB.out⟩

end Go.Proofs.YtlicgblagkkcfaaGreatDoor
namespace Go.Proofs.YtlicgblagkkcfaaGreatDoor
open Go.RowKit
set_option linter.unusedVariables false
attribute [local go_sem] run_store_float run_store_complex
set_option maxRecDepth 100000
theorem sx_drew {g : Nat} {w0 w : World} (h : SX g w0 w) : SX g w0 w.drew := h
theorem sx_set {g : Nat} {w0 w : World} (h : SX g w0 w) (k : Nat) (u : Value) : SX g w0 (w.setCell ⟨g, k, none⟩ u) :=
  ⟨by simpa using h.1, fun b o hb hn => (World.cell?_of_block (w := w) (Below.heap_setCell w ⟨g, k, none⟩ u b hn)).trans (h.2 b o hb hn)⟩
def rowD (M y x i : Nat) : Bool := decide (i < y * M + x)
theorem rowD_step (M y x n i : Nat) : rowD M y (x + 1) i = (rowD M y x i || decide (i = y * M + x)) := by
  unfold rowD; rw [Bool.eq_iff_iff]; simp; omega
theorem rowD_next (M y i : Nat) : rowD M y M i = rowD M (y + 1) 0 i := by
  unfold rowD; rw [Nat.add_mul]; simp
theorem flipF_row (l : List Nat) (W y x : Nat) (hx : x < W) : flipF l W (y * W + x) = .float .f32 (l.getD (y * W + (W - 1 - x)) 0) := by
  unfold flipF
  have h1 : (y * W + x) / W = y := by rw [Nat.mul_comm, Nat.mul_add_div (by omega), Nat.div_eq_of_lt hx, Nat.add_zero]
  have h2 : (y * W + x) % W = x := by rw [Nat.mul_comm, Nat.mul_add_mod, Nat.mod_eq_of_lt hx]
  rw [h1, h2]
set_option maxHeartbeats 2000000 in
theorem flippedR_ok (nm : ByteArray) (W H : Nat) (l : List Nat) (hW : 1 ≤ W ∧ W ≤ 64) (hH : 1 ≤ H ∧ H ≤ 64) (hlen : l.length = W * H) (A : Option Addr) (c : Nat) (w : World) (hr : Rd w A (fl l)) :
    Calls Tryz.prog 49 #[.agg #[.string nm, .int .i64 (W : Int), .int .i64 (H : Int), .slice A l.length c]] w fun e w' => ∃ g, e = .returned (.agg #[.string nm, .int .i64 (W : Int), .int .i64 (H : Int), .slice (some ⟨g, 0, none⟩) l.length l.length]) ∧ Blk w' g 23 (maskN (flipF l W) (.float .f32 0) l.length (fun _ => true)) ∧ Below w.heap.size w w' := by
  have hl4 : l.length ≤ 4096 := by rw [hlen]; exact Nat.le_trans (Nat.mul_le_mul hW.2 hH.2) (by decide)
  have hn4 := hl4
  have hpos : 0 < (fl l).length := by have := prod_pos hW.1 hH.1; simp [fl]; omega
  obtain ⟨ad, rfl, hadb, hadc⟩ := hr.some_ hpos
  have HR := Lib.hid hr
  have HFN := Lib.hid hlen.symm
  have HD0 : RowKit.Hid (∀ i, i < l.length → (decide (i < 0)) = rowD W 0 0 i) := Lib.hid (fun i _ => by simp [rowD])
  have HLEN := Lib.hid hlen
  have HDN : RowKit.Hid (∀ y i, i < l.length → rowD W y W i = rowD W (y + 1) 0 i) := Lib.hid (fun y i _ => rowD_next W y i)
  have HDE : RowKit.Hid (∀ i, i < l.length → rowD W H 0 i = true) := Lib.hid (fun i hi => by rw [hlen, Nat.mul_comm] at hi; simp [rowD]; exact hi)
  clear hr hadb hadc hpos hlen
  go_enter Tryz.func49, Tryz.ntmps49
  go_upto_region 1 with fail
  have hx0 := (Blk.new w 43 #[.string nm, .int .i64 (W : Int), .int .i64 (H : Int), .slice (some ad) l.length c]).alloc (.cells #[.string ⟨#[]⟩, .int .i64 0, .int .i64 0, .slice none 0 0] 43)
  have hx1 := Blk.new (w.alloc (.cells #[.string nm, .int .i64 (W : Int), .int .i64 (H : Int), .slice (some ad) l.length c] 43)) 43 #[.string ⟨#[]⟩, .int .i64 0, .int .i64 0, .slice none 0 0]
  simp only [World.size_alloc] at hx1
  have hb0 := ((Below.refl w.heap.size w).alloc (Nat.le_refl _) (.cells #[.string nm, .int .i64 (W : Int), .int .i64 (H : Int), .slice (some ad) l.length c] 43)).alloc (by simp only [World.size_alloc]; omega) (.cells #[.string ⟨#[]⟩, .int .i64 0, .int .i64 0, .slice none 0 0] 43)
  generalize ((w.alloc (.cells #[.string nm, .int .i64 (W : Int), .int .i64 (H : Int), .slice (some ad) l.length c] 43)).alloc (.cells #[.string ⟨#[]⟩, .int .i64 0, .int .i64 0, .slice none 0 0] 43)) = w0 at hx0 hx1 hb0 ⊢
  have HX0 := Lib.hid hx0
  have HX1 := Lib.hid hx1
  have HB := Lib.hid hb0; clear hb0 hx0 hx1
  have k0_0 := HX0.out.cell 0; have k0_1 := HX0.out.cell 1; have k0_2 := HX0.out.cell 2; have k0_3 := HX0.out.cell 3
  simp only [List.getElem?_toArray, List.getElem?_cons_zero, List.getElem?_cons_succ] at k0_0 k0_1 k0_2 k0_3
  go_wp2_with fail
  refine (filled_any nm W H l.length _ HFN.out hn4).mono ?_
  rintro e w2 ⟨g, rfl, hg, hgb, hb2⟩
  have hgx : w.heap.size + 1 < g := Nat.lt_of_lt_of_le HX1.out.lt hg
  replace HX0 := Lib.hid (HX0.out.below hb2)
  replace HX1 := Lib.hid (HX1.out.below hb2)
  replace HB := Lib.hid (HB.out.trans (hb2.mono HB.out.size))
  have HG := Lib.hid hgb
  clear hb2 hgb
  clear k0_0 k0_1 k0_2 k0_3
  go_upto_region 2 with fail
  have hx0 := HX0.out.alloc (.cells #[.string nm, .int .i64 (W : Int), .int .i64 (H : Int), .slice (some ⟨g, 0, none⟩) l.length l.length] 43)
  have hx1 := HX1.out.alloc (.cells #[.string nm, .int .i64 (W : Int), .int .i64 (H : Int), .slice (some ⟨g, 0, none⟩) l.length l.length] 43)
  have hgm := HG.out.alloc (.cells #[.string nm, .int .i64 (W : Int), .int .i64 (H : Int), .slice (some ⟨g, 0, none⟩) l.length l.length] 43)
  have hf := Blk.new w2 43 #[.string nm, .int .i64 (W : Int), .int .i64 (H : Int), .slice (some ⟨g, 0, none⟩) l.length l.length]
  have hb := HB.out.alloc HB.out.size (.cells #[.string nm, .int .i64 (W : Int), .int .i64 (H : Int), .slice (some ⟨g, 0, none⟩) l.length l.length] 43)
  have hgb : g < w2.heap.size := HG.out.lt
  have hbx : w.heap.size + 1 < w2.heap.size := HX1.out.lt
  obtain ⟨b3, hb3⟩ : ∃ b, w2.heap.size = b := ⟨_, rfl⟩
  rw [hb3] at hf hgb hbx ⊢
  clear hb3
  generalize w2.alloc (.cells #[.string nm, .int .i64 (W : Int), .int .i64 (H : Int), .slice (some ⟨g, 0, none⟩) l.length l.length] 43) = w3 at hx0 hx1 hgm hf hb ⊢
  replace HX0 := Lib.hid hx0
  replace HX1 := Lib.hid hx1
  replace HG := Lib.hid hgm; have HF := Lib.hid hf; replace HB := Lib.hid hb; clear hgm hf hb hx0 hx1
  go_wp2
  go_loopw [4] (fun i wr => ∃ y : Nat, y ≤ H ∧ i = .int .i64 y ∧ Blk wr w.heap.size 43 #[.string nm, .int .i64 (W : Int), .int .i64 (H : Int), .slice (some ad) l.length c] ∧ Blk wr (w.heap.size + 1) 43 #[.string ⟨#[]⟩, .int .i64 0, .int .i64 0, .slice none 0 0] ∧ Blk wr b3 43 #[.string nm, .int .i64 (W : Int), .int .i64 (H : Int), .slice (some ⟨g, 0, none⟩) l.length l.length] ∧ Blk wr g 23 (maskN (flipF l W) (.float .f32 0) l.length (rowD W y 0)) ∧ Below w.heap.size w wr) (fun i _ => H - (intOf i).toNat)
  case atStart =>
    refine ⟨0, by omega, rfl, HX0.out, HX1.out, HF.out, ?_, HB.out⟩
    have h := HG.out
    rw [fill_mask, mask_congr (fun _ => .float .f32 0) (flipF l W) _ _ _ (rowD W 0 0) (HD0.out) (by simp)] at h
    exact h
  case round =>
    clear HX0 HX1 HG HF HB
    obtain ⟨y, hy, rfl, hx0, hx1, hf, hgm, hbel⟩ := hrel
    have HX0 := Lib.hid hx0
    have HX1 := Lib.hid hx1
    have HF := Lib.hid hf; have HG := Lib.hid hgm; have HB := Lib.hid hbel; clear hf hgm hbel hx0 hx1
    have k0_0 := HX0.out.cell 0; have k0_1 := HX0.out.cell 1; have k0_2 := HX0.out.cell 2; have k0_3 := HX0.out.cell 3
    simp only [List.getElem?_toArray, List.getElem?_cons_zero, List.getElem?_cons_succ] at k0_0 k0_1 k0_2 k0_3
    obtain ⟨q0, q1, q2, q3⟩ := box4 HF.out
    by_cases hlt : y < H
    · go_wp2
      go_loopw [5] (fun i wr => ∃ x : Nat, x ≤ W ∧ i = .int .i64 x ∧ Blk wr w.heap.size 43 #[.string nm, .int .i64 (W : Int), .int .i64 (H : Int), .slice (some ad) l.length c] ∧ Blk wr (w.heap.size + 1) 43 #[.string ⟨#[]⟩, .int .i64 0, .int .i64 0, .slice none 0 0] ∧ Blk wr b3 43 #[.string nm, .int .i64 (W : Int), .int .i64 (H : Int), .slice (some ⟨g, 0, none⟩) l.length l.length] ∧ Blk wr g 23 (maskN (flipF l W) (.float .f32 0) l.length (rowD W y x)) ∧ Below w.heap.size w wr) (fun i _ => W - (intOf i).toNat)
      case atStart => exact ⟨0, by omega, rfl, HX0.out, HX1.out, HF.out, HG.out, HB.out⟩
      case round =>
        clear q0 q1 q2 q3 k0_0 k0_1 k0_2 k0_3
        clear HX0 HX1 HG HF HB
        obtain ⟨x, hxW, rfl, hx0, hx1, hf, hgm, hbel⟩ := hrel
        obtain ⟨wo, rfl⟩ : ∃ wo : World, wo = wr := ⟨_, rfl⟩
        have HX0 := Lib.hid hx0
        have HX1 := Lib.hid hx1
        have HF := Lib.hid hf; have HG := Lib.hid hgm; have HB := Lib.hid hbel; clear hf hgm hbel hx0 hx1
        have k0_0 := HX0.out.cell 0; have k0_1 := HX0.out.cell 1; have k0_2 := HX0.out.cell 2; have k0_3 := HX0.out.cell 3
        simp only [List.getElem?_toArray, List.getElem?_cons_zero, List.getElem?_cons_succ] at k0_0 k0_1 k0_2 k0_3
        obtain ⟨q0, q1, q2, q3⟩ := box4 HF.out
        by_cases hxl : x < W
        · have hro := row_le (W := W) hlt
          obtain ⟨q, hq⟩ : ∃ q, y * W = q := ⟨_, rfl⟩
          have hql : q + W ≤ l.length := by rw [← hq, HLEN.out]; exact hro
          obtain ⟨k, hk⟩ : ∃ k, q + x = k := ⟨_, rfl⟩
          obtain ⟨j, hj⟩ : ∃ j, W - 1 - x = j := ⟨_, rfl⟩
          obtain ⟨s, hs⟩ : ∃ s, q + j = s := ⟨_, rfl⟩
          have hsn : s < l.length := by omega
          have hkn : k < l.length := by omega
          have HSK : RowKit.Hid (y * W + j = s) := Lib.hid (by rw [hq]; exact hs)
          have HFK : RowKit.Hid (flipF l W k = .float .f32 (l.getD s 0)) := Lib.hid (by rw [← hk, ← hq, flipF_row l W y x hxl, hj, hq, hs])
          have HDS : RowKit.Hid (∀ i, i < l.length → rowD W y (x + 1) i = (rowD W y x i || decide (i = k))) := Lib.hid (fun i _ => by rw [rowD_step W y x l.length i, hq, hk])
          have e0 : IntKind.i64.wrap ((y : Int) * (W : Int)) = (q : Int) := by rw [show (y : Int) * (W : Int) = (q : Int) by rw [← hq]; simp]; exact IntWalk.i64_in _ (by omega)
          have e1 : IntKind.i64.wrap ((q : Int) + (x : Int)) = (k : Int) := by rw [IntWalk.i64_in _ (by omega)]; omega
          have e2 : IntKind.i64.wrap ((W : Int) - 1) = (W : Int) - 1 := IntWalk.i64_in _ (by omega)
          have e3 : IntKind.i64.wrap ((W : Int) - 1 - (x : Int)) = (j : Int) := by rw [IntWalk.i64_in _ (by omega)]; omega
          have e4 : (0 : Int) ≤ (k : Int) := by omega
          have e5 : (k : Int) < (l.length : Int) := by omega
          clear hq hk hj hs hro hql
          have hrs := HR.out.below HB.out
          obtain ⟨v, hv⟩ : ∃ v, l.getD s 0 = v := ⟨_, rfl⟩
          have HV := Lib.hid hv
          have HS := Lib.hid (fun w hr => sampled_ok nm W H l.length c l rfl ad (j) (y) s HSK.out (by omega) hl4 hW.2 (by omega) w hr)
          rw [hv] at HS
          have HRS := Lib.hid hrs; clear hrs hv
          have HFA := Lib.hid (show (flipF l W) k = .float .f32 v by rw [← HV.out]; exact HFK.out)
          obtain ⟨vo, hvo⟩ : ∃ vo, (maskN (flipF l W) (.float .f32 0) l.length (rowD W y x))[k]? = some vo := ⟨_, by rw [mask_get, if_pos hkn]⟩
          have hgc := (HG.out.cell k).trans hvo
          have HVO := Lib.hid hvo; clear hvo
          have hgf := HG.out.frozen k
          have HSET := Lib.hid (fun w (h : Blk w g 23 (maskN (flipF l W) (.float .f32 0) l.length (rowD W y x))) => show Blk (w.setCell ⟨g, k, none⟩ (.float .f32 v)) g 23 (maskN (flipF l W) (.float .f32 0) l.length (rowD W y (x + 1))) from by
            have h2 := h.set_ k (.float .f32 v)
            rw [← HFA.out, mask_set (flipF l W) _ _ _ (rowD W y (x + 1)) k HDS.out] at h2
            rw [← HFA.out]; exact h2)
          have g0 := HX0.out.lt
          have g1 := HX1.out.lt
          have gf := HF.out.lt; have gg := HG.out.lt
          have n0 : ¬ w.heap.size = g := by omega
          have n1 : ¬ w.heap.size + 1 = g := by omega
          have nf : ¬ b3 = g := by omega
          have hch : Below wo.heap.size wo wo.drew := (Below.refl _ _).drew
          have hsx : SX g wo wo.drew := sx_below hch
          go_upto_region 8 with fail
          go_region_held3 (SX g wo)
            (first | (with_reducible assumption) | exact sx_drew (by assumption) | exact sx_set (by assumption) _ _)
            (first
              | (go_at_call 35; refine (HS.out _ (HRS.out.below (by assumption))).mono ?_; rintro e wn ⟨rfl, hbn⟩; have hch := chainB' (wo := wo) (by assumption) hbn; have hsx := sx_below (g := g) hch; have kg := ((HG.out.below hch).cell k).trans HVO.out; have kf := (HG.out.below hch).frozen k))
          clear kg kf hgc hgf hsx q0 q1 q2 q3 k0_0 k0_1 k0_2 k0_3
          replace HX0 := Lib.hid ((HX0.out.below hch).far (p := ⟨g, k, none⟩) (by simp; omega) (.float .f32 v))
          replace HX1 := Lib.hid ((HX1.out.below hch).far (p := ⟨g, k, none⟩) (by simp; omega) (.float .f32 v))
          replace HF := Lib.hid ((HF.out.below hch).far (p := ⟨g, k, none⟩) (by simp; omega) (.float .f32 v))
          replace HG := Lib.hid (HSET.out _ (HG.out.below hch))
          replace HB := Lib.hid ((HB.out.trans (hch.mono HB.out.size)).setCell (p := ⟨g, k, none⟩) (by simp; omega) (.float .f32 v))
          clear hch hbn
          go_wp2
          go_roundw
          case rel => exact ⟨x + 1, by omega, by go_num, HX0.out, HX1.out, HF.out, HG.out, HB.out⟩
          case measure => simp [intOf]; omega
        · have hxe : x = W := by omega
          replace HG := Lib.hid (show Blk wo g 23 (maskN (flipF l W) (.float .f32 0) l.length (rowD W (y + 1) 0)) from by
            have h := HG.out
            rw [hxe, mask_congr (flipF l W) (flipF l W) _ _ _ (rowD W (y + 1) 0) (HDN.out y) (fun _ _ _ => rfl)] at h
            exact h)
          go_wp2
          go_roundw
          case rel => exact ⟨y + 1, by omega, by go_num, HX0.out, HX1.out, HF.out, HG.out, HB.out⟩
          case measure => simp [intOf]; omega
    · have hye : y = H := by omega
      replace HG := Lib.hid (show Blk wr g 23 (maskN (flipF l W) (.float .f32 0) l.length (fun _ => true)) from by
        have h := HG.out
        rw [hye, mask_congr (flipF l W) (flipF l W) _ _ _ (fun _ => true) (HDE.out) (fun _ _ _ => rfl)] at h
        exact h)
      have hy := HX1.out
      have z1 := hy.lt
      have f0 := hy.frozen 0; have f1 := hy.frozen 1; have f2 := hy.frozen 2; have f3 := hy.frozen 3
      obtain ⟨d0, d1, d2, d3⟩ := box4 hy
      have hyy := Lib.hid (show Blk ((((wr.setCell ⟨w.heap.size + 1, 0, none⟩ (.string nm)).setCell ⟨w.heap.size + 1, 1, none⟩ (.int .i64 (W : Int))).setCell ⟨w.heap.size + 1, 2, none⟩ (.int .i64 (H : Int))).setCell ⟨w.heap.size + 1, 3, none⟩ (.slice (some ⟨g, 0, none⟩) l.length l.length)) (w.heap.size + 1) 43 #[.string nm, .int .i64 (W : Int), .int .i64 (H : Int), .slice (some ⟨g, 0, none⟩) l.length l.length] from (((hy.set_ 0 _).set_ 1 _).set_ 2 _).set_ 3 _)
      have HGE := Lib.hid ((((HG.out.far (p := ⟨w.heap.size + 1, 0, none⟩) (by simp; omega) (.string nm)).far (p := ⟨w.heap.size + 1, 1, none⟩) (by simp; omega) (.int .i64 (W : Int))).far (p := ⟨w.heap.size + 1, 2, none⟩) (by simp; omega) (.int .i64 (H : Int))).far (p := ⟨w.heap.size + 1, 3, none⟩) (by simp; omega) (.slice (some ⟨g, 0, none⟩) l.length l.length))
      clear hy
      go_wp2
      obtain ⟨r0, r1, r2, r3⟩ := box4 hyy.out
      exact bodyPost_ret (v := .agg #[.string nm, .int .i64 (W : Int), .int .i64 (H : Int), .slice (some ⟨g, 0, none⟩) l.length l.length]) (by simp [results, Tryz.results49, go_sem, r0, r1, r2, r3]) rfl ⟨g, rfl, HGE.out, below_set4 HB.out (by omega) _ _ _ _⟩
theorem transD_next (H W y i : Nat) (h : i < W * H) : transD H y W i = transD H (y + 1) 0 i := by
  rw [transD_end H W y i h]; unfold transD; simp
set_option maxHeartbeats 2000000 in
theorem transposedR_ok (nm : ByteArray) (W H : Nat) (l : List Nat) (hW : 1 ≤ W ∧ W ≤ 64) (hH : 1 ≤ H ∧ H ≤ 64) (hlen : l.length = W * H) (A : Option Addr) (c : Nat) (w : World) (hr : Rd w A (fl l)) :
    Calls Tryz.prog 50 #[.agg #[.string nm, .int .i64 (W : Int), .int .i64 (H : Int), .slice A l.length c]] w fun e w' => ∃ g, e = .returned (.agg #[.string nm, .int .i64 (H : Int), .int .i64 (W : Int), .slice (some ⟨g, 0, none⟩) l.length l.length]) ∧ Blk w' g 23 (maskN (transF l W H) (.float .f32 0) l.length (fun _ => true)) ∧ Below w.heap.size w w' := by
  have hl4 : l.length ≤ 4096 := by rw [hlen]; exact Nat.le_trans (Nat.mul_le_mul hW.2 hH.2) (by decide)
  have hn4 := hl4
  have hpos : 0 < (fl l).length := by have := prod_pos hW.1 hH.1; simp [fl]; omega
  obtain ⟨ad, rfl, hadb, hadc⟩ := hr.some_ hpos
  have HR := Lib.hid hr
  have HFN : RowKit.Hid (H * W = l.length) := Lib.hid (by rw [hlen, Nat.mul_comm])
  have HD0 : RowKit.Hid (∀ i, i < l.length → (decide (i < 0)) = transD H 0 0 i) := Lib.hid (fun i _ => by simp [transD])
  have HLEN := Lib.hid hlen
  have HDN : RowKit.Hid (∀ y i, i < l.length → transD H y W i = transD H (y + 1) 0 i) := Lib.hid (fun y i hi => transD_next H W y i (by rw [← hlen]; exact hi))
  have HDE : RowKit.Hid (∀ i, i < l.length → transD H H 0 i = true) := Lib.hid (fun i hi => by unfold transD; simp [Nat.mod_lt i (show 0 < H by omega)])
  clear hr hadb hadc hpos hlen
  go_enter Tryz.func50, Tryz.ntmps50
  go_upto_region 1 with fail
  have hx0 := (Blk.new w 43 #[.string nm, .int .i64 (W : Int), .int .i64 (H : Int), .slice (some ad) l.length c]).alloc (.cells #[.string ⟨#[]⟩, .int .i64 0, .int .i64 0, .slice none 0 0] 43)
  have hx1 := Blk.new (w.alloc (.cells #[.string nm, .int .i64 (W : Int), .int .i64 (H : Int), .slice (some ad) l.length c] 43)) 43 #[.string ⟨#[]⟩, .int .i64 0, .int .i64 0, .slice none 0 0]
  simp only [World.size_alloc] at hx1
  have hb0 := ((Below.refl w.heap.size w).alloc (Nat.le_refl _) (.cells #[.string nm, .int .i64 (W : Int), .int .i64 (H : Int), .slice (some ad) l.length c] 43)).alloc (by simp only [World.size_alloc]; omega) (.cells #[.string ⟨#[]⟩, .int .i64 0, .int .i64 0, .slice none 0 0] 43)
  generalize ((w.alloc (.cells #[.string nm, .int .i64 (W : Int), .int .i64 (H : Int), .slice (some ad) l.length c] 43)).alloc (.cells #[.string ⟨#[]⟩, .int .i64 0, .int .i64 0, .slice none 0 0] 43)) = w0 at hx0 hx1 hb0 ⊢
  have HX0 := Lib.hid hx0
  have HX1 := Lib.hid hx1
  have HB := Lib.hid hb0; clear hb0 hx0 hx1
  have k0_0 := HX0.out.cell 0; have k0_1 := HX0.out.cell 1; have k0_2 := HX0.out.cell 2; have k0_3 := HX0.out.cell 3
  simp only [List.getElem?_toArray, List.getElem?_cons_zero, List.getElem?_cons_succ] at k0_0 k0_1 k0_2 k0_3
  go_wp2_with fail
  refine (filled_any nm H W l.length _ HFN.out hn4).mono ?_
  rintro e w2 ⟨g, rfl, hg, hgb, hb2⟩
  have hgx : w.heap.size + 1 < g := Nat.lt_of_lt_of_le HX1.out.lt hg
  replace HX0 := Lib.hid (HX0.out.below hb2)
  replace HX1 := Lib.hid (HX1.out.below hb2)
  replace HB := Lib.hid (HB.out.trans (hb2.mono HB.out.size))
  have HG := Lib.hid hgb
  clear hb2 hgb
  clear k0_0 k0_1 k0_2 k0_3
  go_upto_region 2 with fail
  have hx0 := HX0.out.alloc (.cells #[.string nm, .int .i64 (H : Int), .int .i64 (W : Int), .slice (some ⟨g, 0, none⟩) l.length l.length] 43)
  have hx1 := HX1.out.alloc (.cells #[.string nm, .int .i64 (H : Int), .int .i64 (W : Int), .slice (some ⟨g, 0, none⟩) l.length l.length] 43)
  have hgm := HG.out.alloc (.cells #[.string nm, .int .i64 (H : Int), .int .i64 (W : Int), .slice (some ⟨g, 0, none⟩) l.length l.length] 43)
  have hf := Blk.new w2 43 #[.string nm, .int .i64 (H : Int), .int .i64 (W : Int), .slice (some ⟨g, 0, none⟩) l.length l.length]
  have hb := HB.out.alloc HB.out.size (.cells #[.string nm, .int .i64 (H : Int), .int .i64 (W : Int), .slice (some ⟨g, 0, none⟩) l.length l.length] 43)
  have hgb : g < w2.heap.size := HG.out.lt
  have hbx : w.heap.size + 1 < w2.heap.size := HX1.out.lt
  obtain ⟨b3, hb3⟩ : ∃ b, w2.heap.size = b := ⟨_, rfl⟩
  rw [hb3] at hf hgb hbx ⊢
  clear hb3
  generalize w2.alloc (.cells #[.string nm, .int .i64 (H : Int), .int .i64 (W : Int), .slice (some ⟨g, 0, none⟩) l.length l.length] 43) = w3 at hx0 hx1 hgm hf hb ⊢
  replace HX0 := Lib.hid hx0
  replace HX1 := Lib.hid hx1
  replace HG := Lib.hid hgm; have HF := Lib.hid hf; replace HB := Lib.hid hb; clear hgm hf hb hx0 hx1
  go_wp2
  go_loopw [4] (fun i wr => ∃ y : Nat, y ≤ H ∧ i = .int .i64 y ∧ Blk wr w.heap.size 43 #[.string nm, .int .i64 (W : Int), .int .i64 (H : Int), .slice (some ad) l.length c] ∧ Blk wr (w.heap.size + 1) 43 #[.string ⟨#[]⟩, .int .i64 0, .int .i64 0, .slice none 0 0] ∧ Blk wr b3 43 #[.string nm, .int .i64 (H : Int), .int .i64 (W : Int), .slice (some ⟨g, 0, none⟩) l.length l.length] ∧ Blk wr g 23 (maskN (transF l W H) (.float .f32 0) l.length (transD H y 0)) ∧ Below w.heap.size w wr) (fun i _ => H - (intOf i).toNat)
  case atStart =>
    refine ⟨0, by omega, rfl, HX0.out, HX1.out, HF.out, ?_, HB.out⟩
    have h := HG.out
    rw [fill_mask, mask_congr (fun _ => .float .f32 0) (transF l W H) _ _ _ (transD H 0 0) (HD0.out) (by simp)] at h
    exact h
  case round =>
    clear HX0 HX1 HG HF HB
    obtain ⟨y, hy, rfl, hx0, hx1, hf, hgm, hbel⟩ := hrel
    have HX0 := Lib.hid hx0
    have HX1 := Lib.hid hx1
    have HF := Lib.hid hf; have HG := Lib.hid hgm; have HB := Lib.hid hbel; clear hf hgm hbel hx0 hx1
    have k0_0 := HX0.out.cell 0; have k0_1 := HX0.out.cell 1; have k0_2 := HX0.out.cell 2; have k0_3 := HX0.out.cell 3
    simp only [List.getElem?_toArray, List.getElem?_cons_zero, List.getElem?_cons_succ] at k0_0 k0_1 k0_2 k0_3
    obtain ⟨q0, q1, q2, q3⟩ := box4 HF.out
    by_cases hlt : y < H
    · go_wp2
      go_loopw [5] (fun i wr => ∃ x : Nat, x ≤ W ∧ i = .int .i64 x ∧ Blk wr w.heap.size 43 #[.string nm, .int .i64 (W : Int), .int .i64 (H : Int), .slice (some ad) l.length c] ∧ Blk wr (w.heap.size + 1) 43 #[.string ⟨#[]⟩, .int .i64 0, .int .i64 0, .slice none 0 0] ∧ Blk wr b3 43 #[.string nm, .int .i64 (H : Int), .int .i64 (W : Int), .slice (some ⟨g, 0, none⟩) l.length l.length] ∧ Blk wr g 23 (maskN (transF l W H) (.float .f32 0) l.length (transD H y x)) ∧ Below w.heap.size w wr) (fun i _ => W - (intOf i).toNat)
      case atStart => exact ⟨0, by omega, rfl, HX0.out, HX1.out, HF.out, HG.out, HB.out⟩
      case round =>
        clear q0 q1 q2 q3 k0_0 k0_1 k0_2 k0_3
        clear HX0 HX1 HG HF HB
        obtain ⟨x, hxW, rfl, hx0, hx1, hf, hgm, hbel⟩ := hrel
        obtain ⟨wo, rfl⟩ : ∃ wo : World, wo = wr := ⟨_, rfl⟩
        have HX0 := Lib.hid hx0
        have HX1 := Lib.hid hx1
        have HF := Lib.hid hf; have HG := Lib.hid hgm; have HB := Lib.hid hbel; clear hf hgm hbel hx0 hx1
        have k0_0 := HX0.out.cell 0; have k0_1 := HX0.out.cell 1; have k0_2 := HX0.out.cell 2; have k0_3 := HX0.out.cell 3
        simp only [List.getElem?_toArray, List.getElem?_cons_zero, List.getElem?_cons_succ] at k0_0 k0_1 k0_2 k0_3
        obtain ⟨q0, q1, q2, q3⟩ := box4 HF.out
        by_cases hxl : x < W
        · have hro := row_le (W := W) hlt
          have hro2 := row_le (W := H) hxl
          obtain ⟨q0_, hq0_⟩ : ∃ q, y * W = q := ⟨_, rfl⟩
          obtain ⟨q, hq⟩ : ∃ q, x * H = q := ⟨_, rfl⟩
          have hql : q + H ≤ l.length := by rw [← hq, HLEN.out, Nat.mul_comm W H]; exact hro2
          have hql0 : q0_ + W ≤ l.length := by rw [← hq0_, HLEN.out]; exact hro
          obtain ⟨k, hk⟩ : ∃ k, q + y = k := ⟨_, rfl⟩
          obtain ⟨s, hs⟩ : ∃ s, q0_ + x = s := ⟨_, rfl⟩
          have hsn : s < l.length := by omega
          have hkn : k < l.length := by omega
          have HSK : RowKit.Hid (y * W + x = s) := Lib.hid (by rw [hq0_]; exact hs)
          have HFK : RowKit.Hid (transF l W H k = .float .f32 (l.getD s 0)) := Lib.hid (by rw [← hk, ← hq, transF_at l W H y x hlt, hq0_, hs])
          have HDS : RowKit.Hid (∀ i, i < l.length → transD H y (x + 1) i = (transD H y x i || decide (i = k))) := Lib.hid (fun i _ => by rw [transD_step H y x i hlt, hq, hk, Bool.or_comm])
          have e0 : IntKind.i64.wrap ((x : Int) * (H : Int)) = (q : Int) := by rw [show (x : Int) * (H : Int) = (q : Int) by rw [← hq]; simp]; exact IntWalk.i64_in _ (by omega)
          have e1 : IntKind.i64.wrap ((q : Int) + (y : Int)) = (k : Int) := by rw [IntWalk.i64_in _ (by omega)]; omega
          have e4 : (0 : Int) ≤ (k : Int) := by omega
          have e5 : (k : Int) < (l.length : Int) := by omega
          clear hq hk hs hro hql hro2 hq0_ hql0
          have hrs := HR.out.below HB.out
          obtain ⟨v, hv⟩ : ∃ v, l.getD s 0 = v := ⟨_, rfl⟩
          have HV := Lib.hid hv
          have HS := Lib.hid (fun w hr => sampled_ok nm W H l.length c l rfl ad (x) (y) s HSK.out (by omega) hl4 hW.2 (by omega) w hr)
          rw [hv] at HS
          have HRS := Lib.hid hrs; clear hrs hv
          have HFA := Lib.hid (show (transF l W H) k = .float .f32 v by rw [← HV.out]; exact HFK.out)
          obtain ⟨vo, hvo⟩ : ∃ vo, (maskN (transF l W H) (.float .f32 0) l.length (transD H y x))[k]? = some vo := ⟨_, by rw [mask_get, if_pos hkn]⟩
          have hgc := (HG.out.cell k).trans hvo
          have HVO := Lib.hid hvo; clear hvo
          have hgf := HG.out.frozen k
          have HSET := Lib.hid (fun w (h : Blk w g 23 (maskN (transF l W H) (.float .f32 0) l.length (transD H y x))) => show Blk (w.setCell ⟨g, k, none⟩ (.float .f32 v)) g 23 (maskN (transF l W H) (.float .f32 0) l.length (transD H y (x + 1))) from by
            have h2 := h.set_ k (.float .f32 v)
            rw [← HFA.out, mask_set (transF l W H) _ _ _ (transD H y (x + 1)) k HDS.out] at h2
            rw [← HFA.out]; exact h2)
          have g0 := HX0.out.lt
          have g1 := HX1.out.lt
          have gf := HF.out.lt; have gg := HG.out.lt
          have n0 : ¬ w.heap.size = g := by omega
          have n1 : ¬ w.heap.size + 1 = g := by omega
          have nf : ¬ b3 = g := by omega
          have hch : Below wo.heap.size wo wo.drew := (Below.refl _ _).drew
          have hsx : SX g wo wo.drew := sx_below hch
          go_upto_region 8 with fail
          go_region_held3 (SX g wo)
            (first | (with_reducible assumption) | exact sx_drew (by assumption) | exact sx_set (by assumption) _ _)
            (first
              | (go_at_call 35; refine (HS.out _ (HRS.out.below (by assumption))).mono ?_; rintro e wn ⟨rfl, hbn⟩; have hch := chainB' (wo := wo) (by assumption) hbn; have hsx := sx_below (g := g) hch; have kg := ((HG.out.below hch).cell k).trans HVO.out; have kf := (HG.out.below hch).frozen k))
          clear kg kf hgc hgf hsx q0 q1 q2 q3 k0_0 k0_1 k0_2 k0_3
          replace HX0 := Lib.hid ((HX0.out.below hch).far (p := ⟨g, k, none⟩) (by simp; omega) (.float .f32 v))
          replace HX1 := Lib.hid ((HX1.out.below hch).far (p := ⟨g, k, none⟩) (by simp; omega) (.float .f32 v))
          replace HF := Lib.hid ((HF.out.below hch).far (p := ⟨g, k, none⟩) (by simp; omega) (.float .f32 v))
          replace HG := Lib.hid (HSET.out _ (HG.out.below hch))
          replace HB := Lib.hid ((HB.out.trans (hch.mono HB.out.size)).setCell (p := ⟨g, k, none⟩) (by simp; omega) (.float .f32 v))
          clear hch hbn
          go_wp2
          go_roundw
          case rel => exact ⟨x + 1, by omega, by go_num, HX0.out, HX1.out, HF.out, HG.out, HB.out⟩
          case measure => simp [intOf]; omega
        · have hxe : x = W := by omega
          replace HG := Lib.hid (show Blk wo g 23 (maskN (transF l W H) (.float .f32 0) l.length (transD H (y + 1) 0)) from by
            have h := HG.out
            rw [hxe, mask_congr (transF l W H) (transF l W H) _ _ _ (transD H (y + 1) 0) (HDN.out y) (fun _ _ _ => rfl)] at h
            exact h)
          go_wp2
          go_roundw
          case rel => exact ⟨y + 1, by omega, by go_num, HX0.out, HX1.out, HF.out, HG.out, HB.out⟩
          case measure => simp [intOf]; omega
    · have hye : y = H := by omega
      replace HG := Lib.hid (show Blk wr g 23 (maskN (transF l W H) (.float .f32 0) l.length (fun _ => true)) from by
        have h := HG.out
        rw [hye, mask_congr (transF l W H) (transF l W H) _ _ _ (fun _ => true) (HDE.out) (fun _ _ _ => rfl)] at h
        exact h)
      have hy := HX1.out
      have z1 := hy.lt
      have f0 := hy.frozen 0; have f1 := hy.frozen 1; have f2 := hy.frozen 2; have f3 := hy.frozen 3
      obtain ⟨d0, d1, d2, d3⟩ := box4 hy
      have hyy := Lib.hid (show Blk ((((wr.setCell ⟨w.heap.size + 1, 0, none⟩ (.string nm)).setCell ⟨w.heap.size + 1, 1, none⟩ (.int .i64 (H : Int))).setCell ⟨w.heap.size + 1, 2, none⟩ (.int .i64 (W : Int))).setCell ⟨w.heap.size + 1, 3, none⟩ (.slice (some ⟨g, 0, none⟩) l.length l.length)) (w.heap.size + 1) 43 #[.string nm, .int .i64 (H : Int), .int .i64 (W : Int), .slice (some ⟨g, 0, none⟩) l.length l.length] from (((hy.set_ 0 _).set_ 1 _).set_ 2 _).set_ 3 _)
      have HGE := Lib.hid ((((HG.out.far (p := ⟨w.heap.size + 1, 0, none⟩) (by simp; omega) (.string nm)).far (p := ⟨w.heap.size + 1, 1, none⟩) (by simp; omega) (.int .i64 (H : Int))).far (p := ⟨w.heap.size + 1, 2, none⟩) (by simp; omega) (.int .i64 (W : Int))).far (p := ⟨w.heap.size + 1, 3, none⟩) (by simp; omega) (.slice (some ⟨g, 0, none⟩) l.length l.length))
      clear hy
      go_wp2
      obtain ⟨r0, r1, r2, r3⟩ := box4 hyy.out
      exact bodyPost_ret (v := .agg #[.string nm, .int .i64 (H : Int), .int .i64 (W : Int), .slice (some ⟨g, 0, none⟩) l.length l.length]) (by simp [results, Tryz.results50, go_sem, r0, r1, r2, r3]) rfl ⟨g, rfl, HGE.out, below_set4 HB.out (by omega) _ _ _ _⟩

end Go.Proofs.YtlicgblagkkcfaaGreatDoor
