/- The reference's first error, permutation, ratio and sample. -/
import Derived.Test.YtkjkjhheckfhbaaGreatDoorU
import Derived.Test.YtkjkjhheckfhbaaGreatDoorPE
import Derived.Test.YtkjkjhheckfhbaaGreatDoorPF
import Derived.Test.YtkjkjhheckfhbaaGreatDoorAp
namespace Go.Proofs.YtkjkjhheckfhbaaGreatDoor
open Go.RowKit
set_option linter.unusedVariables false
theorem firstR_any (A : Option Addr) (c : Nat) (es : List Int) (w : World) (hl : es.length ≤ maxLen) (hr : Rd w A (es.map (.int .i64))) :
    Calls Tryz.prog 99 #[.slice A es.length c] w fun e' w' => e' = .returned (.int .i64 (firstE es)) ∧ w = w' := by
  unfold maxLen at hl
  go_enter Tryz.func99, Tryz.ntmps99
  go_wp2
  go_loop [3] (fun i => ∃ k : Nat, k ≤ es.length ∧ i = .int .i64 k ∧ firstE es = firstE (es.drop k)) (fun i => es.length - (intOf i).toNat)
  case atStart => exact ⟨0, by omega, rfl, rfl⟩
  case round =>
    obtain ⟨k, hk, rfl, hf⟩ := hrel
    have Hf := Lib.hid hf; clear hf
    by_cases hlt : k < es.length
    · obtain ⟨ad, rfl, hb, hc⟩ := hr.get (k := k) (u := .int .i64 es[k]) (by simp [hlt])
      have hfd := firstE_drop es k hlt
      have Hd := Lib.hid hfd; clear hfd
      by_cases hz : es[k] = 0
      · rw [hz] at hc
        have Hz := Lib.hid hz; clear hz
        go_wp2
        go_round
        case rel => exact ⟨k + 1, by omega, by go_num, by rw [Hf.out, Hd.out, if_pos Hz.out]⟩
        case measure => simp [intOf]; omega
      · obtain ⟨v, hv⟩ : ∃ v, v = es[k] := ⟨_, rfl⟩
        rw [← hv] at hc hz
        have Hv := Lib.hid hv; clear hv
        have hz' : (v != 0) = true := by simpa using hz
        go_wp2
        go_ret
        exact ⟨ret_int (by rw [Hf.out, Hd.out, if_neg (fun h => hz (Hv.out.trans h))]; exact Hv.out), rfl⟩
    · have : k = es.length := by omega
      subst this
      go_wp2
      go_ret
      exact ⟨by rw [Hf.out]; simp [firstE], rfl⟩
theorem firstR_n (A : Option Addr) (c n : Nat) (es : List Int) (w : World) (hn : es.length = n) (hl : n ≤ maxLen) (hr : Rd w A (es.map (.int .i64))) :
    Calls Tryz.prog 99 #[.slice A n c] w fun e' w' => e' = .returned (.int .i64 (firstE es)) ∧ w = w' := by
  subst hn; exact firstR_any A c es w hl hr
theorem firstL_n (A : Option Addr) (c n : Nat) (es : List Int) (w : World) (hn : es.length = n) (hl : n ≤ maxLen) (hr : Rd w A (es.map (.int .i64))) :
    Calls Tryz.prog 18 #[.slice A n c] w fun e' w' => e' = .returned (.int .i64 (firstE es)) ∧ w = w' := by
  go_enter Tryz.func18, Tryz.ntmps18
  go_wp2_with fail
  refine (firstR_n A c n es _ hn hl hr).mono ?_
  rintro e w' ⟨rfl, rfl⟩
  go_wp2
  go_ret
  exact ⟨rfl, rfl⟩
theorem checkSampleR_any (b : Nat) (w : World) : Calls Tryz.prog 27 #[.float .f32 b] w fun e w' => e = .returned (.int .i64 (chk 1024 b)) ∧ Below w.heap.size w w' := by
  go_enter Tryz.func27, Tryz.ntmps27
  go_wp2_with fail
  refine (checkPart_any b 1024 (by decide) _).mono ?_
  rintro e w' ⟨rfl, hb⟩
  go_wp2
  go_ret
  exact ⟨rfl, hb⟩
def ratioE (a b : Int) : Int := firstE [outs a (-999999999) 999999999, outs b 1 999999999, errIf (decide (1 < wrap64 (Int.gcd a b))) 1]
theorem ratioE_bad {a b : Int} (h : firstE [outs a (-999999999) 999999999, outs b 1 999999999] ≠ 0) : ratioE a b = firstE [outs a (-999999999) 999999999, outs b 1 999999999] := by
  unfold ratioE
  simp only [firstE] at h ⊢
  by_cases h1 : outs a (-999999999) 999999999 = 0
  · rw [if_pos h1] at h ⊢
    rw [if_pos h1]
    by_cases h2 : outs b 1 999999999 = 0
    · rw [if_pos h2] at h; exact absurd rfl h
    · rw [if_neg h2, if_neg h2]
  · rw [if_neg h1, if_neg h1]
theorem ratioE_good {a b : Int} (h : firstE [outs a (-999999999) 999999999, outs b 1 999999999] = 0) : ratioE a b = errIf (wrap64 (Int.gcd a b) != 1) 1 := by
  have h0 := firstE_zero h
  have h1 := h0 (outs a (-999999999) 999999999) (by simp)
  have h2 := h0 (outs b 1 999999999) (by simp)
  obtain ⟨b1, b2⟩ := outs_zero h2
  have hg : 1 ≤ Int.gcd a b ∧ Int.gcd a b ≤ 999999999 := by
    have hp : 0 < Int.gcd a b := Int.gcd_pos_of_ne_zero_right a (by omega)
    have hd : Int.gcd a b ∣ b.natAbs := Int.gcd_dvd_natAbs_right a b
    have := Nat.le_of_dvd (by omega) hd
    omega
  have hw : wrap64 (Int.gcd a b) = (Int.gcd a b : Int) := by unfold wrap64; omega
  unfold ratioE
  simp only [firstE, h1, h2, if_true]
  rw [hw]
  by_cases hc : Int.gcd a b = 1
  · rw [hc]; rfl
  · have e1 : decide ((1 : Int) < (Int.gcd a b : Int)) = true := by simp; omega
    have e2 : ((Int.gcd a b : Int) != 1) = true := by simp; omega
    rw [e1, e2]; rfl
theorem checkRatioR_any (a b : Int) (ha : -9223372036854775808 ≤ a ∧ a ≤ 9223372036854775807) (hb : -9223372036854775808 ≤ b ∧ b ≤ 9223372036854775807) (w : World) :
    Calls Tryz.prog 25 #[.agg #[.int .i64 a, .int .i64 b]] w fun e w' => e = .returned (.int .i64 (ratioE a b)) ∧ Below w.heap.size w w' := by
  go_enter Tryz.func25, Tryz.ntmps25
  go_wp2_with fail
  have hbx := Blk.new w 33 #[.int .i64 a, .int .i64 b]
  have hb0 : Below w.heap.size w (w.alloc (.cells #[.int .i64 a, .int .i64 b] 33)) := (Below.refl _ _).alloc (Nat.le_refl _) _
  generalize w.alloc (.cells #[.int .i64 a, .int .i64 b] 33) = w0 at hbx hb0 ⊢
  have c0 : w0.cell? ⟨w.heap.size, 0, none⟩ = some (.int .i64 a) := hbx.cell 0
  have c1 : w0.cell? ⟨w.heap.size, 1, none⟩ = some (.int .i64 b) := hbx.cell 1
  have hz := hbx.lt
  have HB0 := Lib.hid hb0; have HX := Lib.hid hbx; clear hb0 hbx
  go_region_held3 (SK w0)
    (first | exact sk_drew0 _ | assumption | exact sk_call (by assumption) (by assumption) | exact sk_alloc (by assumption) _)
    (first
      | (go_at_call 19; refine (checkRange_any _ _ _ _).mono ?_; rintro e wn ⟨rfl, rfl⟩)
      | (go_at_call 99; refine (firstR_n _ _ _ [_, _] _ rfl (by simp [maxLen]) (by exact rd_of_blk (Blk.new _ _ _) rfl)).mono ?_; rintro e wn ⟨rfl, rfl⟩))
  have hch := sk_drew (sk_alloc (sk_refl w0) (.cells #[.int .i64 (outs a (-999999999) 999999999), .int .i64 (outs b 1 999999999)] 3))
  generalize (w0.alloc (.cells #[.int .i64 (outs a (-999999999) 999999999), .int .i64 (outs b 1 999999999)] 3)).drew = w1 at hch ⊢
  have hx := HX.out.below hch.1
  have c0' : w1.cell? ⟨w.heap.size, 0, none⟩ = some (.int .i64 a) := hx.cell 0
  have c1' : w1.cell? ⟨w.heap.size, 1, none⟩ = some (.int .i64 b) := hx.cell 1
  have HB1 := Lib.hid (HB0.out.trans (hch.1.mono HB0.out.size))
  clear c0 c1 hch hx HX HB0 hz
  by_cases hf : firstE [outs a (-999999999) 999999999, outs b 1 999999999] = 0
  · have HG := Lib.hid (ratioE_good hf)
    rw [hf]; clear hf
    go_wp2_with fail
    refine (divisorR_any _ _ ha hb _).mono ?_
    rintro e w2 ⟨rfl, hb2⟩
    have HB2 := Lib.hid (HB1.out.trans (hb2.mono HB1.out.size))
    clear hb2
    go_wp2_with fail
    refine (when_any _ _ _).mono ?_
    rintro e w3 ⟨rfl, rfl⟩
    go_wp2
    go_ret
    exact ⟨ret_int HG.out.symm, HB2.out⟩
  · have hf2 := ratioE_bad hf
    obtain ⟨z, hz⟩ : ∃ z, firstE [outs a (-999999999) 999999999, outs b 1 999999999] = z := ⟨_, rfl⟩
    rw [hz] at hf hf2 ⊢
    have HZ := Lib.hid hf2
    have hz' : (z != 0) = true := by simpa using hf
    clear hf2 hz
    go_wp2
    go_ret
    exact ⟨ret_int HZ.out.symm, HB1.out⟩

def IC (cs : Array Value) (l : List Int) (n : Nat) : Prop := l.length = n ∧ ∀ j, j < n → cs[j]? = some (.int .i64 (l.getD j 0))
theorem IC.set {cs : Array Value} {l : List Int} {n : Nat} (h : IC cs l n) (i : Nat) (v : Int) : IC (cs.setIfInBounds i (.int .i64 v)) (l.set i v) n := by
  refine ⟨by rw [List.length_set]; exact h.1, fun j hj => ?_⟩
  have hj2 := h.2 j hj
  have hcs : j < cs.size := (Array.getElem?_eq_some_iff.1 hj2).1
  rw [Array.getElem?_setIfInBounds]
  by_cases e : i = j
  · subst e
    rw [if_pos rfl, if_pos hcs]
    simp [List.getD, h.1, hj]
  · rw [if_neg e, hj2]
    simp [List.getD, e]
theorem rd_own {w : World} {B : Nat} {e : TypeId} {size : Nat} {A : Option Addr} {n c : Nat} {xs : List Value} (h : w.ownsRow B e size (.slice A n c) n xs) : Rd w A xs := fun h0 => by
  rcases h.2 with ⟨hv, hn⟩ | ⟨g, cap, cur, hv, hb, hg, _⟩
  · have := h.1; rw [hn] at this; omega
  · cases hv
    have hlt := (h.lt g rfl).2
    refine ⟨_, rfl, hlt, fun j u hj => ?_⟩
    exact h.cells (g := g) rfl j u hj
theorem own_cells {w : World} {B : Nat} {A : Option Addr} {n c : Nat} {l : List Int} (h : w.ownsRow B 3 1 (.slice A n c) n (l.map (.int .i64))) (hn : 0 < n) : ∃ g cs, n ≤ c ∧ A = some ⟨g, 0, none⟩ ∧ Blk w g 3 cs ∧ IC cs l n := by
  rcases h.2 with ⟨_, h0⟩ | ⟨g, cap, cur, hv, _, hg, hc, _, hcur, ht⟩
  · omega
  · cases hv
    have hl : l.length = n := by have := h.1; simpa using this
    refine ⟨g, cur, hc, rfl, hg, hl, fun j hj => ?_⟩
    have h1 : (cur.toList.take (n * 1))[j]? = some (.int .i64 (l.getD j 0)) := by
      rw [ht]; simp [List.getD, hl, hj]
    rw [List.getElem?_take, if_pos (by omega)] at h1
    simpa using h1
theorem rd_ic {w : World} {g n : Nat} {cs : Array Value} {l : List Int} (hb : Blk w g 3 cs) (h : IC cs l n) : Rd w (some ⟨g, 0, none⟩) (l.map (Value.int .i64)) := fun _ =>
  ⟨_, rfl, hb.lt, fun j u hj => by
    have hjl : j < l.length := by have := (List.getElem?_eq_some_iff.1 hj).1; simpa using this
    rw [add_blk, hb.cell j, h.2 j (by rw [← h.1]; exact hjl)]
    simp [hjl] at hj
    subst hj
    simp [List.getD, hjl]⟩
theorem upI_snoc (k : Nat) : upI (k + 1) = upI k ++ [(k : Int)] := by simp [upI, List.range_succ]
theorem swap_same (l : List Int) : swapI l 0 0 = l := by cases l <;> simp [swapI]
set_option maxRecDepth 100000 in
theorem drawR_ok (key : Int) (n : Nat) (hk : 1 ≤ key ∧ key ≤ 2147483646) (hn : n ≤ 256) (w : World) :
    Calls Tryz.prog 20 #[.int .i64 key, .int .i64 (n : Int)] w fun e w' => ∃ A c, e = .returned (.slice A n c) ∧ Rd w' A ((drawL key n).map (Value.int .i64)) ∧ Below w.heap.size w w' := by
  obtain ⟨i0, hi, hz0, hz1, hz2⟩ := info_parts info_int_
  go_enter Tryz.func20, Tryz.ntmps20
  go_wp2
  go_loopw [5, 6] (fun sv iv wr => ∃ k : Nat, k ≤ n ∧ iv = .int .i64 k ∧ wr.ownsRow w.heap.size 3 1 sv k ((upI k).map (.int .i64)) ∧ Below w.heap.size w wr) (fun _ i _ => n - (intOf i).toNat)
  case atStart => exact ⟨0, by omega, rfl, World.ownsRow_nil _ _ _ _, Below.refl _ _⟩
  case round =>
    obtain ⟨k, hkn, rfl, hown, hbel⟩ := hrel
    by_cases hlt : k < n
    · have HNB := Lib.hid (heap_alloc_new wr (.cells #[.int .i64 k] 3))
      have HO := Lib.hid hown; have HBel := Lib.hid hbel
      have hsz := hbel.size
      clear hown hbel
      go_wp2_with (at_builtin; go_must (refine wpList_append_own_at _ (by rfl) (.tmp 15) (.tmp 17) 25 (by rfl) w.heap.size 3 i0 (.int .i64 0) 1 8 Tryz.underlying25 hi hz0 hz1 hz2 (by rfl) (by decide) _ k ((upI k).map (.int .i64)) (by rfl) (HO.out.alloc _) ⟨wr.heap.size, 0, none⟩ 1 1 [.int .i64 k] rfl rfl (World.news_of_block HNB.out) (by simp [Value.oneCell']) (by unfold maxLen; omega) (by omega) (by simp; omega) ?_); intro v' w4 hown1 hgrow hnil hat1)
      go_roundw
      case rel =>
        refine ⟨k + 1, by omega, by go_num, by rw [upI_snoc, List.map_append]; exact hown1, ?_⟩
        exact (HBel.out.alloc HBel.out.size (.cells #[.int .i64 k] 3)).grown hgrow (by simp; omega) (fun r hr => (owns_block (HO.out.alloc (.cells #[.int .i64 k] 3)) r hr).1)
      case measure => simp [intOf]; omega
    · have : k = n := by omega
      subst this
      obtain ⟨A, c, rfl⟩ := own_shape hown
      have hrd0 := rd_own hown
      have HBel := Lib.hid hbel
      by_cases hk0 : k = 0
      · subst hk0
        clear hown hbel
        go_wp2
        go_loopw [7, 8] (fun xv iv wr2 => ∃ x : Int, xv = .int .i64 x ∧ iv = .int .i64 (-1) ∧ wr2 = wr) (fun _ _ _ => 0)
        case atStart => exact ⟨key, rfl, rfl, rfl⟩
        case round =>
          obtain ⟨x, rfl, rfl, rfl⟩ := hrel
          go_wp2
          go_ret
          exact ⟨A, c, rfl, fun h => by simp [drawL, drawGo_length, upI] at h, HBel.out⟩
      · obtain ⟨g, cs, hcap, rfl, hb, hic⟩ := own_cells hown (by omega)
        have hg := (owns_block hown g rfl).1
        clear hown hbel hrd0
        have HX := Lib.hid hb; have HIC := Lib.hid hic; clear hb hic
        go_wp2
        go_loopw [7, 8] (fun xv iv wr => ∃ (i x : Int) (l : List Int) (cs : Array Value), xv = .int .i64 x ∧ iv = .int .i64 i ∧ (0 ≤ x ∧ x ≤ 2147483646) ∧ (-1 ≤ i ∧ i < k) ∧ (0 ≤ i → drawGo i.toNat x l = drawL key k) ∧ (i < 0 → l = drawL key k) ∧ Blk wr g 3 cs ∧ IC cs l k ∧ Below w.heap.size w wr) (fun _ iv _ => (intOf iv + 1).toNat)
        case atStart => exact ⟨(k : Int) - 1, key, upI k, cs, rfl, rfl, by omega, by omega, fun _ => by unfold drawL; congr 1; omega, fun h => by omega, HX.out, HIC.out, HBel.out⟩
        case round =>
          obtain ⟨i, x, l, cs, rfl, rfl, hx, hi2, hgo, hend, hb, hic, hbel⟩ := hrel
          have HGO := Lib.hid hgo; have HEND := Lib.hid hend; have HIC := Lib.hid hic; clear hgo hend hic
          by_cases h1 : 0 ≤ i
          · obtain ⟨M, rfl⟩ : ∃ M : Nat, i = (M : Int) := ⟨i.toNat, by omega⟩
            obtain ⟨y, hy⟩ : ∃ y, 1226874159 * x % 2147483647 = y := ⟨_, rfl⟩
            have hyb : 0 ≤ y ∧ y ≤ 2147483646 := by omega
            obtain ⟨j, hj⟩ : ∃ j : Nat, y % ((M : Int) + 1) = (j : Int) := ⟨(y % ((M : Int) + 1)).toNat, by have := Int.emod_nonneg y (b := (M : Int) + 1) (by omega); omega⟩
            have hjb : j < M + 1 := by have := Int.emod_lt_of_pos y (b := (M : Int) + 1) (by omega); omega
            have HSW : RowKit.Hid ((0 ≤ (M : Int) - 1 → drawGo ((M : Int) - 1).toNat y (swapI l M j) = drawL key k) ∧ ((M : Int) - 1 < 0 → swapI l M j = drawL key k)) := Lib.hid ⟨fun h => by
                rw [← HGO.out (by omega), Int.toNat_natCast, drawGo_pos M x l (by omega)]
                unfold drawX
                rw [hy, hj, Int.toNat_natCast]
                congr 1; omega, fun h => by
                have hM0 : M = 0 := by omega
                have hj0 : j = 0 := by omega
                subst hM0; subst hj0
                rw [swap_same, ← HGO.out (by omega)]; rfl⟩
            have fM := hb.frozen M
            have fj := hb.frozen j
            have HBel := Lib.hid hbel
            have hkk : (M : Int) < (k : Int) := by omega
            have hjk : (j : Int) < (k : Int) := by omega
            have cM := (hb.cell M).trans (HIC.out.2 M (by omega))
            have HJ := Lib.hid hj; have HY := Lib.hid hy
            clear hbel
            by_cases hjm : j = M
            · subst hjm
              have HSW2 := Lib.hid ((hb.set_ j (.int .i64 (l.getD j 0))).set_ j (.int .i64 (l.getD j 0)))
              have HIC2 := Lib.hid ((HIC.out.set j (l.getD j 0)).set j (l.getD j 0))
              have HSI : RowKit.Hid (swapI l j j = (l.set j (l.getD j 0)).set j (l.getD j 0)) := Lib.hid rfl
              clear hb
              generalize l.getD j 0 = a at cM HSW2 HIC2 HSI
              go_wp2
              go_region
              go_wp2
              go_roundw
              case rel => exact ⟨_, y, _, _, by rw [HY.out], rfl, by omega, by omega, fun h => by rw [← HSI.out]; exact HSW.out.1 h, fun h => by rw [← HSI.out]; exact HSW.out.2 h, HSW2.out, HIC2.out, ((HBel.out.setCell (p := ⟨g, _, none⟩) hg _).setCell (p := ⟨g, _, none⟩) hg _).drew⟩
              case measure => simp [intOf] <;> omega
            · have cj := (hb.cell j).trans (HIC.out.2 j (by omega))
              have HSW2 := Lib.hid ((hb.set_ M (.int .i64 (l.getD j 0))).set_ j (.int .i64 (l.getD M 0)))
              have HIC2 := Lib.hid ((HIC.out.set M (l.getD j 0)).set j (l.getD M 0))
              have HSI : RowKit.Hid (swapI l M j = (l.set M (l.getD j 0)).set j (l.getD M 0)) := Lib.hid rfl
              clear hb
              generalize l.getD M 0 = a at cM HSW2 HIC2 HSI
              generalize l.getD j 0 = b at cj HSW2 HIC2 HSI
              have hjm' : ¬ M = j := fun h => hjm h.symm
              go_wp2
              go_region
              go_wp2
              go_roundw
              case rel => exact ⟨_, y, _, _, by rw [HY.out], rfl, by omega, by omega, fun h => by rw [← HSI.out]; exact HSW.out.1 h, fun h => by rw [← HSI.out]; exact HSW.out.2 h, HSW2.out, HIC2.out, ((HBel.out.setCell (p := ⟨g, _, none⟩) hg _).setCell (p := ⟨g, _, none⟩) hg _).drew⟩
              case measure => simp [intOf] <;> omega
          · have HB3 := Lib.hid hb; have HBel := Lib.hid hbel
            have HE : RowKit.Hid (l = drawL key k) := Lib.hid (HEND.out (by omega))
            clear hb hbel
            go_wp2
            go_ret
            exact ⟨_, ⟨_, rfl⟩, by rw [← HE.out]; exact rd_ic HB3.out HIC.out, HBel.out⟩

end Go.Proofs.YtkjkjhheckfhbaaGreatDoor
