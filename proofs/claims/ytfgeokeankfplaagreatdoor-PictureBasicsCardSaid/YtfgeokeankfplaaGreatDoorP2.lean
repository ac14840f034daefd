/- Parts of a proof: The reference's first error, permutation, ratio and sample. A picture with samples of its own, by the reference. A picture of one's own, told, and compared. The law's comparison of a picture and an error. The reference's check of a picture. Whether a picture is short. The reference's blank picture, and its sample at a place. Flipped and transposed, by the reference. The errors of the sample at a place, and of a part. -/
import Derived.Test.YtfgeokeankfplaaGreatDoorU
import Derived.Test.YtfgeokeankfplaaGreatDoorT
import Derived.Test.YtfgeokeankfplaaGreatDoorAe
import Derived.Test.YtfgeokeankfplaaGreatDoorAp
import Derived.Test.YtfgeokeankfplaaGreatDoorW
import Derived.Test.YtfgeokeankfplaaGreatDoorQ
import Derived.Deep.Upon
import Derived.Laws.StructEq
import Derived.Test.YtfgeokeankfplaaGreatDoorN
import Derived.Test.YtfgeokeankfplaaGreatDoorX
namespace Go.Proofs.YtfgeokeankfplaaGreatDoor
open Go.RowKit
set_option linter.unusedVariables false
theorem firstR_any (A : Option Addr) (c : Nat) (es : List Int) (w : World) (hl : es.length ≤ maxLen) (hr : Rd w A (es.map (.int .i64))) :
    Calls Tryz.prog 99 #[.slice A es.length c] w fun e' w' => e' = .returned (.int .i64 (firstE es)) ∧ w = w' := by
  unfold maxLen at hl
  go_enter Tryz.func99, Tryz.ntmps99
  go_wp2
  go_loop [3] (fun i => ∃ k : Nat, k ≤ es.length ∧ i = .int .i64 k ∧ firstE es = firstE (es.drop k)) (fun i => es.length - (intOf i).toNat)
  case atStart => exact ⟨0, by omega, rfl, rfl⟩
  case round =>
    obtain ⟨k, hk, rfl, hf⟩ := hrel
    have Hf := Lib.hid hf; clear hf
    by_cases hlt : k < es.length
    · obtain ⟨ad, rfl, hb, hc⟩ := hr.get (k := k) (u := .int .i64 es[k]) (by simp [hlt])
      have hfd := firstE_drop es k hlt
      have Hd := Lib.hid hfd; clear hfd
      by_cases hz : es[k] = 0
      · rw [hz] at hc
        have Hz := Lib.hid hz; clear hz
        go_wp2
        go_round
        case rel => exact ⟨k + 1, by omega, by go_num, by rw [Hf.out, Hd.out, if_pos Hz.out]⟩
        case measure => simp [intOf]; omega
      · obtain ⟨v, hv⟩ : ∃ v, v = es[k] := ⟨_, rfl⟩
        rw [← hv] at hc hz
        have Hv := Lib.hid hv; clear hv
        have hz' : (v != 0) = true := by simpa using hz
        go_wp2
        go_ret
        exact ⟨ret_int (by rw [Hf.out, Hd.out, if_neg (fun h => hz (Hv.out.trans h))]; exact Hv.out), rfl⟩
    · have : k = es.length := by omega
      subst this
      go_wp2
      go_ret
      exact ⟨by rw [Hf.out]; simp [firstE], rfl⟩
theorem firstR_n (A : Option Addr) (c n : Nat) (es : List Int) (w : World) (hn : es.length = n) (hl : n ≤ maxLen) (hr : Rd w A (es.map (.int .i64))) :
    Calls Tryz.prog 99 #[.slice A n c] w fun e' w' => e' = .returned (.int .i64 (firstE es)) ∧ w = w' := by
  subst hn; exact firstR_any A c es w hl hr
theorem firstL_n (A : Option Addr) (c n : Nat) (es : List Int) (w : World) (hn : es.length = n) (hl : n ≤ maxLen) (hr : Rd w A (es.map (.int .i64))) :
    Calls Tryz.prog 18 #[.slice A n c] w fun e' w' => e' = .returned (.int .i64 (firstE es)) ∧ w = w' := by
  go_enter Tryz.func18, Tryz.ntmps18
  go_wp2_with fail
  refine (firstR_n A c n es _ hn hl hr).mono ?_
  rintro e w' ⟨rfl, rfl⟩
  go_wp2
  go_ret
  exact ⟨rfl, rfl⟩
theorem checkSampleR_any (b : Nat) (w : World) : Calls Tryz.prog 27 #[.float .f32 b] w fun e w' => e = .returned (.int .i64 (chk 1024 b)) ∧ Below w.heap.size w w' := by
  go_enter Tryz.func27, Tryz.ntmps27
  go_wp2_with fail
  refine (checkPart_any b 1024 (by decide) _).mono ?_
  rintro e w' ⟨rfl, hb⟩
  go_wp2
  go_ret
  exact ⟨rfl, hb⟩
def ratioE (a b : Int) : Int := firstE [outs a (-999999999) 999999999, outs b 1 999999999, errIf (decide (1 < wrap64 (Int.gcd a b))) 1]
theorem ratioE_bad {a b : Int} (h : firstE [outs a (-999999999) 999999999, outs b 1 999999999] ≠ 0) : ratioE a b = firstE [outs a (-999999999) 999999999, outs b 1 999999999] := by
  unfold ratioE
  simp only [firstE] at h ⊢
  by_cases h1 : outs a (-999999999) 999999999 = 0
  · rw [if_pos h1] at h ⊢
    rw [if_pos h1]
    by_cases h2 : outs b 1 999999999 = 0
    · rw [if_pos h2] at h; exact absurd rfl h
    · rw [if_neg h2, if_neg h2]
  · rw [if_neg h1, if_neg h1]
theorem ratioE_good {a b : Int} (h : firstE [outs a (-999999999) 999999999, outs b 1 999999999] = 0) : ratioE a b = errIf (wrap64 (Int.gcd a b) != 1) 1 := by
  have h0 := firstE_zero h
  have h1 := h0 (outs a (-999999999) 999999999) (by simp)
  have h2 := h0 (outs b 1 999999999) (by simp)
  obtain ⟨b1, b2⟩ := outs_zero h2
  have hg : 1 ≤ Int.gcd a b ∧ Int.gcd a b ≤ 999999999 := by
    have hp : 0 < Int.gcd a b := Int.gcd_pos_of_ne_zero_right a (by omega)
    have hd : Int.gcd a b ∣ b.natAbs := Int.gcd_dvd_natAbs_right a b
    have := Nat.le_of_dvd (by omega) hd
    omega
  have hw : wrap64 (Int.gcd a b) = (Int.gcd a b : Int) := by unfold wrap64; omega
  unfold ratioE
  simp only [firstE, h1, h2, if_true]
  rw [hw]
  by_cases hc : Int.gcd a b = 1
  · rw [hc]; rfl
  · have e1 : decide ((1 : Int) < (Int.gcd a b : Int)) = true := by simp; omega
    have e2 : ((Int.gcd a b : Int) != 1) = true := by simp; omega
    rw [e1, e2]; rfl
theorem checkRatioR_any (a b : Int) (ha : -9223372036854775808 ≤ a ∧ a ≤ 9223372036854775807) (hb : -9223372036854775808 ≤ b ∧ b ≤ 9223372036854775807) (w : World) :
    Calls Tryz.prog 25 #[.agg #[.int .i64 a, .int .i64 b]] w fun e w' => e = .returned (.int .i64 (ratioE a b)) ∧ Below w.heap.size w w' := by
  go_enter Tryz.func25, Tryz.ntmps25
  go_wp2_with fail
  have hbx := Blk.new w 33 #[.int .i64 a, .int .i64 b]
  have hb0 : Below w.heap.size w (w.alloc (.cells #[.int .i64 a, .int .i64 b] 33)) := (Below.refl _ _).alloc (Nat.le_refl _) _
  generalize w.alloc (.cells #[.int .i64 a, .int .i64 b] 33) = w0 at hbx hb0 ⊢
  have c0 : w0.cell? ⟨w.heap.size, 0, none⟩ = some (.int .i64 a) := hbx.cell 0
  have c1 : w0.cell? ⟨w.heap.size, 1, none⟩ = some (.int .i64 b) := hbx.cell 1
  have hz := hbx.lt
  have HB0 := Lib.hid hb0; have HX := Lib.hid hbx; clear hb0 hbx
  go_region_held3 (SK w0)
    (first | exact sk_drew0 _ | assumption | exact sk_call (by assumption) (by assumption) | exact sk_alloc (by assumption) _)
    (first
      | (go_at_call 19; refine (checkRange_any _ _ _ _).mono ?_; rintro e wn ⟨rfl, rfl⟩)
      | (go_at_call 99; refine (firstR_n _ _ _ [_, _] _ rfl (by simp [maxLen]) (by exact rd_of_blk (Blk.new _ _ _) rfl)).mono ?_; rintro e wn ⟨rfl, rfl⟩))
  have hch := sk_drew (sk_alloc (sk_refl w0) (.cells #[.int .i64 (outs a (-999999999) 999999999), .int .i64 (outs b 1 999999999)] 3))
  generalize (w0.alloc (.cells #[.int .i64 (outs a (-999999999) 999999999), .int .i64 (outs b 1 999999999)] 3)).drew = w1 at hch ⊢
  have hx := HX.out.below hch.1
  have c0' : w1.cell? ⟨w.heap.size, 0, none⟩ = some (.int .i64 a) := hx.cell 0
  have c1' : w1.cell? ⟨w.heap.size, 1, none⟩ = some (.int .i64 b) := hx.cell 1
  have HB1 := Lib.hid (HB0.out.trans (hch.1.mono HB0.out.size))
  clear c0 c1 hch hx HX HB0 hz
  by_cases hf : firstE [outs a (-999999999) 999999999, outs b 1 999999999] = 0
  · have HG := Lib.hid (ratioE_good hf)
    rw [hf]; clear hf
    go_wp2_with fail
    refine (divisorR_any _ _ ha hb _).mono ?_
    rintro e w2 ⟨rfl, hb2⟩
    have HB2 := Lib.hid (HB1.out.trans (hb2.mono HB1.out.size))
    clear hb2
    go_wp2_with fail
    refine (when_any _ _ _).mono ?_
    rintro e w3 ⟨rfl, rfl⟩
    go_wp2
    go_ret
    exact ⟨ret_int HG.out.symm, HB2.out⟩
  · have hf2 := ratioE_bad hf
    obtain ⟨z, hz⟩ : ∃ z, firstE [outs a (-999999999) 999999999, outs b 1 999999999] = z := ⟨_, rfl⟩
    rw [hz] at hf hf2 ⊢
    have HZ := Lib.hid hf2
    have hz' : (z != 0) = true := by simpa using hf
    clear hf2 hz
    go_wp2
    go_ret
    exact ⟨ret_int HZ.out.symm, HB1.out⟩

def IC (cs : Array Value) (l : List Int) (n : Nat) : Prop := l.length = n ∧ ∀ j, j < n → cs[j]? = some (.int .i64 (l.getD j 0))
theorem IC.set {cs : Array Value} {l : List Int} {n : Nat} (h : IC cs l n) (i : Nat) (v : Int) : IC (cs.setIfInBounds i (.int .i64 v)) (l.set i v) n := by
  refine ⟨by rw [List.length_set]; exact h.1, fun j hj => ?_⟩
  have hj2 := h.2 j hj
  have hcs : j < cs.size := (Array.getElem?_eq_some_iff.1 hj2).1
  rw [Array.getElem?_setIfInBounds]
  by_cases e : i = j
  · subst e
    rw [if_pos rfl, if_pos hcs]
    simp [List.getD, h.1, hj]
  · rw [if_neg e, hj2]
    simp [List.getD, e]
theorem rd_own {w : World} {B : Nat} {e : TypeId} {size : Nat} {A : Option Addr} {n c : Nat} {xs : List Value} (h : w.ownsRow B e size (.slice A n c) n xs) : Rd w A xs := fun h0 => by
  rcases h.2 with ⟨hv, hn⟩ | ⟨g, cap, cur, hv, hb, hg, _⟩
  · have := h.1; rw [hn] at this; omega
  · cases hv
    have hlt := (h.lt g rfl).2
    refine ⟨_, rfl, hlt, fun j u hj => ?_⟩
    exact h.cells (g := g) rfl j u hj
theorem own_cells {w : World} {B : Nat} {A : Option Addr} {n c : Nat} {l : List Int} (h : w.ownsRow B 3 1 (.slice A n c) n (l.map (.int .i64))) (hn : 0 < n) : ∃ g cs, n ≤ c ∧ A = some ⟨g, 0, none⟩ ∧ Blk w g 3 cs ∧ IC cs l n := by
  rcases h.2 with ⟨_, h0⟩ | ⟨g, cap, cur, hv, _, hg, hc, _, hcur, ht⟩
  · omega
  · cases hv
    have hl : l.length = n := by have := h.1; simpa using this
    refine ⟨g, cur, hc, rfl, hg, hl, fun j hj => ?_⟩
    have h1 : (cur.toList.take (n * 1))[j]? = some (.int .i64 (l.getD j 0)) := by
      rw [ht]; simp [List.getD, hl, hj]
    rw [List.getElem?_take, if_pos (by omega)] at h1
    simpa using h1
theorem rd_ic {w : World} {g n : Nat} {cs : Array Value} {l : List Int} (hb : Blk w g 3 cs) (h : IC cs l n) : Rd w (some ⟨g, 0, none⟩) (l.map (Value.int .i64)) := fun _ =>
  ⟨_, rfl, hb.lt, fun j u hj => by
    have hjl : j < l.length := by have := (List.getElem?_eq_some_iff.1 hj).1; simpa using this
    rw [add_blk, hb.cell j, h.2 j (by rw [← h.1]; exact hjl)]
    simp [hjl] at hj
    subst hj
    simp [List.getD, hjl]⟩
theorem upI_snoc (k : Nat) : upI (k + 1) = upI k ++ [(k : Int)] := by simp [upI, List.range_succ]
theorem swap_same (l : List Int) : swapI l 0 0 = l := by cases l <;> simp [swapI]
set_option maxRecDepth 100000 in
theorem drawR_ok (key : Int) (n : Nat) (hk : 1 ≤ key ∧ key ≤ 2147483646) (hn : n ≤ 256) (w : World) :
    Calls Tryz.prog 20 #[.int .i64 key, .int .i64 (n : Int)] w fun e w' => ∃ A c, e = .returned (.slice A n c) ∧ Rd w' A ((drawL key n).map (Value.int .i64)) ∧ Below w.heap.size w w' := by
  obtain ⟨i0, hi, hz0, hz1, hz2⟩ := info_parts info_int_
  go_enter Tryz.func20, Tryz.ntmps20
  go_wp2
  go_loopw [5, 6] (fun sv iv wr => ∃ k : Nat, k ≤ n ∧ iv = .int .i64 k ∧ wr.ownsRow w.heap.size 3 1 sv k ((upI k).map (.int .i64)) ∧ Below w.heap.size w wr) (fun _ i _ => n - (intOf i).toNat)
  case atStart => exact ⟨0, by omega, rfl, World.ownsRow_nil _ _ _ _, Below.refl _ _⟩
  case round =>
    obtain ⟨k, hkn, rfl, hown, hbel⟩ := hrel
    by_cases hlt : k < n
    · have HNB := Lib.hid (heap_alloc_new wr (.cells #[.int .i64 k] 3))
      have HO := Lib.hid hown; have HBel := Lib.hid hbel
      have hsz := hbel.size
      clear hown hbel
      go_wp2_with (at_builtin; go_must (refine wpList_append_own_at _ (by rfl) (.tmp 15) (.tmp 17) 25 (by rfl) w.heap.size 3 i0 (.int .i64 0) 1 8 Tryz.underlying25 hi hz0 hz1 hz2 (by rfl) (by decide) _ k ((upI k).map (.int .i64)) (by rfl) (HO.out.alloc _) ⟨wr.heap.size, 0, none⟩ 1 1 [.int .i64 k] rfl rfl (World.news_of_block HNB.out) (by simp [Value.oneCell']) (by unfold maxLen; omega) (by omega) (by simp; omega) ?_); intro v' w4 hown1 hgrow hnil hat1)
      go_roundw
      case rel =>
        refine ⟨k + 1, by omega, by go_num, by rw [upI_snoc, List.map_append]; exact hown1, ?_⟩
        exact (HBel.out.alloc HBel.out.size (.cells #[.int .i64 k] 3)).grown hgrow (by simp; omega) (fun r hr => (owns_block (HO.out.alloc (.cells #[.int .i64 k] 3)) r hr).1)
      case measure => simp [intOf]; omega
    · have : k = n := by omega
      subst this
      obtain ⟨A, c, rfl⟩ := own_shape hown
      have hrd0 := rd_own hown
      have HBel := Lib.hid hbel
      by_cases hk0 : k = 0
      · subst hk0
        clear hown hbel
        go_wp2
        go_loopw [7, 8] (fun xv iv wr2 => ∃ x : Int, xv = .int .i64 x ∧ iv = .int .i64 (-1) ∧ wr2 = wr) (fun _ _ _ => 0)
        case atStart => exact ⟨key, rfl, rfl, rfl⟩
        case round =>
          obtain ⟨x, rfl, rfl, rfl⟩ := hrel
          go_wp2
          go_ret
          exact ⟨A, c, rfl, fun h => by simp [drawL, drawGo_length, upI] at h, HBel.out⟩
      · obtain ⟨g, cs, hcap, rfl, hb, hic⟩ := own_cells hown (by omega)
        have hg := (owns_block hown g rfl).1
        clear hown hbel hrd0
        have HX := Lib.hid hb; have HIC := Lib.hid hic; clear hb hic
        go_wp2
        go_loopw [7, 8] (fun xv iv wr => ∃ (i x : Int) (l : List Int) (cs : Array Value), xv = .int .i64 x ∧ iv = .int .i64 i ∧ (0 ≤ x ∧ x ≤ 2147483646) ∧ (-1 ≤ i ∧ i < k) ∧ (0 ≤ i → drawGo i.toNat x l = drawL key k) ∧ (i < 0 → l = drawL key k) ∧ Blk wr g 3 cs ∧ IC cs l k ∧ Below w.heap.size w wr) (fun _ iv _ => (intOf iv + 1).toNat)
        case atStart => exact ⟨(k : Int) - 1, key, upI k, cs, rfl, rfl, by omega, by omega, fun _ => by unfold drawL; congr 1; omega, fun h => by omega, HX.out, HIC.out, HBel.out⟩
        case round =>
          obtain ⟨i, x, l, cs, rfl, rfl, hx, hi2, hgo, hend, hb, hic, hbel⟩ := hrel
          have HGO := Lib.hid hgo; have HEND := Lib.hid hend; have HIC := Lib.hid hic; clear hgo hend hic
          by_cases h1 : 0 ≤ i
          · obtain ⟨M, rfl⟩ : ∃ M : Nat, i = (M : Int) := ⟨i.toNat, by omega⟩
            obtain ⟨y, hy⟩ : ∃ y, 1226874159 * x % 2147483647 = y := ⟨_, rfl⟩
            have hyb : 0 ≤ y ∧ y ≤ 2147483646 := by omega
            obtain ⟨j, hj⟩ : ∃ j : Nat, y % ((M : Int) + 1) = (j : Int) := ⟨(y % ((M : Int) + 1)).toNat, by have := Int.emod_nonneg y (b := (M : Int) + 1) (by omega); omega⟩
            have hjb : j < M + 1 := by have := Int.emod_lt_of_pos y (b := (M : Int) + 1) (by omega); omega
            have HSW : RowKit.Hid ((0 ≤ (M : Int) - 1 → drawGo ((M : Int) - 1).toNat y (swapI l M j) = drawL key k) ∧ ((M : Int) - 1 < 0 → swapI l M j = drawL key k)) := Lib.hid ⟨fun h => by
                rw [← HGO.out (by omega), Int.toNat_natCast, drawGo_pos M x l (by omega)]
                unfold drawX
                rw [hy, hj, Int.toNat_natCast]
                congr 1; omega, fun h => by
                have hM0 : M = 0 := by omega
                have hj0 : j = 0 := by omega
                subst hM0; subst hj0
                rw [swap_same, ← HGO.out (by omega)]; rfl⟩
            have fM := hb.frozen M
            have fj := hb.frozen j
            have HBel := Lib.hid hbel
            have hkk : (M : Int) < (k : Int) := by omega
            have hjk : (j : Int) < (k : Int) := by omega
            have cM := (hb.cell M).trans (HIC.out.2 M (by omega))
            have HJ := Lib.hid hj; have HY := Lib.hid hy
            clear hbel
            by_cases hjm : j = M
            · subst hjm
              have HSW2 := Lib.hid ((hb.set_ j (.int .i64 (l.getD j 0))).set_ j (.int .i64 (l.getD j 0)))
              have HIC2 := Lib.hid ((HIC.out.set j (l.getD j 0)).set j (l.getD j 0))
              have HSI : RowKit.Hid (swapI l j j = (l.set j (l.getD j 0)).set j (l.getD j 0)) := Lib.hid rfl
              clear hb
              generalize l.getD j 0 = a at cM HSW2 HIC2 HSI
              go_wp2
              go_region
              go_wp2
              go_roundw
              case rel => exact ⟨_, y, _, _, by rw [HY.out], rfl, by omega, by omega, fun h => by rw [← HSI.out]; exact HSW.out.1 h, fun h => by rw [← HSI.out]; exact HSW.out.2 h, HSW2.out, HIC2.out, ((HBel.out.setCell (p := ⟨g, _, none⟩) hg _).setCell (p := ⟨g, _, none⟩) hg _).drew⟩
              case measure => simp [intOf] <;> omega
            · have cj := (hb.cell j).trans (HIC.out.2 j (by omega))
              have HSW2 := Lib.hid ((hb.set_ M (.int .i64 (l.getD j 0))).set_ j (.int .i64 (l.getD M 0)))
              have HIC2 := Lib.hid ((HIC.out.set M (l.getD j 0)).set j (l.getD M 0))
              have HSI : RowKit.Hid (swapI l M j = (l.set M (l.getD j 0)).set j (l.getD M 0)) := Lib.hid rfl
              clear hb
              generalize l.getD M 0 = a at cM HSW2 HIC2 HSI
              generalize l.getD j 0 = b at cj HSW2 HIC2 HSI
              have hjm' : ¬ M = j := fun h => hjm h.symm
              go_wp2
              go_region
              go_wp2
              go_roundw
              case rel => exact ⟨_, y, _, _, by rw [HY.out], rfl, by omega, by omega, fun h => by rw [← HSI.out]; exact HSW.out.1 h, fun h => by rw [← HSI.out]; exact HSW.out.2 h, HSW2.out, HIC2.out, ((HBel.out.setCell (p := ⟨g, _, none⟩) hg _).setCell (p := ⟨g, _, none⟩) hg _).drew⟩
              case measure => simp [intOf] <;> omega
          · have HB3 := Lib.hid hb; have HBel := Lib.hid hbel
            have HE : RowKit.Hid (l = drawL key k) := Lib.hid (HEND.out (by omega))
            clear hb hbel
            go_wp2
            go_ret
            exact ⟨_, ⟨_, rfl⟩, by rw [← HE.out]; exact rd_ic HB3.out HIC.out, HBel.out⟩

end Go.Proofs.YtfgeokeankfplaaGreatDoor
namespace Go.Proofs.YtfgeokeankfplaaGreatDoor
open Go.RowKit
set_option linter.unusedVariables false
attribute [local go_sem] run_store_float run_store_complex
set_option maxRecDepth 100000
theorem wpList_append_nothing {P : Program} (w : World) {ops : Array Oper} {rest : List Oper} {o : Oper} {a : Act} {Q : Exit → Act → World → Prop} (hgd : o.guard = none) (s x : Operand) (t tx : TypeId)
    (ho : o.op = .call { callee := .builtin .append, args := #[s, x], argTypes := #[t, tx] }) (e : TypeId) (i : TypeInfo) (ht : P.underlying t = some (.slice e)) (hi : P.info? e = some i)
    (base : Option Addr) (sLen sCap : Nat) (hle : sLen ≤ sCap) (hv : a.eval s = .slice base sLen sCap) (xv : Value) (hx : a.eval x = xv) (hs : Src P i.size tx xv 0 [] w)
    (hK : wpList P ops Q rest (a.put o.dst (.slice base sLen sCap)) w) : wpList P ops Q (o :: rest) a w := by
  refine wpList_plain hgd fun K hK' => ?_
  have hrun := run_append_nothing (P := P) w t tx o.type e i ht hi base sLen sCap hle xv hs
  unfold Oper.wp
  simp [execOp, ho, resolve, invoke, builtin, hv, hx, hrun, Result.andThen]
  exact hK' _ _ hK
theorem rd_far {w : World} {g : Nat} {xs : List Value} (h : Rd w (some ⟨g, 0, none⟩) xs) {p : Addr} (hp : g ≠ p.block) (u : Value) : Rd (w.setCell p u) (some ⟨g, 0, none⟩) xs := fun h0 => by
  obtain ⟨ad, e, hb, hc⟩ := h h0
  cases e
  refine ⟨_, rfl, by simpa using hb, fun j v hj => ?_⟩
  rw [← hc j v hj]
  exact World.cell?_of_block (w := w) (by rw [block_of_add]; exact Below.heap_setCell w p u g hp)
theorem own_form {w : World} {B : Nat} {e : TypeId} {size : Nat} {v : Value} {n : Nat} {xs : List Value} (h : w.ownsRow B e size v n xs) (hn : 0 < n) : ∃ g cap, v = .slice (some ⟨g, 0, none⟩) n cap ∧ n ≤ cap := by
  rcases h.2 with ⟨_, h0⟩ | ⟨g, cap, cur, rfl, _, _, hc, _⟩
  · omega
  · exact ⟨g, cap, rfl, hc⟩
theorem own_none (w : World) : (w.alloc (.cells #[] 23)).ownsRow w.heap.size 23 1 (.slice (some ⟨w.heap.size, 0, none⟩) 0 0) 0 [] :=
  ⟨rfl, .inr ⟨_, 0, #[], rfl, Nat.le_refl _, heap_alloc_new w _, Nat.le_refl _, by decide, rfl, rfl⟩⟩
/-- A picture with samples of its own. -/
def OwnEnd (p : Pic) (n : Nat) (w : World) (e : Ending) (w' : World) : Prop := ∃ g c', e = .returned (.agg #[.string p.name, .int .i64 p.w, .int .i64 p.h, .slice (some ⟨g, 0, none⟩) n c']) ∧ n ≤ c' ∧ Rd w' (some ⟨g, 0, none⟩) (fl p.l) ∧ Below w.heap.size w w'
theorem ownR_any (p : Pic) (A : Option Addr) (c : Nat) (w : World) (hl : p.l.length ≤ 4096) (hA : A = none → p.l.length = 0 ∧ c = 0) (hr : Rd w A (fl p.l)) :
    Calls Tryz.prog 110 #[p.val A c] w (OwnEnd p p.l.length w) := by
  obtain ⟨i0, hi, hz0, hz1, hz2⟩ := info_parts info_mapIF
  unfold Pic.val
  obtain ⟨n, hn⟩ : ∃ n, p.l.length = n := ⟨_, rfl⟩
  rw [hn] at hl hA ⊢
  have HN := Lib.hid hn; clear hn
  have HR := Lib.hid hr; clear hr
  go_enter Tryz.func110, Tryz.ntmps110
  go_upto_region 1 with fail
  have hbx := (Blk.new w 43 #[.string p.name, .int .i64 p.w, .int .i64 p.h, .slice A n c]).alloc (.cells #[.string ⟨#[]⟩, .int .i64 0, .int .i64 0, .slice none 0 0] 43)
  have hby := Blk.new (w.alloc (.cells #[.string p.name, .int .i64 p.w, .int .i64 p.h, .slice A n c] 43)) 43 #[.string ⟨#[]⟩, .int .i64 0, .int .i64 0, .slice none 0 0]
  have hb0 : Below w.heap.size w ((w.alloc (.cells #[.string p.name, .int .i64 p.w, .int .i64 p.h, .slice A n c] 43)).alloc (.cells #[.string ⟨#[]⟩, .int .i64 0, .int .i64 0, .slice none 0 0] 43)) := ((Below.refl _ _).alloc (Nat.le_refl _) _).alloc (by simp) _
  simp only [World.size_alloc] at hby
  generalize (w.alloc (.cells #[.string p.name, .int .i64 p.w, .int .i64 p.h, .slice A n c] 43)).alloc (.cells #[.string ⟨#[]⟩, .int .i64 0, .int .i64 0, .slice none 0 0] 43) = w0 at hbx hby hb0 ⊢
  have z0 := hbx.lt; have z1 := hby.lt
  obtain ⟨c0, c1, c2, c3⟩ := box4 hbx
  obtain ⟨d0, d1, d2, d3⟩ := box4 hby
  have HX := Lib.hid hbx; have HY := Lib.hid hby; have HB := Lib.hid hb0; clear hbx hby hb0
  by_cases hn0 : n = 0
  · subst hn0
    have hsrc : ∀ W, Src Tryz.prog i0.size 41 (.slice A 0 c) 0 [] W := fun W => by
      cases A with
      | none => rw [(hA rfl).2]; exact Src.ofNil W Tryz.underlying41 0
      | some a => exact Src.ofSlice W Tryz.underlying41 a 0 c [] (by simp) (fun j u h => by simp at h) (fun u h => by cases h)
    have HS := Lib.hid hsrc; clear hsrc
    have HL : RowKit.Hid (p.l = []) := Lib.hid (List.eq_nil_of_length_eq_zero HN.out)
    go_step; go_step; go_step; go_step; go_step; go_step; go_step; go_step; go_step; go_step
    refine wpList_append_nothing _ (by rfl) (.tmp 3) (.tmp 5) 41 41 (by rfl) 23 i0 Tryz.underlying41 hi (some ⟨w0.heap.size, 0, none⟩) 0 0 (Nat.le_refl _) (by rfl) (.slice A 0 c) (by rfl) (HS.out _) ?_
    have hxa := HX.out.alloc (.cells #[] 23)
    have hya := HY.out.alloc (.cells #[] 23)
    have hba := HB.out.alloc HB.out.size (.cells #[] 23)
    have hrd : Rd (w0.alloc (.cells #[] 23)) (some ⟨w0.heap.size, 0, none⟩) (fl p.l) := fun h0 => by rw [HL.out] at h0; simp [fl] at h0
    have hg : w.heap.size + 1 < w0.heap.size := z1
    clear HX HY HB c0 c1 c2 c3 d0 d1 d2 d3 z0 z1
    obtain ⟨g, hge⟩ : ∃ g, w0.heap.size = g := ⟨_, rfl⟩
    rw [hge] at hg hrd ⊢
    clear hge
    generalize w0.alloc (.cells #[] 23) = w1 at hxa hya hba hrd ⊢
    have e3 := hxa.cell 3
    have z0 := hxa.lt
    have f3 := hxa.frozen 3
    simp only [List.getElem?_toArray, List.getElem?_cons_zero, List.getElem?_cons_succ] at e3
    have HX := Lib.hid (show Blk (w1.setCell ⟨w.heap.size, 3, none⟩ (.slice (some ⟨g, 0, none⟩) 0 0)) w.heap.size 43 #[.string p.name, .int .i64 p.w, .int .i64 p.h, .slice (some ⟨g, 0, none⟩) 0 0] from hxa.set_ 3 (.slice (some ⟨g, 0, none⟩) 0 0))
    have HY := Lib.hid (hya.far (p := ⟨w.heap.size, 3, none⟩) (by simp) (.slice (some ⟨g, 0, none⟩) 0 0))
    have HB := Lib.hid (hba.setCell (p := ⟨w.heap.size, 3, none⟩) (Nat.le_refl _) (.slice (some ⟨g, 0, none⟩) 0 0))
    have HRD := Lib.hid (rd_far hrd (p := ⟨w.heap.size, 3, none⟩) (by simp; omega) (.slice (some ⟨g, 0, none⟩) 0 0))
    clear hxa hya hba hrd
    go_upto_region 2 with fail
    generalize w1.setCell ⟨w.heap.size, 3, none⟩ (.slice (some ⟨g, 0, none⟩) 0 0) = w2 at HX HY HB HRD ⊢
    clear e3 f3 z0
    obtain ⟨c0, c1, c2, c3⟩ := box4 HX.out
    have hy := HY.out
    have z1 := hy.lt
    have f0 := hy.frozen 0; have f1 := hy.frozen 1; have f2 := hy.frozen 2; have f3 := hy.frozen 3
    obtain ⟨d0, d1, d2, d3⟩ := box4 hy
    clear hy
    go_wp2
    have hyy := Lib.hid (show Blk ((((w2.setCell ⟨w.heap.size + 1, 0, none⟩ (.string p.name)).setCell ⟨w.heap.size + 1, 1, none⟩ (.int .i64 p.w)).setCell ⟨w.heap.size + 1, 2, none⟩ (.int .i64 p.h)).setCell ⟨w.heap.size + 1, 3, none⟩ (.slice (some ⟨g, 0, none⟩) 0 0)) (w.heap.size + 1) 43 #[.string p.name, .int .i64 p.w, .int .i64 p.h, .slice (some ⟨g, 0, none⟩) 0 0] from (((HY.out.set_ 0 _).set_ 1 _).set_ 2 _).set_ 3 _)
    obtain ⟨r0, r1, r2, r3⟩ := box4 hyy.out
    refine bodyPost_ret (v := .agg #[.string p.name, .int .i64 p.w, .int .i64 p.h, .slice (some ⟨g, 0, none⟩) 0 0]) (by simp [results, Tryz.results110, go_sem, r0, r1, r2, r3]) rfl ⟨g, 0, rfl, Nat.le_refl _, ?_, below_set4 HB.out (by omega) _ _ _ _⟩
    exact rd_far (rd_far (rd_far (rd_far HRD.out (by simp; omega) _) (by simp; omega) _) (by simp; omega) _) (by simp; omega) _
  · obtain ⟨ad, rfl, had, hcells⟩ := HR.out (by simp only [fl, List.length_map]; rw [HN.out]; omega)
    have HA2 := Lib.hid (HR.out.below (HB.out.alloc HB.out.size (.cells #[] 23)))
    have HOW := Lib.hid (own_none w0)
    have HFL : RowKit.Hid ((fl p.l).length = n * 1) := Lib.hid (by simp [fl]; exact HN.out)
    have hsz0 := HB.out.size
    clear had hcells
    go_step; go_step; go_step; go_step; go_step; go_step; go_step; go_step; go_step; go_step
    refine wpList_append_own_at _ (by rfl) (.tmp 3) (.tmp 5) 41 (by rfl) w0.heap.size 23 i0 (.float .f32 0) 1 4 Tryz.underlying41 hi hz0 hz1 hz2 (by rfl) (by decide) (.slice (some ⟨w0.heap.size, 0, none⟩) 0 0) 0 [] (by rfl) HOW.out ad n c (fl p.l) (by rfl) HFL.out (fun j u hj => by
        obtain ⟨ad2, e2, _, hc2⟩ := HA2.out (by have := (List.getElem?_eq_some_iff.1 hj).1; omega)
        cases e2; exact hc2 j u hj) (by intro u hu; obtain ⟨b, _, rfl⟩ := List.mem_map.1 hu; rfl) (by unfold maxLen; omega) (by omega) (by simp) ?_
    intro v' w1 hown hgrow hnil hat
    rw [Nat.zero_add, List.nil_append] at hown
    obtain ⟨g, c', rfl, hcap⟩ := own_form hown (by omega)
    have hg0 := (owns_block hown g rfl).1
    have hrd := rd_own hown
    have hxa := blk_grown (HX.out.alloc (.cells #[] 23)) hgrow (fun e => by have : w0.heap.size = w.heap.size := by simpa [Value.ownBlock] using e
                                                                            omega)
    have hya := blk_grown (HY.out.alloc (.cells #[] 23)) hgrow (fun e => by have : w0.heap.size = w.heap.size + 1 := by simpa [Value.ownBlock] using e
                                                                            omega)
    have hba := (HB.out.alloc HB.out.size (.cells #[] 23)).grown hgrow (by simp; omega) (fun r hr => by have : w0.heap.size = r := by simpa [Value.ownBlock] using hr
                                                                                                        omega)
    have hg : w.heap.size + 1 < g := Nat.lt_of_lt_of_le z1 hg0
    clear HX HY HB HOW HA2 c0 c1 c2 c3 d0 d1 d2 d3 z0 z1 hown hgrow hnil hat hg0
    have e3 := hxa.cell 3
    have z0 := hxa.lt
    have f3 := hxa.frozen 3
    simp only [List.getElem?_toArray, List.getElem?_cons_zero, List.getElem?_cons_succ] at e3
    have HX := Lib.hid (show Blk (w1.setCell ⟨w.heap.size, 3, none⟩ (.slice (some ⟨g, 0, none⟩) n c')) w.heap.size 43 #[.string p.name, .int .i64 p.w, .int .i64 p.h, .slice (some ⟨g, 0, none⟩) n c'] from hxa.set_ 3 (.slice (some ⟨g, 0, none⟩) n c'))
    have HY := Lib.hid (hya.far (p := ⟨w.heap.size, 3, none⟩) (by simp) (.slice (some ⟨g, 0, none⟩) n c'))
    have HB := Lib.hid (hba.setCell (p := ⟨w.heap.size, 3, none⟩) (Nat.le_refl _) (.slice (some ⟨g, 0, none⟩) n c'))
    have HRD := Lib.hid (rd_far hrd (p := ⟨w.heap.size, 3, none⟩) (by simp; omega) (.slice (some ⟨g, 0, none⟩) n c'))
    clear hxa hya hba hrd
    go_upto_region 2 with fail
    generalize w1.setCell ⟨w.heap.size, 3, none⟩ (.slice (some ⟨g, 0, none⟩) n c') = w2 at HX HY HB HRD ⊢
    clear e3 f3 z0
    obtain ⟨c0, c1, c2, c3⟩ := box4 HX.out
    have hy := HY.out
    have z1 := hy.lt
    have f0 := hy.frozen 0; have f1 := hy.frozen 1; have f2 := hy.frozen 2; have f3 := hy.frozen 3
    obtain ⟨d0, d1, d2, d3⟩ := box4 hy
    clear hy
    go_wp2
    have hyy := Lib.hid (show Blk ((((w2.setCell ⟨w.heap.size + 1, 0, none⟩ (.string p.name)).setCell ⟨w.heap.size + 1, 1, none⟩ (.int .i64 p.w)).setCell ⟨w.heap.size + 1, 2, none⟩ (.int .i64 p.h)).setCell ⟨w.heap.size + 1, 3, none⟩ (.slice (some ⟨g, 0, none⟩) n c')) (w.heap.size + 1) 43 #[.string p.name, .int .i64 p.w, .int .i64 p.h, .slice (some ⟨g, 0, none⟩) n c'] from (((HY.out.set_ 0 _).set_ 1 _).set_ 2 _).set_ 3 _)
    obtain ⟨r0, r1, r2, r3⟩ := box4 hyy.out
    refine bodyPost_ret (v := .agg #[.string p.name, .int .i64 p.w, .int .i64 p.h, .slice (some ⟨g, 0, none⟩) n c']) (by simp [results, Tryz.results110, go_sem, r0, r1, r2, r3]) rfl ⟨g, c', rfl, hcap, ?_, below_set4 HB.out (by omega) _ _ _ _⟩
    exact rd_far (rd_far (rd_far (rd_far HRD.out (by simp; omega) _) (by simp; omega) _) (by simp; omega) _) (by simp; omega) _

end Go.Proofs.YtfgeokeankfplaaGreatDoor
namespace Go.Proofs.YtfgeokeankfplaaGreatDoor
open Go.RowKit
set_option linter.unusedVariables false
attribute [local go_sem] run_store_float run_store_complex
set_option maxRecDepth 100000
theorem own_any (p : Pic) (A : Option Addr) (c : Nat) (w : World) (hl : p.l.length ≤ 4096) (hA : A = none → p.l.length = 0 ∧ c = 0) (hr : Rd w A (fl p.l)) :
    Calls Tryz.prog 30 #[p.val A c] w (OwnEnd p p.l.length w) := by
  have HO := Lib.hid (fun w hr => ownR_any p A c w hl hA hr)
  unfold Pic.val at HO ⊢
  obtain ⟨n, hn⟩ : ∃ n, p.l.length = n := ⟨_, rfl⟩
  rw [hn] at HO ⊢
  clear hl hA hn
  have HR := Lib.hid hr; clear hr
  go_enter Tryz.func30, Tryz.ntmps30
  go_upto_region 1 with fail
  have hbx := (Blk.new w 43 #[.string p.name, .int .i64 p.w, .int .i64 p.h, .slice A n c]).alloc (.cells #[.string ⟨#[]⟩, .int .i64 0, .int .i64 0, .slice none 0 0] 50)
  have hby := Blk.new (w.alloc (.cells #[.string p.name, .int .i64 p.w, .int .i64 p.h, .slice A n c] 43)) 50 #[.string ⟨#[]⟩, .int .i64 0, .int .i64 0, .slice none 0 0]
  have hb0 : Below w.heap.size w ((w.alloc (.cells #[.string p.name, .int .i64 p.w, .int .i64 p.h, .slice A n c] 43)).alloc (.cells #[.string ⟨#[]⟩, .int .i64 0, .int .i64 0, .slice none 0 0] 50)) := ((Below.refl _ _).alloc (Nat.le_refl _) _).alloc (by simp) _
  simp only [World.size_alloc] at hby
  generalize (w.alloc (.cells #[.string p.name, .int .i64 p.w, .int .i64 p.h, .slice A n c] 43)).alloc (.cells #[.string ⟨#[]⟩, .int .i64 0, .int .i64 0, .slice none 0 0] 50) = w0 at hbx hby hb0 ⊢
  have HR0 := Lib.hid (HR.out.below hb0)
  obtain ⟨c0, c1, c2, c3⟩ := box4 hbx
  have HX := Lib.hid hbx; have HY := Lib.hid hby; have HB := Lib.hid hb0; clear hbx hby hb0
  go_wp2_with fail
  refine (HO.out _ HR0.out).mono ?_
  rintro e w2 ⟨g, c', rfl, hcap, hrd, hb⟩
  have hy := HY.out.below hb
  have hg : w.heap.size + 1 < w0.heap.size := HY.out.lt
  have HB2 := Lib.hid (HB.out.trans (hb.mono HB.out.size))
  clear c0 c1 c2 c3 HX HY HB HO HR HR0 hb
  have z1 := hy.lt
  have f0 := hy.frozen 0; have f1 := hy.frozen 1; have f2 := hy.frozen 2; have f3 := hy.frozen 3
  obtain ⟨d0, d1, d2, d3⟩ := box4 hy
  have hyy := Lib.hid (show Blk ((((w2.setCell ⟨w.heap.size + 1, 0, none⟩ (.string p.name)).setCell ⟨w.heap.size + 1, 1, none⟩ (.int .i64 p.w)).setCell ⟨w.heap.size + 1, 2, none⟩ (.int .i64 p.h)).setCell ⟨w.heap.size + 1, 3, none⟩ (.slice (some ⟨g, 0, none⟩) n c')) (w.heap.size + 1) 50 #[.string p.name, .int .i64 p.w, .int .i64 p.h, .slice (some ⟨g, 0, none⟩) n c'] from (((hy.set_ 0 _).set_ 1 _).set_ 2 _).set_ 3 _)
  have HRD := Lib.hid (rd_set4 hrd hy (.four rfl rfl rfl rfl) (.string p.name) (.int .i64 p.w) (.int .i64 p.h) (.slice (some ⟨g, 0, none⟩) n c') rfl rfl rfl)
  clear hy hrd
  go_wp2
  obtain ⟨r0, r1, r2, r3⟩ := box4 hyy.out
  exact bodyPost_ret (v := .agg #[.string p.name, .int .i64 p.w, .int .i64 p.h, .slice (some ⟨g, 0, none⟩) n c']) (by simp [results, Tryz.results30, go_sem, r0, r1, r2, r3]) rfl ⟨g, c', rfl, hcap, HRD.out, below_set4 HB2.out (by omega) _ _ _ _⟩
theorem told_any (nm : ByteArray) (W H : Int) (A : Option Addr) (n c : Nat) (w : World) :
    Calls Tryz.prog 87 #[.agg #[.string nm, .int .i64 W, .int .i64 H, .slice A n c]] w fun e w' => e = .returned (.agg #[.string nm, .int .i64 W, .int .i64 H, .slice A n c]) ∧ Below w.heap.size w w' := by
  go_enter Tryz.func87, Tryz.ntmps87
  go_upto_region 1 with fail
  have hbx := (Blk.new w 50 #[.string nm, .int .i64 W, .int .i64 H, .slice A n c]).alloc (.cells #[.string ⟨#[]⟩, .int .i64 0, .int .i64 0, .slice none 0 0] 43)
  have hby := Blk.new (w.alloc (.cells #[.string nm, .int .i64 W, .int .i64 H, .slice A n c] 50)) 43 #[.string ⟨#[]⟩, .int .i64 0, .int .i64 0, .slice none 0 0]
  have hb0 : Below w.heap.size w ((w.alloc (.cells #[.string nm, .int .i64 W, .int .i64 H, .slice A n c] 50)).alloc (.cells #[.string ⟨#[]⟩, .int .i64 0, .int .i64 0, .slice none 0 0] 43)) := ((Below.refl _ _).alloc (Nat.le_refl _) _).alloc (by simp) _
  simp only [World.size_alloc] at hby
  generalize (w.alloc (.cells #[.string nm, .int .i64 W, .int .i64 H, .slice A n c] 50)).alloc (.cells #[.string ⟨#[]⟩, .int .i64 0, .int .i64 0, .slice none 0 0] 43) = w0 at hbx hby hb0 ⊢
  obtain ⟨c0, c1, c2, c3⟩ := box4 hbx
  have z1 := hby.lt
  have f0 := hby.frozen 0; have f1 := hby.frozen 1; have f2 := hby.frozen 2; have f3 := hby.frozen 3
  obtain ⟨d0, d1, d2, d3⟩ := box4 hby
  have hyy := Lib.hid (show Blk ((((w0.setCell ⟨w.heap.size + 1, 0, none⟩ (.string nm)).setCell ⟨w.heap.size + 1, 1, none⟩ (.int .i64 W)).setCell ⟨w.heap.size + 1, 2, none⟩ (.int .i64 H)).setCell ⟨w.heap.size + 1, 3, none⟩ (.slice A n c)) (w.heap.size + 1) 43 #[.string nm, .int .i64 W, .int .i64 H, .slice A n c] from (((hby.set_ 0 _).set_ 1 _).set_ 2 _).set_ 3 _)
  have HB := Lib.hid hb0; clear hbx hby hb0
  go_wp2
  obtain ⟨r0, r1, r2, r3⟩ := box4 hyy.out
  exact bodyPost_ret (v := .agg #[.string nm, .int .i64 W, .int .i64 H, .slice A n c]) (by simp [results, Tryz.results87, go_sem, r0, r1, r2, r3]) rfl ⟨rfl, below_set4 HB.out (by omega) _ _ _ _⟩
theorem samePicture_true (nm : ByteArray) (W H : Int) (A B : Option Addr) (n c d : Nat) (l k : List Nat) (w : World) (hl : l.length = n) (hk : k.length = n) (hn : n ≤ maxLen) (hs : sameF l k = true) (hr : Rd w A (fl l)) (hr2 : Rd w B (fl k)) :
    Calls Tryz.prog 88 #[.agg #[.string nm, .int .i64 W, .int .i64 H, .slice A n c], .agg #[.string nm, .int .i64 W, .int .i64 H, .slice B n d]] w fun e w' => e = .returned (.bool true) ∧ Below w.heap.size w w' := by
  have hss := fun w h1 h2 => sameSamples_any A B c d l k w (by rw [hl]; exact hn) (by rw [hk]; exact hn) h1 h2
  rw [hl, hk, hs] at hss
  have HS := Lib.hid hss; have HR := Lib.hid hr; have HR2 := Lib.hid hr2
  clear hss hr hr2 hl hk hs
  go_enter Tryz.func88, Tryz.ntmps88
  go_upto_region 1 with fail
  have hbx := (Blk.new w 43 #[.string nm, .int .i64 W, .int .i64 H, .slice A n c]).alloc (.cells #[.string nm, .int .i64 W, .int .i64 H, .slice B n d] 43)
  have hby := Blk.new (w.alloc (.cells #[.string nm, .int .i64 W, .int .i64 H, .slice A n c] 43)) 43 #[.string nm, .int .i64 W, .int .i64 H, .slice B n d]
  have hb0 : Below w.heap.size w ((w.alloc (.cells #[.string nm, .int .i64 W, .int .i64 H, .slice A n c] 43)).alloc (.cells #[.string nm, .int .i64 W, .int .i64 H, .slice B n d] 43)) := ((Below.refl _ _).alloc (Nat.le_refl _) _).alloc (by simp) _
  simp only [World.size_alloc] at hby
  generalize (w.alloc (.cells #[.string nm, .int .i64 W, .int .i64 H, .slice A n c] 43)).alloc (.cells #[.string nm, .int .i64 W, .int .i64 H, .slice B n d] 43) = w0 at hbx hby hb0 ⊢
  obtain ⟨c0, c1, c2, c3⟩ := box4 hbx
  obtain ⟨d0, d1, d2, d3⟩ := box4 hby
  have HB := Lib.hid hb0; clear hbx hby
  have HRa := Lib.hid (HR.out.below hb0); have HRb := Lib.hid (HR2.out.below hb0)
  clear hb0
  have hnm : (nm == nm) = true := by rw [beq_toListBytes]; simp
  go_wp2_with fail
  refine (HS.out _ HRa.out HRb.out).mono ?_
  rintro e w1 ⟨rfl, hb⟩
  go_wp2
  go_ret
  exact ⟨rfl, HB.out.trans (hb.mono HB.out.size)⟩

end Go.Proofs.YtfgeokeankfplaaGreatDoor
namespace Go.Proofs.YtfgeokeankfplaaGreatDoor
open Go.RowKit
set_option linter.unusedVariables false
set_option maxRecDepth 100000
/-- The law's 'one', where all is well. -/
theorem one_true (nm : ByteArray) (W H : Int) (A B : Option Addr) (n c d : Nat) (l k : List Nat) (w : World) (hl : l.length = n) (hk : k.length = n) (hn : n ≤ maxLen) (hs : sameF l k = true) (hr : Rd w A (fl l)) (hr2 : Rd w B (fl k)) :
    Calls Tryz.prog 38 #[.agg #[.string nm, .int .i64 W, .int .i64 H, .slice A n c], .int .i64 0, .int .i64 0, .agg #[.string nm, .int .i64 W, .int .i64 H, .slice B n d]] w fun e w' => e = .returned (.bool true) ∧ Below w.heap.size w w' := by
  have hss := fun w h1 h2 => samePicture_true nm W H A B n c d l k w hl hk hn hs h1 h2
  have HS := Lib.hid hss; have HR := Lib.hid hr; have HR2 := Lib.hid hr2
  clear hss hr hr2 hl hk hs
  go_enter Tryz.func38, Tryz.ntmps38
  go_upto_region 1 with fail
  have hbx := (Blk.new w 50 #[.string nm, .int .i64 W, .int .i64 H, .slice A n c]).alloc (.cells #[.string nm, .int .i64 W, .int .i64 H, .slice B n d] 43)
  have hby := Blk.new (w.alloc (.cells #[.string nm, .int .i64 W, .int .i64 H, .slice A n c] 50)) 43 #[.string nm, .int .i64 W, .int .i64 H, .slice B n d]
  have hb0 : Below w.heap.size w ((w.alloc (.cells #[.string nm, .int .i64 W, .int .i64 H, .slice A n c] 50)).alloc (.cells #[.string nm, .int .i64 W, .int .i64 H, .slice B n d] 43)) := ((Below.refl _ _).alloc (Nat.le_refl _) _).alloc (by simp) _
  simp only [World.size_alloc] at hby
  generalize (w.alloc (.cells #[.string nm, .int .i64 W, .int .i64 H, .slice A n c] 50)).alloc (.cells #[.string nm, .int .i64 W, .int .i64 H, .slice B n d] 43) = w0 at hbx hby hb0 ⊢
  obtain ⟨c0, c1, c2, c3⟩ := box4 hbx
  obtain ⟨d0, d1, d2, d3⟩ := box4 hby
  have z0 := hbx.lt; have z1 := hby.lt
  have HB := Lib.hid hb0; clear hbx hby
  have HRa := Lib.hid (HR.out.below hb0); have HRb := Lib.hid (HR2.out.below hb0)
  clear hb0 HR HR2
  go_upto_region 3 with fail
  go_region_held3 (SK w0)
    (first | exact sk_drew0 _ | exact sk_drew (by assumption) | assumption | exact sk_call (by assumption) (by assumption) | exact sk_alloc (by assumption) _)
    (first
      | (go_at_call 87; refine (told_any _ _ _ _ _ _ _).mono ?_; rintro e wn ⟨rfl, hbn⟩; have hch := sk_call (w0 := w0) (by assumption) hbn)
      | (go_at_call 88; refine (HS.out _ (HRa.out.below (And.left (by assumption : SK w0 _))) (HRb.out.below (And.left (by assumption : SK w0 _)))).mono ?_; rintro e wn ⟨rfl, hbn⟩; have hch := sk_call (w0 := w0) (by assumption) hbn))
  have hfin := sk_call (w0 := w0) (by assumption) hbn
  go_wp2
  go_ret
  exact ⟨rfl, HB.out.trans (hfin.1.mono HB.out.size)⟩
/-- The law's 'one', where an error is expected. -/
theorem one_bad (nm : ByteArray) (W H : Int) (B : Option Addr) (n d : Nat) (z : Int) (hz : z ≠ 0) (w : World) :
    Calls Tryz.prog 38 #[.agg #[.string ⟨#[]⟩, .int .i64 0, .int .i64 0, .slice none 0 0], .int .i64 z, .int .i64 z, .agg #[.string nm, .int .i64 W, .int .i64 H, .slice B n d]] w fun e w' => e = .returned (.bool true) ∧ Below w.heap.size w w' := by
  have hz' : (z != 0) = true := by simpa using hz
  have HZ := Lib.hid hz; clear hz
  go_enter Tryz.func38, Tryz.ntmps38
  go_upto_region 1 with fail
  have hbx := (Blk.new w 50 #[.string ⟨#[]⟩, .int .i64 0, .int .i64 0, .slice none 0 0]).alloc (.cells #[.string nm, .int .i64 W, .int .i64 H, .slice B n d] 43)
  have hby := Blk.new (w.alloc (.cells #[.string ⟨#[]⟩, .int .i64 0, .int .i64 0, .slice none 0 0] 50)) 43 #[.string nm, .int .i64 W, .int .i64 H, .slice B n d]
  have hb0 : Below w.heap.size w ((w.alloc (.cells #[.string ⟨#[]⟩, .int .i64 0, .int .i64 0, .slice none 0 0] 50)).alloc (.cells #[.string nm, .int .i64 W, .int .i64 H, .slice B n d] 43)) := ((Below.refl _ _).alloc (Nat.le_refl _) _).alloc (by simp) _
  simp only [World.size_alloc] at hby
  generalize (w.alloc (.cells #[.string ⟨#[]⟩, .int .i64 0, .int .i64 0, .slice none 0 0] 50)).alloc (.cells #[.string nm, .int .i64 W, .int .i64 H, .slice B n d] 43) = u0 at hbx hby hb0 ⊢
  have hx2 := (((hbx.far (p := ⟨w.heap.size + 1, 0, none⟩) (by simp) (.string ⟨#[]⟩)).far (p := ⟨w.heap.size + 1, 1, none⟩) (by simp) (.int .i64 0)).far (p := ⟨w.heap.size + 1, 2, none⟩) (by simp) (.int .i64 0)).far (p := ⟨w.heap.size + 1, 3, none⟩) (by simp) (.slice none 0 0)
  have hy2 : Blk ((((u0.setCell ⟨w.heap.size + 1, 0, none⟩ (.string ⟨#[]⟩)).setCell ⟨w.heap.size + 1, 1, none⟩ (.int .i64 0)).setCell ⟨w.heap.size + 1, 2, none⟩ (.int .i64 0)).setCell ⟨w.heap.size + 1, 3, none⟩ (.slice none 0 0)) (w.heap.size + 1) 43 #[.string ⟨#[]⟩, .int .i64 0, .int .i64 0, .slice none 0 0] := (((hby.set_ 0 _).set_ 1 _).set_ 2 _).set_ 3 _
  have hb2 := below_set4 hb0 (g := w.heap.size + 1) (by omega) (.string ⟨#[]⟩) (.int .i64 0) (.int .i64 0) (.slice none 0 0)
  have HX := Lib.hid hx2; have HY := Lib.hid hy2; have HB := Lib.hid hb2
  have f0 := hby.frozen 0; have f1 := hby.frozen 1; have f2 := hby.frozen 2; have f3 := hby.frozen 3
  obtain ⟨d0, d1, d2, d3⟩ := box4 hby
  have z1 := hby.lt
  clear hbx hby hb0 hx2 hy2 hb2
  go_upto_region 3 with fail
  generalize (((u0.setCell ⟨w.heap.size + 1, 0, none⟩ (.string ⟨#[]⟩)).setCell ⟨w.heap.size + 1, 1, none⟩ (.int .i64 0)).setCell ⟨w.heap.size + 1, 2, none⟩ (.int .i64 0)).setCell ⟨w.heap.size + 1, 3, none⟩ (.slice none 0 0) = w0 at HX HY HB ⊢
  clear d0 d1 d2 d3 f0 f1 f2 f3 z1
  obtain ⟨c0, c1, c2, c3⟩ := box4 HX.out
  obtain ⟨d0, d1, d2, d3⟩ := box4 HY.out
  have z0 := HX.out.lt; have z1 := HY.out.lt
  have HR : RowKit.Hid (∀ W, Rd W none (fl [])) := Lib.hid (fun W h => absurd h (by simp [fl]))
  clear HX HY
  go_region_held3 (SK w0)
    (first | exact sk_drew0 _ | exact sk_drew (by assumption) | assumption | exact sk_call (by assumption) (by assumption) | exact sk_alloc (by assumption) _)
    (first
      | (go_at_call 87; refine (told_any _ _ _ _ _ _ _).mono ?_; rintro e wn ⟨rfl, hbn⟩; have hch := sk_call (w0 := w0) (by assumption) hbn)
      | (go_at_call 88; refine (samePicture_true ⟨#[]⟩ 0 0 none none 0 0 0 [] [] _ rfl rfl (by decide) (by decide) (HR.out _) (HR.out _)).mono ?_; rintro e wn ⟨rfl, hbn⟩; have hch := sk_call (w0 := w0) (by assumption) hbn))
  have hfin := sk_call (w0 := w0) (by assumption) hbn
  go_wp2
  go_ret
  exact ⟨rfl, HB.out.trans (hfin.1.mono HB.out.size)⟩

end Go.Proofs.YtfgeokeankfplaaGreatDoor
namespace Go.Proofs.YtfgeokeankfplaaGreatDoor
open Go.RowKit
set_option linter.unusedVariables false
set_option maxRecDepth 100000
theorem firstF_drop (f : Nat → Int) (l : List Nat) (k : Nat) (hk : k < l.length) : firstF f (l.drop k) = if f (l.getD k 0) = 0 then firstF f (l.drop (k + 1)) else f (l.getD k 0) := by
  rw [List.drop_eq_getElem_cons hk]
  simp [firstF, List.getD, hk]
def Pic.head (p : Pic) : Int := firstE [errIf (!nameOk p.name) 8, outs p.w 1 64, outs p.h 1 64]
theorem err_head {p : Pic} (h : p.head ≠ 0) : p.err = p.head := by
  unfold Pic.err; unfold Pic.head at h ⊢
  simp only [firstE] at h ⊢
  repeat' split
  all_goals simp_all
theorem err_shape {p : Pic} (h : p.head = 0) (hs : ((p.l.length : Int) != IntKind.i64.wrap (p.w * p.h)) = true) : p.err = 2 := by
  unfold Pic.err; unfold Pic.head at h
  simp only [firstE] at h ⊢
  rw [hs]
  repeat' split
  all_goals simp_all [errIf]
theorem err_rest {p : Pic} (h : p.head = 0) (hs : ((p.l.length : Int) != IntKind.i64.wrap (p.w * p.h)) = false) : p.err = firstF (chk 1024) p.l := by
  unfold Pic.err; unfold Pic.head at h
  simp only [firstE] at h ⊢
  rw [hs]
  repeat' split
  all_goals simp_all [errIf]
set_option maxHeartbeats 1000000 in
theorem checkPictureR_any (p : Pic) (A : Option Addr) (c : Nat) (w : World) (hs : p.name.size ≤ maxLen) (hl : p.l.length ≤ 4096) (hr : Rd w A (fl p.l)) :
    Calls Tryz.prog 32 #[p.val A c] w fun e w' => e = .returned (.int .i64 p.err) ∧ Below w.heap.size w w' := by
  have HR := Lib.hid hr; clear hr
  obtain ⟨n, hn⟩ : ∃ n, p.l.length = n := ⟨_, rfl⟩
  have HN := Lib.hid hn
  unfold Pic.val
  rw [hn] at hl ⊢
  clear hn
  go_enter Tryz.func32, Tryz.ntmps32
  go_upto_region 1 with fail
  have hbx := Blk.new w 43 #[.string p.name, .int .i64 p.w, .int .i64 p.h, .slice A n c]
  have hb0 : Below w.heap.size w (w.alloc (.cells #[.string p.name, .int .i64 p.w, .int .i64 p.h, .slice A n c] 43)) := (Below.refl _ _).alloc (Nat.le_refl _) _
  generalize w.alloc (.cells #[.string p.name, .int .i64 p.w, .int .i64 p.h, .slice A n c] 43) = w0 at hbx hb0 ⊢
  obtain ⟨c0, c1, c2, c3⟩ := box4 hbx
  have z0 := hbx.lt
  have HX := Lib.hid hbx; have HB := Lib.hid hb0; clear hbx hb0
  go_region_held3 (SK w0)
    (first | exact sk_drew0 _ | exact sk_drew (by assumption) | assumption | exact sk_call (by assumption) (by assumption) | exact sk_alloc (by assumption) _)
    (first
      | (go_at_call 113; refine (checkName_any _ _ hs).mono ?_; rintro e wn ⟨rfl, rfl⟩)
      | (go_at_call 19; refine (checkRange_any _ _ _ _).mono ?_; rintro e wn ⟨rfl, rfl⟩)
      | (go_at_call 99; refine (firstR_n _ _ _ [_, _, _] _ rfl (by simp [maxLen]) (by exact rd_of_blk (Blk.new _ _ _) rfl)).mono ?_; rintro e wn ⟨rfl, rfl⟩))
  have hch := sk_drew (sk_alloc (sk_refl w0) (.cells #[.int .i64 (errIf (!nameOk p.name) 8), .int .i64 (outs p.w 1 64), .int .i64 (outs p.h 1 64)] 3))
  have HH : RowKit.Hid (firstE [errIf (!nameOk p.name) 8, outs p.w 1 64, outs p.h 1 64] = p.head) := Lib.hid rfl
  rw [HH.out]
  generalize (w0.alloc (.cells #[.int .i64 (errIf (!nameOk p.name) 8), .int .i64 (outs p.w 1 64), .int .i64 (outs p.h 1 64)] 3)).drew = w1 at hch ⊢
  replace HX := Lib.hid (HX.out.below hch.1)
  have HB1 := Lib.hid (HB.out.trans (hch.1.mono HB.out.size))
  clear hch c0 c1 c2 c3 z0 HB HH
  obtain ⟨c0, c1, c2, c3⟩ := box4 HX.out
  by_cases hz : p.head = 0
  · rw [hz]
    have HZ := Lib.hid hz; clear hz
    cases hsh : ((n : Int) != wrap64 (p.w * p.h))
    · have HE := Lib.hid (err_rest HZ.out (by rw [HN.out, show IntKind.i64.wrap (p.w * p.h) = wrap64 (p.w * p.h) from by unfold wrap64; exact IntKind.wrap_i64 _]; exact hsh))
      go_wp2
      go_loopw [4] (fun i wr => ∃ k : Nat, k ≤ n ∧ i = .int .i64 k ∧ p.err = firstF (chk 1024) (p.l.drop k) ∧ Blk wr w.heap.size 43 #[.string p.name, .int .i64 p.w, .int .i64 p.h, .slice A n c] ∧ Below w.heap.size w wr) (fun i _ => n - (intOf i).toNat)
      case atStart => exact ⟨0, by omega, rfl, HE.out, HX.out, HB1.out⟩
      case round =>
        obtain ⟨k, hk, rfl, hf, hb, hbel⟩ := hrel
        have HF := Lib.hid hf; clear hf c0 c1 c2 c3
        obtain ⟨c0, c1, c2, c3⟩ := box4 hb
        have HX2 := Lib.hid hb; have HB2 := Lib.hid hbel
        by_cases hlt : k < n
        · have hkl : k < p.l.length := by rw [HN.out]; exact hlt
          have hd := Lib.hid (firstF_drop (chk 1024) p.l k hkl)
          obtain ⟨ad, rfl, hbl, hc⟩ := (HR.out.below hbel).get (k := k) (u := .float .f32 (p.l.getD k 0)) (by simp [fl, List.getD, hkl])
          obtain ⟨b, hbb⟩ : ∃ b, p.l.getD k 0 = b := ⟨_, rfl⟩
          rw [hbb] at hc hd
          clear hb hbel hkl hbb
          go_wp2_with fail
          refine (checkSampleR_any _ _).mono ?_
          rintro e w2 ⟨rfl, hb2⟩
          have HX3 := Lib.hid (HX2.out.below hb2); have HB3 := Lib.hid (HB2.out.trans (hb2.mono HB2.out.size))
          clear hb2 c0 c1 c2 c3 hc HX2 HB2
          by_cases hz : chk 1024 b = 0
          · rw [hz]
            have HFN := Lib.hid (HF.out.trans (hd.out.trans (if_pos hz)))
            clear hz
            go_wp2
            go_roundw
            case rel => exact ⟨k + 1, by omega, by go_num, HFN.out, HX3.out, HB3.out⟩
            case measure => simp [intOf]; omega
          · have HFN := Lib.hid (HF.out.trans (hd.out.trans (if_neg hz)))
            obtain ⟨z, hze⟩ : ∃ z, chk 1024 b = z := ⟨_, rfl⟩
            rw [hze] at hz HFN ⊢
            have hz' : (z != 0) = true := by simpa using hz
            clear hze
            go_wp2
            go_ret
            exact ⟨ret_int HFN.out.symm, HB3.out⟩
        · have hkn : k = n := by omega
          subst hkn
          have HFN := Lib.hid (HF.out.trans (show firstF (chk 1024) (p.l.drop k) = 0 by rw [List.drop_of_length_le (by rw [HN.out]; exact Nat.le_refl _)]; rfl))
          clear hb hbel
          go_wp2
          go_ret
          exact ⟨ret_int HFN.out.symm, HB2.out⟩
    · have HE := Lib.hid (err_shape HZ.out (by rw [HN.out, show IntKind.i64.wrap (p.w * p.h) = wrap64 (p.w * p.h) from by unfold wrap64; exact IntKind.wrap_i64 _]; exact hsh))
      go_wp2
      go_ret
      exact ⟨ret_int HE.out.symm, HB1.out⟩
  · have HE := Lib.hid (err_head hz)
    obtain ⟨z, hze⟩ : ∃ z, p.head = z := ⟨_, rfl⟩
    rw [hze] at hz HE ⊢
    have hz' : (z != 0) = true := by simpa using hz
    clear hze
    go_wp2
    go_ret
    exact ⟨ret_int HE.out.symm, HB1.out⟩

end Go.Proofs.YtfgeokeankfplaaGreatDoor
namespace Go.Proofs.YtfgeokeankfplaaGreatDoor
open Go.RowKit
set_option linter.unusedVariables false
attribute [local go_sem] run_store_float run_store_complex
set_option maxRecDepth 100000
def sideB (x : Int) : Bool := decide (x ≤ 12) || decide (64 < x)
def shortB (p : Pic) : Bool := decide (p.name.size ≤ 40 ∧ p.l.length ≤ 160) && (sideB p.w && sideB p.h)
theorem short_facts {p : Pic} (h : shortB p = true) : p.name.size ≤ 40 ∧ p.l.length ≤ 160 := by unfold shortB at h; simp at h; exact h.1
set_option maxHeartbeats 1000000 in
theorem shortR_any (p : Pic) (A : Option Addr) (c : Nat) (w : World) :
    Calls Tryz.prog 28 #[p.val A c] w fun e w' => e = .returned (.bool (shortB p)) ∧ Below w.heap.size w w' := by
  unfold Pic.val shortB
  obtain ⟨n, hn⟩ : ∃ n, p.l.length = n := ⟨_, rfl⟩
  obtain ⟨m, hm⟩ : ∃ m, p.name.size = m := ⟨_, rfl⟩
  rw [hn, hm]
  have HM := Lib.hid hm
  clear hn
  go_enter Tryz.func28, Tryz.ntmps28
  go_upto_region 1 with fail
  have hbx := Blk.new w 43 #[.string p.name, .int .i64 p.w, .int .i64 p.h, .slice A n c]
  have hb0 : Below w.heap.size w (w.alloc (.cells #[.string p.name, .int .i64 p.w, .int .i64 p.h, .slice A n c] 43)) := (Below.refl _ _).alloc (Nat.le_refl _) _
  generalize w.alloc (.cells #[.string p.name, .int .i64 p.w, .int .i64 p.h, .slice A n c] 43) = w0 at hbx hb0 ⊢
  obtain ⟨c0, c1, c2, c3⟩ := box4 hbx
  have HB := Lib.hid hb0; clear hbx hb0
  by_cases h1 : (m : Int) ≤ 40
  · by_cases h2 : (n : Int) ≤ 160
    · by_cases h3 : p.w ≤ 12
      · by_cases h5 : p.h ≤ 12
        · go_wp2
          go_ret
          exact ⟨ret_bool (by simp [sideB]; omega), HB.out⟩
        · by_cases h6 : 64 < p.h
          all_goals
            go_wp2
            go_ret
            exact ⟨ret_bool (by simp [sideB]; omega), HB.out⟩
      · by_cases h4 : 64 < p.w
        · by_cases h5 : p.h ≤ 12
          · go_wp2
            go_ret
            exact ⟨ret_bool (by simp [sideB]; omega), HB.out⟩
          · by_cases h6 : 64 < p.h
            all_goals
              go_wp2
              go_ret
              exact ⟨ret_bool (by simp [sideB]; omega), HB.out⟩
        · go_wp2
          go_ret
          exact ⟨ret_bool (by simp [sideB]; omega), HB.out⟩
    · go_wp2
      go_ret
      exact ⟨ret_bool (by simp [sideB]; omega), HB.out⟩
  · go_wp2
    go_ret
    exact ⟨ret_bool (by simp [sideB]; omega), HB.out⟩

end Go.Proofs.YtfgeokeankfplaaGreatDoor
namespace Go.Proofs.YtfgeokeankfplaaGreatDoor
open Go.RowKit
set_option linter.unusedVariables false
attribute [local go_sem] run_store_float run_store_complex
set_option maxRecDepth 100000
theorem filled_any (nm : ByteArray) (a b n : Nat) (w : World) (hn : a * b = n) (hl : n ≤ 4096) : Calls Tryz.prog 115 #[.string nm, .int .i64 a, .int .i64 b] w fun e w' => ∃ g, e = .returned (.agg #[.string nm, .int .i64 a, .int .i64 b, .slice (some ⟨g, 0, none⟩) n n]) ∧ w.heap.size ≤ g ∧ Blk w' g 23 (fillN (fun _ => .float .f32 0) (.float .f32 0) n 0) ∧ Below w.heap.size w w' := by
  have hz : (a : Int) * (b : Int) = ((n : Nat) : Int) := by rw [← hn]; simp
  clear hn
  have hmk := fun W => Go.run_make_row' (P := Tryz.prog) 41 23 (.float .f32 0) 4 Tryz.underlying41 info_mapIF rfl .i64 .i64 n (by omega) (by omega) W
  go_enter Tryz.func115, Tryz.ntmps115
  go_wp2_with fail
  refine bodyPost_ret (v := .agg #[.string nm, .int .i64 a, .int .i64 b, .slice (some ⟨w.heap.size + 1, 0, none⟩) n n]) (by simp [results, Tryz.results115, go_sem]) rfl ⟨_, rfl, by omega, ?_, ?_⟩
  · rw [← fill_zero]; simpa using Blk.new (w.alloc _) 23 (madeCells #[.float .f32 0] n)
  · go_grown
theorem sampled_ok (nm : ByteArray) (W H : Nat) (n c : Nat) (l : List Nat) (hln : l.length = n) (ad : Addr) (x y k : Nat) (hk : y * W + x = k) (hkn : k < n) (hn : n ≤ 4096) (hW : W ≤ 64) (hy : y ≤ 64) (w : World) (hr : Rd w (some ad) (fl l)) :
    Calls Tryz.prog 35 #[.agg #[.string nm, .int .i64 (W : Int), .int .i64 (H : Int), .slice (some ad) n c], .int .i64 (x : Int), .int .i64 (y : Int)] w fun e w' => e = .returned (.float .f32 (l.getD k 0)) ∧ Below w.heap.size w w' := by
  have e1 : (y : Int) * (W : Int) + (x : Int) = (k : Int) := by rw [← hk]; simp
  have hq : y * W ≤ 4096 := Nat.le_trans (Nat.mul_le_mul hy hW) (by decide)
  obtain ⟨q, hqq⟩ : ∃ q : Nat, (y : Int) * (W : Int) = (q : Int) := ⟨y * W, by simp⟩
  have hq2 : (q : Int) ≤ 4096 := by have : (q : Int) = ((y * W : Nat) : Int) := by rw [← hqq]; simp
                                    omega
  rw [hqq] at e1
  obtain ⟨v, hv⟩ : ∃ v, l.getD k 0 = v := ⟨_, rfl⟩
  have hc := hr.get (k := k) (u := .float .f32 v) (by rw [← hv]; exact fl_get (by omega))
  obtain ⟨ad2, e2, hb, hc⟩ := hc
  cases e2
  rw [hv]
  have hkk : (k : Int) < (n : Int) := by omega
  have HK := Lib.hid hk
  clear hk hv hq hr
  go_enter Tryz.func35, Tryz.ntmps35
  go_upto_region 1 with fail
  have hbx := Blk.new w 43 #[.string nm, .int .i64 (W : Int), .int .i64 (H : Int), .slice (some ad) n c]
  have hb0 : Below w.heap.size w (w.alloc (.cells #[.string nm, .int .i64 (W : Int), .int .i64 (H : Int), .slice (some ad) n c] 43)) := (Below.refl _ _).alloc (Nat.le_refl _) _
  have hc0 := (hb0.cell (p := ad.add k) (by rw [block_of_add]; exact hb)).trans hc
  generalize w.alloc (.cells #[.string nm, .int .i64 (W : Int), .int .i64 (H : Int), .slice (some ad) n c] 43) = w0 at hbx hb0 hc0 ⊢
  obtain ⟨c0, c1, c2, c3⟩ := box4 hbx
  have HB := Lib.hid hb0; clear hbx hb0 hc hb
  go_wp2
  go_ret
  exact ⟨rfl, HB.out⟩

end Go.Proofs.YtfgeokeankfplaaGreatDoor
namespace Go.Proofs.YtfgeokeankfplaaGreatDoor
open Go.RowKit
set_option linter.unusedVariables false
attribute [local go_sem] run_store_float run_store_complex
set_option maxRecDepth 100000
theorem sx_drew {g : Nat} {w0 w : World} (h : SX g w0 w) : SX g w0 w.drew := h
theorem sx_set {g : Nat} {w0 w : World} (h : SX g w0 w) (k : Nat) (u : Value) : SX g w0 (w.setCell ⟨g, k, none⟩ u) :=
  ⟨by simpa using h.1, fun b o hb hn => (World.cell?_of_block (w := w) (Below.heap_setCell w ⟨g, k, none⟩ u b hn)).trans (h.2 b o hb hn)⟩
def rowD (M y x i : Nat) : Bool := decide (i < y * M + x)
theorem rowD_step (M y x n i : Nat) : rowD M y (x + 1) i = (rowD M y x i || decide (i = y * M + x)) := by
  unfold rowD; rw [Bool.eq_iff_iff]; simp; omega
theorem rowD_next (M y i : Nat) : rowD M y M i = rowD M (y + 1) 0 i := by
  unfold rowD; rw [Nat.add_mul]; simp
theorem flipF_row (l : List Nat) (W y x : Nat) (hx : x < W) : flipF l W (y * W + x) = .float .f32 (l.getD (y * W + (W - 1 - x)) 0) := by
  unfold flipF
  have h1 : (y * W + x) / W = y := by rw [Nat.mul_comm, Nat.mul_add_div (by omega), Nat.div_eq_of_lt hx, Nat.add_zero]
  have h2 : (y * W + x) % W = x := by rw [Nat.mul_comm, Nat.mul_add_mod, Nat.mod_eq_of_lt hx]
  rw [h1, h2]
end Go.Proofs.YtfgeokeankfplaaGreatDoor
namespace Go.Proofs.YtfgeokeankfplaaGreatDoor
open Go.RowKit
set_option linter.unusedVariables false
set_option maxRecDepth 100000
theorem first_z (A : Option Addr) (c n : Nat) (es : List Int) (w : World) (hn : es.length = n) (hl : n ≤ maxLen) (hr : Rd w A (es.map (.int .i64))) (z : Int) (hz : firstE es = z) :
    Calls Tryz.prog 97 #[.slice A n c] w fun e' w' => e' = .returned (.int .i64 z) ∧ w = w' := by
  rw [← hz]; exact first_n A c n es w hn hl hr
def atErr (p : Pic) (x y : Int) : Int := firstE [p.err, errIf (decide (x < 0) || decide (p.w ≤ x)) 10, errIf (decide (y < 0) || decide (p.h ≤ y)) 10]
theorem at_err (p : Pic) (x y : Int) (A : Option Addr) (c : Nat) (w : World) (hs : p.name.size ≤ maxLen) (hl : p.l.length ≤ maxLen) (hr : Rd w A (fl p.l)) (z : Int) (he : atErr p x y = z) (hz : z ≠ 0) :
    Calls Tryz.prog 29 #[p.val A c, .int .i64 x, .int .i64 y] w fun e w' => e = .returned (.tuple #[.float .f32 0, .int .i64 z]) ∧ Below w.heap.size w w' := by
  have hcp := fun w hr => checkPicture_any p A c w hs hl hr
  unfold atErr at he
  have HE := Lib.hid he
  clear he
  unfold Pic.val at hcp ⊢
  obtain ⟨n, hn⟩ : ∃ n, p.l.length = n := ⟨_, rfl⟩
  rw [hn] at hcp ⊢
  clear hn hl
  have HCP := Lib.hid hcp; have HR := Lib.hid hr
  have hz' : (z != 0) = true := by simpa using hz
  clear hcp hr
  go_enter Tryz.func29, Tryz.ntmps29
  go_wp2_with fail
  have hx0 := Blk.new w 50 #[.string p.name, .int .i64 p.w, .int .i64 p.h, .slice A n c]
  have hb0 := (Below.refl w.heap.size w).alloc (Nat.le_refl _) (.cells #[.string p.name, .int .i64 p.w, .int .i64 p.h, .slice A n c] 50)
  generalize w.alloc (.cells #[.string p.name, .int .i64 p.w, .int .i64 p.h, .slice A n c] 50) = w0 at hx0 hb0 ⊢
  have HX := Lib.hid hx0
  have HB := Lib.hid hb0
  clear hx0 hb0
  refine (HCP.out _ (by exact HR.out.below HB.out)).mono ?_
  rintro e w1 ⟨rfl, hb1⟩
  replace HX := Lib.hid (HX.out.below hb1)
  replace HB := Lib.hid (HB.out.trans (hb1.mono HB.out.size))
  obtain ⟨c0, c1, c2, c3⟩ := box4 HX.out
  clear hb1
  by_cases hx0 : x < 0 <;> by_cases hy0 : y < 0
  all_goals
    go_wp2_with fail
    refine (errorIf_any _ _ _).mono ?_
    rintro e wn ⟨rfl, rfl⟩
    go_wp2_with fail
    refine (errorIf_any _ _ _).mono ?_
    rintro e wn ⟨rfl, rfl⟩
    go_wp2_with fail
    refine (first_z _ _ _ [_, _, _] _ rfl (by simp [maxLen]) (by exact rd_of_blk (Blk.new _ _ _) rfl) z (by first | exact HE.out | simpa [hx0, hy0] using HE.out)).mono ?_
    rintro e wn ⟨rfl, rfl⟩
    clear c0 c1 c2 c3
    go_wp2
    exact bodyPost_ret (v := .tuple #[.float .f32 0, .int .i64 z]) (by simp [results, Tryz.results29, go_sem]) rfl ⟨rfl, HB.out.alloc HB.out.size _⟩
def cropErr (p : Pic) (a b a' b' : Int) : Int := firstE [p.err, errIf (decide (a < 0) || decide (b ≤ a) || decide (p.w < b)) 14, errIf (decide (a' < 0) || decide (b' ≤ a') || decide (p.h < b')) 14]
theorem box2 {w : World} {g : Nat} {t : TypeId} {a b : Value} (h : Blk w g t #[a, b]) : w.cell? ⟨g, 0, none⟩ = some a ∧ w.cell? ⟨g, 1, none⟩ = some b := ⟨h.cell 0, h.cell 1⟩
set_option maxHeartbeats 1000000 in
theorem cropped_err (p : Pic) (a b a' b' : Int) (A : Option Addr) (c : Nat) (w : World) (hs : p.name.size ≤ maxLen) (hl : p.l.length ≤ maxLen) (hr : Rd w A (fl p.l)) (z : Int) (he : cropErr p a b a' b' = z) (hz : z ≠ 0) :
    Calls Tryz.prog 31 #[p.val A c, .agg #[.int .i64 a, .int .i64 b], .agg #[.int .i64 a', .int .i64 b']] w fun e w' => e = .returned (.tuple #[.agg #[.string ⟨#[]⟩, .int .i64 0, .int .i64 0, .slice none 0 0], .int .i64 z]) ∧ Below w.heap.size w w' := by
  have hcp := fun w hr => checkPicture_any p A c w hs hl hr
  unfold cropErr at he
  have HE := Lib.hid he
  clear he
  unfold Pic.val at hcp ⊢
  obtain ⟨n, hn⟩ : ∃ n, p.l.length = n := ⟨_, rfl⟩
  rw [hn] at hcp ⊢
  clear hn hl
  have HCP := Lib.hid hcp; have HR := Lib.hid hr
  have hz' : (z != 0) = true := by simpa using hz
  clear hcp hr
  go_enter Tryz.func31, Tryz.ntmps31
  go_wp2_with fail
  have hx0 := (((Blk.new w 50 #[.string p.name, .int .i64 p.w, .int .i64 p.h, .slice A n c]).alloc (.cells #[.int .i64 a, .int .i64 b] 47)).alloc (.cells #[.int .i64 a', .int .i64 b'] 47)).alloc (.cells #[.string ⟨#[]⟩, .int .i64 0, .int .i64 0, .slice none 0 0] 50)
  have hx1 := ((Blk.new (w.alloc (.cells #[.string p.name, .int .i64 p.w, .int .i64 p.h, .slice A n c] 50)) 47 #[.int .i64 a, .int .i64 b]).alloc (.cells #[.int .i64 a', .int .i64 b'] 47)).alloc (.cells #[.string ⟨#[]⟩, .int .i64 0, .int .i64 0, .slice none 0 0] 50)
  have hx2 := (Blk.new ((w.alloc (.cells #[.string p.name, .int .i64 p.w, .int .i64 p.h, .slice A n c] 50)).alloc (.cells #[.int .i64 a, .int .i64 b] 47)) 47 #[.int .i64 a', .int .i64 b']).alloc (.cells #[.string ⟨#[]⟩, .int .i64 0, .int .i64 0, .slice none 0 0] 50)
  have hx3 := Blk.new (((w.alloc (.cells #[.string p.name, .int .i64 p.w, .int .i64 p.h, .slice A n c] 50)).alloc (.cells #[.int .i64 a, .int .i64 b] 47)).alloc (.cells #[.int .i64 a', .int .i64 b'] 47)) 50 #[.string ⟨#[]⟩, .int .i64 0, .int .i64 0, .slice none 0 0]
  simp only [World.size_alloc] at hx1 hx2 hx3
  have hb0 := ((((Below.refl w.heap.size w).alloc (Nat.le_refl _) (.cells #[.string p.name, .int .i64 p.w, .int .i64 p.h, .slice A n c] 50)).alloc (by simp only [World.size_alloc]; omega) (.cells #[.int .i64 a, .int .i64 b] 47)).alloc (by simp only [World.size_alloc]; omega) (.cells #[.int .i64 a', .int .i64 b'] 47)).alloc (by simp only [World.size_alloc]; omega) (.cells #[.string ⟨#[]⟩, .int .i64 0, .int .i64 0, .slice none 0 0] 50)
  generalize ((((w.alloc (.cells #[.string p.name, .int .i64 p.w, .int .i64 p.h, .slice A n c] 50)).alloc (.cells #[.int .i64 a, .int .i64 b] 47)).alloc (.cells #[.int .i64 a', .int .i64 b'] 47)).alloc (.cells #[.string ⟨#[]⟩, .int .i64 0, .int .i64 0, .slice none 0 0] 50)) = w0 at hx0 hx1 hx2 hx3 hb0 ⊢
  obtain ⟨c0, c1, c2, c3⟩ := box4 hx0
  obtain ⟨s0, s1⟩ := box2 hx1
  obtain ⟨t0, t1⟩ := box2 hx2
  have z0 := hx0.lt; have z1 := hx1.lt; have z2 := hx2.lt; have z3 := hx3.lt
  have HY := Lib.hid hx3; have HB := Lib.hid hb0; clear hx0 hx1 hx2 hx3 hb0
  go_region_held3 (SK w0)
    (first | exact sk_drew0 _ | exact sk_drew (by assumption) | assumption | exact sk_call (by assumption) (by assumption) | exact sk_alloc (by assumption) _)
    (first
      | (go_at_call 37; refine (HCP.out _ (HR.out.below (HB.out.trans ((And.left (by assumption : SK w0 _)).mono HB.out.size)))).mono ?_; rintro e wn ⟨rfl, hbn⟩; have hch := sk_call (w0 := w0) (by assumption) hbn)
      | (go_at_call 111; refine (spanError_any _ _ _ _).mono ?_; rintro e wn ⟨rfl, hbn⟩; have hch := sk_call (w0 := w0) (by assumption) hbn)
      | (go_at_call 97; refine (first_n _ _ _ [_, _, _] _ rfl (by simp [maxLen]) (by exact rd_of_blk (Blk.new _ _ _) rfl)).mono ?_; rintro e wn ⟨rfl, rfl⟩))
  rw [HE.out]
  have hch2 := sk_alloc hch (.cells #[.int .i64 p.err, .int .i64 (errIf (decide (a < 0) || decide (b ≤ a) || decide (p.w < b)) 14), .int .i64 (errIf (decide (a' < 0) || decide (b' ≤ a') || decide (p.h < b')) 14)] 26)
  generalize wn.alloc (.cells #[.int .i64 p.err, .int .i64 (errIf (decide (a < 0) || decide (b ≤ a) || decide (p.w < b)) 14), .int .i64 (errIf (decide (a' < 0) || decide (b' ≤ a') || decide (p.h < b')) 14)] 26) = w2 at hch2 ⊢
  have hy := HY.out.below hch2.1
  have HB1 := Lib.hid (HB.out.trans (hch2.1.mono HB.out.size))
  clear c0 c1 c2 c3 s0 s1 t0 t1 HY HB HCP HR hch2 hch hbn z0 z1 z2 z3 HE
  have z1 := hy.lt
  have f0 := hy.frozen 0; have f1 := hy.frozen 1; have f2 := hy.frozen 2; have f3 := hy.frozen 3
  obtain ⟨d0, d1, d2, d3⟩ := box4 hy
  have hyy := Lib.hid (show Blk ((((w2.setCell ⟨w.heap.size + 1 + 1 + 1, 0, none⟩ (.string ⟨#[]⟩)).setCell ⟨w.heap.size + 1 + 1 + 1, 1, none⟩ (.int .i64 0)).setCell ⟨w.heap.size + 1 + 1 + 1, 2, none⟩ (.int .i64 0)).setCell ⟨w.heap.size + 1 + 1 + 1, 3, none⟩ (.slice none 0 0)) (w.heap.size + 1 + 1 + 1) 50 #[.string ⟨#[]⟩, .int .i64 0, .int .i64 0, .slice none 0 0] from (((hy.set_ 0 _).set_ 1 _).set_ 2 _).set_ 3 _)
  clear hy
  go_wp2
  obtain ⟨r0, r1, r2, r3⟩ := box4 hyy.out
  exact bodyPost_ret (v := .tuple #[.agg #[.string ⟨#[]⟩, .int .i64 0, .int .i64 0, .slice none 0 0], .int .i64 z]) (by simp [results, Tryz.results31, go_sem, r0, r1, r2, r3]) rfl ⟨rfl, below_set4 HB1.out (by omega) _ _ _ _⟩
end Go.Proofs.YtfgeokeankfplaaGreatDoor
