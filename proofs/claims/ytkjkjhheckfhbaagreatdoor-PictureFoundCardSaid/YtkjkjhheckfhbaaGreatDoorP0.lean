/- Parts of a proof: A block filled in an open order; rows in a block. The flipped picture. A copy into a block that is being filled. -/
import Derived.Test.YtkjkjhheckfhbaaGreatDoorI
import Derived.Laws.CopyOwn
namespace Go.Proofs.YtkjkjhheckfhbaaGreatDoor
open Go.RowKit
set_option linter.unusedVariables false
def maskN (f : Nat → Value) (z : Value) (n : Nat) (D : Nat → Bool) : Array Value := (Array.range n).map (fun i => if D i then f i else z)
theorem mask_get (f : Nat → Value) (z : Value) (n : Nat) (D : Nat → Bool) (i : Nat) : (maskN f z n D)[i]? = if i < n then some (if D i then f i else z) else none := by
  unfold maskN
  by_cases hi : i < n <;> simp [hi]
theorem mask_set (f : Nat → Value) (z : Value) (n : Nat) (D D' : Nat → Bool) (k : Nat) (h : ∀ i, i < n → D' i = (D i || decide (i = k))) : (maskN f z n D).setIfInBounds k (f k) = maskN f z n D' := by
  apply Array.ext_getElem?
  intro i
  rw [Array.getElem?_setIfInBounds, mask_get, mask_get]
  have hsz : (maskN f z n D).size = n := by simp [maskN]
  by_cases hi : i < n
  · rw [if_pos hi, if_pos hi, h i hi]
    by_cases e : k = i
    · subst e; simp [hsz, hi]
    · have e' : ¬ i = k := fun h => e h.symm
      simp [e, e']
  · rw [if_neg hi, if_neg hi]
    by_cases e : k = i
    · subst e; simp [hsz, hi]
    · simp [e]
theorem mask_congr (f g : Nat → Value) (z : Value) (n : Nat) (D D' : Nat → Bool) (h : ∀ i, i < n → D i = D' i) (hf : ∀ i, i < n → D i = true → f i = g i) : maskN f z n D = maskN g z n D' := by
  apply Array.ext_getElem?
  intro i
  rw [mask_get, mask_get]
  by_cases hi : i < n
  · rw [if_pos hi, if_pos hi, ← h i hi]
    cases hD : D i
    · rfl
    · simp [hf i hi hD]
  · rw [if_neg hi, if_neg hi]
theorem fill_mask (f : Nat → Value) (z : Value) (n k : Nat) : fillN f z n k = maskN f z n (fun i => decide (i < k)) := by
  unfold fillN maskN
  congr 1
  funext i
  simp
theorem rd_mask {w : World} {g : Nat} {t : TypeId} {f : Nat → Value} {z : Value} {n : Nat} {D : Nat → Bool} (h : Blk w g t (maskN f z n D)) (hD : ∀ i, i < n → D i = true) {xs : List Value} (hx : xs.length = n) (hf : ∀ i, i < n → xs[i]? = some (f i)) : Rd w (some ⟨g, 0, none⟩) xs := fun _ =>
  ⟨_, rfl, h.lt, fun j u hu => by
    have hj : j < n := by have := (List.getElem?_eq_some_iff.1 hu).1; omega
    have h1 := h.cell j
    rw [mask_get, if_pos hj, hD j hj, if_pos rfl, ← hf j hj, hu] at h1
    unfold Addr.add
    split
    · rename_i h0; subst h0; exact h1
    · simpa using h1⟩
theorem add_blk (g o : Nat) : (⟨g, 0, none⟩ : Addr).add o = ⟨g, o, none⟩ := by
  unfold Addr.add
  split
  · rename_i h; subst h; rfl
  · simp
theorem row_blk (nm : ByteArray) (W H n c o g : Nat) (y : Nat) (w : World) (hW : 1 ≤ W) (ho : y * W = o) (hn : o + W ≤ n) (hc : n ≤ c) (hc2 : n ≤ 4096) (hy : y ≤ 4096) :
    Calls Tryz.prog 109 #[.agg #[.string nm, .int .i64 W, .int .i64 H, .slice (some ⟨g, 0, none⟩) n c], .int .i64 y] w fun e w' => e = .returned (.slice (some ⟨g, o, none⟩) W (c - o)) ∧ Below w.heap.size w w' := by
  have h := row_any nm W H n c o ⟨g, 0, none⟩ y w hW ho hn hc hc2 hy
  rw [add_blk] at h
  exact h
theorem Rd.some_ {w : World} {A : Option Addr} {xs : List Value} (h : Rd w A xs) (h0 : 0 < xs.length) : ∃ ad, A = some ad ∧ ad.block < w.heap.size ∧ ∀ j u, xs[j]? = some u → w.cell? (ad.add j) = some u := h h0
theorem fl_get {l : List Nat} {j : Nat} (h : j < l.length) : (fl l)[j]? = some (.float .f32 (l.getD j 0)) := by simp [fl, List.getD, h]
theorem prod_pos {W H : Nat} (hW : 1 ≤ W) (hH : 1 ≤ H) : 1 ≤ W * H := Nat.mul_pos hW hH
theorem row_le {y W H : Nat} (hy : y < H) : y * W + W ≤ W * H := by
  have : (y + 1) * W ≤ H * W := Nat.mul_le_mul_right W (by omega)
  rw [Nat.add_mul, Nat.one_mul] at this
  rw [Nat.mul_comm W H]
  exact this

end Go.Proofs.YtkjkjhheckfhbaaGreatDoor
namespace Go.Proofs.YtkjkjhheckfhbaaGreatDoor
open Go.RowKit
set_option linter.unusedVariables false
attribute [local go_sem] run_store_float run_store_complex
theorem chainB {wo w1 w2 : World} (h : Below wo.heap.size wo w1) (k : Below w1.heap.size w1 w2) : Below wo.heap.size wo w2 := h.trans (k.mono h.size)
def flipF (l : List Nat) (W : Nat) (i : Nat) : Value := .float .f32 (l.getD (i / W * W + (W - 1 - i % W)) 0)
theorem flipF_at (l : List Nat) (W y x : Nat) (hx : x < W) : flipF l W (y * W + (W - 1 - x)) = .float .f32 (l.getD (y * W + x) 0) := by
  have h1 : (y * W + (W - 1 - x)) / W = y := by rw [Nat.mul_comm, Nat.mul_add_div (by omega), Nat.div_eq_of_lt (by omega)]; rfl
  have h2 : (y * W + (W - 1 - x)) % W = W - 1 - x := by rw [Nat.mul_comm, Nat.mul_add_mod, Nat.mod_eq_of_lt (by omega)]
  unfold flipF
  rw [h1, h2]
  congr 2
  omega
def flipD (W y x : Nat) (i : Nat) : Bool := decide (i < y * W) || (decide (i < y * W + W) && decide (y * W + W ≤ i + x))
set_option maxRecDepth 100000 in
theorem flipped_ok (nm : ByteArray) (W H : Nat) (l : List Nat) (hp : (Pic.mk nm W H l).Ok) (he : (Pic.mk nm W H l).err = 0) (A : Option Addr) (c : Nat) (w : World) (hs : nm.size ≤ maxLen) (hl : l.length ≤ maxLen) (hcap : l.length ≤ c) (hr : Rd w A (fl l)) :
    Calls Tryz.prog 46 #[.agg #[.string nm, .int .i64 (W : Int), .int .i64 (H : Int), .slice A l.length c]] w fun e w' => ∃ g, e = .returned (.tuple #[.agg #[.string nm, .int .i64 W, .int .i64 H, .slice (some ⟨g, 0, none⟩) l.length l.length], .int .i64 0]) ∧ Blk w' g 23 (maskN (flipF l W) (.float .f32 0) l.length (fun _ => true)) ∧ Below w.heap.size w w' := by
  have HR := Lib.hid hr; have HP := Lib.hid hp; have HE := Lib.hid he
  have hW : 1 ≤ W ∧ W ≤ 64 := by have h1 := hp.w1; have h2 := hp.w2; simp at h1 h2; omega
  have hH : 1 ≤ H ∧ H ≤ 64 := by have h1 := hp.h1; have h2 := hp.h2; simp at h1 h2; omega
  have hlen : l.length = W * H := by have h1 := hp.len; simp only [] at h1; exact_mod_cast h1
  have hbig : l.length ≤ 4096 := hp.big
  have HLEN := Lib.hid hlen
  clear hr hp he hlen
  have hcp := fun w hr => checkPicture_any (Pic.mk nm W H l) A c w hs hl hr
  rw [HE.out] at hcp
  simp only [Pic.val] at hcp
  have HCP := Lib.hid hcp; clear hcp
  go_enter Tryz.func46, Tryz.ntmps46
  go_wp2_with fail
  have hbx := (Blk.new w 50 #[.string nm, .int .i64 (W : Int), .int .i64 (H : Int), .slice A l.length c]).alloc (.cells #[.string ⟨#[]⟩, .int .i64 0, .int .i64 0, .slice none 0 0] 50)
  have hby := Blk.new (w.alloc (.cells #[.string nm, .int .i64 (W : Int), .int .i64 (H : Int), .slice A l.length c] 50)) 50 #[.string ⟨#[]⟩, .int .i64 0, .int .i64 0, .slice none 0 0]
  have hb0 : Below w.heap.size w ((w.alloc (.cells #[.string nm, .int .i64 (W : Int), .int .i64 (H : Int), .slice A l.length c] 50)).alloc (.cells #[.string ⟨#[]⟩, .int .i64 0, .int .i64 0, .slice none 0 0] 50)) := ((Below.refl _ _).alloc (Nat.le_refl _) _).alloc (by simp) _
  simp only [World.size_alloc] at hby
  generalize (w.alloc (.cells #[.string nm, .int .i64 (W : Int), .int .i64 (H : Int), .slice A l.length c] 50)).alloc (.cells #[.string ⟨#[]⟩, .int .i64 0, .int .i64 0, .slice none 0 0] 50) = w0 at hbx hby hb0 ⊢
  have HB0 := Lib.hid hb0; have HX0 := Lib.hid hbx; have HY0 := Lib.hid hby; clear hb0 hbx hby
  refine (HCP.out _ (by exact HR.out.below HB0.out)).mono ?_
  rintro e w1 ⟨rfl, hb1⟩
  have HX1 := Lib.hid (HX0.out.below hb1); have HY1 := Lib.hid (HY0.out.below hb1)
  obtain ⟨c0, c1, c2, c3⟩ := box4 HX1.out
  have HB1 := Lib.hid (HB0.out.trans (hb1.mono HB0.out.size)); clear hb1
  go_wp2_with fail
  refine (blank_any nm W H (l.length) _ HLEN.out.symm hbig).mono ?_
  rintro e w2 ⟨g, rfl, hg, hgb, hb2⟩
  have HX2 := Lib.hid (HX1.out.below hb2); have HY2 := Lib.hid (HY1.out.below hb2); have HG2 := Lib.hid hgb
  have HB2 := Lib.hid (HB1.out.trans (hb2.mono HB1.out.size))
  have hz2 : w.heap.size + 1 < w2.heap.size := HY2.out.lt
  have hz1 : w.heap.size < w2.heap.size := HX2.out.lt
  have hg2 : w.heap.size + 1 < g := Nat.lt_of_lt_of_le HY1.out.lt hg
  have hzg : g < w2.heap.size := HG2.out.lt
  clear hb2 hgb c0 c1 c2 c3
  obtain ⟨c0, c1, c2, c3⟩ := box4 HX2.out
  go_wp2_with fail
  have hx3 := HX2.out.alloc (.cells #[.string nm, .int .i64 (W : Int), .int .i64 (H : Int), .slice (some ⟨g, 0, none⟩) (l.length) (l.length)] 50)
  have hy3 := HY2.out.alloc (.cells #[.string nm, .int .i64 (W : Int), .int .i64 (H : Int), .slice (some ⟨g, 0, none⟩) (l.length) (l.length)] 50)
  have hg3 := HG2.out.alloc (.cells #[.string nm, .int .i64 (W : Int), .int .i64 (H : Int), .slice (some ⟨g, 0, none⟩) (l.length) (l.length)] 50)
  have hf3 := Blk.new w2 50 #[.string nm, .int .i64 (W : Int), .int .i64 (H : Int), .slice (some ⟨g, 0, none⟩) (l.length) (l.length)]
  have hb3 := HB2.out.alloc HB2.out.size (.cells #[.string nm, .int .i64 (W : Int), .int .i64 (H : Int), .slice (some ⟨g, 0, none⟩) (l.length) (l.length)] 50)
  clear c0 c1 c2 c3
  obtain ⟨b3, hb3e⟩ : ∃ b, w2.heap.size = b := ⟨_, rfl⟩
  rw [hb3e] at hf3 hz1 hz2 hzg ⊢
  clear hb3e
  generalize w2.alloc (.cells #[.string nm, .int .i64 (W : Int), .int .i64 (H : Int), .slice (some ⟨g, 0, none⟩) (l.length) (l.length)] 50) = w3 at hx3 hy3 hg3 hf3 hb3 ⊢
  have HX3 := Lib.hid hx3; have HY3 := Lib.hid hy3; have HG3 := Lib.hid hg3; have HF3 := Lib.hid hf3; have HB3 := Lib.hid hb3
  clear hx3 hy3 hg3 hf3 hb3 HX2 HY2 HG2 HB2 HX1 HY1 HB1 HX0 HY0 HB0
  have hpos : 0 < (fl l).length := by have := prod_pos hW.1 hH.1; simp [fl]; have := HLEN.out; omega
  obtain ⟨ad, rfl, hadb, hadc⟩ := HR.out.some_ hpos
  have HAD := Lib.hid hadc; clear hadc
  go_loopw [25] (fun i wr => ∃ y : Nat, y ≤ H ∧ i = .int .i64 y ∧ Blk wr w.heap.size 50 #[.string nm, .int .i64 (W : Int), .int .i64 (H : Int), .slice (some ad) l.length c] ∧ Blk wr (w.heap.size + 1) 50 #[.string ⟨#[]⟩, .int .i64 0, .int .i64 0, .slice none 0 0] ∧ Blk wr b3 50 #[.string nm, .int .i64 (W : Int), .int .i64 (H : Int), .slice (some ⟨g, 0, none⟩) (l.length) (l.length)] ∧ Blk wr g 23 (maskN (flipF l W) (.float .f32 0) l.length (fun i => decide (i < y * W))) ∧ Below w.heap.size w wr) (fun i _ => H - (intOf i).toNat)
  case atStart =>
    refine ⟨0, by omega, rfl, HX3.out, HY3.out, HF3.out, ?_, HB3.out⟩
    have h := HG3.out
    rw [fill_mask, mask_congr (fun _ => .float .f32 0) (flipF l W) _ _ _ (fun i => decide (i < 0 * W)) (by simp) (by simp)] at h
    exact h
  case round =>
    obtain ⟨y, hy, rfl, hx, hyy, hf, hgm, hbel⟩ := hrel
    obtain ⟨wo, rfl⟩ : ∃ wo : World, wo = wr := ⟨_, rfl⟩
    by_cases hlt : y < H
    · have hro := row_le (W := W) hlt
      obtain ⟨o, ho⟩ : ∃ o, y * W = o := ⟨_, rfl⟩
      have hol : o + W ≤ l.length := by rw [← ho, HLEN.out]; exact hro
      have HO := Lib.hid ho; clear ho hro
      obtain ⟨c0, c1, c2, c3⟩ := box4 hx
      obtain ⟨d0, d1, d2, d3⟩ := box4 hf
      have HX := Lib.hid hx; have HY := Lib.hid hyy; have HF := Lib.hid hf; have HG := Lib.hid hgm; have HB := Lib.hid hbel
      clear hx hyy hf hgm hbel
      go_wp2_with fail
      go_region_held3 (fun w' => w'.cell? ⟨w.heap.size, 0, none⟩ = some (.string nm) ∧ w'.cell? ⟨w.heap.size, 1, none⟩ = some (.int .i64 W) ∧ w'.cell? ⟨w.heap.size, 2, none⟩ = some (.int .i64 H) ∧ w'.cell? ⟨w.heap.size, 3, none⟩ = some (.slice (some ad) l.length c) ∧ w'.cell? ⟨b3, 0, none⟩ = some (.string nm) ∧ w'.cell? ⟨b3, 1, none⟩ = some (.int .i64 W) ∧ w'.cell? ⟨b3, 2, none⟩ = some (.int .i64 H) ∧ w'.cell? ⟨b3, 3, none⟩ = some (.slice (some ⟨g, 0, none⟩) l.length l.length))
        (go_keep)
        (first | (go_at_call 109; refine (row_any _ _ _ _ _ o _ y _ hW.1 HO.out hol (by first | exact hcap | exact Nat.le_refl _) hbig (by omega)).mono ?_; rintro e wn ⟨rfl, hbn⟩; have hch := chainB (wo := wo) (by first | assumption | exact Below.refl _ _ | exact (Below.refl _ _).drew) hbn; have k0 := cellL hbn (a := ⟨w.heap.size, 0, none⟩) (v := .string nm) (by assumption); have k1 := cellL hbn (a := ⟨w.heap.size, 1, none⟩) (v := .int .i64 W) (by assumption); have k2 := cellL hbn (a := ⟨w.heap.size, 2, none⟩) (v := .int .i64 H) (by assumption); have k3 := cellL hbn (a := ⟨w.heap.size, 3, none⟩) (v := .slice (some ad) l.length c) (by assumption); have m0 := cellL hbn (a := ⟨b3, 0, none⟩) (v := .string nm) (by assumption); have m1 := cellL hbn (a := ⟨b3, 1, none⟩) (v := .int .i64 W) (by assumption); have m2 := cellL hbn (a := ⟨b3, 2, none⟩) (v := .int .i64 H) (by assumption); have m3 := cellL hbn (a := ⟨b3, 3, none⟩) (v := .slice (some ⟨g, 0, none⟩) l.length l.length) (by assumption)))
      clear c0 c1 c2 c3 d0 d1 d2 d3 m0 m1 m2 m3
      have HX4 := Lib.hid (HX.out.below hch); have HY4 := Lib.hid (HY.out.below hch); have HF4 := Lib.hid (HF.out.below hch); have HG4 := Lib.hid (HG.out.below hch)
      have HB4 := Lib.hid (HB.out.trans (hch.mono HB.out.size))
      clear hch hbn
      go_wp2
      obtain ⟨w5, hw5⟩ : ∃ w5 : World, w5 = wn := ⟨_, rfl⟩
      subst hw5
      go_loopw [36] (fun i wr => ∃ x : Nat, x ≤ W ∧ i = .int .i64 x ∧ Blk wr w.heap.size 50 #[.string nm, .int .i64 (W : Int), .int .i64 (H : Int), .slice (some ad) l.length c] ∧ Blk wr (w.heap.size + 1) 50 #[.string ⟨#[]⟩, .int .i64 0, .int .i64 0, .slice none 0 0] ∧ Blk wr b3 50 #[.string nm, .int .i64 (W : Int), .int .i64 (H : Int), .slice (some ⟨g, 0, none⟩) (l.length) (l.length)] ∧ Blk wr g 23 (maskN (flipF l W) (.float .f32 0) l.length (flipD W y x)) ∧ Below w.heap.size w wr) (fun i _ => W - (intOf i).toNat)
      case atStart =>
        refine ⟨0, by omega, rfl, HX4.out, HY4.out, HF4.out, ?_, HB4.out⟩
        have h := HG4.out
        rw [mask_congr (flipF l W) (flipF l W) _ _ _ (flipD W y 0) (fun i hi => by unfold flipD; rw [Bool.eq_iff_iff]; simp; omega) (fun _ _ _ => rfl)] at h
        exact h
      case round =>
        obtain ⟨x, hxW, rfl, hx, hyy, hf, hgm, hbel⟩ := hrel
        by_cases hxl : x < W
        · obtain ⟨j, hj⟩ : ∃ j, W - 1 - x = j := ⟨_, rfl⟩
          have hj' : x + j + 1 = W := by omega
          have e0 : IntKind.i64.wrap ((W : Int) - 1) = (W : Int) - 1 := IntWalk.i64_in _ (by omega)
          have e1 : IntKind.i64.wrap ((W : Int) - 1 - (x : Int)) = (j : Int) := by rw [IntWalk.i64_in _ (by omega)]; omega
          have e2 : (0 : Int) ≤ (j : Int) := by omega
          have e3 : (j : Int) < (W : Int) := by omega
          have e4 : (0 : Int) ≤ (x : Int) := by omega
          have e5 : (x : Int) < (W : Int) := by omega
          obtain ⟨c0, c1, c2, c3⟩ := box4 hx
          obtain ⟨v, hv⟩ : ∃ v, l.getD (o + x) 0 = v := ⟨_, rfl⟩
          have hc : wr.cell? ((ad.add o).add x) = some (.float .f32 v) := by
            rw [add_of_add, ← hv]
            refine (hbel.cell (by rw [block_of_add]; exact hadb)).trans (HAD.out _ _ (fl_get (by omega)))
          have hgc := hgm.cell (o + j)
          rw [mask_get, if_pos (by omega)] at hgc
          have hgf := hgm.frozen (o + j)
          have hset := hgm.set_ (o + j) (.float .f32 v)
          have hfa := flipF_at l W y x hxl
          rw [HO.out, hj, hv] at hfa
          rw [← hfa, mask_set (flipF l W) _ _ _ (flipD W y (x + 1)) (o + j) (fun i hi => by unfold flipD; rw [HO.out, Bool.eq_iff_iff]; simp; omega)] at hset
          generalize hvo : (if flipD W y x (o + j) = true then flipF l W (o + j) else Value.float .f32 0) = vo at hgc
          have HS := Lib.hid hset; have HFA := Lib.hid hfa
          have HX5 := Lib.hid hx; have HY5 := Lib.hid hyy; have HF5 := Lib.hid hf; have HB5 := Lib.hid hbel
          clear hx hyy hf hgm hbel hset hfa hvo hj hv
          go_wp2
          go_region
          go_wp2
          go_roundw
          case rel =>
            refine ⟨x + 1, by omega, by go_num, (HX5.out.far (p := ⟨g, o + j, none⟩) (by simp; omega) _), (HY5.out.far (p := ⟨g, o + j, none⟩) (by simp; omega) _), (HF5.out.far (p := ⟨g, o + j, none⟩) (by simp; omega) _), ?_, (HB5.out.setCell (p := ⟨g, o + j, none⟩) (by simp; omega) _).drew⟩
            have h := HS.out
            rw [HFA.out] at h
            exact h
          case measure => simp [intOf]; omega
        · have hxe : x = W := by omega
          subst hxe
          go_wp2
          go_roundw
          case rel =>
            refine ⟨y + 1, by omega, by go_num, hx, hyy, hf, ?_, hbel⟩
            rw [mask_congr (flipF l x) (flipF l x) _ _ _ (fun i => decide (i < (y + 1) * x)) (fun i hi => by unfold flipD; rw [Nat.add_mul, Nat.one_mul, Bool.eq_iff_iff]; simp; omega) (fun _ _ _ => rfl)] at hgm
            exact hgm
          case measure => simp [intOf]; omega
    · have hye : y = H := by omega
      subst hye
      obtain ⟨c0, c1, c2, c3⟩ := box4 hf
      obtain ⟨d0, d1, d2, d3⟩ := box4 hyy
      have z0 := hyy.frozen 0
      have z1 := hyy.frozen 1
      have z2 := hyy.frozen 2
      have z3 := hyy.frozen 3
      have HG9 := Lib.hid hgm; have HB9 := Lib.hid hbel
      clear hx hyy hf hgm hbel
      go_wp2
      refine bodyPost_ret (v := .tuple #[.agg #[.string nm, .int .i64 (W : Int), .int .i64 (y : Int), .slice (some ⟨g, 0, none⟩) l.length l.length], .int .i64 0]) (by simp [results, Tryz.results46, go_sem, d0, d1, d2, d3]) rfl ⟨g, rfl, ?_, ?_⟩
      · have h := HG9.out
        rw [mask_congr (flipF l W) (flipF l W) _ _ _ (fun _ => true) (fun i hi => by have := HLEN.out; rw [Nat.mul_comm] at this; simp; omega) (fun _ _ _ => rfl)] at h
        exact (((h.far (p := ⟨w.heap.size + 1, 0, none⟩) (by simp; omega) _).far (p := ⟨w.heap.size + 1, 1, none⟩) (by simp; omega) _).far (p := ⟨w.heap.size + 1, 2, none⟩) (by simp; omega) _).far (p := ⟨w.heap.size + 1, 3, none⟩) (by simp; omega) _
      · exact (((HB9.out.setCell (p := ⟨w.heap.size + 1, 0, none⟩) (by simp) _).setCell (p := ⟨w.heap.size + 1, 1, none⟩) (by simp) _).setCell (p := ⟨w.heap.size + 1, 2, none⟩) (by simp) _).setCell (p := ⟨w.heap.size + 1, 3, none⟩) (by simp) _


end Go.Proofs.YtkjkjhheckfhbaaGreatDoor
namespace Go.Proofs.YtkjkjhheckfhbaaGreatDoor
open Go.RowKit
set_option linter.unusedVariables false
/-- only block g has turned -/
structure Only (g : Nat) (w w' : World) : Prop where
  os : w'.os = w.os
  tape : w'.tape = w.tape
  output : w'.output = w.output
  size : w'.heap.size = w.heap.size
  block : ∀ k, k ≠ g → w'.heap[k]? = w.heap[k]?
section
variable {g : Nat} {w w' : World}
theorem Only.far (h : Only g w w') {k : Nat} {t : TypeId} {cs : Array Value} (hb : Blk w k t cs) (hk : k ≠ g) : Blk w' k t cs := (h.block k hk).trans hb
theorem Only.below (h : Only g w w') {B : Nat} {w0 : World} (hb : Below B w0 w) (hB : B ≤ g) : Below B w0 w' :=
  hb.trans ⟨h.os, h.tape, h.output, by rw [h.size]; exact Nat.le_refl _, fun k hk => h.block k (by omega)⟩
theorem Only.cell (h : Only g w w') {p : Addr} {v : Value} (hp : p.block ≠ g) (hc : w.cell? p = some v) : w'.cell? p = some v := (World.cell?_of_block (w := w) (h.block p.block hp)).trans hc
theorem only_setRow (w : World) (g : Nat) (cs : Array Value) : Only g w (w.setRow g cs) := ⟨rfl, rfl, rfl, by simp, fun k hk => setRow_other w g k cs hk⟩
end
theorem wp_copy_blk {P : Program} {o : Oper} {a : Act} {w : World} {K : Act → World → Prop} {Q : Exit → Act → World → Prop} (d s : Operand) (dT sT : TypeId)
    (ho : o.op = .call { callee := .builtin .copy, args := #[d, s], argTypes := #[dT, sT] }) (elem : TypeId) (hu : P.underlying dT = some (.slice elem)) (hsz : (P.info? elem).map (·.size) = some 1)
    (g off dLen dCap : Nat) (ad : Addr) (sLen sCap : Nat) (hd : a.eval d = .slice (some ⟨g, off, none⟩) dLen dCap) (hs : a.eval s = .slice (some ad) sLen sCap)
    (cur : Array Value) (t : TypeId) (hg : Blk w g t cur) (cs : List Value) (hn : cs.length = Nat.min sLen dLen)
    (hsrc : ∀ j v, cs[j]? = some v → w.cell? (ad.add j) = some v) (hfit : off + cs.length ≤ cur.size) (h1 : ∀ v ∈ cs, v.oneCell' = true)
    (new : Array Value) (hnew : (cur.toList.take off ++ (cs ++ cur.toList.drop (off + cs.length))).toArray = new)
    (h : ∀ w', Hid (Blk w' g t new) → Only g w w' → K (a.put o.dst (goInt cs.length)) w') : Oper.wp P o a w K Q := by
  have hrun := run_copy_row (P := P) w dT sT o.type elem g off dLen dCap ad sLen sCap cur t cs hu hsz hg hn hsrc hfit h1
  unfold Oper.wp
  simp [execOp, ho, resolve, invoke, builtin, hd, hs, hrun, Result.andThen]
  refine h _ (show Blk _ _ _ _ from ?_) (only_setRow w g _)
  have := setRow_heap w g cur (cur.toList.take off ++ (cs ++ cur.toList.drop (off + cs.length))).toArray t (0, 0) hg
  rw [← hnew]
  unfold Blk
  simpa using this
theorem step_copy_blk {P : Program} {ops : Array Oper} {o : Oper} {a : Act} {w : World} {K : Act → World → Prop} {Q : Exit → Act → World → Prop} {E : Prop} (hgd : o.guard = none) (d s : Operand) (dT sT : TypeId)
    (ho : o.op = .call { callee := .builtin .copy, args := #[d, s], argTypes := #[dT, sT] }) (elem : TypeId) (hu : P.underlying dT = some (.slice elem)) (hsz : (P.info? elem).map (·.size) = some 1)
    (g off dLen dCap : Nat) (ad : Addr) (sLen sCap : Nat) (hd : a.eval d = .slice (some ⟨g, off, none⟩) dLen dCap) (hs : a.eval s = .slice (some ad) sLen sCap)
    (cur : Array Value) (t : TypeId) (hg : Blk w g t cur) (cs : List Value) (hn : cs.length = Nat.min sLen dLen)
    (hsrc : ∀ j v, cs[j]? = some v → w.cell? (ad.add j) = some v) (hfit : off + cs.length ≤ cur.size) (h1 : ∀ v ∈ cs, v.oneCell' = true)
    (new : Array Value) (hnew : (cur.toList.take off ++ (cs ++ cur.toList.drop (off + cs.length))).toArray = new)
    (h : ∀ w', Hid (Blk w' g t new) → Only g w w' → K (a.put o.dst (goInt cs.length)) w') :
    if Region.wanted o (yielded ops a.tmps) = true then Oper.wp P o a w K Q else E := by
  have hw : Region.wanted o (yielded ops a.tmps) = true := by simp [Region.wanted, hgd]
  rw [if_pos hw]
  exact wp_copy_blk d s dT sT ho elem hu hsz g off dLen dCap ad sLen sCap hd hs cur t hg cs hn hsrc hfit h1 new hnew h
theorem wpList_copy_blk {P : Program} {w : World} {ops : Array Oper} {rest : List Oper} {o : Oper} {a : Act} {Q : Exit → Act → World → Prop} (hgd : o.guard = none) (d s : Operand) (dT sT : TypeId)
    (ho : o.op = .call { callee := .builtin .copy, args := #[d, s], argTypes := #[dT, sT] }) (elem : TypeId) (hu : P.underlying dT = some (.slice elem)) (hsz : (P.info? elem).map (·.size) = some 1)
    (g off dLen dCap : Nat) (ad : Addr) (sLen sCap : Nat) (hd : a.eval d = .slice (some ⟨g, off, none⟩) dLen dCap) (hs : a.eval s = .slice (some ad) sLen sCap)
    (cur : Array Value) (t : TypeId) (hg : Blk w g t cur) (cs : List Value) (hn : cs.length = Nat.min sLen dLen)
    (hsrc : ∀ j v, cs[j]? = some v → w.cell? (ad.add j) = some v) (hfit : off + cs.length ≤ cur.size) (h1 : ∀ v ∈ cs, v.oneCell' = true)
    (new : Array Value) (hnew : (cur.toList.take off ++ (cs ++ cur.toList.drop (off + cs.length))).toArray = new)
    (h : ∀ w', Hid (Blk w' g t new) → Only g w w' → wpList P ops Q rest (a.put o.dst (goInt cs.length)) w') : wpList P ops Q (o :: rest) a w :=
  wpList_plain hgd fun K hK => wp_copy_blk d s dT sT ho elem hu hsz g off dLen dCap ad sLen sCap hd hs cur t hg cs hn hsrc hfit h1 new hnew fun w' h2 h3 => hK _ _ (h w' h2 h3)
/-- what a copy makes of a block that is being filled -/
theorem mask_copy (f : Nat → Value) (z : Value) (n : Nat) (D D' : Nat → Bool) (off : Nat) (cs : List Value) (hfit : off + cs.length ≤ n) (hcs : ∀ j, j < cs.length → cs[j]? = some (f (off + j)))
    (hD : ∀ i, i < n → D' i = (D i || (decide (off ≤ i) && decide (i < off + cs.length)))) :
    ((maskN f z n D).toList.take off ++ (cs ++ (maskN f z n D).toList.drop (off + cs.length))).toArray = maskN f z n D' := by
  have hsz : (maskN f z n D).toList.length = n := by simp [maskN]
  apply Array.ext_getElem?
  intro i
  rw [mask_get, List.getElem?_toArray]
  by_cases h1 : i < off
  · have hin : i < n := by omega
    rw [List.getElem?_append_left (by rw [List.length_take, hsz]; omega), List.getElem?_take_of_lt h1, Array.getElem?_toList, mask_get, if_pos hin, if_pos hin, hD i hin]
    have : decide (off ≤ i) = false := by simp; omega
    rw [this]; simp
  · have hlt : ((maskN f z n D).toList.take off).length = off := by rw [List.length_take, hsz]; omega
    rw [List.getElem?_append_right (by omega), hlt]
    by_cases h2 : i < off + cs.length
    · rw [List.getElem?_append_left (by omega), hcs (i - off) (by omega), if_pos (by omega), hD i (by omega), show off + (i - off) = i by omega]
      have : (decide (off ≤ i) && decide (i < off + cs.length)) = true := by simp; omega
      rw [this]; simp
    · rw [List.getElem?_append_right (by omega), List.getElem?_drop, show off + cs.length + (i - off - cs.length) = i by omega, Array.getElem?_toList, mask_get]
      by_cases h3 : i < n
      · rw [if_pos h3, if_pos h3, hD i h3]
        have : decide (i < off + cs.length) = false := by simp; omega
        rw [this]; simp
      · rw [if_neg h3, if_neg h3]
theorem info_f32 : (Tryz.prog.info? 23).map (·.size) = some 1 := by kernel_rfl
theorem upon_copy_blk {P : Program} {o : Oper} {a : Act} {w : World} {K : Act → World → Prop} {Q : Exit → Act → World → Prop} (dT sT ty elem : TypeId) (hu : P.underlying dT = some (.slice elem)) (hsz : (P.info? elem).map (·.size) = some 1)
    (g off dLen dCap : Nat) (ad : Addr) (sLen sCap : Nat) (cur : Array Value) (t : TypeId) (hg : Blk w g t cur) (cs : List Value) (hn : cs.length = Nat.min sLen dLen)
    (hsrc : ∀ j v, cs[j]? = some v → w.cell? (ad.add j) = some v) (hfit : off + cs.length ≤ cur.size) (h1 : ∀ v ∈ cs, v.oneCell' = true)
    (new : Array Value) (hnew : (cur.toList.take off ++ (cs ++ cur.toList.drop (off + cs.length))).toArray = new)
    (h : ∀ w', Hid (Blk w' g t new) → Only g w w' → K (a.put o.dst (goInt cs.length)) w') :
    o.upon P a K Q ((Sem.run P (Builtin.copy_ #[dT, sT] ty #[.slice (some ⟨g, off, none⟩) dLen dCap, .slice (some ad) sLen sCap]) w).andThen fun a w' => .ok (.value a) w') := by
  have hrun := run_copy_row (P := P) w dT sT ty elem g off dLen dCap ad sLen sCap cur t cs hu hsz hg hn hsrc hfit h1
  rw [hrun]
  refine h _ (show Blk _ _ _ _ from ?_) (only_setRow w g _)
  have := setRow_heap w g cur (cur.toList.take off ++ (cs ++ cur.toList.drop (off + cs.length))).toArray t (0, 0) hg
  rw [← hnew]
  unfold Blk
  simpa using this
theorem chainB' {wo w1 w2 : World} (h : Below wo.heap.size wo w1) (k : Below w1.heap.size w1 w2) : Below wo.heap.size wo w2 := h.trans (k.mono h.size)


end Go.Proofs.YtkjkjhheckfhbaaGreatDoor
