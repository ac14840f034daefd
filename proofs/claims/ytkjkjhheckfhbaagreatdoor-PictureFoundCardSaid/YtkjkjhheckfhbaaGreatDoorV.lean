/- Samples of integers, a picture with other levels. -/
import Derived.Test.YtkjkjhheckfhbaaGreatDoorP0
import Derived.Test.YtkjkjhheckfhbaaGreatDoorPE
namespace Go.Proofs.YtkjkjhheckfhbaaGreatDoor
open Go.RowKit
set_option linter.unusedVariables false
attribute [local go_sem] run_store_float
set_option maxRecDepth 100000 in
theorem mapII2_any (A : Option Addr) (c : Nat) (l : List Int) (F : FuncId) (p q : Addr) (g : Int → Int) (w : World) (hl : l.length ≤ 4096) (hr : Rd w A (l.map (Value.int .i64))) (hcf : Enters Tryz.prog F)
    (hF : ∀ x ∈ l, ∀ wx, Below w.heap.size w wx → Calls Tryz.prog F #[.int .i64 x, .pointer (some p), .pointer (some q)] wx fun e w' => e = .returned (Value.int .i64 (g x)) ∧ Below wx.heap.size wx w') :
    Calls Tryz.prog 120 #[.slice A l.length c, .func (.func F) #[] #[.pointer (some p), .pointer (some q)]] w fun e w' => ∃ ad, e = .returned (.slice (some ad) l.length l.length) ∧ Rd w' (some ad) (l.map (fun x => Value.int .i64 (g x))) ∧ Below w.heap.size w w' := by
  have HF := Lib.hid hF; clear hF
  have HR := Lib.hid hr; clear hr
  unfold Enters at hcf
  have hmk := fun W => Go.run_make_row' (P := Tryz.prog) 25 3 (.int .i64 0) 8 Tryz.underlying25 info_mapFI rfl .i64 .i64 l.length (by omega) (by omega) W
  go_enter Tryz.func120, Tryz.ntmps120
  go_wp2
  go_loopw [13] (fun i wr => ∃ k : Nat, k ≤ l.length ∧ i = .int .i64 k ∧ Blk wr w.heap.size 3 (fillN (fun j => Value.int .i64 (g (l.getD j 0))) (.int .i64 0) l.length k) ∧ Below w.heap.size w wr) (fun i _ => l.length - (intOf i).toNat)
  case atStart => exact ⟨0, by omega, rfl, by rw [← fill_zero]; exact Blk.new _ _ _, (Below.refl _ _).alloc (Nat.le_refl _) _⟩
  case round =>
    obtain ⟨k, hk, rfl, hb, hbel⟩ := hrel
    by_cases hlt : k < l.length
    · obtain ⟨x, hx⟩ : ∃ x, l.getD k 0 = x := ⟨_, rfl⟩
      have hxm : x ∈ l := by rw [← hx]; simp [List.getD, hlt]
      obtain ⟨ad, rfl, hbl, hc⟩ := HR.out.get (k := k) (u := (Value.int .i64) x) (by rw [← hx]; simp [List.getD, hlt])
      have hc' := (hbel.cell (by rw [block_of_add]; exact hbl)).trans hc
      have hs := hbel.size
      have HB := Lib.hid hb; clear hb
      have HBel := Lib.hid hbel; clear hbel
      have HX := Lib.hid hx; clear hx
      clear hc hmk
      go_wp2_with fail
      refine (HF.out x hxm _ HBel.out).mono ?_
      rintro e w1 ⟨rfl, hb1⟩
      have hblk := HB.out.below hb1
      have hcell := hblk.cell k
      rw [fill_get, if_pos hlt, if_neg (by omega)] at hcell
      have hfr := hblk.frozen k
      have hset := hblk.set_ k (Value.int .i64 (g x))
      have hfs := fill_set (fun j => Value.int .i64 (g (l.getD j 0))) (.int .i64 0) l.length k
      simp only [HX.out] at hfs
      rw [hfs] at hset
      have hbel1 := (HBel.out.trans (hb1.mono HBel.out.size)).setCell (p := ⟨w.heap.size, k, none⟩) (Nat.le_refl _) (Value.int .i64 (g x))
      have HS := Lib.hid hset; have HB1 := Lib.hid hbel1
      clear hset hbel1 hblk hb1 hfs
      go_wp2
      go_roundw
      case rel => exact ⟨k + 1, by omega, by go_num, HS.out, HB1.out⟩
      case measure => simp [intOf]; omega
    · have : k = l.length := by omega
      subst this
      go_wp2
      go_ret
      refine ⟨_, rfl, fun _ => ⟨_, rfl, hb.lt, fun j u hj => ?_⟩, hbel⟩
      have hjl : j < l.length := by simpa using (List.getElem?_eq_some_iff.1 hj).1
      have h2 := hb.cell j
      rw [fill_get, if_pos hjl, if_pos hjl] at h2
      simp [hjl] at hj
      subst hj
      simp [hjl] at h2
      unfold Addr.add
      split
      · rename_i h0; subst h0; exact h2
      · simpa using h2


def largeB (n : Int) : Bool := decide (n < -16384) || decide (16384 < n)
theorem isLargeB (n : Int) (b : Bool) (h : largeB n = b) (w : World) : Calls Tryz.prog 197 #[.int .i64 n] w fun e w' => e = .returned (.bool b) ∧ w = w' := by
  subst h; exact isLarge_any n w
theorem indexLarge_any (A : Option Addr) (c : Nat) (l : List Int) (w : World) (hl : l.length ≤ 4096) (hr : Rd w A (l.map (Value.int .i64))) :
    Calls Tryz.prog 212 #[.slice A l.length c, .func (.func 197) #[] #[]] w fun e w' => (∃ n : Int, e = .returned (.int .i64 n) ∧ decide (0 ≤ n) = l.any largeB) ∧ w = w' := by
  have HR := Lib.hid hr; clear hr
  go_enter Tryz.func212, Tryz.ntmps212
  go_wp2
  go_loop [8] (fun i => ∃ k : Nat, k ≤ l.length ∧ i = .int .i64 k ∧ l.any largeB = (l.drop k).any largeB) (fun i => l.length - (intOf i).toNat)
  case atStart => exact ⟨0, by omega, rfl, rfl⟩
  case round =>
    obtain ⟨k, hk, rfl, hf⟩ := hrel
    have Hf := Lib.hid hf; clear hf
    by_cases hlt : k < l.length
    · obtain ⟨x, hx⟩ : ∃ x, l.getD k 0 = x := ⟨_, rfl⟩
      obtain ⟨ad, rfl, hbl, hc⟩ := HR.out.get (k := k) (u := (Value.int .i64) x) (by rw [← hx]; simp [List.getD, hlt])
      have HD : RowKit.Hid ((l.drop k).any largeB = (largeB x || (l.drop (k + 1)).any largeB)) := Lib.hid (by
        rw [List.drop_eq_getElem_cons hlt, List.any_cons, ← hx]; simp [List.getD, hlt])
      have HX := Lib.hid hx; clear hx
      cases hb : largeB x
      · have HB := Lib.hid hb
        go_wp2_with (go_at_call 197; refine (isLargeB _ false HB.out _).mono ?_; rintro e w' ⟨rfl, rfl⟩)
        go_round
        case rel => exact ⟨k + 1, by omega, by go_num, by rw [Hf.out, HD.out, HB.out]; rfl⟩
        case measure => simp [intOf]; omega
      · have HB := Lib.hid hb
        go_wp2_with (go_at_call 197; refine (isLargeB _ true HB.out _).mono ?_; rintro e w' ⟨rfl, rfl⟩)
        go_ret
        exact ⟨⟨_, rfl, by rw [Hf.out, HD.out, HB.out]; simp⟩, rfl⟩
    · have : k = l.length := by omega
      subst this
      go_wp2
      go_ret
      exact ⟨⟨-1, rfl, by rw [Hf.out]; simp⟩, rfl⟩
theorem containsLarge_any (A : Option Addr) (c : Nat) (l : List Int) (b : Bool) (hb : l.any largeB = b) (w : World) (hl : l.length ≤ 4096) (hr : Rd w A (l.map (Value.int .i64))) :
    Calls Tryz.prog 196 #[.slice A l.length c, .func (.func 197) #[] #[]] w fun e w' => e = .returned (.bool b) ∧ w = w' := by
  subst hb
  go_enter Tryz.func196, Tryz.ntmps196
  go_wp2_with fail
  refine (indexLarge_any A c l w hl hr).mono ?_
  rintro e w' ⟨⟨n, rfl, hn⟩, rfl⟩
  have HN := Lib.hid hn; clear hn
  go_wp2
  go_ret
  exact ⟨ret_bool HN.out, rfl⟩
theorem smp_call (n : Int) (h : largeB n = false) (w : World) : Calls Tryz.prog 146 #[.int .i64 n] w fun e w' => e = .returned (.float .f32 (smp n)) ∧ Below w.heap.size w w' :=
  sample_v n (by simp [largeB] at h; omega) w
theorem samples_ok (A : Option Addr) (c : Nat) (l : List Int) (hb : l.any largeB = false) (w : World) (hl : l.length ≤ 4096) (hr : Rd w A (l.map (Value.int .i64))) :
    Calls Tryz.prog 170 #[.slice A l.length c] w fun e w' => ∃ ad, e = .returned (.tuple #[.slice (some ad) l.length l.length, .int .i64 0]) ∧ Rd w' (some ad) (fl (l.map smp)) ∧ Below w.heap.size w w' := by
  have HB := Lib.hid hb; clear hb
  have HR := Lib.hid hr; clear hr
  go_enter Tryz.func170, Tryz.ntmps170
  go_wp2_with fail
  refine (containsLarge_any A c l false HB.out _ hl HR.out).mono ?_
  rintro e w' ⟨rfl, rfl⟩
  go_wp2_with fail
  refine (mapIF_any A c l 146 smp _ hl HR.out enters_sample (fun n hn w => smp_call n (by have h := HB.out; rw [List.any_eq_false] at h; simpa using h n hn) w)).mono ?_
  rintro e w3 ⟨ad, rfl, hrd, hb3⟩
  go_wp2
  go_ret2
  exact ⟨ad, rfl, by unfold fl; rw [List.map_map]; exact hrd, hb3⟩
theorem samples_err (A : Option Addr) (c : Nat) (l : List Int) (hb : l.any largeB = true) (w : World) (hl : l.length ≤ 4096) (hr : Rd w A (l.map (Value.int .i64))) :
    Calls Tryz.prog 170 #[.slice A l.length c] w fun e w' => e = .returned (.tuple #[.slice none 0 0, .int .i64 4]) ∧ Below w.heap.size w w' := by
  have HB := Lib.hid hb; clear hb
  have HR := Lib.hid hr; clear hr
  go_enter Tryz.func170, Tryz.ntmps170
  go_wp2_with fail
  refine (containsLarge_any A c l true HB.out _ hl HR.out).mono ?_
  rintro e w' ⟨rfl, rfl⟩
  go_wp2
  go_ret2
  exact ⟨rfl, Below.refl _ _⟩
def fltV : Value → Bool
  | .float _ _ => true
  | _ => false
/-- No float lies in it. -/
def NF (cs : Array Value) : Prop := ∀ (i : Nat) (v : Value), cs[i]? = some v → fltV v = false
theorem NF.set {cs : Array Value} (h : NF cs) (i : Nat) (v : Value) (hv : fltV v = false) : NF (cs.setIfInBounds i v) := fun j u hu => by
  rw [Array.getElem?_setIfInBounds] at hu
  split at hu
  · split at hu
    · cases hu; exact hv
    · cases hu
  · exact h j u hu
theorem NF.four {a b c d : Value} (ha : fltV a = false) (hb : fltV b = false) (hc : fltV c = false) (hd : fltV d = false) : NF #[a, b, c, d] := fun j u hu => by
  match j with
  | 0 => cases hu; exact ha
  | 1 => cases hu; exact hb
  | 2 => cases hu; exact hc
  | 3 => cases hu; exact hd
  | j + 4 => simp at hu
theorem rd_set {w : World} {A : Option Addr} {l : List Nat} {g : Nat} {t : TypeId} {cs : Array Value} (h : Rd w A (fl l)) (hb : Blk w g t cs) (hn : NF cs) (o : Nat) (v : Value) : Rd (w.setCell ⟨g, o, none⟩ v) A (fl l) := fun hp => by
  obtain ⟨ad, e, hbl, hc⟩ := h hp
  have hne : ad.block ≠ g := by
    intro hg
    have h0 := hc 0 (.float .f32 (l.getD 0 0)) (fl_get (by simpa [fl] using hp))
    have : ad.add 0 = ad := rfl
    rw [this] at h0
    obtain ⟨b, f, s⟩ := ad
    cases hg
    cases s with
    | none => rw [hb.cell f] at h0; have := hn _ _ h0; cases this
    | some s => unfold World.cell? at h0; unfold Blk at hb; rw [hb] at h0; simp at h0
  refine ⟨ad, e, by simpa [World.setCell] using hbl, fun j u hu => ?_⟩
  exact (World.cell?_of_block (w := w) (Below.heap_setCell w ⟨g, o, none⟩ v (ad.add j).block (by rw [block_of_add]; exact hne))).trans (hc j u hu)
theorem rd_set4 {w : World} {A : Option Addr} {l : List Nat} {g : Nat} {t : TypeId} {cs : Array Value} (h : Rd w A (fl l)) (hb : Blk w g t cs) (hn : NF cs) (a b c d : Value) (ha : fltV a = false) (hb' : fltV b = false) (hc : fltV c = false) :
    Rd ((((w.setCell ⟨g, 0, none⟩ a).setCell ⟨g, 1, none⟩ b).setCell ⟨g, 2, none⟩ c).setCell ⟨g, 3, none⟩ d) A (fl l) :=
  rd_set (rd_set (rd_set (rd_set h hb hn 0 a) (hb.set_ 0 a) (hn.set 0 a ha) 1 b) ((hb.set_ 0 a).set_ 1 b) ((hn.set 0 a ha).set 1 b hb') 2 c) (((hb.set_ 0 a).set_ 1 b).set_ 2 c) (((hn.set 0 a ha).set 1 b hb').set 2 c hc) 3 d
theorem withLevels_ok (nm : ByteArray) (W H : Int) (A0 : Option Addr) (n0 c0 : Nat) (A : Option Addr) (c : Nat) (l : List Int) (hb : l.any largeB = false) (w : World) (hl : l.length ≤ 4096) (hr : Rd w A (l.map (Value.int .i64))) :
    Calls Tryz.prog 119 #[.agg #[.string nm, .int .i64 W, .int .i64 H, .slice A0 n0 c0], .slice A l.length c] w fun e w' => ∃ ad, e = .returned (.tuple #[.agg #[.string nm, .int .i64 W, .int .i64 H, .slice (some ad) l.length l.length], .int .i64 0]) ∧ Rd w' (some ad) (fl (l.map smp)) ∧ Below w.heap.size w w' := by
  have HB := Lib.hid hb; clear hb
  have HR := Lib.hid hr; clear hr
  go_enter Tryz.func119, Tryz.ntmps119
  go_wp2_with fail
  have hbx := (Blk.new w 50 #[.string nm, .int .i64 W, .int .i64 H, .slice A0 n0 c0]).alloc (.cells #[.string ⟨#[]⟩, .int .i64 0, .int .i64 0, .slice none 0 0] 50)
  have hby := Blk.new (w.alloc (.cells #[.string nm, .int .i64 W, .int .i64 H, .slice A0 n0 c0] 50)) 50 #[.string ⟨#[]⟩, .int .i64 0, .int .i64 0, .slice none 0 0]
  simp only [World.size_alloc] at hby
  have hb0 : Below w.heap.size w ((w.alloc (.cells #[.string nm, .int .i64 W, .int .i64 H, .slice A0 n0 c0] 50)).alloc (.cells #[.string ⟨#[]⟩, .int .i64 0, .int .i64 0, .slice none 0 0] 50)) := ((Below.refl _ _).alloc (Nat.le_refl _) _).alloc (by simp) _
  generalize (w.alloc (.cells #[.string nm, .int .i64 W, .int .i64 H, .slice A0 n0 c0] 50)).alloc (.cells #[.string ⟨#[]⟩, .int .i64 0, .int .i64 0, .slice none 0 0] 50) = w0 at hbx hby hb0 ⊢
  refine (samples_ok A c l HB.out _ hl (HR.out.below hb0)).mono ?_
  rintro e w3 ⟨ad, rfl, hrd, hb3⟩
  have hx3 := hbx.below hb3
  have hy3 := hby.below hb3
  obtain ⟨c0, c1, c2, c3⟩ := box4 hx3
  obtain ⟨d0, d1, d2, d3⟩ := box4 hy3
  have fz := fun i => hx3.frozen i
  have fy := fun i => hy3.frozen i
  have hx3' := hx3.set_ 3 (.slice (some ad) l.length l.length)
  have hr1 := rd_set hrd hx3 (.four rfl rfl rfl rfl) 3 (.slice (some ad) l.length l.length)
  have hy4 := hy3.far (p := ⟨w.heap.size, 3, none⟩) (by simp) (.slice (some ad) l.length l.length)
  have hr5 := rd_set4 hr1 hy4 (.four rfl rfl rfl rfl) (.string nm) (.int .i64 W) (.int .i64 H) (.slice (some ad) l.length l.length) rfl rfl rfl
  have HRD := Lib.hid hr5
  have HBB := Lib.hid (hb0.trans (hb3.mono hb0.size))
  clear hbx hby hb0 hb3 hrd hx3 hy3 hr1 hr5 hy4 hx3'
  go_wp2
  refine bodyPost_ret (v := .tuple #[.agg #[.string nm, .int .i64 W, .int .i64 H, .slice (some ad) l.length l.length], .int .i64 0]) (by simp [results, Tryz.results119, go_sem, d0, d1, d2, d3]) rfl ⟨ad, rfl, HRD.out, ?_⟩
  exact ((((HBB.out.setCell (p := ⟨w.heap.size, 3, none⟩) (by simp) _).setCell (p := ⟨w.heap.size + 1, 0, none⟩) (by simp) _).setCell (p := ⟨w.heap.size + 1, 1, none⟩) (by simp) _).setCell (p := ⟨w.heap.size + 1, 2, none⟩) (by simp) _).setCell (p := ⟨w.heap.size + 1, 3, none⟩) (by simp) _

end Go.Proofs.YtkjkjhheckfhbaaGreatDoor
