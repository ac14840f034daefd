/- The check of a picture. -/
import Derived.Test.YtkjkjhheckfhbaaGreatDoorD
namespace Go.Proofs.YtkjkjhheckfhbaaGreatDoor
open Go.RowKit
set_option linter.unusedVariables false
theorem cellL {w w' : World} {a : Addr} {v : Value} (hb : Below w.heap.size w w') (h : w.cell? a = some v) : w'.cell? a = some v := cell_later hb h
theorem first_n (A : Option Addr) (c n : Nat) (es : List Int) (w : World) (hn : es.length = n) (hl : n ≤ maxLen) (hr : Rd w A (es.map (.int .i64))) :
    Calls Tryz.prog 97 #[.slice A n c] w fun e' w' => e' = .returned (.int .i64 (firstE es)) ∧ w = w' := by
  subst hn
  exact first_any A c es w hl hr
theorem firstE_map (f : Nat → Int) (l : List Nat) : firstE (l.map f) = firstF f l := by
  induction l with
  | nil => rfl
  | cons a l ih => simp only [List.map_cons, firstE, firstF, ih]
theorem firstE_zero {l : List Int} (h : firstE l = 0) : ∀ e ∈ l, e = 0 := by
  induction l with
  | nil => intro e he; cases he
  | cons a l ih =>
    unfold firstE at h
    split at h
    · rename_i h0
      intro e he
      rcases List.mem_cons.1 he with rfl | he
      · exact h0
      · exact ih h e he
    · rename_i h0; exact absurd h h0
theorem errIf_zero {b : Bool} {e : Int} (he : e ≠ 0) (h : errIf b e = 0) : b = false := by
  cases b
  · rfl
  · exact absurd h he
theorem outs_zero {n lo hi : Int} (h : outs n lo hi = 0) : lo ≤ n ∧ n ≤ hi := by
  have := errIf_zero (by decide) h
  simp at this
  omega
theorem wrap_small (a b : Int) (ha : 1 ≤ a ∧ a ≤ 64) (hb : 1 ≤ b ∧ b ≤ 64) : IntKind.i64.wrap (a * b) = a * b ∧ 1 ≤ a * b ∧ a * b ≤ 4096 := by
  have h1 : a * b ≤ 64 * 64 := Int.mul_le_mul ha.2 hb.2 (by omega) (by omega)
  have h2 : 1 * 1 ≤ a * b := Int.mul_le_mul ha.1 hb.1 (by omega) (by omega)
  exact ⟨IntWalk.i64_in _ (by omega), by omega, by omega⟩
theorem head_zero {p : Pic} (h : firstE [errIf (!nameOk p.name) 8, outs p.w 1 64, outs p.h 1 64, errIf ((p.l.length : Int) != IntKind.i64.wrap (p.w * p.h)) 2] = 0) :
    nameOk p.name = true ∧ (1 ≤ p.w ∧ p.w ≤ 64) ∧ (1 ≤ p.h ∧ p.h ≤ 64) ∧ (p.l.length : Int) = p.w * p.h ∧ p.l.length ≤ 4096 := by
  have h0 := firstE_zero h
  have a1 := errIf_zero (e := 8) (by decide) (h0 (errIf (!nameOk p.name) 8) (by simp))
  have a2 := outs_zero (h0 (outs p.w 1 64) (by simp))
  have a3 := outs_zero (h0 (outs p.h 1 64) (by simp))
  have a4 := errIf_zero (e := 2) (by decide) (h0 (errIf ((p.l.length : Int) != IntKind.i64.wrap (p.w * p.h)) 2) (by simp))
  have := wrap_small p.w p.h a2 a3
  rw [this.1] at a4
  have a5 : (p.l.length : Int) = p.w * p.h := by simpa using a4
  exact ⟨by simpa using a1, a2, a3, a5, by omega⟩
theorem Rd.below {w w' : World} {A : Option Addr} {xs : List Value} (h : Rd w A xs) (hb : Below w.heap.size w w') : Rd w' A xs := fun hn => by
  obtain ⟨ad, e, hbl, hc⟩ := h hn
  exact ⟨ad, e, Nat.lt_of_lt_of_le hbl hb.size, fun j u hu => (hb.cell (by rw [block_of_add]; exact hbl)).trans (hc j u hu)⟩
set_option maxRecDepth 100000 in
theorem checkPicture_any (p : Pic) (A : Option Addr) (c : Nat) (w : World) (hs : p.name.size ≤ maxLen) (hl : p.l.length ≤ maxLen) (hr : Rd w A (fl p.l)) :
    Calls Tryz.prog 37 #[p.val A c] w fun e w' => e = .returned (.int .i64 p.err) ∧ Below w.heap.size w w' := by
  unfold Pic.val
  go_enter Tryz.func37, Tryz.ntmps37
  go_wp2_with fail
  have hblk := Blk.new w 50 #[.string p.name, .int .i64 p.w, .int .i64 p.h, .slice A p.l.length c]
  have hbel : Below w.heap.size w (w.alloc (.cells #[.string p.name, .int .i64 p.w, .int .i64 p.h, .slice A p.l.length c] 50)) := (Below.refl _ _).alloc (Nat.le_refl _) _
  generalize w.alloc (.cells #[.string p.name, .int .i64 p.w, .int .i64 p.h, .slice A p.l.length c] 50) = W at hblk hbel ⊢
  have c0 : W.cell? ⟨w.heap.size, 0, none⟩ = some (.string p.name) := hblk.cell 0
  have c1 : W.cell? ⟨w.heap.size, 1, none⟩ = some (.int .i64 p.w) := hblk.cell 1
  have c2 : W.cell? ⟨w.heap.size, 2, none⟩ = some (.int .i64 p.h) := hblk.cell 2
  have c3 : W.cell? ⟨w.heap.size, 3, none⟩ = some (.slice A p.l.length c) := hblk.cell 3
  clear hblk
  go_region_held3 (fun w' => w'.cell? ⟨w.heap.size, 0, none⟩ = some (.string p.name) ∧ w'.cell? ⟨w.heap.size, 1, none⟩ = some (.int .i64 p.w) ∧ w'.cell? ⟨w.heap.size, 2, none⟩ = some (.int .i64 p.h) ∧ w'.cell? ⟨w.heap.size, 3, none⟩ = some (.slice A p.l.length c))
    (go_keep)
    (first
      | (go_at_call 21; refine (isName_any _ _ hs).mono ?_; rintro e w2 ⟨rfl, hb2⟩; have k0 := cellL hb2 c0; have k1 := cellL hb2 c1; have k2 := cellL hb2 c2; have k3 := cellL hb2 c3)
      | (go_at_call 98; refine (outside_any _ _ _ _).mono ?_; rintro e w' ⟨rfl, rfl⟩)
      | (go_at_call 104; refine (errorIf_any _ _ _).mono ?_; rintro e w' ⟨rfl, rfl⟩)
      | (go_at_call 97; refine (first_any _ _ [errIf (!nameOk p.name) 8, outs p.w 1 64, outs p.h 1 64, errIf ((p.l.length : Int) != IntKind.i64.wrap (p.w * p.h)) 2] _ (by simp [maxLen]) (by exact rd_of_blk (Blk.new _ _ _) rfl)).mono ?_; rintro e w' ⟨rfl, rfl⟩))
  have hw : W.heap.size ≤ w2.heap.size := hb2.size
  have hb3 : Below w.heap.size w w2 := hbel.drew.trans (hb2.mono hbel.size)
  have HB3 := Lib.hid hb3
  clear hb3 hb2 c0 c1 c2 c3
  generalize he : firstE [errIf (!nameOk p.name) 8, outs p.w 1 64, outs p.h 1 64, errIf ((p.l.length : Int) != IntKind.i64.wrap (p.w * p.h)) 2] = e1
  have HE := Lib.hid he; clear he
  by_cases hz : e1 = 0
  · have hz' : (e1 != 0) = false := by simp [hz]
    have HZ := Lib.hid hz; clear hz
    have hlt : w.heap.size < w2.heap.size := World.block_lt_of_cell? _ _ k0
    clear k0 k1 k2
    have HR := Lib.hid hr; clear hr
    go_wp2_with fail
    refine (firstOfF_any A c p.l 26 (chk 1024) _ hl (by exact HR.out.below (HB3.out.alloc HB3.out.size _)) enters_CheckSample (fun b _ w => checkSample_any b w)).mono ?_
    rintro e w3 ⟨rfl, hb3⟩
    have HB4 := Lib.hid ((HB3.out.alloc HB3.out.size _).trans (hb3.mono (HB3.out.alloc HB3.out.size _).size))
    clear hb3
    go_wp2
    go_ret
    exact ⟨ret_int (by unfold Pic.err; rw [HE.out, HZ.out]; simp only [firstE, if_true]; split <;> simp_all), HB4.out⟩
  · have hz' : (e1 != 0) = true := by simp [hz]
    have HZ := Lib.hid hz; clear hz
    go_wp2
    go_ret
    exact ⟨ret_int (by unfold Pic.err; rw [HE.out]; simp only [firstE]; rw [if_neg HZ.out]), HB3.out.alloc HB3.out.size _⟩

end Go.Proofs.YtkjkjhheckfhbaaGreatDoor
