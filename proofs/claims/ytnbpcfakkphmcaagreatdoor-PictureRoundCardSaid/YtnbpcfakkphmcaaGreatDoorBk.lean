/- Samples at named places; turns by the code and by the reference. -/
import Derived.Test.YtnbpcfakkphmcaaGreatDoorP5
import Derived.Test.YtnbpcfakkphmcaaGreatDoorP3
namespace Go.Proofs.YtnbpcfakkphmcaaGreatDoor
open Go.RowKit
set_option linter.unusedVariables false
set_option maxRecDepth 100000
theorem eqF_self {b : Nat} (h : chk 1024 b = 0) : eqF b b = true := by
  obtain ⟨s, n, hn, _, _⟩ := chk_zero h
  unfold eqF
  have h1 := hn.order hn
  rw [cmp_self] at h1
  rw [show FloatKind.f32.format.order b b = some .eq from h1]
  rfl
theorem sameF_self {l : List Nat} (h : ∀ b ∈ l, chk 1024 b = 0) : sameF l l = true := by
  induction l with
  | nil => rfl
  | cons a l ih =>
    simp only [sameF, eqF_self (h a (List.mem_cons_self ..)), Bool.true_and]
    exact ih fun b hb => h b (List.mem_cons_of_mem _ hb)
theorem chk_nil : chk 1024 0 = 0 := by decide +kernel
theorem chk_getD {l : List Nat} (h : ∀ b ∈ l, chk 1024 b = 0) (i : Nat) : chk 1024 (l.getD i 0) = 0 := by
  by_cases hi : i < l.length
  · exact h _ (by simp [List.getD, hi])
  · simp [List.getD, List.getElem?_eq_none (Nat.le_of_not_lt hi), chk_nil]
/-- The samples at the places that a function names. -/
def pickL (l : List Nat) (f : Nat → Nat) (n : Nat) : List Nat := (List.range n).map fun i => l.getD (f i) 0
theorem pickL_len (l : List Nat) (f : Nat → Nat) (n : Nat) : (pickL l f n).length = n := by simp [pickL]
theorem pickL_same {l : List Nat} (h : ∀ b ∈ l, chk 1024 b = 0) (f : Nat → Nat) (n : Nat) : sameF (pickL l f n) (pickL l f n) = true :=
  sameF_self fun b hb => by obtain ⟨i, _, rfl⟩ := List.mem_map.1 hb; exact chk_getD h _
theorem rd_pick {w : World} {g : Nat} {t : TypeId} {F : Nat → Value} {l : List Nat} {f : Nat → Nat} {n : Nat} (h : Blk w g t (maskN F (.float .f32 0) n (fun _ => true))) (hF : ∀ i, F i = .float .f32 (l.getD (f i) 0)) : Rd w (some ⟨g, 0, none⟩) (fl (pickL l f n)) :=
  rd_mask h (fun _ _ => rfl) (by simp [fl, pickL]) fun i hi => by rw [fl_get (by rw [pickL_len]; exact hi), hF]; simp [pickL, List.getD, hi]
def flipN (W i : Nat) : Nat := i / W * W + (W - 1 - i % W)
def transN (W H i : Nat) : Nat := i % H * W + i / H
def fieldN (W d i : Nat) : Nat := (2 * (i / W) + d) * W + i % W
def PickEnd (nm : ByteArray) (W H : Nat) (n : Nat) (L : List Nat) (w : World) (e : Ending) (w' : World) : Prop := ∃ g, e = .returned (.agg #[.string nm, .int .i64 (W : Int), .int .i64 (H : Int), .slice (some ⟨g, 0, none⟩) n n]) ∧ Rd w' (some ⟨g, 0, none⟩) (fl L) ∧ Below w.heap.size w w'
def PickOk (nm : ByteArray) (W H : Nat) (n : Nat) (L : List Nat) (w : World) (e : Ending) (w' : World) : Prop := ∃ g, e = .returned (.tuple #[.agg #[.string nm, .int .i64 (W : Int), .int .i64 (H : Int), .slice (some ⟨g, 0, none⟩) n n], .int .i64 0]) ∧ Rd w' (some ⟨g, 0, none⟩) (fl L) ∧ Below w.heap.size w w'
section
variable (nm : ByteArray) (W H : Nat) (l : List Nat) (hp : (Pic.mk nm W H l).Ok) (he : (Pic.mk nm W H l).err = 0) (A : Option Addr) (c : Nat) (w : World) (hcap : l.length ≤ c) (hr : Rd w A (fl l))
theorem ok_sizes {nm : ByteArray} {W H : Nat} {l : List Nat} (hp : (Pic.mk nm W H l).Ok) : (1 ≤ W ∧ W ≤ 64) ∧ (1 ≤ H ∧ H ≤ 64) ∧ l.length = W * H ∧ nm.size ≤ maxLen ∧ l.length ≤ maxLen := by
  have h1 := hp.w1; have h2 := hp.w2; have h3 := hp.h1; have h4 := hp.h2; have h5 := hp.len; have h6 := hp.big; have h7 := hp.name
  simp only [] at h1 h2 h3 h4 h5
  unfold nameOk at h7; simp at h7
  exact ⟨by omega, by omega, by exact_mod_cast h5, Nat.le_trans h7.1.2 (by decide), Nat.le_trans h6 (by decide)⟩
include hp he hcap hr
theorem flip_code : Calls Tryz.prog 46 #[.agg #[.string nm, .int .i64 (W : Int), .int .i64 (H : Int), .slice A l.length c]] w (PickOk nm W H l.length (pickL l (flipN W) l.length) w) :=
  (flipped_ok nm W H l hp he A c w (ok_sizes hp).2.2.2.1 (ok_sizes hp).2.2.2.2 hcap hr).mono fun e w' ⟨g, h1, h2, h3⟩ => ⟨g, h1, rd_pick h2 (fun i => rfl), h3⟩
theorem trans_code : Calls Tryz.prog 47 #[.agg #[.string nm, .int .i64 (W : Int), .int .i64 (H : Int), .slice A l.length c]] w (PickOk nm H W l.length (pickL l (transN W H) l.length) w) :=
  (transposed_ok nm W H l hp he A c w (ok_sizes hp).2.2.2.1 (ok_sizes hp).2.2.2.2 hcap hr).mono fun e w' ⟨g, h1, h2, h3⟩ => ⟨g, h1, rd_pick h2 (fun i => rfl), h3⟩
omit he hcap in
theorem flip_ref : Calls Tryz.prog 49 #[.agg #[.string nm, .int .i64 (W : Int), .int .i64 (H : Int), .slice A l.length c]] w (PickEnd nm W H l.length (pickL l (flipN W) l.length) w) :=
  (flippedR_ok nm W H l (ok_sizes hp).1 (ok_sizes hp).2.1 (ok_sizes hp).2.2.1 A c w hr).mono fun e w' ⟨g, h1, h2, h3⟩ => ⟨g, h1, rd_pick h2 (fun i => rfl), h3⟩
omit he hcap in
theorem trans_ref : Calls Tryz.prog 50 #[.agg #[.string nm, .int .i64 (W : Int), .int .i64 (H : Int), .slice A l.length c]] w (PickEnd nm H W l.length (pickL l (transN W H) l.length) w) :=
  (transposedR_ok nm W H l (ok_sizes hp).1 (ok_sizes hp).2.1 (ok_sizes hp).2.2.1 A c w hr).mono fun e w' ⟨g, h1, h2, h3⟩ => ⟨g, h1, rd_pick h2 (fun i => rfl), h3⟩
end

end Go.Proofs.YtnbpcfakkphmcaaGreatDoor
