/- A block filled in an open order; rows in a block. -/
import Derived.Test.YtnbpcfakkphmcaaGreatDoorI
namespace Go.Proofs.YtnbpcfakkphmcaaGreatDoor
open Go.RowKit
set_option linter.unusedVariables false
def maskN (f : Nat → Value) (z : Value) (n : Nat) (D : Nat → Bool) : Array Value := (Array.range n).map (fun i => if D i then f i else z)
theorem mask_get (f : Nat → Value) (z : Value) (n : Nat) (D : Nat → Bool) (i : Nat) : (maskN f z n D)[i]? = if i < n then some (if D i then f i else z) else none := by
  unfold maskN
  by_cases hi : i < n <;> simp [hi]
theorem mask_set (f : Nat → Value) (z : Value) (n : Nat) (D D' : Nat → Bool) (k : Nat) (h : ∀ i, i < n → D' i = (D i || decide (i = k))) : (maskN f z n D).setIfInBounds k (f k) = maskN f z n D' := by
  apply Array.ext_getElem?
  intro i
  rw [Array.getElem?_setIfInBounds, mask_get, mask_get]
  have hsz : (maskN f z n D).size = n := by simp [maskN]
  by_cases hi : i < n
  · rw [if_pos hi, if_pos hi, h i hi]
    by_cases e : k = i
    · subst e; simp [hsz, hi]
    · have e' : ¬ i = k := fun h => e h.symm
      simp [e, e']
  · rw [if_neg hi, if_neg hi]
    by_cases e : k = i
    · subst e; simp [hsz, hi]
    · simp [e]
theorem mask_congr (f g : Nat → Value) (z : Value) (n : Nat) (D D' : Nat → Bool) (h : ∀ i, i < n → D i = D' i) (hf : ∀ i, i < n → D i = true → f i = g i) : maskN f z n D = maskN g z n D' := by
  apply Array.ext_getElem?
  intro i
  rw [mask_get, mask_get]
  by_cases hi : i < n
  · rw [if_pos hi, if_pos hi, ← h i hi]
    cases hD : D i
    · rfl
    · simp [hf i hi hD]
  · rw [if_neg hi, if_neg hi]
theorem fill_mask (f : Nat → Value) (z : Value) (n k : Nat) : fillN f z n k = maskN f z n (fun i => decide (i < k)) := by
  unfold fillN maskN
  congr 1
  funext i
  simp
theorem rd_mask {w : World} {g : Nat} {t : TypeId} {f : Nat → Value} {z : Value} {n : Nat} {D : Nat → Bool} (h : Blk w g t (maskN f z n D)) (hD : ∀ i, i < n → D i = true) {xs : List Value} (hx : xs.length = n) (hf : ∀ i, i < n → xs[i]? = some (f i)) : Rd w (some ⟨g, 0, none⟩) xs := fun _ =>
  ⟨_, rfl, h.lt, fun j u hu => by
    have hj : j < n := by have := (List.getElem?_eq_some_iff.1 hu).1; omega
    have h1 := h.cell j
    rw [mask_get, if_pos hj, hD j hj, if_pos rfl, ← hf j hj, hu] at h1
    unfold Addr.add
    split
    · rename_i h0; subst h0; exact h1
    · simpa using h1⟩
theorem add_blk (g o : Nat) : (⟨g, 0, none⟩ : Addr).add o = ⟨g, o, none⟩ := by
  unfold Addr.add
  split
  · rename_i h; subst h; rfl
  · simp
theorem row_blk (nm : ByteArray) (W H n c o g : Nat) (y : Nat) (w : World) (hW : 1 ≤ W) (ho : y * W = o) (hn : o + W ≤ n) (hc : n ≤ c) (hc2 : n ≤ 4096) (hy : y ≤ 4096) :
    Calls Tryz.prog 109 #[.agg #[.string nm, .int .i64 W, .int .i64 H, .slice (some ⟨g, 0, none⟩) n c], .int .i64 y] w fun e w' => e = .returned (.slice (some ⟨g, o, none⟩) W (c - o)) ∧ Below w.heap.size w w' := by
  have h := row_any nm W H n c o ⟨g, 0, none⟩ y w hW ho hn hc hc2 hy
  rw [add_blk] at h
  exact h
theorem Rd.some_ {w : World} {A : Option Addr} {xs : List Value} (h : Rd w A xs) (h0 : 0 < xs.length) : ∃ ad, A = some ad ∧ ad.block < w.heap.size ∧ ∀ j u, xs[j]? = some u → w.cell? (ad.add j) = some u := h h0
theorem fl_get {l : List Nat} {j : Nat} (h : j < l.length) : (fl l)[j]? = some (.float .f32 (l.getD j 0)) := by simp [fl, List.getD, h]
theorem prod_pos {W H : Nat} (hW : 1 ≤ W) (hH : 1 ≤ H) : 1 ≤ W * H := Nat.mul_pos hW hH
theorem row_le {y W H : Nat} (hy : y < H) : y * W + W ≤ W * H := by
  have : (y + 1) * W ≤ H * W := Nat.mul_le_mul_right W (by omega)
  rw [Nat.add_mul, Nat.one_mul] at this
  rw [Nat.mul_comm W H]
  exact this

end Go.Proofs.YtnbpcfakkphmcaaGreatDoor
