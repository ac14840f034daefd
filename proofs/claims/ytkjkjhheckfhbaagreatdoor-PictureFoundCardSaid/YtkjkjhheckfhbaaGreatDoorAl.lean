/- What is kept while packets are received. -/
import Derived.Test.YtkjkjhheckfhbaaGreatDoorAi
import Derived.RangeFuncOwn
import Derived.RangeFuncBox
import Derived.Maps.AppendAt
namespace Go.Proofs.YtkjkjhheckfhbaaGreatDoor
open Go.RowKit
set_option linter.unusedVariables false
theorem owns_below {w w' : World} {B : Nat} {e : TypeId} {size : Nat} {v : Value} {n : Nat} {xs : List Value} (h : w.ownsRow B e size v n xs) (hb : Below w.heap.size w w') : w'.ownsRow B e size v n xs := by
  obtain ⟨h1, h2⟩ := h
  refine ⟨h1, ?_⟩
  rcases h2 with h2 | ⟨g, cap, cur, rfl, hg, hc, h3⟩
  · exact .inl h2
  · exact .inr ⟨g, cap, cur, rfl, hg, (hb.block g (Array.getElem?_eq_some_iff.1 hc).1).trans hc, h3⟩
theorem owns_kept {W W' : World} {row : Option Nat} {B : Nat} {e : TypeId} {size : Nat} {v : Value} {n : Nat} {xs : List Value} (h : W.ownsRow B e size v n xs) (hg : W.grownBy W' row) (hr : ∀ r, row = some r → ∃ o : Obj, W.heap[r]? = some o ∧ o.isCells = false) : W'.ownsRow B e size v n xs := by
  obtain ⟨h1, h2⟩ := h
  refine ⟨h1, ?_⟩
  rcases h2 with h2 | ⟨g, cap, cur, rfl, hb, hc, h3⟩
  · exact .inl h2
  · refine .inr ⟨g, cap, cur, rfl, hb, (hg.block g (Array.getElem?_eq_some_iff.1 hc).1 (fun e' => ?_)).trans hc, h3⟩
    obtain ⟨o, ho, hcs⟩ := hr g e'.symm
    rw [hc] at ho; cases ho; cases hcs
theorem owns_far {W : World} {B : Nat} {e : TypeId} {size : Nat} {v : Value} {n : Nat} {xs : List Value} (h : W.ownsRow B e size v n xs) {p : Addr} (hp : p.block < B) (u : Value) : (W.setCell p u).ownsRow B e size v n xs := by
  obtain ⟨h1, h2⟩ := h
  refine ⟨h1, ?_⟩
  rcases h2 with h2 | ⟨g, cap, cur, rfl, hb, hc, h3⟩
  · exact .inl h2
  · exact .inr ⟨g, cap, cur, rfl, hb, (Below.heap_setCell W p u g (by omega)).trans hc, h3⟩
theorem owns_block {W : World} {B : Nat} {e : TypeId} {size : Nat} {v : Value} {n : Nat} {xs : List Value} (h : W.ownsRow B e size v n xs) : ∀ g, v.ownBlock = some g → B ≤ g ∧ g < W.heap.size ∧ ∀ o, W.heap[g]? = some o → o.isCells = true := fun g hg => by
  rcases h.2 with ⟨rfl, _⟩ | ⟨g', cap, cur, rfl, hb, hc, _⟩
  · cases hg
  · cases hg
    exact ⟨hb, (Array.getElem?_eq_some_iff.1 hc).1, fun o ho => by rw [hc] at ho; cases ho; rfl⟩
theorem own_shape {W : World} {B : Nat} {e : TypeId} {size : Nat} {v : Value} {n : Nat} {xs : List Value} (h : W.ownsRow B e size v n xs) : ∃ A c, v = .slice A n c := by
  rcases h.2 with ⟨rfl, h0⟩ | ⟨g, cap, cur, rfl, _⟩
  · exact ⟨none, 0, by rw [h0]⟩
  · exact ⟨_, _, rfl⟩
theorem blk_grown {W W' : World} {row : Option Nat} {g : Nat} {t : TypeId} {cs : Array Value} (h : Blk W g t cs) (hg : W.grownBy W' row) (hne : row ≠ some g) : Blk W' g t cs :=
  (hg.block g h.lt (fun e => hne e.symm)).trans h
theorem keeps_below {W W' : World} (h : Below W.heap.size W W') : KeepsOthers W W' := ⟨h.size, fun k o hk _ => (h.block k (Array.getElem?_eq_some_iff.1 hk).1).trans hk⟩
structure RP (n : Nat) (s0 v1 v2 : Value) (pk : List Pk) (sk : List (Int × Int)) (nx : Nat) (W : World) : Prop where
  b0 : Blk W n 106 #[s0]
  b1 : Blk W (n + 1) 96 #[v1]
  b2 : Blk W (n + 1 + 1) 107 #[v2]
  b3 : Blk W (n + 1 + 1 + 1) 3 #[.int .i64 nx]
  o1 : W.ownsRow (n + 4) 92 12 v1 pk.length (pksC pk)
  o2 : W.ownsRow (n + 4) 47 2 v2 sk.length (spansC sk)
  nil : sk = [] → v2 = .slice none 0 0
  ne : v1.ownBlock = none ∨ v1.ownBlock ≠ v2.ownBlock
section
variable {n : Nat} {s0 v1 v2 : Value} {pk : List Pk} {sk : List (Int × Int)} {nx : Nat} {W W' : World}
theorem RP.below (h : RP n s0 v1 v2 pk sk nx W) (hb : Below W.heap.size W W') : RP n s0 v1 v2 pk sk nx W' :=
  ⟨h.b0.below hb, h.b1.below hb, h.b2.below hb, h.b3.below hb, owns_below h.o1 hb, owns_below h.o2 hb, h.nil, h.ne⟩
theorem RP.keep {row : Option Nat} (h : RP n s0 v1 v2 pk sk nx W) (hg : W.grownBy W' row) (hr : ∀ r, row = some r → ∃ o : Obj, W.heap[r]? = some o ∧ o.isCells = false) : RP n s0 v1 v2 pk sk nx W' := by
  have hne : ∀ {g t cs}, Blk W g t cs → row ≠ some g := fun {g t cs} hb e => by
    obtain ⟨o, ho, hc⟩ := hr g e
    unfold Blk at hb; rw [hb] at ho; cases ho; cases hc
  exact ⟨blk_grown h.b0 hg (hne h.b0), blk_grown h.b1 hg (hne h.b1), blk_grown h.b2 hg (hne h.b2), blk_grown h.b3 hg (hne h.b3), owns_kept h.o1 hg hr, owns_kept h.o2 hg hr, h.nil, h.ne⟩
theorem RP.app {pk' : List Pk} {v1' : Value} (h : RP n s0 v1 v2 pk sk nx W) (ho : W'.ownsRow (n + 4) 92 12 v1' pk'.length (pksC pk')) (hg : W.grownBy W' v1.ownBlock) (ha : v1'.ownBlock = v1.ownBlock ∨ ∃ h, W.heap.size ≤ h ∧ v1'.ownBlock = some h) :
    RP n s0 v1' v2 pk' sk nx (W'.setCell ⟨n + 1, 0, none⟩ v1') := by
  have hb := owns_block h.o1
  have hb2 := owns_block h.o2
  have hne : ∀ g, g < n + 4 → v1.ownBlock ≠ some g := fun g hl e => by have := (hb g e).1; omega
  have hv2 : v2.ownBlock = none ∨ v2.ownBlock ≠ v1.ownBlock := by
    rcases h.ne with e | e
    · rw [e]; cases hv : v2.ownBlock <;> simp
    · exact .inr (Ne.symm e)
  refine ⟨(blk_grown h.b0 hg (hne _ (by omega))).far (p := ⟨n + 1, 0, none⟩) (by dsimp only; omega) _, ?_, (blk_grown h.b2 hg (hne _ (by omega))).far (p := ⟨n + 1, 0, none⟩) (by dsimp only; omega) _, (blk_grown h.b3 hg (hne _ (by omega))).far (p := ⟨n + 1, 0, none⟩) (by dsimp only; omega) _, owns_far ho (by dsimp only; omega) _, owns_far (h.o2.kept hg hv2) (by dsimp only; omega) _, h.nil, ?_⟩
  · simpa using (blk_grown h.b1 hg (hne _ (by omega))).set_ 0 v1'
  · rcases ha with e | ⟨g, hge, e⟩
    · rw [e]; exact h.ne
    · right; rw [e]; intro e2
      have := (hb2 g e2.symm).2.1
      omega
theorem RP.app2 {sk' : List (Int × Int)} {v2' : Value} (h : RP n s0 v1 v2 pk sk nx W) (ho : W'.ownsRow (n + 4) 47 2 v2' sk'.length (spansC sk')) (hs : sk' ≠ []) (hg : W.grownBy W' v2.ownBlock) (ha : v2'.ownBlock = v2.ownBlock ∨ ∃ h, W.heap.size ≤ h ∧ v2'.ownBlock = some h) :
    RP n s0 v1 v2' pk sk' nx (W'.setCell ⟨n + 1 + 1, 0, none⟩ v2') := by
  have hb := owns_block h.o2
  have hb1 := owns_block h.o1
  have hne : ∀ g, g < n + 4 → v2.ownBlock ≠ some g := fun g hl e => by have := (hb g e).1; omega
  refine ⟨(blk_grown h.b0 hg (hne _ (by omega))).far (p := ⟨n + 1 + 1, 0, none⟩) (by dsimp only; omega) _, (blk_grown h.b1 hg (hne _ (by omega))).far (p := ⟨n + 1 + 1, 0, none⟩) (by dsimp only; omega) _, ?_, (blk_grown h.b3 hg (hne _ (by omega))).far (p := ⟨n + 1 + 1, 0, none⟩) (by dsimp only; omega) _, owns_far (h.o1.kept hg h.ne) (by dsimp only; omega) _, owns_far ho (by dsimp only; omega) _, fun e => absurd e hs, ?_⟩
  · simpa using (blk_grown h.b2 hg (hne _ (by omega))).set_ 0 v2'
  · rcases ha with e | ⟨g, hge, e⟩
    · rw [e]; exact h.ne
    · cases hv : v1.ownBlock with
      | none => exact .inl rfl
      | some k =>
        right; rw [e]; intro e2
        cases e2
        have := (hb1 g hv).2.1
        omega
theorem RP.box1 (h : RP n s0 v1 v2 pk sk nx W) (hg : W.grownBy W' v1.ownBlock) : Blk W' (n + 1) 96 #[v1] ∧ Blk W' (n + 1 + 1 + 1) 3 #[.int .i64 nx] := by
  have hb := owns_block h.o1
  have hne : ∀ g, g < n + 4 → v1.ownBlock ≠ some g := fun g hl e => by have := (hb g e).1; omega
  exact ⟨blk_grown h.b1 hg (hne _ (by omega)), blk_grown h.b3 hg (hne _ (by omega))⟩
theorem RP.box2 (h : RP n s0 v1 v2 pk sk nx W) (hg : W.grownBy W' v2.ownBlock) : Blk W' (n + 1 + 1) 107 #[v2] := by
  have hb := owns_block h.o2
  have hne : ∀ g, g < n + 4 → v2.ownBlock ≠ some g := fun g hl e => by have := (hb g e).1; omega
  exact blk_grown h.b2 hg (hne _ (by omega))
theorem RP.keeps1 (h : RP n s0 v1 v2 pk sk nx W) (hg : W.grownBy W' v1.ownBlock) : KeepsOthers W W' := KeepsOthers.of_grownBy hg (fun j o hj ho => (owns_block h.o1 j hj).2.2 o ho)
theorem RP.keeps2 (h : RP n s0 v1 v2 pk sk nx W) (hg : W.grownBy W' v2.ownBlock) : KeepsOthers W W' := KeepsOthers.of_grownBy hg (fun j o hj ho => (owns_block h.o2 j hj).2.2 o ho)
theorem RP.below1 {w : World} {B : Nat} (h : RP n s0 v1 v2 pk sk nx W) (hB : Below B w W) (hn : B ≤ n) (hw : B ≤ W.heap.size) (hg : W.grownBy W' v1.ownBlock) : Below B w W' := hB.grown hg hw (fun k hk => by have := (owns_block h.o1 k hk).1; omega)
theorem RP.below2 {w : World} {B : Nat} (h : RP n s0 v1 v2 pk sk nx W) (hB : Below B w W) (hn : B ≤ n) (hw : B ≤ W.heap.size) (hg : W.grownBy W' v2.ownBlock) : Below B w W' := hB.grown hg hw (fun k hk => by have := (owns_block h.o2 k hk).1; omega)
theorem RP.next {nx' : Nat} (h : RP n s0 v1 v2 pk sk nx W) : RP n s0 v1 v2 pk sk nx' (W.setCell ⟨n + 1 + 1 + 1, 0, none⟩ (.int .i64 nx')) :=
  ⟨h.b0.far (p := ⟨n + 1 + 1 + 1, 0, none⟩) (by dsimp only; omega) _, h.b1.far (p := ⟨n + 1 + 1 + 1, 0, none⟩) (by dsimp only; omega) _, h.b2.far (p := ⟨n + 1 + 1 + 1, 0, none⟩) (by dsimp only; omega) _, by simpa using h.b3.set_ 0 (.int .i64 nx'), owns_far h.o1 (by dsimp only; omega) _, owns_far h.o2 (by dsimp only; omega) _, h.nil, h.ne⟩
end

end Go.Proofs.YtkjkjhheckfhbaaGreatDoor
