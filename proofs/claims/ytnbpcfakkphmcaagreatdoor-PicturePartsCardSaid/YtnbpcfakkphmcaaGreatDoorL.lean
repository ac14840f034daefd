/- A copy into a block that is being filled. -/
import Derived.Test.YtnbpcfakkphmcaaGreatDoorK
import Derived.Laws.CopyOwn
namespace Go.Proofs.YtnbpcfakkphmcaaGreatDoor
open Go.RowKit
set_option linter.unusedVariables false
/-- only block g has turned -/
structure Only (g : Nat) (w w' : World) : Prop where
  os : w'.os = w.os
  tape : w'.tape = w.tape
  output : w'.output = w.output
  size : w'.heap.size = w.heap.size
  block : ∀ k, k ≠ g → w'.heap[k]? = w.heap[k]?
section
variable {g : Nat} {w w' : World}
theorem Only.far (h : Only g w w') {k : Nat} {t : TypeId} {cs : Array Value} (hb : Blk w k t cs) (hk : k ≠ g) : Blk w' k t cs := (h.block k hk).trans hb
theorem Only.below (h : Only g w w') {B : Nat} {w0 : World} (hb : Below B w0 w) (hB : B ≤ g) : Below B w0 w' :=
  hb.trans ⟨h.os, h.tape, h.output, by rw [h.size]; exact Nat.le_refl _, fun k hk => h.block k (by omega)⟩
theorem Only.cell (h : Only g w w') {p : Addr} {v : Value} (hp : p.block ≠ g) (hc : w.cell? p = some v) : w'.cell? p = some v := (World.cell?_of_block (w := w) (h.block p.block hp)).trans hc
theorem only_setRow (w : World) (g : Nat) (cs : Array Value) : Only g w (w.setRow g cs) := ⟨rfl, rfl, rfl, by simp, fun k hk => setRow_other w g k cs hk⟩
end
theorem wp_copy_blk {P : Program} {o : Oper} {a : Act} {w : World} {K : Act → World → Prop} {Q : Exit → Act → World → Prop} (d s : Operand) (dT sT : TypeId)
    (ho : o.op = .call { callee := .builtin .copy, args := #[d, s], argTypes := #[dT, sT] }) (elem : TypeId) (hu : P.underlying dT = some (.slice elem)) (hsz : (P.info? elem).map (·.size) = some 1)
    (g off dLen dCap : Nat) (ad : Addr) (sLen sCap : Nat) (hd : a.eval d = .slice (some ⟨g, off, none⟩) dLen dCap) (hs : a.eval s = .slice (some ad) sLen sCap)
    (cur : Array Value) (t : TypeId) (hg : Blk w g t cur) (cs : List Value) (hn : cs.length = Nat.min sLen dLen)
    (hsrc : ∀ j v, cs[j]? = some v → w.cell? (ad.add j) = some v) (hfit : off + cs.length ≤ cur.size) (h1 : ∀ v ∈ cs, v.oneCell' = true)
    (new : Array Value) (hnew : (cur.toList.take off ++ (cs ++ cur.toList.drop (off + cs.length))).toArray = new)
    (h : ∀ w', Hid (Blk w' g t new) → Only g w w' → K (a.put o.dst (goInt cs.length)) w') : Oper.wp P o a w K Q := by
  have hrun := run_copy_row (P := P) w dT sT o.type elem g off dLen dCap ad sLen sCap cur t cs hu hsz hg hn hsrc hfit h1
  unfold Oper.wp
  simp [execOp, ho, resolve, invoke, builtin, hd, hs, hrun, Result.andThen]
  refine h _ (show Blk _ _ _ _ from ?_) (only_setRow w g _)
  have := setRow_heap w g cur (cur.toList.take off ++ (cs ++ cur.toList.drop (off + cs.length))).toArray t (0, 0) hg
  rw [← hnew]
  unfold Blk
  simpa using this
theorem step_copy_blk {P : Program} {ops : Array Oper} {o : Oper} {a : Act} {w : World} {K : Act → World → Prop} {Q : Exit → Act → World → Prop} {E : Prop} (hgd : o.guard = none) (d s : Operand) (dT sT : TypeId)
    (ho : o.op = .call { callee := .builtin .copy, args := #[d, s], argTypes := #[dT, sT] }) (elem : TypeId) (hu : P.underlying dT = some (.slice elem)) (hsz : (P.info? elem).map (·.size) = some 1)
    (g off dLen dCap : Nat) (ad : Addr) (sLen sCap : Nat) (hd : a.eval d = .slice (some ⟨g, off, none⟩) dLen dCap) (hs : a.eval s = .slice (some ad) sLen sCap)
    (cur : Array Value) (t : TypeId) (hg : Blk w g t cur) (cs : List Value) (hn : cs.length = Nat.min sLen dLen)
    (hsrc : ∀ j v, cs[j]? = some v → w.cell? (ad.add j) = some v) (hfit : off + cs.length ≤ cur.size) (h1 : ∀ v ∈ cs, v.oneCell' = true)
    (new : Array Value) (hnew : (cur.toList.take off ++ (cs ++ cur.toList.drop (off + cs.length))).toArray = new)
    (h : ∀ w', Hid (Blk w' g t new) → Only g w w' → K (a.put o.dst (goInt cs.length)) w') :
    if Region.wanted o (yielded ops a.tmps) = true then Oper.wp P o a w K Q else E := by
  have hw : Region.wanted o (yielded ops a.tmps) = true := by simp [Region.wanted, hgd]
  rw [if_pos hw]
  exact wp_copy_blk d s dT sT ho elem hu hsz g off dLen dCap ad sLen sCap hd hs cur t hg cs hn hsrc hfit h1 new hnew h
theorem wpList_copy_blk {P : Program} {w : World} {ops : Array Oper} {rest : List Oper} {o : Oper} {a : Act} {Q : Exit → Act → World → Prop} (hgd : o.guard = none) (d s : Operand) (dT sT : TypeId)
    (ho : o.op = .call { callee := .builtin .copy, args := #[d, s], argTypes := #[dT, sT] }) (elem : TypeId) (hu : P.underlying dT = some (.slice elem)) (hsz : (P.info? elem).map (·.size) = some 1)
    (g off dLen dCap : Nat) (ad : Addr) (sLen sCap : Nat) (hd : a.eval d = .slice (some ⟨g, off, none⟩) dLen dCap) (hs : a.eval s = .slice (some ad) sLen sCap)
    (cur : Array Value) (t : TypeId) (hg : Blk w g t cur) (cs : List Value) (hn : cs.length = Nat.min sLen dLen)
    (hsrc : ∀ j v, cs[j]? = some v → w.cell? (ad.add j) = some v) (hfit : off + cs.length ≤ cur.size) (h1 : ∀ v ∈ cs, v.oneCell' = true)
    (new : Array Value) (hnew : (cur.toList.take off ++ (cs ++ cur.toList.drop (off + cs.length))).toArray = new)
    (h : ∀ w', Hid (Blk w' g t new) → Only g w w' → wpList P ops Q rest (a.put o.dst (goInt cs.length)) w') : wpList P ops Q (o :: rest) a w :=
  wpList_plain hgd fun K hK => wp_copy_blk d s dT sT ho elem hu hsz g off dLen dCap ad sLen sCap hd hs cur t hg cs hn hsrc hfit h1 new hnew fun w' h2 h3 => hK _ _ (h w' h2 h3)
/-- what a copy makes of a block that is being filled -/
theorem mask_copy (f : Nat → Value) (z : Value) (n : Nat) (D D' : Nat → Bool) (off : Nat) (cs : List Value) (hfit : off + cs.length ≤ n) (hcs : ∀ j, j < cs.length → cs[j]? = some (f (off + j)))
    (hD : ∀ i, i < n → D' i = (D i || (decide (off ≤ i) && decide (i < off + cs.length)))) :
    ((maskN f z n D).toList.take off ++ (cs ++ (maskN f z n D).toList.drop (off + cs.length))).toArray = maskN f z n D' := by
  have hsz : (maskN f z n D).toList.length = n := by simp [maskN]
  apply Array.ext_getElem?
  intro i
  rw [mask_get, List.getElem?_toArray]
  by_cases h1 : i < off
  · have hin : i < n := by omega
    rw [List.getElem?_append_left (by rw [List.length_take, hsz]; omega), List.getElem?_take_of_lt h1, Array.getElem?_toList, mask_get, if_pos hin, if_pos hin, hD i hin]
    have : decide (off ≤ i) = false := by simp; omega
    rw [this]; simp
  · have hlt : ((maskN f z n D).toList.take off).length = off := by rw [List.length_take, hsz]; omega
    rw [List.getElem?_append_right (by omega), hlt]
    by_cases h2 : i < off + cs.length
    · rw [List.getElem?_append_left (by omega), hcs (i - off) (by omega), if_pos (by omega), hD i (by omega), show off + (i - off) = i by omega]
      have : (decide (off ≤ i) && decide (i < off + cs.length)) = true := by simp; omega
      rw [this]; simp
    · rw [List.getElem?_append_right (by omega), List.getElem?_drop, show off + cs.length + (i - off - cs.length) = i by omega, Array.getElem?_toList, mask_get]
      by_cases h3 : i < n
      · rw [if_pos h3, if_pos h3, hD i h3]
        have : decide (i < off + cs.length) = false := by simp; omega
        rw [this]; simp
      · rw [if_neg h3, if_neg h3]
theorem info_f32 : (Tryz.prog.info? 23).map (·.size) = some 1 := by kernel_rfl
theorem upon_copy_blk {P : Program} {o : Oper} {a : Act} {w : World} {K : Act → World → Prop} {Q : Exit → Act → World → Prop} (dT sT ty elem : TypeId) (hu : P.underlying dT = some (.slice elem)) (hsz : (P.info? elem).map (·.size) = some 1)
    (g off dLen dCap : Nat) (ad : Addr) (sLen sCap : Nat) (cur : Array Value) (t : TypeId) (hg : Blk w g t cur) (cs : List Value) (hn : cs.length = Nat.min sLen dLen)
    (hsrc : ∀ j v, cs[j]? = some v → w.cell? (ad.add j) = some v) (hfit : off + cs.length ≤ cur.size) (h1 : ∀ v ∈ cs, v.oneCell' = true)
    (new : Array Value) (hnew : (cur.toList.take off ++ (cs ++ cur.toList.drop (off + cs.length))).toArray = new)
    (h : ∀ w', Hid (Blk w' g t new) → Only g w w' → K (a.put o.dst (goInt cs.length)) w') :
    o.upon P a K Q ((Sem.run P (Builtin.copy_ #[dT, sT] ty #[.slice (some ⟨g, off, none⟩) dLen dCap, .slice (some ad) sLen sCap]) w).andThen fun a w' => .ok (.value a) w') := by
  have hrun := run_copy_row (P := P) w dT sT ty elem g off dLen dCap ad sLen sCap cur t cs hu hsz hg hn hsrc hfit h1
  rw [hrun]
  refine h _ (show Blk _ _ _ _ from ?_) (only_setRow w g _)
  have := setRow_heap w g cur (cur.toList.take off ++ (cs ++ cur.toList.drop (off + cs.length))).toArray t (0, 0) hg
  rw [← hnew]
  unfold Blk
  simpa using this
theorem chainB' {wo w1 w2 : World} (h : Below wo.heap.size wo w1) (k : Below w1.heap.size w1 w2) : Below wo.heap.size wo w2 := h.trans (k.mono h.size)


end Go.Proofs.YtnbpcfakkphmcaaGreatDoor
