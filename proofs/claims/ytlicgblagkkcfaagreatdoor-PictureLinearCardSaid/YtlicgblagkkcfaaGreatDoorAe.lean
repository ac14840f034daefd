/- A place behind ascending spans. -/
import Derived.Test.YtlicgblagkkcfaaGreatDoorS
import Derived.Test.YtlicgblagkkcfaaGreatDoorT
import Derived.Maps.AppendAt
import Derived.Laws.OwnMore
namespace Go.Proofs.YtlicgblagkkcfaaGreatDoor
open Go.RowKit
set_option linter.unusedVariables false
theorem info_span : (Tryz.prog.info? 47).map (fun i => (i.zero, i.size, i.bytes)) = some (some (.agg #[.int .i64 0, .int .i64 0]), 2, 16) := by kernel_rfl
def spansC (l : List (Int × Int)) : List Value := l.flatMap (fun p => [.int .i64 p.1, .int .i64 p.2])
theorem spansC_len (l : List (Int × Int)) : (spansC l).length = l.length * 2 := by
  induction l with
  | nil => rfl
  | cons a l ih => simp [spansC] at ih ⊢; omega
theorem spansC_app (l m : List (Int × Int)) : spansC (l ++ m) = spansC l ++ spansC m := by simp [spansC]
abbrev WPost (B : Nat) (v : Value) (n : Nat) (l : List (Int × Int)) (w : World) (e : Ending) (w' : World) : Prop := ∃ v', e = .returned v' ∧ w'.ownsRow B 47 2 v' n (spansC l) ∧ w.grownBy w' v.ownBlock ∧ (v'.ownBlock = v.ownBlock ∨ ∃ h, w.heap.size ≤ h ∧ v'.ownBlock = some h)
set_option maxRecDepth 100000 in
theorem withPlace_nil (B at_ : Nat) (hat : at_ ≤ 1000000) (w : World) (hB : B ≤ w.heap.size) :
    Calls Tryz.prog 135 #[.slice none 0 0, .int .i64 at_] w fun e w' => WPost B (.slice none 0 0) 1 [(↑at_, ↑at_ + 1)] w e w' := by
  obtain ⟨i0, hi, hz0, hz1, hz2⟩ := info_parts info_span
  go_enter Tryz.func135, Tryz.ntmps135
  go_wp2_with (at_builtin; go_must (refine wpList_append_own_at _ (by rfl) (.tmp 30) (.tmp 35) 107 (by rfl) B 47 i0 (.agg #[.int .i64 0, .int .i64 0]) 2 16 Tryz.underlying107 hi hz0 hz1 hz2 (by rfl) (by decide) (.slice none 0 0) 0 [] (by rfl) (World.ownsRow_nil _ _ _ _) ⟨w.heap.size, 0, none⟩ 1 1 (spansC [(↑at_, ↑at_ + 1)]) rfl rfl (World.news_of_block (heap_alloc_new w _)) (by simp [spansC, Value.oneCell']) (by unfold maxLen; omega) (by omega) (by simp; omega) ?_); intro v' w1 hown1 hgrow hnil hat1)
  have hg : w.grownBy w1 (Value.slice none 0 0).ownBlock := ⟨hgrow.os, hgrow.tape, hgrow.output, Nat.le_trans (by simp) hgrow.size, fun i hi hne => (hgrow.block i (by simp; omega) hne).trans (Below.heap_alloc w _ i hi)⟩
  go_ret
  refine ⟨v', rfl, hown1, hg, ?_⟩
  rcases hat1 with h | h
  · exact .inl h
  · exact .inr ⟨_, by simp, h⟩
set_option maxRecDepth 100000 in
theorem withPlace_app (B at_ g cap : Nat) (l : List (Int × Int)) (a b : Int) (hat : at_ ≤ 1000000) (hl : l.length ≤ 1000000) (hb : b ≠ ↑at_) (w : World) (hown : w.ownsRow B 47 2 (.slice (some ⟨g, 0, none⟩) (l.length + 1) cap) (l.length + 1) (spansC (l ++ [(a, b)]))) (hB : B ≤ w.heap.size) :
    Calls Tryz.prog 135 #[.slice (some ⟨g, 0, none⟩) (l.length + 1) cap, .int .i64 at_] w fun e w' => WPost B (.slice (some ⟨g, 0, none⟩) (l.length + 1) cap) (l.length + 2) ((l ++ [(a, b)]) ++ [((↑at_ : Int), (↑at_ : Int) + 1)]) w e w' := by
  obtain ⟨i0, hi, hz0, hz1, hz2⟩ := info_parts info_span
  have hc := hown.cellAt (l.length * 2 + 1) (by omega)
  have hcv : (spansC (l ++ [(a, b)]))[l.length * 2 + 1]? = some (.int .i64 b) := by
    rw [spansC_app, List.getElem?_append_right (by rw [spansC_len]; omega), spansC_len, Nat.add_sub_cancel_left]; rfl
  rw [hcv] at hc
  clear hcv
  have hb1 : (b == ↑at_) = false := by simpa using hb
  have hb2 := decide_eq_false hb
  have HO := Lib.hid hown; clear hown
  have HL := Lib.hid (spansC_app (l ++ [(a, b)]) [((↑at_ : Int), (↑at_ : Int) + 1)])
  obtain ⟨n, hn⟩ : ∃ n, l.length = n := ⟨_, rfl⟩
  obtain ⟨xs, hxs⟩ : ∃ xs, spansC (l ++ [(a, b)]) = xs := ⟨_, rfl⟩
  rw [hxs, hn] at HO
  rw [hxs] at HL
  rw [hn] at hc hl ⊢
  have HXS := Lib.hid hxs; have HN := Lib.hid hn
  clear hxs hn
  go_enter Tryz.func135, Tryz.ntmps135
  go_wp2_with (at_builtin; go_must (refine wpList_append_own_at _ (by rfl) (.tmp 30) (.tmp 35) 107 (by rfl) B 47 i0 (.agg #[.int .i64 0, .int .i64 0]) 2 16 Tryz.underlying107 hi hz0 hz1 hz2 (by rfl) (by decide) (.slice (some ⟨g, 0, none⟩) (n + 1) cap) (n + 1) xs (by rfl) (HO.out.alloc _) ⟨w.heap.size, 0, none⟩ 1 1 (spansC [(↑at_, ↑at_ + 1)]) rfl rfl (World.news_of_block (heap_alloc_new w _)) (by simp [spansC, Value.oneCell']) (by unfold maxLen; omega) (by omega) (by simp; omega) ?_); intro v' w1 hown1 hgrow hnil hat1)
  have hg : w.grownBy w1 (Value.slice (some ⟨g, 0, none⟩) (n + 1) cap).ownBlock := ⟨hgrow.os, hgrow.tape, hgrow.output, Nat.le_trans (by simp) hgrow.size, fun i hi hne => (hgrow.block i (by simp; omega) hne).trans (Below.heap_alloc w _ i hi)⟩
  go_ret
  refine ⟨v', rfl, by rw [HL.out]; exact hown1, hg, ?_⟩
  rcases hat1 with h | h
  · exact .inl h
  · exact .inr ⟨_, by simp, h⟩
set_option maxRecDepth 100000 in
theorem withPlace_up (B at_ g cap : Nat) (l : List (Int × Int)) (a : Int) (hat : at_ ≤ 1000000) (hl : l.length ≤ 1000000) (w : World) (hown : w.ownsRow B 47 2 (.slice (some ⟨g, 0, none⟩) (l.length + 1) cap) (l.length + 1) (spansC (l ++ [(a, (↑at_ : Int))]))) (hB : B ≤ w.heap.size) :
    Calls Tryz.prog 135 #[.slice (some ⟨g, 0, none⟩) (l.length + 1) cap, .int .i64 at_] w fun e w' => WPost B (.slice (some ⟨g, 0, none⟩) (l.length + 1) cap) (l.length + 1) (l ++ [(a, (↑at_ : Int) + 1)]) w e w' := by
  have hc := hown.cellAt (l.length * 2 + 1) (by omega)
  have hcv : (spansC (l ++ [(a, (↑at_ : Int))]))[l.length * 2 + 1]? = some (.int .i64 (↑at_ : Int)) := by
    rw [spansC_app, List.getElem?_append_right (by rw [spansC_len]; omega), spansC_len, Nat.add_sub_cancel_left]; rfl
  rw [hcv] at hc
  clear hcv
  have hs : (spansC (l ++ [(a, (↑at_ : Int))])).set (l.length * 2 + 1) (.int .i64 ((↑at_ : Int) + 1)) = spansC (l ++ [(a, (↑at_ : Int) + 1)]) := by
    rw [spansC_app, spansC_app, List.set_append_right _ _ (by rw [spansC_len]; omega), spansC_len, Nat.add_sub_cancel_left]; rfl
  have hfr := hown.frozenAt (l.length * 2 + 1)
  have hst := hown.stored (l.length * 2 + 1) (.int .i64 ((↑at_ : Int) + 1))
  rw [hs] at hst
  have HST := Lib.hid hst
  clear hst hs hown
  obtain ⟨n, hn⟩ : ∃ n, l.length = n := ⟨_, rfl⟩
  rw [hn] at HST hc hfr hl ⊢
  clear hn
  go_enter Tryz.func135, Tryz.ntmps135
  go_wp2
  go_ret
  exact ⟨_, rfl, HST.out.1, HST.out.2, .inl rfl⟩

end Go.Proofs.YtlicgblagkkcfaaGreatDoor
