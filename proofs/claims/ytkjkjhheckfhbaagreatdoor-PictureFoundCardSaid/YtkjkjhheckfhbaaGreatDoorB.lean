/- Contracts of small functions, and of the map over a list of floats; words for memory. -/
import Derived.Test.YtkjkjhheckfhbaaGreatDoorProg
import Derived.Handy
import Derived.LoopTactic
import Derived.Deep.QuietTactic
import Derived.BigQuiet
import Derived.Lib.Hide
import Derived.Outline
import Derived.WalkLawsBesides
import Derived.WalkSpells
import Derived.Deep.OwnRows
import Derived.Deep.RegionHeld3
import Derived.Deep.RegionWith
import Derived.Deep.AppendLies
import Derived.Maps.AppendAt
import Derived.Deep.DrawnRows
import Derived.Deep.DeepCutAuto
import Derived.Deep.DeepFit
import Derived.StillTailTactics
import Derived.Deep.Draws
namespace Go.Proofs.YtkjkjhheckfhbaaGreatDoor
open Go.RowKit
set_option linter.unusedVariables false
theorem block_of_add (a : Addr) (n : Nat) : (a.add n).block = a.block := by unfold Addr.add; split <;> rfl
theorem add_of_add (a : Addr) (i j : Nat) : (a.add i).add j = a.add (i + j) := by
  unfold Addr.add
  by_cases hi : i = 0 <;> by_cases hj : j = 0 <;> simp [hi, hj, Nat.add_assoc]
def Rd (w : World) (A : Option Addr) (xs : List Value) : Prop :=
  0 < xs.length → ∃ ad, A = some ad ∧ ad.block < w.heap.size ∧ ∀ j u, xs[j]? = some u → w.cell? (ad.add j) = some u
def errIf (b : Bool) (e : Int) : Int := if b then e else 0
theorem errorIf_any (b : Bool) (e : Int) (w : World) : Calls Tryz.prog 104 #[.bool b, .int .i64 e] w fun e' w' => e' = .returned (.int .i64 (errIf b e)) ∧ w = w' := by
  cases b
  all_goals
    go_enter Tryz.func104, Tryz.ntmps104
    go_wp2
    go_ret
    exact ⟨rfl, rfl⟩
def outs (n lo hi : Int) : Int := errIf (decide (n < lo) || decide (hi < n)) 3
theorem outside_any (n lo hi : Int) (w : World) : Calls Tryz.prog 98 #[.int .i64 n, .int .i64 lo, .int .i64 hi] w fun e' w' => e' = .returned (.int .i64 (outs n lo hi)) ∧ w = w' := by
  go_enter Tryz.func98, Tryz.ntmps98
  go_wp2_with (go_at_call 104; refine (errorIf_any _ _ _).mono ?_; rintro e w' ⟨rfl, rfl⟩)
  all_goals
    go_ret
    exact ⟨by simp [outs, errIf, *], rfl⟩
def isLetterN (r : Int) : Bool := decide ((65 ≤ r ∧ r ≤ 90) ∨ (97 ≤ r ∧ r ≤ 122))
theorem isLetter_any (r : Int) (w : World) : Calls Tryz.prog 100 #[.int .i32 r] w fun e' w' => e' = .returned (.bool (isLetterN r)) ∧ w = w' := by
  go_enter Tryz.func100, Tryz.ntmps100
  by_cases h1 : 65 ≤ r <;> by_cases h2 : r ≤ 90 <;> by_cases h3 : 97 ≤ r <;> by_cases h4 : r ≤ 122
  all_goals first | (exfalso; omega) | skip
  all_goals
    go_wp2
    go_ret
    exact ⟨by simp [isLetterN]; omega, rfl⟩
def firstE : List Int → Int
  | [] => 0
  | e :: l => if e = 0 then firstE l else e

theorem Rd.get {w : World} {A : Option Addr} {xs : List Value} (h : Rd w A xs) {k : Nat} {u : Value} (hk : xs[k]? = some u) : ∃ ad, A = some ad ∧ ad.block < w.heap.size ∧ w.cell? (ad.add k) = some u := by
  have : k < xs.length := (List.getElem?_eq_some_iff.1 hk).1
  obtain ⟨ad, e, hb, hc⟩ := h (by omega)
  exact ⟨ad, e, hb, hc k u hk⟩
theorem ret_int {k : IntKind} {a b : Int} (h : a = b) : Ending.returned (.int k a) = .returned (.int k b) := by rw [h]
theorem firstE_drop (es : List Int) (k : Nat) (hk : k < es.length) : firstE (es.drop k) = if es[k] = 0 then firstE (es.drop (k+1)) else es[k] := by
  rw [List.drop_eq_getElem_cons hk]; rfl
theorem first_any (A : Option Addr) (c : Nat) (es : List Int) (w : World) (hl : es.length ≤ maxLen) (hr : Rd w A (es.map (.int .i64))) :
    Calls Tryz.prog 97 #[.slice A es.length c] w fun e' w' => e' = .returned (.int .i64 (firstE es)) ∧ w = w' := by
  unfold maxLen at hl
  go_enter Tryz.func97, Tryz.ntmps97
  go_wp2
  go_loop [7] (fun i => ∃ k : Nat, k ≤ es.length ∧ i = .int .i64 k ∧ firstE es = firstE (es.drop k)) (fun i => es.length - (intOf i).toNat)
  case atStart => exact ⟨0, by omega, rfl, rfl⟩
  case round =>
    obtain ⟨k, hk, rfl, hf⟩ := hrel
    have Hf := Lib.hid hf; clear hf
    by_cases hlt : k < es.length
    · obtain ⟨ad, rfl, hb, hc⟩ := hr.get (k := k) (u := .int .i64 es[k]) (by simp [hlt])
      have hfd := firstE_drop es k hlt
      have Hd := Lib.hid hfd; clear hfd
      by_cases hz : es[k] = 0
      · rw [hz] at hc
        have Hz := Lib.hid hz; clear hz
        go_wp2
        go_round
        case rel => exact ⟨k + 1, by omega, by go_num, by rw [Hf.out, Hd.out, if_pos Hz.out]⟩
        case measure => simp [intOf]; omega
      · obtain ⟨v, hv⟩ : ∃ v, v = es[k] := ⟨_, rfl⟩
        rw [← hv] at hc hz
        have Hv := Lib.hid hv; clear hv
        have hz' : (v != 0) = true := by simpa using hz
        go_wp2
        go_ret
        exact ⟨ret_int (by rw [Hf.out, Hd.out, if_neg (fun h => hz (Hv.out.trans h))]; exact Hv.out), rfl⟩
    · have : k = es.length := by omega
      subst this
      go_wp2
      go_ret
      exact ⟨by rw [Hf.out]; simp [firstE], rfl⟩


def Blk (w : World) (g : Nat) (t : TypeId) (cs : Array Value) : Prop := w.heap[g]? = some (.cells cs t (0, 0))
section
variable {w w' : World} {g : Nat} {t : TypeId} {cs : Array Value}
theorem Blk.lt (h : Blk w g t cs) : g < w.heap.size := by
  rcases Nat.lt_or_ge g w.heap.size with hlt | hge
  · exact hlt
  · unfold Blk at h; rw [Array.getElem?_eq_none hge] at h; cases h
theorem Blk.cell (h : Blk w g t cs) (i : Nat) : w.cell? ⟨g, i, none⟩ = cs[i]? := cell_of_row w g i cs t (0, 0) h
theorem Blk.frozen (h : Blk w g t cs) (i : Nat) : w.frozen? ⟨g, i, none⟩ = false := by
  unfold Blk at h
  simp [World.frozen?, h]
theorem Blk.new (w : World) (t : TypeId) (cs : Array Value) : Blk (w.alloc (.cells cs t)) w.heap.size t cs := heap_alloc_new w _
theorem Blk.drewN (h : Blk w g t cs) (n : Nat) : Blk (w.drewN n) g t cs := h
theorem Blk.alloc (h : Blk w g t cs) (o : Obj) : Blk (w.alloc o) g t cs := (Below.heap_alloc w o g h.lt).trans h
theorem Blk.set_ (h : Blk w g t cs) (i : Nat) (u : Value) : Blk (w.setCell ⟨g, i, none⟩ u) g t (cs.setIfInBounds i u) := by
  unfold Blk at h ⊢
  simp [World.setCell, Array.getElem?_modify, h]
theorem Blk.far (h : Blk w g t cs) {p : Addr} (hp : g ≠ p.block) (u : Value) : Blk (w.setCell p u) g t cs := (Below.heap_setCell w p u g hp).trans h
theorem Blk.below (h : Blk w g t cs) (hb : Below w.heap.size w w') : Blk w' g t cs := (hb.block g h.lt).trans h
end
def fillN (f : Nat → Value) (z : Value) (n k : Nat) : Array Value := (Array.range n).map (fun i => if i < k then f i else z)
theorem fill_set (f : Nat → Value) (z : Value) (n k : Nat) : (fillN f z n k).setIfInBounds k (f k) = fillN f z n (k+1) := by
  unfold fillN
  apply Array.ext_getElem?
  intro i
  rw [Array.getElem?_setIfInBounds]
  by_cases e : k = i
  · subst e
    by_cases hk : k < n <;> simp [hk]
  · rw [if_neg e]
    by_cases hi : i < n
    · have : (i < k) ↔ (i < k + 1) := by omega
      simp [hi, this]
    · simp [hi]
theorem fill_zero (f : Nat → Value) (z : Value) (n : Nat) : madeCells #[z] n = fillN f z n 0 := by
  unfold madeCells fillN
  apply Array.ext_getElem?
  intro i
  by_cases hi : i < n <;> simp [hi, Nat.mod_one]
theorem fill_get (f : Nat → Value) (z : Value) (n k i : Nat) : (fillN f z n k)[i]? = if i < n then some (if i < k then f i else z) else none := by
  unfold fillN
  by_cases hi : i < n <;> simp [hi]
def firstF {α : Type} (f : α → Int) : List α → Int
  | [] => 0
  | b :: l => if f b = 0 then firstF f l else f b
def Enters (P : Program) (F : FuncId) : Prop := ∀ (a : Array Value) (w : World), (callFunc F a).run P w = .ok (.enter F a) w
theorem enters_CheckSample : Enters Tryz.prog 26 := fun a w => by kernel_rfl
set_option maxRecDepth 100000 in
theorem firstOfF_any (A : Option Addr) (c : Nat) (l : List Nat) (F : FuncId) (g : Nat → Int) (w : World) (hl : l.length ≤ maxLen) (hr : Rd w A (l.map (.float .f32))) (hcf : Enters Tryz.prog F)
    (hF : ∀ b ∈ l, ∀ w, Calls Tryz.prog F #[.float .f32 b] w fun e w' => e = .returned (.int .i64 (g b)) ∧ Below w.heap.size w w') :
    Calls Tryz.prog 116 #[.slice A l.length c, .func (.func F) #[] #[]] w fun e w' => e = .returned (.int .i64 (firstF g l)) ∧ Below w.heap.size w w' := by
  unfold maxLen at hl
  have HF := Lib.hid hF; clear hF
  have HR := Lib.hid hr; clear hr
  unfold Enters at hcf
  go_enter Tryz.func116, Tryz.ntmps116
  go_wp2
  go_loopw [10] (fun i wr => ∃ k : Nat, k ≤ l.length ∧ i = .int .i64 k ∧ firstF g l = firstF g (l.drop k) ∧ Below w.heap.size w wr) (fun i _ => l.length - (intOf i).toNat)
  case atStart => exact ⟨0, by omega, rfl, rfl, Below.refl _ _⟩
  case round =>
    obtain ⟨k, hk, rfl, hf, hbel⟩ := hrel
    have Hf := Lib.hid hf; clear hf
    by_cases hlt : k < l.length
    · obtain ⟨x, hx⟩ : ∃ x, l.getD k 0 = x := ⟨_, rfl⟩
      have hxm : x ∈ l := by rw [← hx]; simp [List.getD, hlt]
      obtain ⟨ad, rfl, hbl, hc⟩ := HR.out.get (k := k) (u := .float .f32 x) (by rw [← hx]; simp [List.getD, hlt])
      have hc' := (hbel.cell (by rw [block_of_add]; exact hbl)).trans hc
      have Hd := Lib.hid (show firstF g (l.drop k) = if g x = 0 then firstF g (l.drop (k + 1)) else g x by
        rw [List.drop_eq_getElem_cons hlt, ← hx]; simp [firstF, List.getD, hlt])
      have HBel := Lib.hid hbel; clear hbel
      have HX := Lib.hid hx; clear hx
      clear hc
      go_wp2_with fail
      refine (HF.out x hxm _).mono ?_
      rintro e w1 ⟨rfl, hb1⟩
      have HB1 := Lib.hid (HBel.out.trans (hb1.mono HBel.out.size)); clear hb1
      by_cases hz : g x = 0
      · have hz' : (g x != 0) = false := by simp [hz]
        have HZ := Lib.hid hz; clear hz
        go_wp2
        go_roundw
        case rel => exact ⟨k + 1, by omega, by go_num, by rw [Hf.out, Hd.out, if_pos HZ.out], HB1.out⟩
        case measure => simp [intOf]; omega
      · have hz' : (g x != 0) = true := by simp [hz]
        have HZ := Lib.hid hz; clear hz
        go_wp2
        go_ret
        exact ⟨ret_int (by rw [Hf.out, Hd.out, if_neg HZ.out]), HB1.out⟩
    · have : k = l.length := by omega
      subst this
      go_wp2
      go_ret
      exact ⟨ret_int (by rw [Hf.out]; simp [firstF]), hbel⟩

end Go.Proofs.YtkjkjhheckfhbaaGreatDoor
