/- Parts of a proof: Samples at named places; turns by the code and by the reference. PictureTurns: the walk of the law. Turns of lists: two flips, two transpositions, a half turn; sums stay; fields are woven again. Valid pictures: contracts of the code by lists; the test of a valid picture; equal ratios. A region that draws its order, operation by operation: each one keeps the world growing and leaves a value of which a fact holds that no growth undoes; then the order makes no difference. -/
import Derived.Test.YtlicgblagkkcfaaGreatDoorP5
import Derived.Test.YtlicgblagkkcfaaGreatDoorP3
import Derived.Test.YtlicgblagkkcfaaGreatDoorP2
import Derived.Test.YtlicgblagkkcfaaGreatDoorT
import Derived.Deep.RegionHeld3
namespace Go.Proofs.YtlicgblagkkcfaaGreatDoor
open Go.RowKit
set_option linter.unusedVariables false
set_option maxRecDepth 100000
theorem eqF_self {b : Nat} (h : chk 1024 b = 0) : eqF b b = true := by
  obtain ⟨s, n, hn, _, _⟩ := chk_zero h
  unfold eqF
  have h1 := hn.order hn
  rw [cmp_self] at h1
  rw [show FloatKind.f32.format.order b b = some .eq from h1]
  rfl
theorem sameF_self {l : List Nat} (h : ∀ b ∈ l, chk 1024 b = 0) : sameF l l = true := by
  induction l with
  | nil => rfl
  | cons a l ih =>
    simp only [sameF, eqF_self (h a (List.mem_cons_self ..)), Bool.true_and]
    exact ih fun b hb => h b (List.mem_cons_of_mem _ hb)
theorem chk_nil : chk 1024 0 = 0 := by decide +kernel
theorem chk_getD {l : List Nat} (h : ∀ b ∈ l, chk 1024 b = 0) (i : Nat) : chk 1024 (l.getD i 0) = 0 := by
  by_cases hi : i < l.length
  · exact h _ (by simp [List.getD, hi])
  · simp [List.getD, List.getElem?_eq_none (Nat.le_of_not_lt hi), chk_nil]
/-- The samples at the places that a function names. -/
def pickL (l : List Nat) (f : Nat → Nat) (n : Nat) : List Nat := (List.range n).map fun i => l.getD (f i) 0
theorem pickL_len (l : List Nat) (f : Nat → Nat) (n : Nat) : (pickL l f n).length = n := by simp [pickL]
theorem pickL_same {l : List Nat} (h : ∀ b ∈ l, chk 1024 b = 0) (f : Nat → Nat) (n : Nat) : sameF (pickL l f n) (pickL l f n) = true :=
  sameF_self fun b hb => by obtain ⟨i, _, rfl⟩ := List.mem_map.1 hb; exact chk_getD h _
theorem rd_pick {w : World} {g : Nat} {t : TypeId} {F : Nat → Value} {l : List Nat} {f : Nat → Nat} {n : Nat} (h : Blk w g t (maskN F (.float .f32 0) n (fun _ => true))) (hF : ∀ i, F i = .float .f32 (l.getD (f i) 0)) : Rd w (some ⟨g, 0, none⟩) (fl (pickL l f n)) :=
  rd_mask h (fun _ _ => rfl) (by simp [fl, pickL]) fun i hi => by rw [fl_get (by rw [pickL_len]; exact hi), hF]; simp [pickL, List.getD, hi]
def flipN (W i : Nat) : Nat := i / W * W + (W - 1 - i % W)
def transN (W H i : Nat) : Nat := i % H * W + i / H
def fieldN (W d i : Nat) : Nat := (2 * (i / W) + d) * W + i % W
def PickEnd (nm : ByteArray) (W H : Nat) (n : Nat) (L : List Nat) (w : World) (e : Ending) (w' : World) : Prop := ∃ g, e = .returned (.agg #[.string nm, .int .i64 (W : Int), .int .i64 (H : Int), .slice (some ⟨g, 0, none⟩) n n]) ∧ Rd w' (some ⟨g, 0, none⟩) (fl L) ∧ Below w.heap.size w w'
def PickOk (nm : ByteArray) (W H : Nat) (n : Nat) (L : List Nat) (w : World) (e : Ending) (w' : World) : Prop := ∃ g, e = .returned (.tuple #[.agg #[.string nm, .int .i64 (W : Int), .int .i64 (H : Int), .slice (some ⟨g, 0, none⟩) n n], .int .i64 0]) ∧ Rd w' (some ⟨g, 0, none⟩) (fl L) ∧ Below w.heap.size w w'
section
variable (nm : ByteArray) (W H : Nat) (l : List Nat) (hp : (Pic.mk nm W H l).Ok) (he : (Pic.mk nm W H l).err = 0) (A : Option Addr) (c : Nat) (w : World) (hcap : l.length ≤ c) (hr : Rd w A (fl l))
theorem ok_sizes {nm : ByteArray} {W H : Nat} {l : List Nat} (hp : (Pic.mk nm W H l).Ok) : (1 ≤ W ∧ W ≤ 64) ∧ (1 ≤ H ∧ H ≤ 64) ∧ l.length = W * H ∧ nm.size ≤ maxLen ∧ l.length ≤ maxLen := by
  have h1 := hp.w1; have h2 := hp.w2; have h3 := hp.h1; have h4 := hp.h2; have h5 := hp.len; have h6 := hp.big; have h7 := hp.name
  simp only [] at h1 h2 h3 h4 h5
  unfold nameOk at h7; simp at h7
  exact ⟨by omega, by omega, by exact_mod_cast h5, Nat.le_trans h7.1.2 (by decide), Nat.le_trans h6 (by decide)⟩
include hp he hcap hr
theorem flip_code : Calls Tryz.prog 46 #[.agg #[.string nm, .int .i64 (W : Int), .int .i64 (H : Int), .slice A l.length c]] w (PickOk nm W H l.length (pickL l (flipN W) l.length) w) :=
  (flipped_ok nm W H l hp he A c w (ok_sizes hp).2.2.2.1 (ok_sizes hp).2.2.2.2 hcap hr).mono fun e w' ⟨g, h1, h2, h3⟩ => ⟨g, h1, rd_pick h2 (fun i => rfl), h3⟩
theorem trans_code : Calls Tryz.prog 47 #[.agg #[.string nm, .int .i64 (W : Int), .int .i64 (H : Int), .slice A l.length c]] w (PickOk nm H W l.length (pickL l (transN W H) l.length) w) :=
  (transposed_ok nm W H l hp he A c w (ok_sizes hp).2.2.2.1 (ok_sizes hp).2.2.2.2 hcap hr).mono fun e w' ⟨g, h1, h2, h3⟩ => ⟨g, h1, rd_pick h2 (fun i => rfl), h3⟩
omit he hcap in
theorem flip_ref : Calls Tryz.prog 49 #[.agg #[.string nm, .int .i64 (W : Int), .int .i64 (H : Int), .slice A l.length c]] w (PickEnd nm W H l.length (pickL l (flipN W) l.length) w) :=
  (flippedR_ok nm W H l (ok_sizes hp).1 (ok_sizes hp).2.1 (ok_sizes hp).2.2.1 A c w hr).mono fun e w' ⟨g, h1, h2, h3⟩ => ⟨g, h1, rd_pick h2 (fun i => rfl), h3⟩
omit he hcap in
theorem trans_ref : Calls Tryz.prog 50 #[.agg #[.string nm, .int .i64 (W : Int), .int .i64 (H : Int), .slice A l.length c]] w (PickEnd nm H W l.length (pickL l (transN W H) l.length) w) :=
  (transposedR_ok nm W H l (ok_sizes hp).1 (ok_sizes hp).2.1 (ok_sizes hp).2.2.1 A c w hr).mono fun e w' ⟨g, h1, h2, h3⟩ => ⟨g, h1, rd_pick h2 (fun i => rfl), h3⟩
end

end Go.Proofs.YtlicgblagkkcfaaGreatDoor
namespace Go.Proofs.YtlicgblagkkcfaaGreatDoor
open Go.RowKit
set_option linter.unusedVariables false
set_option maxRecDepth 100000
/-- A law's end: true, and nothing of old turned. -/
def TrueEnd (w : World) (e : Ending) (w' : World) : Prop := e = .returned (.bool true) ∧ Below w.heap.size w w'
theorem trueEnd_mk {w w' : World} {e : Ending} (h : e = .returned (.bool true)) (hb : Below w.heap.size w w') : TrueEnd w e w' := ⟨h, hb⟩
theorem bl_far4 {w : World} {k g : Nat} {t : TypeId} {cs : Array Value} (h : Blk w k t cs) (hk : ¬ k = g) (a b c d : Value) : Blk ((((w.setCell ⟨g, 0, none⟩ a).setCell ⟨g, 1, none⟩ b).setCell ⟨g, 2, none⟩ c).setCell ⟨g, 3, none⟩ d) k t cs :=
  (((h.far (p := ⟨g, 0, none⟩) hk a).far (p := ⟨g, 1, none⟩) hk b).far (p := ⟨g, 2, none⟩) hk c).far (p := ⟨g, 3, none⟩) hk d
theorem blk_set4' {w : World} {g : Nat} {t : TypeId} {x0 x1 x2 x3 : Value} (h : Blk w g t #[x0, x1, x2, x3]) (a b c d : Value) : Blk ((((w.setCell ⟨g, 0, none⟩ a).setCell ⟨g, 1, none⟩ b).setCell ⟨g, 2, none⟩ c).setCell ⟨g, 3, none⟩ d) g t #[a, b, c, d] := by
  have := (((h.set_ 0 a).set_ 1 b).set_ 2 c).set_ 3 d
  simpa using this
theorem nf_four {a b c d : Value} (ha : fltV a = false) (hb : fltV b = false) (hc : fltV c = false) (hd : fltV d = false) : NF #[a, b, c, d] := fun k u hu => by
  match k with
  | 0 => cases hu; exact ha
  | 1 => cases hu; exact hb
  | 2 => cases hu; exact hc
  | 3 => cases hu; exact hd
  | k + 4 => simp at hu
theorem rdl_set4 {w : World} {A : Option Addr} {l : List Nat} {g : Nat} {t : TypeId} {cs : Array Value} (h : Rd w A (fl l)) (hb : Blk w g t cs) (hn : NF cs) (x0 x1 x2 x3 : Value) (f0 : fltV x0 = false) (f1 : fltV x1 = false) (f2 : fltV x2 = false) : Rd ((((w.setCell ⟨g, 0, none⟩ x0).setCell ⟨g, 1, none⟩ x1).setCell ⟨g, 2, none⟩ x2).setCell ⟨g, 3, none⟩ x3) A (fl l) :=
  rd_set (rd_set (rd_set (rd_set h hb hn 0 x0) (hb.set_ 0 x0) (hn.set 0 x0 f0) 1 x1) ((hb.set_ 0 x0).set_ 1 x1) ((hn.set 0 x0 f0).set 1 x1 f1) 2 x2) (((hb.set_ 0 x0).set_ 1 x1).set_ 2 x2) (((hn.set 0 x0 f0).set 1 x1 f1).set 2 x2 f2) 3 x3
def BoolEnd (b : Bool) (w : World) (e : Ending) (w' : World) : Prop := e = .returned (.bool b) ∧ Below w.heap.size w w'

end Go.Proofs.YtlicgblagkkcfaaGreatDoor
namespace Go.Proofs.YtlicgblagkkcfaaGreatDoor
open Go.RowKit
set_option linter.unusedVariables false
theorem pickL_get (l : List Nat) (f : Nat → Nat) (n i : Nat) (h : i < n) : (pickL l f n).getD i 0 = l.getD (f i) 0 := by simp [pickL, List.getD, h]
theorem pickL_pick (l : List Nat) (f g : Nat → Nat) (n m : Nat) (h : ∀ i, i < m → g i < n) : pickL (pickL l f n) g m = pickL l (fun i => f (g i)) m := by
  unfold pickL
  refine List.map_congr_left fun i hi => ?_
  have := h i (by simpa using hi)
  simp [List.getD, this]
theorem pickL_congr {l : List Nat} {f g : Nat → Nat} {n : Nat} (h : ∀ i, i < n → f i = g i) : pickL l f n = pickL l g n := by
  unfold pickL
  exact List.map_congr_left fun i hi => by rw [h i (by simpa using hi)]
theorem pickL_id (l : List Nat) : pickL l (fun i => i) l.length = l := by
  unfold pickL
  apply List.ext_getElem
  · simp
  · intro i h1 h2; simp [List.getD, h2]
theorem divmod_add {a b W : Nat} (h : b < W) : (a * W + b) / W = a ∧ (a * W + b) % W = b := by
  have hW : 0 < W := by omega
  constructor
  · rw [Nat.add_comm, Nat.add_mul_div_right _ _ hW, Nat.div_eq_of_lt h, Nat.zero_add]
  · rw [Nat.add_comm, Nat.add_mul_mod_self_right, Nat.mod_eq_of_lt h]
theorem div_lt_h {i W H : Nat} (h : i < W * H) : i / W < H := Nat.div_lt_of_lt_mul h
theorem pos_w {i W H : Nat} (h : i < W * H) : 0 < W := by rcases Nat.eq_zero_or_pos W with h0 | h0; (· subst h0; simp at h); exact h0
theorem row_lt {a b W H : Nat} (ha : a < H) (hb : b < W) : a * W + b < W * H := by
  have h1 : (a + 1) * W ≤ H * W := Nat.mul_le_mul_right _ ha
  rw [Nat.add_mul, Nat.one_mul, Nat.mul_comm H W] at h1
  omega
theorem flipN_dm {W H i : Nat} (h : i < W * H) : flipN W i / W = i / W ∧ flipN W i % W = W - 1 - i % W := by
  have hW := pos_w h
  unfold flipN
  exact divmod_add (by omega)
theorem flipN_lt {W H i : Nat} (h : i < W * H) : flipN W i < W * H := by
  have hW := pos_w h
  unfold flipN
  exact row_lt (div_lt_h h) (by omega)
theorem flipN_flipN {W H i : Nat} (h : i < W * H) : flipN W (flipN W i) = i := by
  have hW := pos_w h
  obtain ⟨h1, h2⟩ := flipN_dm h
  have h3 := Nat.mod_lt i hW
  have h4 := Nat.div_add_mod' i W
  show flipN W i / W * W + (W - 1 - flipN W i % W) = i
  rw [h1, h2]; omega
theorem transN_dm {W H i : Nat} (h : i < W * H) : transN W H i / W = i % H ∧ transN W H i % W = i / H := by
  unfold transN
  exact divmod_add (div_lt_h (by rwa [Nat.mul_comm] at h))
theorem transN_lt {W H i : Nat} (h : i < W * H) : transN W H i < W * H := by
  have h' : i < H * W := by rwa [Nat.mul_comm] at h
  unfold transN
  exact row_lt (Nat.mod_lt _ (pos_w h')) (div_lt_h h')
theorem transN_transN {W H i : Nat} (h : i < W * H) : transN W H (transN H W i) = i := by
  have h' : i < H * W := by rwa [Nat.mul_comm] at h
  obtain ⟨h1, h2⟩ := transN_dm h'
  show transN H W i % H * W + transN H W i / H = i
  rw [h1, h2]; exact Nat.div_add_mod' i W
theorem fieldN_dm {W K d i : Nat} (h : i < W * K) : fieldN W d i / W = 2 * (i / W) + d ∧ fieldN W d i % W = i % W := by
  unfold fieldN
  exact divmod_add (Nat.mod_lt _ (pos_w h))
theorem fieldN_lt {W H K d i : Nat} (h : i < W * K) (hK : 2 * K + d ≤ H + 1) (hd : d ≤ 1): fieldN W d i < W * H := by
  unfold fieldN
  have := div_lt_h h
  exact row_lt (by omega) (Nat.mod_lt _ (pos_w h))
theorem flip_field {W K d i : Nat} (h : i < W * K) : flipN W (fieldN W d i) = fieldN W d (flipN W i) := by
  obtain ⟨h1, h2⟩ := fieldN_dm (d := d) h
  obtain ⟨h3, h4⟩ := flipN_dm h
  show fieldN W d i / W * W + (W - 1 - fieldN W d i % W) = (2 * (flipN W i / W) + d) * W + flipN W i % W
  rw [h1, h2, h3, h4]
/-- Flipped and transposed, twice: turned by a half. -/
theorem half_turn {W H i : Nat} (h : i < W * H) : flipN W (transN W H (flipN H (transN H W i))) = W * H - 1 - i := by
  have h' : i < H * W := by rwa [Nat.mul_comm] at h
  have hW := pos_w h
  have hH := pos_w h'
  have a1 := transN_dm h'
  have b0 : transN H W i < H * W := transN_lt h'
  have b1 := flipN_dm b0
  have b0' : flipN H (transN H W i) < H * W := flipN_lt b0
  have c0 : flipN H (transN H W i) < W * H := by rwa [Nat.mul_comm] at b0'
  have c1 := transN_dm c0
  show transN W H (flipN H (transN H W i)) / W * W + (W - 1 - transN W H (flipN H (transN H W i)) % W) = _
  rw [c1.1, c1.2, b1.2, b1.1, a1.1, a1.2]
  have d1 := div_lt_h h
  have d2 := Nat.mod_lt i hW
  have d3 := Nat.div_add_mod' i W
  have e1 : (H - 1 - i / W) * W = H * W - W - i / W * W := by rw [Nat.sub_mul, Nat.sub_mul, Nat.one_mul]
  have e2 : i / W * W + W ≤ H * W := by have := Nat.mul_le_mul_right W (show i / W + 1 ≤ H by omega); rwa [Nat.add_mul, Nat.one_mul] at this
  rw [e1, Nat.mul_comm W H]; omega
/-- A sum over the numbers below n. -/
def tot : Nat → (Nat → Int) → Int
  | 0, _ => 0
  | n + 1, f => tot n f + f n
theorem tot_congr {n : Nat} {f g : Nat → Int} (h : ∀ i, i < n → f i = g i) : tot n f = tot n g := by
  induction n with
  | zero => rfl
  | succ n ih => rw [tot, tot, ih (fun i hi => h i (by omega)), h n (by omega)]
theorem tot_add (n m : Nat) (f : Nat → Int) : tot (n + m) f = tot n f + tot m (fun i => f (n + i)) := by
  induction m with
  | zero => simp [tot]
  | succ m ih => rw [← Nat.add_assoc, tot, tot, ih]; omega
theorem tot_plus (n : Nat) (f g : Nat → Int) : tot n (fun i => f i + g i) = tot n f + tot n g := by
  induction n with
  | zero => rfl
  | succ n ih => rw [tot, tot, tot, ih]; omega
theorem tot_rows (W H : Nat) (f : Nat → Int) : tot (W * H) f = tot H (fun y => tot W (fun x => f (y * W + x))) := by
  induction H with
  | zero => simp [tot]
  | succ H ih => rw [Nat.mul_add, Nat.mul_one, tot_add, tot, ih, Nat.mul_comm H W]
theorem tot_zero (n : Nat) : tot n (fun _ => 0) = 0 := by
  induction n with
  | zero => rfl
  | succ n ih => rw [tot, ih]; rfl
theorem tot_swap (W H : Nat) (f : Nat → Nat → Int) : tot H (fun y => tot W (fun x => f y x)) = tot W (fun x => tot H (fun y => f y x)) := by
  induction H with
  | zero => simp [tot, tot_zero]
  | succ H ih => simp only [tot, tot_plus, ih]
theorem tot_first (n : Nat) (f : Nat → Int) : tot (n + 1) f = f 0 + tot n (fun i => f (i + 1)) := by
  rw [Nat.add_comm, tot_add]
  simp only [tot, Nat.add_comm]
  omega
theorem tot_rev (n : Nat) (f : Nat → Int) : tot n (fun i => f (n - 1 - i)) = tot n f := by
  induction n with
  | zero => rfl
  | succ n ih =>
    rw [tot_first, tot]
    rw [tot_congr (g := fun i => f (n - 1 - i)) (fun i hi => by congr 1; omega), ih]
    simp only [Nat.add_sub_cancel, Nat.sub_zero]; omega
theorem tot_flip (W H : Nat) (f : Nat → Int) : tot (W * H) (fun i => f (flipN W i)) = tot (W * H) f := by
  rw [tot_rows, tot_rows W H f]
  refine tot_congr fun y _ => ?_
  rw [tot_congr (g := fun x => (fun z => f (y * W + z)) (W - 1 - x)) (fun x hx => by
    show f (flipN W (y * W + x)) = f (y * W + (W - 1 - x))
    unfold flipN; rw [(divmod_add hx).1, (divmod_add hx).2])]
  exact tot_rev W (fun z => f (y * W + z))
theorem tot_trans (W H : Nat) (f : Nat → Int) : tot (W * H) (fun i => f (transN W H i)) = tot (W * H) f := by
  rw [tot_rows W H f, tot_swap, Nat.mul_comm W H, tot_rows]
  refine tot_congr fun a _ => tot_congr fun b hb => ?_
  unfold transN; rw [(divmod_add hb).1, (divmod_add hb).2]

theorem sumF_pick (F : Nat → Int) (l : List Nat) (f : Nat → Nat) (n : Nat) : sumF F (pickL l f n) = tot n (fun i => F (l.getD (f i) 0)) := by
  have key : ∀ n, sumF F ((List.range n).map fun i => l.getD (f i) 0) = tot n (fun i => F (l.getD (f i) 0)) := by
    intro n
    induction n with
    | zero => rfl
    | succ n ih =>
      have app : ∀ (a : List Nat) b, sumF F (a ++ [b]) = sumF F a + F b := by
        intro a b
        induction a with
        | nil => simp [sumF]
        | cons c a ih2 => simp only [List.cons_append, sumF, ih2]; omega
      rw [List.range_succ, List.map_append, List.map_cons, List.map_nil, app, ih, tot]
  exact key n
theorem sumF_tot (F : Nat → Int) (l : List Nat) : sumF F l = tot l.length (fun i => F (l.getD i 0)) := by
  have h := sumF_pick F l (fun i => i) l.length
  rwa [pickL_id] at h
theorem sumF_flip (F : Nat → Int) (l : List Nat) (W H : Nat) (h : l.length = W * H) : sumF F (pickL l (flipN W) l.length) = sumF F l := by
  rw [sumF_pick, sumF_tot, h]; exact tot_flip W H (fun i => F (l.getD i 0))
theorem sumF_trans (F : Nat → Int) (l : List Nat) (W H : Nat) (h : l.length = W * H) : sumF F (pickL l (transN W H) l.length) = sumF F l := by
  rw [sumF_pick, sumF_tot, h]; exact tot_trans W H (fun i => F (l.getD i 0))
theorem ff_list (l : List Nat) (W H : Nat) (h : l.length = W * H) : pickL (pickL l (flipN W) l.length) (flipN W) l.length = l := by
  rw [pickL_pick _ _ _ _ _ (fun i hi => by rw [h] at hi ⊢; exact flipN_lt hi), pickL_congr (g := fun i => i) (fun i hi => flipN_flipN (by rwa [h] at hi)), pickL_id]
theorem tt_list (l : List Nat) (W H : Nat) (h : l.length = W * H) : pickL (pickL l (transN W H) l.length) (transN H W) l.length = l := by
  rw [pickL_pick _ _ _ _ _ (fun i hi => by rw [h] at hi ⊢; rw [Nat.mul_comm] at hi ⊢; exact transN_lt hi), pickL_congr (g := fun i => i) (fun i hi => transN_transN (by rwa [h] at hi)), pickL_id]
theorem half_list (l : List Nat) (W H : Nat) (h : l.length = W * H) : pickL (pickL (pickL (pickL l (flipN W) l.length) (transN W H) l.length) (flipN H) l.length) (transN H W) l.length = pickL l (fun i => l.length - 1 - i) l.length := by
  have hc : l.length = H * W := by rw [h, Nat.mul_comm]
  have b1 : ∀ i, i < l.length → transN H W i < l.length := fun i hi => by rw [hc] at hi ⊢; exact transN_lt hi
  have b2 : ∀ i, i < l.length → flipN H i < l.length := fun i hi => by rw [hc] at hi ⊢; exact flipN_lt hi
  have b3 : ∀ i, i < l.length → transN W H i < l.length := fun i hi => by rw [h] at hi ⊢; exact transN_lt hi
  rw [pickL_pick _ _ _ _ _ b1, pickL_pick _ _ (fun i => flipN H (transN H W i)) _ _ (fun i hi => b2 _ (b1 i hi)), pickL_pick _ _ (fun i => transN W H (flipN H (transN H W i))) _ _ (fun i hi => b3 _ (b2 _ (b1 i hi)))]
  refine pickL_congr fun i hi => ?_
  rw [h] at hi ⊢
  exact half_turn hi
theorem field_flip (l : List Nat) (W H K d : Nat) (h : l.length = W * H) (hK : 2 * K + d ≤ H + 1) (hd : d ≤ 1) : pickL (pickL l (flipN W) l.length) (fieldN W d) (W * K) = pickL (pickL l (fieldN W d) (W * K)) (flipN W) (W * K) := by
  rw [pickL_pick _ _ _ _ _ (fun i hi => by rw [h]; exact fieldN_lt hi hK hd), pickL_pick _ _ _ _ _ (fun i hi => flipN_lt hi)]
  exact pickL_congr fun i hi => flip_field hi

/-- Woven fields: the samples again. -/
def wovenN (l k : List Nat) (W i : Nat) : Nat := if i / W % 2 = 0 then l.getD (i / W / 2 * W + i % W) 0 else k.getD (i / W / 2 * W + i % W) 0
theorem weave_fields (l : List Nat) (W H K1 K2 : Nat) (h1 : K1 = (H + 1) / 2) (h2 : K2 = H / 2) (i : Nat) (hi : i < W * H) :
    wovenN (pickL l (fieldN W 0) (W * K1)) (pickL l (fieldN W 1) (W * K2)) W i = l.getD i 0 := by
  have hW := pos_w hi
  have hy := div_lt_h hi
  have hx := Nat.mod_lt i hW
  have hd := Nat.div_add_mod' i W
  obtain ⟨z, hz⟩ : ∃ z, i / W / 2 = z := ⟨_, rfl⟩
  unfold wovenN
  rw [hz]
  by_cases hp : i / W % 2 = 0
  · rw [if_pos hp, pickL_get _ _ _ _ (row_lt (show z < K1 by omega) hx)]
    congr 1
    unfold fieldN
    rw [(divmod_add hx).1, (divmod_add hx).2, show 2 * z + 0 = i / W by omega]; exact hd
  · rw [if_neg hp, pickL_get _ _ _ _ (row_lt (show z < K2 by omega) hx)]
    congr 1
    unfold fieldN
    rw [(divmod_add hx).1, (divmod_add hx).2, show 2 * z + 1 = i / W by omega]; exact hd
/-- The last row, as one of the fields has it. -/
theorem last_row (l : List Nat) (W H K d : Nat) (hH : 2 ≤ H) (hd : d = (H - 1) % 2) (hK : K = if d = 0 then (H + 1) / 2 else H / 2) (j : Nat) (hj : j < W) :
    (pickL l (fieldN W d) (W * K)).getD (W * K - W + j) 0 = l.getD ((H - 1) * W + j) 0 := by
  have hK1 : 1 ≤ K := by rw [hK]; split <;> omega
  have e1 : W * K = (K - 1) * W + W := by
    obtain ⟨q, rfl⟩ : ∃ q, K = q + 1 := ⟨K - 1, by omega⟩
    rw [Nat.add_sub_cancel, Nat.mul_add, Nat.mul_one, Nat.mul_comm]
  rw [e1, Nat.add_sub_cancel, pickL_get _ _ _ _ (by omega)]
  congr 1
  unfold fieldN
  rw [(divmod_add hj).1, (divmod_add hj).2]
  congr 2
  rw [hK]; split <;> omega

end Go.Proofs.YtlicgblagkkcfaaGreatDoor
namespace Go.Proofs.YtlicgblagkkcfaaGreatDoor
open Go.RowKit
set_option linter.unusedVariables false
set_option maxRecDepth 100000
theorem firstF_none {f : Nat → Int} {l : List Nat} (h : ∀ b ∈ l, f b = 0) : firstF f l = 0 := by
  induction l with
  | nil => rfl
  | cons a l ih => rw [firstF, if_pos (h a (List.mem_cons_self ..))]; exact ih fun b hb => h b (List.mem_cons_of_mem _ hb)
theorem outs_none {n a b : Int} (h1 : a ≤ n) (h2 : n ≤ b) : outs n a b = 0 := by
  unfold outs errIf
  rw [if_neg (by simp; omega)]
theorem ok_err {p : Pic} (h : p.Ok) : p.err = 0 := by
  unfold Pic.err
  have h1 : errIf (!nameOk p.name) 8 = 0 := by rw [h.name]; rfl
  have h2 := outs_none h.w1 h.w2
  have h3 := outs_none h.h1 h.h2
  have h4 : errIf ((p.l.length : Int) != IntKind.i64.wrap (p.w * p.h)) 2 = 0 := by
    rw [← h.len, IntWalk.i64_in _ (by have := h.big; omega)]; simp [errIf]
  rw [h1, h2, h3, h4, firstF_none h.ok]
  rfl
/-- A valid picture, by its numbers. -/
theorem ok_mk {nm : ByteArray} {W H : Nat} {l : List Nat} (hn : nameOk nm = true) (hW : 1 ≤ W ∧ W ≤ 64) (hH : 1 ≤ H ∧ H ≤ 64) (hl : l.length = W * H) (hc : ∀ b ∈ l, chk 1024 b = 0) : (Pic.mk nm W H l).Ok :=
  ⟨hn, by simp; omega, by simp; omega, by simp; omega, by simp; omega, by simp [hl], by simp only []; rw [hl]; exact Nat.le_trans (Nat.mul_le_mul hW.2 hH.2) (by decide), hc⟩
theorem pick_chk {l : List Nat} (h : ∀ b ∈ l, chk 1024 b = 0) (f : Nat → Nat) (n : Nat) : ∀ b ∈ pickL l f n, chk 1024 b = 0 :=
  fun b hb => by obtain ⟨i, _, rfl⟩ := List.mem_map.1 hb; exact chk_getD h _
theorem ok_pick {nm : ByteArray} {W H : Nat} {l : List Nat} (h : (Pic.mk nm W H l).Ok) {V K : Nat} (hV : 1 ≤ V ∧ V ≤ 64) (hK : 1 ≤ K ∧ K ≤ 64) {m : Nat} (hm : m = V * K) (f : Nat → Nat) : (Pic.mk nm V K (pickL l f m)).Ok :=
  ok_mk h.name hV hK (by rw [pickL_len, hm]) (pick_chk h.ok f m)
def OwnOk (nm : ByteArray) (W H n : Nat) (l : List Nat) (w : World) (e : Ending) (w' : World) : Prop := ∃ g c', e = .returned (.agg #[.string nm, .int .i64 (W : Int), .int .i64 (H : Int), .slice (some ⟨g, 0, none⟩) n c']) ∧ n ≤ c' ∧ Rd w' (some ⟨g, 0, none⟩) (fl l) ∧ Below w.heap.size w w'
/-- Both fields, by the code. -/
def FieldsC (nm : ByteArray) (W K1 K2 m1 m2 : Nat) (L1 L2 : List Nat) (w : World) (e : Ending) (w' : World) : Prop := ∃ ga gb, e = .returned (.tuple #[.agg #[.string nm, .int .i64 (W : Int), .int .i64 (K1 : Int), .slice (some ⟨ga, 0, none⟩) m1 m1, .string nm, .int .i64 (W : Int), .int .i64 (K2 : Int), .slice (some ⟨gb, 0, none⟩) m2 m2], .int .i64 0]) ∧ Rd w' (some ⟨ga, 0, none⟩) (fl L1) ∧ Rd w' (some ⟨gb, 0, none⟩) (fl L2) ∧ Below w.heap.size w w'
section
variable {nm : ByteArray} {W H : Nat} {l : List Nat} (hp : (Pic.mk nm W H l).Ok) {n : Nat} (hn : l.length = n) (A : Option Addr) (c : Nat) (w : World)
include hp hn
theorem own_v (hr : Rd w A (fl l)) : Calls Tryz.prog 30 #[.agg #[.string nm, .int .i64 (W : Int), .int .i64 (H : Int), .slice A n c]] w (OwnOk nm W H n l w) := by
  subst hn
  have hpos : 0 < (fl l).length := by have h := ok_sizes hp; have := prod_pos h.1.1 h.2.1.1; simp [fl]; omega
  obtain ⟨ad, rfl, _, _⟩ := hr.some_ hpos
  exact own_any (Pic.mk nm W H l) (some ad) c w hp.big (fun h => by cases h) hr
theorem flip_v (L : List Nat) (hL : pickL l (flipN W) n = L) (hcap : n ≤ c) (hr : Rd w A (fl l)) : Calls Tryz.prog 46 #[.agg #[.string nm, .int .i64 (W : Int), .int .i64 (H : Int), .slice A n c]] w (PickOk nm W H n L w) := by
  subst hn; subst hL
  exact flip_code nm W H l hp (ok_err hp) A c w hcap hr
theorem trans_v (L : List Nat) (hL : pickL l (transN W H) n = L) (hcap : n ≤ c) (hr : Rd w A (fl l)) : Calls Tryz.prog 47 #[.agg #[.string nm, .int .i64 (W : Int), .int .i64 (H : Int), .slice A n c]] w (PickOk nm H W n L w) := by
  subst hn; subst hL
  exact trans_code nm W H l hp (ok_err hp) A c w hcap hr
theorem fields_v (h2 : 2 ≤ H) (K1 K2 m1 m2 : Nat) (L1 L2 : List Nat) (hK : (H + 1) / 2 = K1 ∧ H / 2 = K2) (hm : W * K1 = m1 ∧ W * K2 = m2) (hL1 : pickL l (fieldN W 0) m1 = L1) (hL2 : pickL l (fieldN W 1) m2 = L2) (hcap : n ≤ c) (hr : Rd w A (fl l)) : Calls Tryz.prog 48 #[.agg #[.string nm, .int .i64 (W : Int), .int .i64 (H : Int), .slice A n c]] w (FieldsC nm W K1 K2 m1 m2 L1 L2 w) := by
  subst hn; subst hL1; subst hL2
  obtain ⟨rfl, rfl⟩ := hm
  exact (fields_ok nm W H K1 K2 l hp (ok_err hp) h2 hK.1 hK.2 A c w (ok_sizes hp).2.2.2.1 hcap hr).mono fun e w' ⟨ga, gb, h1, _, h3, h4, h5⟩ => ⟨ga, gb, h1, rd_pick h3 (fun i => rfl), rd_pick h4 (fun i => rfl), h5⟩
theorem energy_v (E : Int) (hE : sumF (fun b => lvl b * lvl b) l = E) (hr : Rd w A (fl l)) : Calls Tryz.prog 54 #[.agg #[.string nm, .int .i64 (W : Int), .int .i64 (H : Int), .slice A n c]] w fun e w' => e = .returned (.tuple #[.int .i64 E, .int .i64 0]) ∧ Below w.heap.size w w' := by
  subst hn; subst hE
  exact energy_ok (Pic.mk nm W H l) hp (ok_err hp) A c w (ok_sizes hp).2.2.2.1 (ok_sizes hp).2.2.2.2 hr
theorem mean_v (S : Int) (hS : sumF lvl l = S) (hr : Rd w A (fl l)) : Calls Tryz.prog 56 #[.agg #[.string nm, .int .i64 (W : Int), .int .i64 (H : Int), .slice A n c]] w fun e w' => e = .returned (.tuple #[.agg #[.int .i64 (S / (Int.gcd S (16 * n) : Nat)), .int .i64 (16 * n / (Int.gcd S (16 * n) : Nat))], .int .i64 0]) ∧ Below w.heap.size w w' := by
  subst hn; subst hS
  exact mean_ok (Pic.mk nm W H l) hp (ok_err hp) A c w (ok_sizes hp).2.2.2.1 (ok_sizes hp).2.2.2.2 hr
theorem crop_v (cf m rf k r : Nat) (L : List Nat) (h1 : 1 ≤ m ∧ cf + m ≤ W) (h2 : 1 ≤ k ∧ rf + k ≤ H) (hr1 : m * k = r) (hL : pickL l (fun i => (rf + i / m) * W + (cf + i % m)) r = L) (hcap : n ≤ c) (hr : Rd w A (fl l)) :
    Calls Tryz.prog 31 #[.agg #[.string nm, .int .i64 (W : Int), .int .i64 (H : Int), .slice A n c], .agg #[.int .i64 (cf : Int), .int .i64 ((cf : Int) + (m : Int))], .agg #[.int .i64 (rf : Int), .int .i64 ((rf : Int) + (k : Int))]] w (PickOk nm m k r L w) := by
  subst hn; subst hL; subst hr1
  exact (cropped_ok nm W H l hp (ok_err hp) cf m rf k h1 h2 A c w (ok_sizes hp).2.2.2.1 (ok_sizes hp).2.2.2.2 hcap hr).mono fun e w' ⟨g, a1, a2, a3⟩ => ⟨g, a1, rd_pick a2 (fun i => rfl), a3⟩
theorem last_v (LL : List Nat) (hL : pickL l (fun i => (H - 1) * W + i) W = LL) (hcap : n ≤ c) (hr : Rd w A (fl l)) :
    Calls Tryz.prog 31 #[.agg #[.string nm, .int .i64 (W : Int), .int .i64 (H : Int), .slice A n c], .agg #[.int .i64 0, .int .i64 (W : Int)], .agg #[.int .i64 ((H : Int) - 1), .int .i64 (H : Int)]] w (PickOk nm W 1 W LL w) := by
  obtain ⟨hW, hH, _⟩ := ok_sizes hp
  have h := crop_v hp hn A c w 0 W (H - 1) 1 W LL ⟨hW.1, by omega⟩ ⟨by omega, by omega⟩ (by omega) (by
    rw [← hL]
    refine pickL_congr fun i hi => ?_
    show (H - 1 + i / W) * W + (0 + i % W) = (H - 1) * W + i
    rw [Nat.div_eq_of_lt hi, Nat.mod_eq_of_lt hi, Nat.add_zero, Nat.zero_add]) hcap hr
  rw [show ((H - 1 : Nat) : Int) + ((1 : Nat) : Int) = (H : Int) by omega, show ((H - 1 : Nat) : Int) = (H : Int) - 1 by omega, show ((0 : Nat) : Int) + (W : Int) = (W : Int) by omega] at h
  exact h
end
theorem woven_val (l k : List Nat) (W i : Nat) : wovenF l k W i = .float .f32 (wovenN l k W i) := by
  unfold wovenF wovenN
  split <;> rfl
theorem woven_v {nm nm2 : ByteArray} {W H1 H2 M : Nat} {l k : List Nat} (hp : (Pic.mk nm W H1 l).Ok) (hp2 : (Pic.mk nm2 W H2 k).Ok) {n1 n2 n : Nat} (hn1 : l.length = n1) (hn2 : k.length = n2) (hM : H1 + H2 = M) (hor : H1 = H2 ∨ H1 = H2 + 1) (hM64 : M ≤ 64) (hn : W * M = n) (L : List Nat) (hl : L.length = n) (hL : ∀ i, i < n → wovenN l k W i = L.getD i 0) (A A2 : Option Addr) (c c2 : Nat) (w : World) (hcap : n1 ≤ c) (hcap2 : n2 ≤ c2) (hr : Rd w A (fl l)) (hr2 : Rd w A2 (fl k)) :
    Calls Tryz.prog 42 #[.agg #[.string nm, .int .i64 (W : Int), .int .i64 (H1 : Int), .slice A n1 c], .agg #[.string nm2, .int .i64 (W : Int), .int .i64 (H2 : Int), .slice A2 n2 c2]] w (PickOk nm W M n L w) := by
  subst hn1; subst hn2; subst hn
  refine (woven_ok nm nm2 W H1 H2 M hM l k hp (ok_err hp) hp2 (ok_err hp2) hor hM64 A A2 c c2 w (ok_sizes hp).2.2.2.1 (ok_sizes hp2).2.2.2.1 hcap hcap2 hr hr2).mono fun e w' ⟨g, a1, a2, a3⟩ => ⟨g, a1, ?_, a3⟩
  exact rd_mask a2 (fun _ _ => rfl) (by simp [fl, hl]) fun i hi => by rw [fl_get (by rw [hl]; exact hi), woven_val, hL i hi]
theorem valid_any (p : Pic) (A : Option Addr) (c : Nat) (w : World) (hr : Rd w A (fl p.l)) : Calls Tryz.prog 86 #[p.val A c] w (BoolEnd (shortB p && (p.err == 0)) w) := by
  have HS0 := Lib.hid (fun w => shortR_any p A c w)
  have HR := Lib.hid hr; clear hr
  by_cases hsh : shortB p = true
  · obtain ⟨hs0, hl0⟩ := short_facts hsh
    have HCK := Lib.hid (fun w hr => checkPictureR_any p A c w (Nat.le_trans hs0 (by decide)) (Nat.le_trans hl0 (by decide)) hr)
    rw [hsh] at HS0 ⊢
    obtain ⟨z, hz⟩ : ∃ z, p.err = z := ⟨_, rfl⟩
    rw [hz] at HCK ⊢
    unfold Pic.val at HCK HS0 ⊢
    have HB := Lib.hid (Below.refl w.heap.size w)
    clear hs0 hl0 hsh hz
    go_enter Tryz.func86, Tryz.ntmps86
    go_upto_region 1 with fail
    have hn := Blk.new w 43 #[.string p.name, .int .i64 p.w, .int .i64 p.h, .slice A p.l.length c]
    have hb := (Below.refl w.heap.size w).alloc (Nat.le_refl _) (.cells #[.string p.name, .int .i64 p.w, .int .i64 p.h, .slice A p.l.length c] 43)
    generalize w.alloc (.cells #[.string p.name, .int .i64 p.w, .int .i64 p.h, .slice A p.l.length c] 43) = w0 at hn hb ⊢
    obtain ⟨c0, c1, c2, c3⟩ := box4 hn
    replace HB := Lib.hid hb
    have HX := Lib.hid hn; clear hn hb
    go_wp2_with fail
    refine (HS0.out _).mono ?_
    rintro e u1 ⟨rfl, hb1⟩
    replace HX := Lib.hid (HX.out.below hb1); replace HB := Lib.hid (HB.out.trans (hb1.mono HB.out.size)); clear hb1 c0 c1 c2 c3
    obtain ⟨c0, c1, c2, c3⟩ := box4 HX.out
    go_wp2_with fail
    refine (HCK.out _ (HR.out.below HB.out)).mono ?_
    rintro e u2 ⟨rfl, hb1⟩
    replace HB := Lib.hid (HB.out.trans (hb1.mono HB.out.size)); clear hb1
    go_wp2
    go_ret
    exact ⟨by simp, HB.out⟩
  · have hsf : shortB p = false := by simpa using hsh
    rw [hsf] at HS0 ⊢
    unfold Pic.val at HS0 ⊢
    have HB := Lib.hid (Below.refl w.heap.size w)
    clear hsf hsh
    go_enter Tryz.func86, Tryz.ntmps86
    go_upto_region 1 with fail
    have hn := Blk.new w 43 #[.string p.name, .int .i64 p.w, .int .i64 p.h, .slice A p.l.length c]
    have hb := (Below.refl w.heap.size w).alloc (Nat.le_refl _) (.cells #[.string p.name, .int .i64 p.w, .int .i64 p.h, .slice A p.l.length c] 43)
    generalize w.alloc (.cells #[.string p.name, .int .i64 p.w, .int .i64 p.h, .slice A p.l.length c] 43) = w0 at hn hb ⊢
    obtain ⟨c0, c1, c2, c3⟩ := box4 hn
    replace HB := Lib.hid hb
    clear hn hb
    go_wp2_with fail
    refine (HS0.out _).mono ?_
    rintro e u1 ⟨rfl, hb1⟩
    replace HB := Lib.hid (HB.out.trans (hb1.mono HB.out.size)); clear hb1 c0 c1 c2 c3
    go_wp2
    go_ret
    exact ⟨by simp, HB.out⟩
theorem ratio_fields : (Tryz.prog.fieldsOf 33).toList = [{ name := "Num", type := 3, offset := 0, embedded := false, tag := "", pkgPath := "", byteOffset := 0 }, { name := "Den", type := 3, offset := 1, embedded := false, tag := "", pkgPath := "", byteOffset := 8 }] := by kernel_rfl
theorem eq_ratio_any (a b : Int) (w : World) : (Op.equalIn 10000 33 (.agg #[.int .i64 a, .int .i64 b]) (.agg #[.int .i64 a, .int .i64 b])).run Tryz.prog w = .ok true w := by
  have h3 := Tryz.isAgg3
  rw [show (10000 : Nat) = 9999 + 1 from rfl, run_equalIn_struct w 9999 33 _ _ (by kernel_rfl) (by kernel_rfl), ratio_fields]
  simp [Op.eqFields, Sem.run_bind, Sem.run_ite, part, h3, run_equalIn_int w 9998 3 .i64 .i64 _ _ Tryz.underlying3, Result.andThen_ok]

end Go.Proofs.YtlicgblagkkcfaaGreatDoor
namespace Go.Proofs.YtlicgblagkkcfaaGreatDoor
open Go Go.RowKit
set_option linter.unusedVariables false
section
variable {P : Program} {ops : Array Oper} {Q : Exit → Act → World → Prop} {R : World → World → Prop}
/-- The temporary that operation i fills. -/
def dstOf (ops : Array Oper) (i : Nat) : Option Tmp := (ops[i]?).bind (·.dst)
/-- The frame with the values of some operations. -/
def canon (ops : Array Oper) (v : Nat → Value) (a : Act) : List Nat → Act
  | [] => a
  | i :: l => (canon ops v a l).put (dstOf ops i) (v i)
theorem canon_nil (v : Nat → Value) (a : Act) : canon ops v a [] = a := rfl
/-- Operation i, run in this frame and world, ends in a grown world and leaves a value for which the fact holds. -/
def SpecOp (P : Program) (ops : Array Oper) (Q : Exit → Act → World → Prop) (R : World → World → Prop) (i : Nat) (a : Act) (w : World) (F : Value → World → Prop) : Prop :=
  ∀ K : Act → World → Prop, (∀ v w', R w w' → F v w' → K (a.put (dstOf ops i) v) w') → wpOp P ops Q i K a w
theorem put_size (a : Act) (d : Option Tmp) (v : Value) : (a.put d v).tmps.size = a.tmps.size := by cases d <;> simp [Act.put]
theorem put_dfs (a : Act) (d : Option Tmp) (v : Value) : (a.put d v).defers = a.defers := by cases d <;> rfl
theorem put_get_ne (a : Act) {d : Option Tmp} {t : Tmp} (v : Value) (h : d ≠ some t) : (a.put d v).tmps[t]? = a.tmps[t]? := by
  cases d with
  | none => rfl
  | some d => simp only [Act.put]; exact Array.getElem?_setIfInBounds_ne (fun e => h (by rw [e]))
theorem put_get_eq (a : Act) (t : Tmp) (v : Value) : (a.put (some t) v).tmps[t]? = if t < a.tmps.size then some v else none := by
  simp only [Act.put]
  by_cases h : t < a.tmps.size
  · rw [if_pos h, Array.getElem?_setIfInBounds_self_of_lt h]
  · rw [if_neg h, Array.getElem?_eq_none (by rw [Array.size_setIfInBounds]; exact Nat.le_of_not_lt h)]
theorem put_transfer {a a' : Act} (hs : a.tmps.size = a'.tmps.size) {d : Option Tmp} {u v : Value} (h : a.put d u = a.put d v) : a'.put d u = a'.put d v := by
  cases d with
  | none => rfl
  | some t =>
    have h1 : (a.put (some t) u).tmps[t]? = (a.put (some t) v).tmps[t]? := by rw [h]
    rw [put_get_eq, put_get_eq] at h1
    by_cases ht : t < a.tmps.size
    · rw [if_pos ht, if_pos ht] at h1
      cases h1; rfl
    · simp only [Act.put]
      have hle : a'.tmps.size ≤ t := by rw [← hs]; exact Nat.le_of_not_lt ht
      rw [Array.setIfInBounds_eq_of_size_le hle, Array.setIfInBounds_eq_of_size_le hle]
theorem act_ext {a b : Act} (h : ∀ t : Nat, a.tmps[t]? = b.tmps[t]?) (hd : a.defers = b.defers) : a = b := by
  obtain ⟨t1, d1⟩ := a; obtain ⟨t2, d2⟩ := b
  simp only [] at hd h
  rw [Array.ext_getElem? h, hd]
theorem SpecOp.transfer {j : Nat} {oj : Oper} (hj : ops[j]? = some oj) (hsel : ∀ cs b, oj.op ≠ .select cs b)
    (hQ : ∀ (c : List PanicEntry) (a a' : Act) w, a.defers = a'.defers → Q (.panic c) a w → Q (.panic c) a' w) {a a' : Act} (hdf : a.defers = a'.defers) (hs : a.tmps.size = a'.tmps.size)
    (heq : ∀ t ∈ oj.looksAt ops, a.tmps[t]? = a'.tmps[t]?) {w : World} {F : Value → World → Prop} (h : SpecOp P ops Q R j a w F) : SpecOp P ops Q R j a' w F := by
  intro K hK
  have hd : dstOf ops j = oj.dst := by simp [dstOf, hj]
  have he : execOp a'.eval oj = execOp a.eval oj := execOp_congr oj hsel fun x hx => by
    cases x with
    | tmp t =>
      have := heq t (List.mem_append_left _ (List.mem_filterMap.2 ⟨.tmp t, by simpa using hx, rfl⟩))
      simp only [Act.eval, Array.getD_eq_getD_getElem?, this]
    | _ => rfl
  have hw : Region.wanted oj (yielded ops a'.tmps) = Region.wanted oj (yielded ops a.tmps) := by
    unfold Region.wanted
    cases hg : oj.guard with
    | none => rfl
    | some gw =>
      obtain ⟨g, want⟩ := gw
      have hy : yielded ops a'.tmps g = yielded ops a.tmps g := by
        unfold yielded
        cases ht : (ops[g]?).bind (·.dst) with
        | none => rfl
        | some t =>
          have := heq t (by simp [Oper.looksAt, hg, ht])
          simp only [Option.bind_some, this]
      simp only [hy]
  have h1 := h (fun b w' => ∃ v, b = a.put oj.dst v ∧ R w w' ∧ F v w') (fun v w' hr hv => ⟨v, by rw [hd], hr, hv⟩)
  rw [hd] at hK
  have key : ∀ u w1, (∃ v, a.put oj.dst u = a.put oj.dst v ∧ R w w1 ∧ F v w1) → K (a'.put oj.dst u) w1 := fun u w1 ⟨v, e, hr, hv⟩ => by
    rw [put_transfer hs e]; exact hK v w1 hr hv
  unfold wpOp at *
  simp only [hj] at *
  rw [hw]
  split
  · rename_i hwt
    simp only [hwt, if_true] at h1
    rcases h1 with h1 | ⟨ha, hl⟩
    case inr => exact .inr ⟨by unfold Oper.asks at *; rw [he]; exact ha, hl⟩
    refine .inl ?_
    unfold Oper.wp at *
    rw [he]
    generalize (execOp a.eval oj).run P w = r at *
    cases r with
    | ok n w' =>
      cases n <;> simp only [Oper.upon] at h1 ⊢
      case value u => exact key u w' h1
      case skip => exact key undef w' h1
      case defer d =>
        obtain ⟨v, e, _⟩ := h1
        have := congrArg Act.defers e
        rw [put_dfs, put_dfs] at this
        simp at this
      case enter f args =>
        refine Calls.mono h1 fun e w'' he => ?_
        cases e with
        | returned u => exact key u w'' he
        | panicked c => exact hQ _ _ _ _ hdf he
        | outgrown => exact he
      case row row args => exact Rows.mono h1 fun u w'' he => key u w'' he
    | halt x w' =>
      cases x <;> simp only [Oper.upon] at h1 ⊢
      case panic u => exact hQ _ _ _ _ hdf h1
  · rename_i hwf
    simp only [hwf] at h1
    exact key undef w h1
/-- The operations whose values operation j looks at. -/
def depsOf (ops : Array Oper) (j : Nat) : List Nat :=
  (List.range ops.size).filter fun d => match dstOf ops d, ops[j]? with
    | some t, some o => (o.looksAt ops).contains t
    | _, _ => false
/-- What is asked of a region's text: no select; two operations fill two temporaries; whatever is looked at is waited for; what is waited for stands before. -/
def okOps (ops : Array Oper) : Bool :=
  Region.noSelect ops
  && ((List.range ops.size).all fun i => (List.range ops.size).all fun j => i == j || (dstOf ops i).isNone || dstOf ops i != dstOf ops j)
  && ((List.range ops.size).all fun j => match ops[j]? with
      | none => false
      | some o => ((List.range ops.size).all fun d => match dstOf ops d with
          | none => true
          | some t => !(o.looksAt ops).contains t || (o.after.any fun e => Region.binds .any e && e.on == d))
        && (o.after.all fun e => !Region.binds .any e || decide (e.on < j)))
structure OkOps (ops : Array Oper) : Prop where
  sel : Region.noSelect ops = true
  dist : ∀ (i j : Nat) (t : Tmp), i < ops.size → j < ops.size → i ≠ j → dstOf ops i = some t → dstOf ops j ≠ some t
  dep : ∀ (j : Nat) (o : Oper), ops[j]? = some o → ∀ (d : Nat) (t : Tmp), d < ops.size → dstOf ops d = some t → t ∈ o.looksAt ops → ∃ e ∈ o.after, Region.binds .any e = true ∧ e.on = d
  back : ∀ (j : Nat) (o : Oper), ops[j]? = some o → ∀ e ∈ o.after, Region.binds .any e = true → e.on < j
theorem okOps_spec (h : okOps ops = true) : OkOps ops := by
  unfold okOps at h
  simp only [Bool.and_eq_true, List.all_eq_true, List.mem_range] at h
  obtain ⟨⟨h1, h2⟩, h3⟩ := h
  refine ⟨h1, fun i j t hi hj hne hd he => ?_, fun j o hj d t hd hdt ht => ?_, fun j o hj e he hb => ?_⟩
  · have := h2 i hi j hj
    rw [hd, he] at this
    simp [hne] at this
  · have hlt : j < ops.size := (Array.getElem?_eq_some_iff.1 hj).1
    have h4 := h3 j hlt
    rw [hj] at h4
    simp only [Bool.and_eq_true, List.all_eq_true, List.mem_range] at h4
    have h5 := h4.1 d hd
    rw [hdt] at h5
    simp only [Bool.or_eq_true, Bool.not_eq_true', Array.any_eq_true', Bool.and_eq_true, beq_iff_eq] at h5
    rcases h5 with h5 | ⟨e, he, hb, hon⟩
    · rw [List.contains_iff_mem.2 ht] at h5; cases h5
    · exact ⟨e, he, hb, hon⟩
  · have hlt : j < ops.size := (Array.getElem?_eq_some_iff.1 hj).1
    have h4 := h3 j hlt
    rw [hj] at h4
    simp only [Bool.and_eq_true, Array.all_eq_true_iff_forall_mem, Bool.or_eq_true, Bool.not_eq_true', decide_eq_true_eq] at h4
    rcases h4.2 e he with h5 | h5
    · rw [hb] at h5; cases h5
    · exact h5
/-- The frame a holds the values v of the listed operations, and is a0 elsewhere. -/
structure Agree (ops : Array Oper) (a0 : Act) (listed : Array Bool) (v : Nat → Value) (a : Act) : Prop where
  size : a.tmps.size = a0.tmps.size
  dfs : a.defers = a0.defers
  hit : ∀ i t, i < ops.size → listed.getD i true = true → dstOf ops i = some t → a.tmps[t]? = if t < a0.tmps.size then some (v i) else none
  miss : ∀ t, (∀ i, i < ops.size → listed.getD i true = true → dstOf ops i ≠ some t) → a.tmps[t]? = a0.tmps[t]?
theorem Agree.put (ho : OkOps ops) {a0 : Act} {listed : Array Bool} {v : Nat → Value} {a : Act} (h : Agree ops a0 listed v a) (hn : listed.size = ops.size) {j : Nat} (hj : j < ops.size) (hu : listed.getD j true = false) (u : Value) :
    Agree ops a0 (listed.setIfInBounds j true) (fun i => if i = j then u else v i) (a.put (dstOf ops j) u) := by
  refine ⟨by rw [put_size, h.size], by rw [put_dfs, h.dfs], fun i t hi hl hd => ?_, fun t hm => ?_⟩
  · by_cases hij : i = j
    · subst hij
      rw [hd, put_get_eq, if_pos rfl, h.size]
    · rw [if_neg hij, put_get_ne _ _ (ho.dist i j t hi hj hij hd)]
      exact h.hit i t hi (by rw [getD_set_ne true (Ne.symm hij)] at hl; exact hl) hd
  · have hne : dstOf ops j ≠ some t := hm j hj (by simp [hn, hj])
    rw [put_get_ne _ _ hne]
    refine h.miss t fun i hi hl => hm i hi ?_
    by_cases hij : j = i
    · subst hij; simp [hn, hj]
    · rw [getD_set_ne true hij]; exact hl
theorem canon_size (v : Nat → Value) (a : Act) (l : List Nat) : (canon ops v a l).tmps.size = a.tmps.size := by
  induction l with
  | nil => rfl
  | cons i l ih => rw [canon, put_size, ih]
theorem canon_dfs (v : Nat → Value) (a : Act) (l : List Nat) : (canon ops v a l).defers = a.defers := by
  induction l with
  | nil => rfl
  | cons i l ih => rw [canon, put_dfs, ih]
theorem canon_hit (ho : OkOps ops) (v : Nat → Value) (a : Act) {i t : Nat} (hd : dstOf ops i = some t) : ∀ (l : List Nat), (∀ j ∈ l, j < ops.size) → i ∈ l → (canon ops v a l).tmps[t]? = if t < a.tmps.size then some (v i) else none := by
  intro l
  induction l with
  | nil => intro _ h; cases h
  | cons j l ih =>
    intro hl hm
    by_cases hij : j = i
    · subst hij; rw [canon, hd, put_get_eq, canon_size]
    · have hi : i ∈ l := by rcases List.mem_cons.1 hm with h | h; exact absurd h.symm hij; exact h
      rw [canon, put_get_ne _ _ (ho.dist i j t (hl i hm) (hl j (List.mem_cons_self ..)) (Ne.symm hij) hd)]
      exact ih (fun k hk => hl k (List.mem_cons_of_mem _ hk)) hi
theorem canon_miss (v : Nat → Value) (a : Act) {t : Nat} : ∀ (l : List Nat), (∀ j ∈ l, dstOf ops j ≠ some t) → (canon ops v a l).tmps[t]? = a.tmps[t]? := by
  intro l
  induction l with
  | nil => intro _; rfl
  | cons j l ih =>
    intro hl
    rw [canon, put_get_ne _ _ (hl j (List.mem_cons_self ..))]
    exact ih fun k hk => hl k (List.mem_cons_of_mem _ hk)
variable (F : Nat → Value → World → Prop) (a0 : Act) (w0 : World)
theorem each_any (ho : OkOps ops) (htr : ∀ a b c, R a b → R b c → R a c) (hst : ∀ i v w w', F i v w → R w w' → F i v w')
    (hQ : ∀ (c : List PanicEntry) (a a' : Act) w, a.defers = a'.defers → Q (.panic c) a w → Q (.panic c) a' w)
    (hstep : ∀ i, i < ops.size → ∀ (v : Nat → Value) (w : World), R w0 w → (∀ d ∈ depsOf ops i, F d (v d) w) → SpecOp P ops Q R i (canon ops v a0 (depsOf ops i)) w (F i))
    (hend : ∀ (v : Nat → Value) (w : World), R w0 w → (∀ i, i < ops.size → F i (v i) w) → Q .normal (canon ops v a0 (List.range ops.size)) w) :
    ∀ (fuel : Nat) (listed : Array Bool) (v : Nat → Value) (a : Act) (w : World), listed.size = ops.size → ((List.range ops.size).filter fun i => !listed.getD i true).length ≤ fuel →
      Agree ops a0 listed v a → R w0 w → (∀ i, i < ops.size → listed.getD i true = true → F i (v i) w) → wpAny P .any ops Q fuel listed a w := by
  have fin : ∀ (listed : Array Bool) (v : Nat → Value) (a : Act) (w : World), listed.size = ops.size → Region.ready .any ops listed = [] → Agree ops a0 listed v a → R w0 w → (∀ i, i < ops.size → listed.getD i true = true → F i (v i) w) → Q .normal a w := by
    intro listed v a w hn hr ha hw hf
    have hall : ∀ k i, i < k → i < ops.size → listed.getD i true = true := by
      intro k
      induction k with
      | zero => intro i hi; omega
      | succ k ih =>
        intro i hi hin
        by_cases hl : listed.getD i true = true
        · exact hl
        · have hmem : i ∈ Region.ready .any ops listed := by
            rw [mem_ready]
            obtain ⟨o, hoi⟩ : ∃ o, ops[i]? = some o := ⟨ops[i], by simp [hin]⟩
            refine ⟨by simpa using hl, o, hoi, fun e he hb => ?_⟩
            have h1 := ho.back i o hoi e he hb
            have h2 := ih e.on (by omega) (by omega)
            simp only [Array.getD_eq_getD_getElem?] at h2 ⊢
            rw [Array.getElem?_eq_getElem (by omega)] at h2 ⊢
            exact h2
          rw [hr] at hmem; cases hmem
    have e : a = canon ops v a0 (List.range ops.size) := by
      refine act_ext (fun t => ?_) (by rw [ha.dfs, canon_dfs])
      by_cases hx : ∃ i, i < ops.size ∧ dstOf ops i = some t
      · obtain ⟨i, hi, hd⟩ := hx
        rw [ha.hit i t hi (hall (i + 1) i (by omega) hi) hd, canon_hit ho v a0 hd _ (fun j hj => List.mem_range.1 hj) (List.mem_range.2 hi)]
      · rw [ha.miss t (fun i hi _ hd => hx ⟨i, hi, hd⟩), canon_miss v a0 _ (fun j hj hd => hx ⟨j, List.mem_range.1 hj, hd⟩)]
    rw [e]
    exact hend v w hw fun i hi => hf i hi (hall (i + 1) i (by omega) hi)
  intro fuel
  induction fuel with
  | zero =>
    intro listed v a w hn hc ha hw hf
    have hr : Region.ready .any ops listed = [] := by
      rw [List.eq_nil_iff_forall_not_mem]
      intro j hj
      obtain ⟨h0, o, hoj, _⟩ := mem_ready.1 hj
      have hlt : j < ops.size := (Array.getElem?_eq_some_iff.1 hoj).1
      have : j ∈ (List.range ops.size).filter fun i => !listed.getD i true := List.mem_filter.2 ⟨List.mem_range.2 hlt, by simp only [h0, Bool.not_false]⟩
      rw [List.length_eq_zero_iff.1 (Nat.le_zero.1 hc)] at this
      cases this
    exact ⟨hr, fin listed v a w hn hr ha hw hf⟩
  | succ fuel ih =>
    intro listed v a w hn hc ha hw hf
    refine ⟨fun hr => fin listed v a w hn hr ha hw hf, fun j hj => ?_⟩
    obtain ⟨h0, oj, hoj, hall⟩ := mem_ready.1 hj
    have hlt : j < ops.size := (Array.getElem?_eq_some_iff.1 hoj).1
    have hdep : ∀ d t, d < ops.size → dstOf ops d = some t → t ∈ oj.looksAt ops → listed.getD d true = true := fun d t hd hdt ht => by
      obtain ⟨e, he, hb, rfl⟩ := ho.dep j oj hoj d t hd hdt ht
      have h2 := hall e he hb
      simp only [Array.getD_eq_getD_getElem?] at h2 ⊢
      rw [Array.getElem?_eq_getElem (by omega)] at h2 ⊢
      exact h2
    have hdl : ∀ d ∈ depsOf ops j, d < ops.size ∧ listed.getD d true = true := fun d hd => by
      obtain ⟨h1, h2⟩ := List.mem_filter.1 hd
      have hd' := List.mem_range.1 h1
      rw [hoj] at h2
      cases hdt : dstOf ops d with
      | none => rw [hdt] at h2; cases h2
      | some t => rw [hdt] at h2; exact ⟨hd', hdep d t hd' hdt (List.contains_iff_mem.1 h2)⟩
    have hspec := hstep j hlt v w hw (fun d hd => hf d (hdl d hd).1 (hdl d hd).2)
    have hspec2 := hspec.transfer hoj (Region.noSelect_spec ho.sel j oj · · hoj) hQ (a' := a) (by rw [canon_dfs, ha.dfs]) (by rw [canon_size, ha.size]) (fun t ht => by
      by_cases hx : ∃ d, d < ops.size ∧ dstOf ops d = some t
      · obtain ⟨d, hd, hdt⟩ := hx
        have hmem : d ∈ depsOf ops j := List.mem_filter.2 ⟨List.mem_range.2 hd, by rw [hdt, hoj]; exact List.contains_iff_mem.2 ht⟩
        rw [canon_hit ho v a0 hdt _ (fun k hk => (hdl k hk).1) hmem, ha.hit d t hd (hdep d t hd hdt ht) hdt]
      · rw [canon_miss v a0 _ (fun k hk hdt => hx ⟨k, (hdl k hk).1, hdt⟩), ha.miss t (fun k hk _ hdt => hx ⟨k, hk, hdt⟩)])
    refine hspec2 _ fun u w' hr hu => ih _ (fun i => if i = j then u else v i) _ w' (by simp [hn]) ?_ (ha.put ho hn hlt h0 u) (htr _ _ _ hw hr) fun i hi hl => ?_
    · have hsub : ((List.range ops.size).filter fun i => !(listed.setIfInBounds j true).getD i true).length < ((List.range ops.size).filter fun i => !listed.getD i true).length := by
        have e : ((List.range ops.size).filter fun i => !(listed.setIfInBounds j true).getD i true) = (((List.range ops.size).filter fun i => !listed.getD i true).filter fun i => i != j) := by
          rw [List.filter_filter]
          refine List.filter_congr fun i hi => ?_
          by_cases hij : j = i
          · subst hij; simp [hn, hlt]
          · rw [getD_set_ne true hij]
            have : (i != j) = true := by simp; exact fun h => hij h.symm
            rw [this]; simp
        rw [e]
        refine List.length_filter_lt_length_iff_exists.2 ⟨j, List.mem_filter.2 ⟨List.mem_range.2 hlt, by simp only [h0, Bool.not_false]⟩, by simp⟩
      omega
    · by_cases hij : i = j
      · subst hij; rw [if_pos rfl]; exact hu
      · rw [if_neg hij]
        rw [getD_set_ne true (Ne.symm hij)] at hl
        exact hst i _ _ _ (hf i hi hl) hr
/-- A region that draws its order, operation by operation. -/
theorem wp_region_each {id : Nat} {w : World} (hm : P.follows .mixedOrders = true) (hok : okOps ops = true) (hrf : R w0 { w with drawn := w.drawn + 1 }) (htr : ∀ a b c, R a b → R b c → R a c) (hst : ∀ i v w w', F i v w → R w w' → F i v w')
    (hQ : ∀ (c : List PanicEntry) (a a' : Act) w, a.defers = a'.defers → Q (.panic c) a w → Q (.panic c) a' w)
    (hstep : ∀ i, i < ops.size → ∀ (v : Nat → Value) (w : World), R w0 w → (∀ d ∈ depsOf ops i, F d (v d) w) → SpecOp P ops Q R i (canon ops v a0 (depsOf ops i)) w (F i))
    (hend : ∀ (v : Nat → Value) (w : World), R w0 w → (∀ i, i < ops.size → F i (v i) w) → Q .normal (canon ops v a0 (List.range ops.size)) w) :
    (Code.region id ops true).wp P Q a0 w :=
  wp_region_any hm (each_any F a0 w0 (okOps_spec hok) htr hst hQ hstep hend ops.size _ (fun _ => undef) a0 _ (by simp) (by
      refine Nat.le_trans (List.length_filter_le _ _) (by simp)) ⟨rfl, rfl, fun i t hi hl => by simp [hi] at hl, fun t _ => rfl⟩ hrf fun i hi hl => by simp [hi] at hl)
/-- A fact of a value that no growth of the world undoes. -/
structure Fact where
  p : Value → World → Prop
  st : ∀ v w w', p v w → Below w.heap.size w w' → p v w'
def Fact.is (x : Value) : Fact := ⟨fun u _ => u = x, fun _ _ _ h _ => h⟩
def Fact.any : Fact := ⟨fun _ _ => True, fun _ _ _ _ _ => trivial⟩
def Fact.ints (n : Nat) (l : List Int) : Fact := ⟨fun u w => ∃ A c, u = .slice A n c ∧ Rd w A (l.map (.int .i64)), fun _ _ _ ⟨A, c, h1, h2⟩ hb => ⟨A, c, h1, h2.below hb⟩⟩
theorem Fact.is_out {x v : Value} {w : World} (h : (Fact.is x).p v w) : v = x := h
/-- A growing world. -/
def Grown (w w' : World) : Prop := Below w.heap.size w w'
theorem grown_trans (a b c : World) (h : Grown a b) (k : Grown b c) : Grown a c := Below.trans h (Below.mono k (Below.size h))
theorem spec_of {i : Nat} {o : Oper} (ho : ops[i]? = some o) {a : Act} {w : World} {F : Value → World → Prop}
    (h : ∀ K : Act → World → Prop, Shut (∀ v w', Below w.heap.size w w' → F v w' → K (a.put o.dst v) w') → if Region.wanted o (yielded ops a.tmps) = true then Oper.wp P o a w K Q else K (a.put o.dst undef) w) : SpecOp P ops Q Grown i a w F := by
  intro K hK
  have hd : dstOf ops i = o.dst := by simp [dstOf, ho]
  rw [hd] at hK
  exact wpOp_step ho (fun K' hK' => h K' (fun v w' hr hv => hK' _ _ (hK v w' hr hv)))
/-- The frame with the values of a table of operations. -/
def putL (v : Nat → Value) (a : Act) : List (Option Tmp × Nat) → Act
  | [] => a
  | (d, k) :: l => (putL v a l).put d (v k)
theorem canon_putL (v : Nat → Value) (a : Act) (l : List Nat) : canon ops v a l = putL v a (l.map fun i => (dstOf ops i, i)) := by
  induction l with
  | nil => rfl
  | cons i l ih => rw [canon, ih]; rfl
/-- A region that draws its order, by a list of facts. -/
theorem wp_region_facts (fs : List Fact) (tab : List (List Nat)) (ds : List (Option Tmp × Nat)) {id : Nat} {a0 : Act} {w : World} (hm : P.follows .mixedOrders = true) (hok : okOps ops = true) (htab : (List.range ops.size).map (depsOf ops) = tab) (hds : ((List.range ops.size).map fun i => (dstOf ops i, i)) = ds)
    (hQ : ∀ (c : List PanicEntry) (a a' : Act) w, a.defers = a'.defers → Q (.panic c) a w → Q (.panic c) a' w)
    (hstep : ∀ i, i < ops.size → ∀ (v : Nat → Value) (w' : World), Below w.heap.size w w' → (∀ d ∈ tab.getD i [], (fs.getD d Fact.any).p (v d) w') → SpecOp P ops Q Grown i (canon ops v a0 (tab.getD i [])) w' (fs.getD i Fact.any).p)
    (hend : ∀ (v : Nat → Value) (w' : World), Below w.heap.size w w' → (∀ i, i < ops.size → (fs.getD i Fact.any).p (v i) w') → Q .normal (putL v a0 ds) w') :
    (Code.region id ops true).wp P Q a0 w := by
  have htd : ∀ i, i < ops.size → tab.getD i [] = depsOf ops i := fun i hi => by rw [← htab]; simp [List.getD, hi]
  exact wp_region_each (R := Grown) (fun i => (fs.getD i Fact.any).p) a0 w hm hok ((Below.refl _ _).drew) grown_trans (fun i v w w' h hb => (fs.getD i Fact.any).st v w w' h hb) hQ
    (fun i hi v w' hw hd => by have h := hstep i hi v w' hw; rw [htd i hi] at h; exact h hd) (fun v w' hw hf => by rw [canon_putL, hds]; exact hend v w' hw hf)
end
end Go.Proofs.YtlicgblagkkcfaaGreatDoor
