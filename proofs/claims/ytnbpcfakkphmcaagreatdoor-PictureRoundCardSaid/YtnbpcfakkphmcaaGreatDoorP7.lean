/- Parts of a proof: Turns of lists: two flips, two transpositions, a half turn; sums stay; fields are woven again. Valid pictures: contracts of the code by lists; the test of a valid picture; equal ratios. The errors of the sample at a place, and of a part. -/
import Derived.Test.YtnbpcfakkphmcaaGreatDoorBk
import Derived.Test.YtnbpcfakkphmcaaGreatDoorBl
import Derived.Test.YtnbpcfakkphmcaaGreatDoorP2
import Derived.Test.YtnbpcfakkphmcaaGreatDoorN
namespace Go.Proofs.YtnbpcfakkphmcaaGreatDoor
open Go.RowKit
set_option linter.unusedVariables false
theorem pickL_get (l : List Nat) (f : Nat → Nat) (n i : Nat) (h : i < n) : (pickL l f n).getD i 0 = l.getD (f i) 0 := by simp [pickL, List.getD, h]
theorem pickL_pick (l : List Nat) (f g : Nat → Nat) (n m : Nat) (h : ∀ i, i < m → g i < n) : pickL (pickL l f n) g m = pickL l (fun i => f (g i)) m := by
  unfold pickL
  refine List.map_congr_left fun i hi => ?_
  have := h i (by simpa using hi)
  simp [List.getD, this]
theorem pickL_congr {l : List Nat} {f g : Nat → Nat} {n : Nat} (h : ∀ i, i < n → f i = g i) : pickL l f n = pickL l g n := by
  unfold pickL
  exact List.map_congr_left fun i hi => by rw [h i (by simpa using hi)]
theorem pickL_id (l : List Nat) : pickL l (fun i => i) l.length = l := by
  unfold pickL
  apply List.ext_getElem
  · simp
  · intro i h1 h2; simp [List.getD, h2]
theorem divmod_add {a b W : Nat} (h : b < W) : (a * W + b) / W = a ∧ (a * W + b) % W = b := by
  have hW : 0 < W := by omega
  constructor
  · rw [Nat.add_comm, Nat.add_mul_div_right _ _ hW, Nat.div_eq_of_lt h, Nat.zero_add]
  · rw [Nat.add_comm, Nat.add_mul_mod_self_right, Nat.mod_eq_of_lt h]
theorem div_lt_h {i W H : Nat} (h : i < W * H) : i / W < H := Nat.div_lt_of_lt_mul h
theorem pos_w {i W H : Nat} (h : i < W * H) : 0 < W := by rcases Nat.eq_zero_or_pos W with h0 | h0; (· subst h0; simp at h); exact h0
theorem row_lt {a b W H : Nat} (ha : a < H) (hb : b < W) : a * W + b < W * H := by
  have h1 : (a + 1) * W ≤ H * W := Nat.mul_le_mul_right _ ha
  rw [Nat.add_mul, Nat.one_mul, Nat.mul_comm H W] at h1
  omega
theorem flipN_dm {W H i : Nat} (h : i < W * H) : flipN W i / W = i / W ∧ flipN W i % W = W - 1 - i % W := by
  have hW := pos_w h
  unfold flipN
  exact divmod_add (by omega)
theorem flipN_lt {W H i : Nat} (h : i < W * H) : flipN W i < W * H := by
  have hW := pos_w h
  unfold flipN
  exact row_lt (div_lt_h h) (by omega)
theorem flipN_flipN {W H i : Nat} (h : i < W * H) : flipN W (flipN W i) = i := by
  have hW := pos_w h
  obtain ⟨h1, h2⟩ := flipN_dm h
  have h3 := Nat.mod_lt i hW
  have h4 := Nat.div_add_mod' i W
  show flipN W i / W * W + (W - 1 - flipN W i % W) = i
  rw [h1, h2]; omega
theorem transN_dm {W H i : Nat} (h : i < W * H) : transN W H i / W = i % H ∧ transN W H i % W = i / H := by
  unfold transN
  exact divmod_add (div_lt_h (by rwa [Nat.mul_comm] at h))
theorem transN_lt {W H i : Nat} (h : i < W * H) : transN W H i < W * H := by
  have h' : i < H * W := by rwa [Nat.mul_comm] at h
  unfold transN
  exact row_lt (Nat.mod_lt _ (pos_w h')) (div_lt_h h')
theorem transN_transN {W H i : Nat} (h : i < W * H) : transN W H (transN H W i) = i := by
  have h' : i < H * W := by rwa [Nat.mul_comm] at h
  obtain ⟨h1, h2⟩ := transN_dm h'
  show transN H W i % H * W + transN H W i / H = i
  rw [h1, h2]; exact Nat.div_add_mod' i W
theorem fieldN_dm {W K d i : Nat} (h : i < W * K) : fieldN W d i / W = 2 * (i / W) + d ∧ fieldN W d i % W = i % W := by
  unfold fieldN
  exact divmod_add (Nat.mod_lt _ (pos_w h))
theorem fieldN_lt {W H K d i : Nat} (h : i < W * K) (hK : 2 * K + d ≤ H + 1) (hd : d ≤ 1): fieldN W d i < W * H := by
  unfold fieldN
  have := div_lt_h h
  exact row_lt (by omega) (Nat.mod_lt _ (pos_w h))
theorem flip_field {W K d i : Nat} (h : i < W * K) : flipN W (fieldN W d i) = fieldN W d (flipN W i) := by
  obtain ⟨h1, h2⟩ := fieldN_dm (d := d) h
  obtain ⟨h3, h4⟩ := flipN_dm h
  show fieldN W d i / W * W + (W - 1 - fieldN W d i % W) = (2 * (flipN W i / W) + d) * W + flipN W i % W
  rw [h1, h2, h3, h4]
/-- Flipped and transposed, twice: turned by a half. -/
theorem half_turn {W H i : Nat} (h : i < W * H) : flipN W (transN W H (flipN H (transN H W i))) = W * H - 1 - i := by
  have h' : i < H * W := by rwa [Nat.mul_comm] at h
  have hW := pos_w h
  have hH := pos_w h'
  have a1 := transN_dm h'
  have b0 : transN H W i < H * W := transN_lt h'
  have b1 := flipN_dm b0
  have b0' : flipN H (transN H W i) < H * W := flipN_lt b0
  have c0 : flipN H (transN H W i) < W * H := by rwa [Nat.mul_comm] at b0'
  have c1 := transN_dm c0
  show transN W H (flipN H (transN H W i)) / W * W + (W - 1 - transN W H (flipN H (transN H W i)) % W) = _
  rw [c1.1, c1.2, b1.2, b1.1, a1.1, a1.2]
  have d1 := div_lt_h h
  have d2 := Nat.mod_lt i hW
  have d3 := Nat.div_add_mod' i W
  have e1 : (H - 1 - i / W) * W = H * W - W - i / W * W := by rw [Nat.sub_mul, Nat.sub_mul, Nat.one_mul]
  have e2 : i / W * W + W ≤ H * W := by have := Nat.mul_le_mul_right W (show i / W + 1 ≤ H by omega); rwa [Nat.add_mul, Nat.one_mul] at this
  rw [e1, Nat.mul_comm W H]; omega
/-- A sum over the numbers below n. -/
def tot : Nat → (Nat → Int) → Int
  | 0, _ => 0
  | n + 1, f => tot n f + f n
theorem tot_congr {n : Nat} {f g : Nat → Int} (h : ∀ i, i < n → f i = g i) : tot n f = tot n g := by
  induction n with
  | zero => rfl
  | succ n ih => rw [tot, tot, ih (fun i hi => h i (by omega)), h n (by omega)]
theorem tot_add (n m : Nat) (f : Nat → Int) : tot (n + m) f = tot n f + tot m (fun i => f (n + i)) := by
  induction m with
  | zero => simp [tot]
  | succ m ih => rw [← Nat.add_assoc, tot, tot, ih]; omega
theorem tot_plus (n : Nat) (f g : Nat → Int) : tot n (fun i => f i + g i) = tot n f + tot n g := by
  induction n with
  | zero => rfl
  | succ n ih => rw [tot, tot, tot, ih]; omega
theorem tot_rows (W H : Nat) (f : Nat → Int) : tot (W * H) f = tot H (fun y => tot W (fun x => f (y * W + x))) := by
  induction H with
  | zero => simp [tot]
  | succ H ih => rw [Nat.mul_add, Nat.mul_one, tot_add, tot, ih, Nat.mul_comm H W]
theorem tot_zero (n : Nat) : tot n (fun _ => 0) = 0 := by
  induction n with
  | zero => rfl
  | succ n ih => rw [tot, ih]; rfl
theorem tot_swap (W H : Nat) (f : Nat → Nat → Int) : tot H (fun y => tot W (fun x => f y x)) = tot W (fun x => tot H (fun y => f y x)) := by
  induction H with
  | zero => simp [tot, tot_zero]
  | succ H ih => simp only [tot, tot_plus, ih]
theorem tot_first (n : Nat) (f : Nat → Int) : tot (n + 1) f = f 0 + tot n (fun i => f (i + 1)) := by
  rw [Nat.add_comm, tot_add]
  simp only [tot, Nat.add_comm]
  omega
theorem tot_rev (n : Nat) (f : Nat → Int) : tot n (fun i => f (n - 1 - i)) = tot n f := by
  induction n with
  | zero => rfl
  | succ n ih =>
    rw [tot_first, tot]
    rw [tot_congr (g := fun i => f (n - 1 - i)) (fun i hi => by congr 1; omega), ih]
    simp only [Nat.add_sub_cancel, Nat.sub_zero]; omega
theorem tot_flip (W H : Nat) (f : Nat → Int) : tot (W * H) (fun i => f (flipN W i)) = tot (W * H) f := by
  rw [tot_rows, tot_rows W H f]
  refine tot_congr fun y _ => ?_
  rw [tot_congr (g := fun x => (fun z => f (y * W + z)) (W - 1 - x)) (fun x hx => by
    show f (flipN W (y * W + x)) = f (y * W + (W - 1 - x))
    unfold flipN; rw [(divmod_add hx).1, (divmod_add hx).2])]
  exact tot_rev W (fun z => f (y * W + z))
theorem tot_trans (W H : Nat) (f : Nat → Int) : tot (W * H) (fun i => f (transN W H i)) = tot (W * H) f := by
  rw [tot_rows W H f, tot_swap, Nat.mul_comm W H, tot_rows]
  refine tot_congr fun a _ => tot_congr fun b hb => ?_
  unfold transN; rw [(divmod_add hb).1, (divmod_add hb).2]

theorem sumF_pick (F : Nat → Int) (l : List Nat) (f : Nat → Nat) (n : Nat) : sumF F (pickL l f n) = tot n (fun i => F (l.getD (f i) 0)) := by
  have key : ∀ n, sumF F ((List.range n).map fun i => l.getD (f i) 0) = tot n (fun i => F (l.getD (f i) 0)) := by
    intro n
    induction n with
    | zero => rfl
    | succ n ih =>
      have app : ∀ (a : List Nat) b, sumF F (a ++ [b]) = sumF F a + F b := by
        intro a b
        induction a with
        | nil => simp [sumF]
        | cons c a ih2 => simp only [List.cons_append, sumF, ih2]; omega
      rw [List.range_succ, List.map_append, List.map_cons, List.map_nil, app, ih, tot]
  exact key n
theorem sumF_tot (F : Nat → Int) (l : List Nat) : sumF F l = tot l.length (fun i => F (l.getD i 0)) := by
  have h := sumF_pick F l (fun i => i) l.length
  rwa [pickL_id] at h
theorem sumF_flip (F : Nat → Int) (l : List Nat) (W H : Nat) (h : l.length = W * H) : sumF F (pickL l (flipN W) l.length) = sumF F l := by
  rw [sumF_pick, sumF_tot, h]; exact tot_flip W H (fun i => F (l.getD i 0))
theorem sumF_trans (F : Nat → Int) (l : List Nat) (W H : Nat) (h : l.length = W * H) : sumF F (pickL l (transN W H) l.length) = sumF F l := by
  rw [sumF_pick, sumF_tot, h]; exact tot_trans W H (fun i => F (l.getD i 0))
theorem ff_list (l : List Nat) (W H : Nat) (h : l.length = W * H) : pickL (pickL l (flipN W) l.length) (flipN W) l.length = l := by
  rw [pickL_pick _ _ _ _ _ (fun i hi => by rw [h] at hi ⊢; exact flipN_lt hi), pickL_congr (g := fun i => i) (fun i hi => flipN_flipN (by rwa [h] at hi)), pickL_id]
theorem tt_list (l : List Nat) (W H : Nat) (h : l.length = W * H) : pickL (pickL l (transN W H) l.length) (transN H W) l.length = l := by
  rw [pickL_pick _ _ _ _ _ (fun i hi => by rw [h] at hi ⊢; rw [Nat.mul_comm] at hi ⊢; exact transN_lt hi), pickL_congr (g := fun i => i) (fun i hi => transN_transN (by rwa [h] at hi)), pickL_id]
theorem half_list (l : List Nat) (W H : Nat) (h : l.length = W * H) : pickL (pickL (pickL (pickL l (flipN W) l.length) (transN W H) l.length) (flipN H) l.length) (transN H W) l.length = pickL l (fun i => l.length - 1 - i) l.length := by
  have hc : l.length = H * W := by rw [h, Nat.mul_comm]
  have b1 : ∀ i, i < l.length → transN H W i < l.length := fun i hi => by rw [hc] at hi ⊢; exact transN_lt hi
  have b2 : ∀ i, i < l.length → flipN H i < l.length := fun i hi => by rw [hc] at hi ⊢; exact flipN_lt hi
  have b3 : ∀ i, i < l.length → transN W H i < l.length := fun i hi => by rw [h] at hi ⊢; exact transN_lt hi
  rw [pickL_pick _ _ _ _ _ b1, pickL_pick _ _ (fun i => flipN H (transN H W i)) _ _ (fun i hi => b2 _ (b1 i hi)), pickL_pick _ _ (fun i => transN W H (flipN H (transN H W i))) _ _ (fun i hi => b3 _ (b2 _ (b1 i hi)))]
  refine pickL_congr fun i hi => ?_
  rw [h] at hi ⊢
  exact half_turn hi
theorem field_flip (l : List Nat) (W H K d : Nat) (h : l.length = W * H) (hK : 2 * K + d ≤ H + 1) (hd : d ≤ 1) : pickL (pickL l (flipN W) l.length) (fieldN W d) (W * K) = pickL (pickL l (fieldN W d) (W * K)) (flipN W) (W * K) := by
  rw [pickL_pick _ _ _ _ _ (fun i hi => by rw [h]; exact fieldN_lt hi hK hd), pickL_pick _ _ _ _ _ (fun i hi => flipN_lt hi)]
  exact pickL_congr fun i hi => flip_field hi

/-- Woven fields: the samples again. -/
def wovenN (l k : List Nat) (W i : Nat) : Nat := if i / W % 2 = 0 then l.getD (i / W / 2 * W + i % W) 0 else k.getD (i / W / 2 * W + i % W) 0
theorem weave_fields (l : List Nat) (W H K1 K2 : Nat) (h1 : K1 = (H + 1) / 2) (h2 : K2 = H / 2) (i : Nat) (hi : i < W * H) :
    wovenN (pickL l (fieldN W 0) (W * K1)) (pickL l (fieldN W 1) (W * K2)) W i = l.getD i 0 := by
  have hW := pos_w hi
  have hy := div_lt_h hi
  have hx := Nat.mod_lt i hW
  have hd := Nat.div_add_mod' i W
  obtain ⟨z, hz⟩ : ∃ z, i / W / 2 = z := ⟨_, rfl⟩
  unfold wovenN
  rw [hz]
  by_cases hp : i / W % 2 = 0
  · rw [if_pos hp, pickL_get _ _ _ _ (row_lt (show z < K1 by omega) hx)]
    congr 1
    unfold fieldN
    rw [(divmod_add hx).1, (divmod_add hx).2, show 2 * z + 0 = i / W by omega]; exact hd
  · rw [if_neg hp, pickL_get _ _ _ _ (row_lt (show z < K2 by omega) hx)]
    congr 1
    unfold fieldN
    rw [(divmod_add hx).1, (divmod_add hx).2, show 2 * z + 1 = i / W by omega]; exact hd
/-- The last row, as one of the fields has it. -/
theorem last_row (l : List Nat) (W H K d : Nat) (hH : 2 ≤ H) (hd : d = (H - 1) % 2) (hK : K = if d = 0 then (H + 1) / 2 else H / 2) (j : Nat) (hj : j < W) :
    (pickL l (fieldN W d) (W * K)).getD (W * K - W + j) 0 = l.getD ((H - 1) * W + j) 0 := by
  have hK1 : 1 ≤ K := by rw [hK]; split <;> omega
  have e1 : W * K = (K - 1) * W + W := by
    obtain ⟨q, rfl⟩ : ∃ q, K = q + 1 := ⟨K - 1, by omega⟩
    rw [Nat.add_sub_cancel, Nat.mul_add, Nat.mul_one, Nat.mul_comm]
  rw [e1, Nat.add_sub_cancel, pickL_get _ _ _ _ (by omega)]
  congr 1
  unfold fieldN
  rw [(divmod_add hj).1, (divmod_add hj).2]
  congr 2
  rw [hK]; split <;> omega

end Go.Proofs.YtnbpcfakkphmcaaGreatDoor
namespace Go.Proofs.YtnbpcfakkphmcaaGreatDoor
open Go.RowKit
set_option linter.unusedVariables false
set_option maxRecDepth 100000
theorem firstF_none {f : Nat → Int} {l : List Nat} (h : ∀ b ∈ l, f b = 0) : firstF f l = 0 := by
  induction l with
  | nil => rfl
  | cons a l ih => rw [firstF, if_pos (h a (List.mem_cons_self ..))]; exact ih fun b hb => h b (List.mem_cons_of_mem _ hb)
theorem outs_none {n a b : Int} (h1 : a ≤ n) (h2 : n ≤ b) : outs n a b = 0 := by
  unfold outs errIf
  rw [if_neg (by simp; omega)]
theorem ok_err {p : Pic} (h : p.Ok) : p.err = 0 := by
  unfold Pic.err
  have h1 : errIf (!nameOk p.name) 8 = 0 := by rw [h.name]; rfl
  have h2 := outs_none h.w1 h.w2
  have h3 := outs_none h.h1 h.h2
  have h4 : errIf ((p.l.length : Int) != IntKind.i64.wrap (p.w * p.h)) 2 = 0 := by
    rw [← h.len, IntWalk.i64_in _ (by have := h.big; omega)]; simp [errIf]
  rw [h1, h2, h3, h4, firstF_none h.ok]
  rfl
/-- A valid picture, by its numbers. -/
theorem ok_mk {nm : ByteArray} {W H : Nat} {l : List Nat} (hn : nameOk nm = true) (hW : 1 ≤ W ∧ W ≤ 64) (hH : 1 ≤ H ∧ H ≤ 64) (hl : l.length = W * H) (hc : ∀ b ∈ l, chk 1024 b = 0) : (Pic.mk nm W H l).Ok :=
  ⟨hn, by simp; omega, by simp; omega, by simp; omega, by simp; omega, by simp [hl], by simp only []; rw [hl]; exact Nat.le_trans (Nat.mul_le_mul hW.2 hH.2) (by decide), hc⟩
theorem pick_chk {l : List Nat} (h : ∀ b ∈ l, chk 1024 b = 0) (f : Nat → Nat) (n : Nat) : ∀ b ∈ pickL l f n, chk 1024 b = 0 :=
  fun b hb => by obtain ⟨i, _, rfl⟩ := List.mem_map.1 hb; exact chk_getD h _
theorem ok_pick {nm : ByteArray} {W H : Nat} {l : List Nat} (h : (Pic.mk nm W H l).Ok) {V K : Nat} (hV : 1 ≤ V ∧ V ≤ 64) (hK : 1 ≤ K ∧ K ≤ 64) {m : Nat} (hm : m = V * K) (f : Nat → Nat) : (Pic.mk nm V K (pickL l f m)).Ok :=
  ok_mk h.name hV hK (by rw [pickL_len, hm]) (pick_chk h.ok f m)
def OwnOk (nm : ByteArray) (W H n : Nat) (l : List Nat) (w : World) (e : Ending) (w' : World) : Prop := ∃ g c', e = .returned (.agg #[.string nm, .int .i64 (W : Int), .int .i64 (H : Int), .slice (some ⟨g, 0, none⟩) n c']) ∧ n ≤ c' ∧ Rd w' (some ⟨g, 0, none⟩) (fl l) ∧ Below w.heap.size w w'
/-- Both fields, by the code. -/
def FieldsC (nm : ByteArray) (W K1 K2 m1 m2 : Nat) (L1 L2 : List Nat) (w : World) (e : Ending) (w' : World) : Prop := ∃ ga gb, e = .returned (.tuple #[.agg #[.string nm, .int .i64 (W : Int), .int .i64 (K1 : Int), .slice (some ⟨ga, 0, none⟩) m1 m1, .string nm, .int .i64 (W : Int), .int .i64 (K2 : Int), .slice (some ⟨gb, 0, none⟩) m2 m2], .int .i64 0]) ∧ Rd w' (some ⟨ga, 0, none⟩) (fl L1) ∧ Rd w' (some ⟨gb, 0, none⟩) (fl L2) ∧ Below w.heap.size w w'
section
variable {nm : ByteArray} {W H : Nat} {l : List Nat} (hp : (Pic.mk nm W H l).Ok) {n : Nat} (hn : l.length = n) (A : Option Addr) (c : Nat) (w : World)
include hp hn
theorem own_v (hr : Rd w A (fl l)) : Calls Tryz.prog 30 #[.agg #[.string nm, .int .i64 (W : Int), .int .i64 (H : Int), .slice A n c]] w (OwnOk nm W H n l w) := by
  subst hn
  have hpos : 0 < (fl l).length := by have h := ok_sizes hp; have := prod_pos h.1.1 h.2.1.1; simp [fl]; omega
  obtain ⟨ad, rfl, _, _⟩ := hr.some_ hpos
  exact own_any (Pic.mk nm W H l) (some ad) c w hp.big (fun h => by cases h) hr
theorem flip_v (L : List Nat) (hL : pickL l (flipN W) n = L) (hcap : n ≤ c) (hr : Rd w A (fl l)) : Calls Tryz.prog 46 #[.agg #[.string nm, .int .i64 (W : Int), .int .i64 (H : Int), .slice A n c]] w (PickOk nm W H n L w) := by
  subst hn; subst hL
  exact flip_code nm W H l hp (ok_err hp) A c w hcap hr
theorem trans_v (L : List Nat) (hL : pickL l (transN W H) n = L) (hcap : n ≤ c) (hr : Rd w A (fl l)) : Calls Tryz.prog 47 #[.agg #[.string nm, .int .i64 (W : Int), .int .i64 (H : Int), .slice A n c]] w (PickOk nm H W n L w) := by
  subst hn; subst hL
  exact trans_code nm W H l hp (ok_err hp) A c w hcap hr
theorem fields_v (h2 : 2 ≤ H) (K1 K2 m1 m2 : Nat) (L1 L2 : List Nat) (hK : (H + 1) / 2 = K1 ∧ H / 2 = K2) (hm : W * K1 = m1 ∧ W * K2 = m2) (hL1 : pickL l (fieldN W 0) m1 = L1) (hL2 : pickL l (fieldN W 1) m2 = L2) (hcap : n ≤ c) (hr : Rd w A (fl l)) : Calls Tryz.prog 48 #[.agg #[.string nm, .int .i64 (W : Int), .int .i64 (H : Int), .slice A n c]] w (FieldsC nm W K1 K2 m1 m2 L1 L2 w) := by
  subst hn; subst hL1; subst hL2
  obtain ⟨rfl, rfl⟩ := hm
  exact (fields_ok nm W H K1 K2 l hp (ok_err hp) h2 hK.1 hK.2 A c w (ok_sizes hp).2.2.2.1 hcap hr).mono fun e w' ⟨ga, gb, h1, _, h3, h4, h5⟩ => ⟨ga, gb, h1, rd_pick h3 (fun i => rfl), rd_pick h4 (fun i => rfl), h5⟩
theorem energy_v (E : Int) (hE : sumF (fun b => lvl b * lvl b) l = E) (hr : Rd w A (fl l)) : Calls Tryz.prog 54 #[.agg #[.string nm, .int .i64 (W : Int), .int .i64 (H : Int), .slice A n c]] w fun e w' => e = .returned (.tuple #[.int .i64 E, .int .i64 0]) ∧ Below w.heap.size w w' := by
  subst hn; subst hE
  exact energy_ok (Pic.mk nm W H l) hp (ok_err hp) A c w (ok_sizes hp).2.2.2.1 (ok_sizes hp).2.2.2.2 hr
theorem mean_v (S : Int) (hS : sumF lvl l = S) (hr : Rd w A (fl l)) : Calls Tryz.prog 56 #[.agg #[.string nm, .int .i64 (W : Int), .int .i64 (H : Int), .slice A n c]] w fun e w' => e = .returned (.tuple #[.agg #[.int .i64 (S / (Int.gcd S (16 * n) : Nat)), .int .i64 (16 * n / (Int.gcd S (16 * n) : Nat))], .int .i64 0]) ∧ Below w.heap.size w w' := by
  subst hn; subst hS
  exact mean_ok (Pic.mk nm W H l) hp (ok_err hp) A c w (ok_sizes hp).2.2.2.1 (ok_sizes hp).2.2.2.2 hr
theorem crop_v (cf m rf k r : Nat) (L : List Nat) (h1 : 1 ≤ m ∧ cf + m ≤ W) (h2 : 1 ≤ k ∧ rf + k ≤ H) (hr1 : m * k = r) (hL : pickL l (fun i => (rf + i / m) * W + (cf + i % m)) r = L) (hcap : n ≤ c) (hr : Rd w A (fl l)) :
    Calls Tryz.prog 31 #[.agg #[.string nm, .int .i64 (W : Int), .int .i64 (H : Int), .slice A n c], .agg #[.int .i64 (cf : Int), .int .i64 ((cf : Int) + (m : Int))], .agg #[.int .i64 (rf : Int), .int .i64 ((rf : Int) + (k : Int))]] w (PickOk nm m k r L w) := by
  subst hn; subst hL; subst hr1
  exact (cropped_ok nm W H l hp (ok_err hp) cf m rf k h1 h2 A c w (ok_sizes hp).2.2.2.1 (ok_sizes hp).2.2.2.2 hcap hr).mono fun e w' ⟨g, a1, a2, a3⟩ => ⟨g, a1, rd_pick a2 (fun i => rfl), a3⟩
theorem last_v (LL : List Nat) (hL : pickL l (fun i => (H - 1) * W + i) W = LL) (hcap : n ≤ c) (hr : Rd w A (fl l)) :
    Calls Tryz.prog 31 #[.agg #[.string nm, .int .i64 (W : Int), .int .i64 (H : Int), .slice A n c], .agg #[.int .i64 0, .int .i64 (W : Int)], .agg #[.int .i64 ((H : Int) - 1), .int .i64 (H : Int)]] w (PickOk nm W 1 W LL w) := by
  obtain ⟨hW, hH, _⟩ := ok_sizes hp
  have h := crop_v hp hn A c w 0 W (H - 1) 1 W LL ⟨hW.1, by omega⟩ ⟨by omega, by omega⟩ (by omega) (by
    rw [← hL]
    refine pickL_congr fun i hi => ?_
    show (H - 1 + i / W) * W + (0 + i % W) = (H - 1) * W + i
    rw [Nat.div_eq_of_lt hi, Nat.mod_eq_of_lt hi, Nat.add_zero, Nat.zero_add]) hcap hr
  rw [show ((H - 1 : Nat) : Int) + ((1 : Nat) : Int) = (H : Int) by omega, show ((H - 1 : Nat) : Int) = (H : Int) - 1 by omega, show ((0 : Nat) : Int) + (W : Int) = (W : Int) by omega] at h
  exact h
end
theorem woven_val (l k : List Nat) (W i : Nat) : wovenF l k W i = .float .f32 (wovenN l k W i) := by
  unfold wovenF wovenN
  split <;> rfl
theorem woven_v {nm nm2 : ByteArray} {W H1 H2 M : Nat} {l k : List Nat} (hp : (Pic.mk nm W H1 l).Ok) (hp2 : (Pic.mk nm2 W H2 k).Ok) {n1 n2 n : Nat} (hn1 : l.length = n1) (hn2 : k.length = n2) (hM : H1 + H2 = M) (hor : H1 = H2 ∨ H1 = H2 + 1) (hM64 : M ≤ 64) (hn : W * M = n) (L : List Nat) (hl : L.length = n) (hL : ∀ i, i < n → wovenN l k W i = L.getD i 0) (A A2 : Option Addr) (c c2 : Nat) (w : World) (hcap : n1 ≤ c) (hcap2 : n2 ≤ c2) (hr : Rd w A (fl l)) (hr2 : Rd w A2 (fl k)) :
    Calls Tryz.prog 42 #[.agg #[.string nm, .int .i64 (W : Int), .int .i64 (H1 : Int), .slice A n1 c], .agg #[.string nm2, .int .i64 (W : Int), .int .i64 (H2 : Int), .slice A2 n2 c2]] w (PickOk nm W M n L w) := by
  subst hn1; subst hn2; subst hn
  refine (woven_ok nm nm2 W H1 H2 M hM l k hp (ok_err hp) hp2 (ok_err hp2) hor hM64 A A2 c c2 w (ok_sizes hp).2.2.2.1 (ok_sizes hp2).2.2.2.1 hcap hcap2 hr hr2).mono fun e w' ⟨g, a1, a2, a3⟩ => ⟨g, a1, ?_, a3⟩
  exact rd_mask a2 (fun _ _ => rfl) (by simp [fl, hl]) fun i hi => by rw [fl_get (by rw [hl]; exact hi), woven_val, hL i hi]
theorem valid_any (p : Pic) (A : Option Addr) (c : Nat) (w : World) (hr : Rd w A (fl p.l)) : Calls Tryz.prog 86 #[p.val A c] w (BoolEnd (shortB p && (p.err == 0)) w) := by
  have HS0 := Lib.hid (fun w => shortR_any p A c w)
  have HR := Lib.hid hr; clear hr
  by_cases hsh : shortB p = true
  · obtain ⟨hs0, hl0⟩ := short_facts hsh
    have HCK := Lib.hid (fun w hr => checkPictureR_any p A c w (Nat.le_trans hs0 (by decide)) (Nat.le_trans hl0 (by decide)) hr)
    rw [hsh] at HS0 ⊢
    obtain ⟨z, hz⟩ : ∃ z, p.err = z := ⟨_, rfl⟩
    rw [hz] at HCK ⊢
    unfold Pic.val at HCK HS0 ⊢
    have HB := Lib.hid (Below.refl w.heap.size w)
    clear hs0 hl0 hsh hz
    go_enter Tryz.func86, Tryz.ntmps86
    go_upto_region 1 with fail
    have hn := Blk.new w 43 #[.string p.name, .int .i64 p.w, .int .i64 p.h, .slice A p.l.length c]
    have hb := (Below.refl w.heap.size w).alloc (Nat.le_refl _) (.cells #[.string p.name, .int .i64 p.w, .int .i64 p.h, .slice A p.l.length c] 43)
    generalize w.alloc (.cells #[.string p.name, .int .i64 p.w, .int .i64 p.h, .slice A p.l.length c] 43) = w0 at hn hb ⊢
    obtain ⟨c0, c1, c2, c3⟩ := box4 hn
    replace HB := Lib.hid hb
    have HX := Lib.hid hn; clear hn hb
    go_wp2_with fail
    refine (HS0.out _).mono ?_
    rintro e u1 ⟨rfl, hb1⟩
    replace HX := Lib.hid (HX.out.below hb1); replace HB := Lib.hid (HB.out.trans (hb1.mono HB.out.size)); clear hb1 c0 c1 c2 c3
    obtain ⟨c0, c1, c2, c3⟩ := box4 HX.out
    go_wp2_with fail
    refine (HCK.out _ (HR.out.below HB.out)).mono ?_
    rintro e u2 ⟨rfl, hb1⟩
    replace HB := Lib.hid (HB.out.trans (hb1.mono HB.out.size)); clear hb1
    go_wp2
    go_ret
    exact ⟨by simp, HB.out⟩
  · have hsf : shortB p = false := by simpa using hsh
    rw [hsf] at HS0 ⊢
    unfold Pic.val at HS0 ⊢
    have HB := Lib.hid (Below.refl w.heap.size w)
    clear hsf hsh
    go_enter Tryz.func86, Tryz.ntmps86
    go_upto_region 1 with fail
    have hn := Blk.new w 43 #[.string p.name, .int .i64 p.w, .int .i64 p.h, .slice A p.l.length c]
    have hb := (Below.refl w.heap.size w).alloc (Nat.le_refl _) (.cells #[.string p.name, .int .i64 p.w, .int .i64 p.h, .slice A p.l.length c] 43)
    generalize w.alloc (.cells #[.string p.name, .int .i64 p.w, .int .i64 p.h, .slice A p.l.length c] 43) = w0 at hn hb ⊢
    obtain ⟨c0, c1, c2, c3⟩ := box4 hn
    replace HB := Lib.hid hb
    clear hn hb
    go_wp2_with fail
    refine (HS0.out _).mono ?_
    rintro e u1 ⟨rfl, hb1⟩
    replace HB := Lib.hid (HB.out.trans (hb1.mono HB.out.size)); clear hb1 c0 c1 c2 c3
    go_wp2
    go_ret
    exact ⟨by simp, HB.out⟩
theorem ratio_fields : (Tryz.prog.fieldsOf 33).toList = [{ name := "Num", type := 3, offset := 0, embedded := false, tag := "", pkgPath := "", byteOffset := 0 }, { name := "Den", type := 3, offset := 1, embedded := false, tag := "", pkgPath := "", byteOffset := 8 }] := by kernel_rfl
theorem eq_ratio_any (a b : Int) (w : World) : (Op.equalIn 10000 33 (.agg #[.int .i64 a, .int .i64 b]) (.agg #[.int .i64 a, .int .i64 b])).run Tryz.prog w = .ok true w := by
  have h3 := Tryz.isAgg3
  rw [show (10000 : Nat) = 9999 + 1 from rfl, run_equalIn_struct w 9999 33 _ _ (by kernel_rfl) (by kernel_rfl), ratio_fields]
  simp [Op.eqFields, Sem.run_bind, Sem.run_ite, part, h3, run_equalIn_int w 9998 3 .i64 .i64 _ _ Tryz.underlying3, Result.andThen_ok]

end Go.Proofs.YtnbpcfakkphmcaaGreatDoor
namespace Go.Proofs.YtnbpcfakkphmcaaGreatDoor
open Go.RowKit
set_option linter.unusedVariables false
set_option maxRecDepth 100000
theorem first_z (A : Option Addr) (c n : Nat) (es : List Int) (w : World) (hn : es.length = n) (hl : n ≤ maxLen) (hr : Rd w A (es.map (.int .i64))) (z : Int) (hz : firstE es = z) :
    Calls Tryz.prog 97 #[.slice A n c] w fun e' w' => e' = .returned (.int .i64 z) ∧ w = w' := by
  rw [← hz]; exact first_n A c n es w hn hl hr
def atErr (p : Pic) (x y : Int) : Int := firstE [p.err, errIf (decide (x < 0) || decide (p.w ≤ x)) 10, errIf (decide (y < 0) || decide (p.h ≤ y)) 10]
theorem at_err (p : Pic) (x y : Int) (A : Option Addr) (c : Nat) (w : World) (hs : p.name.size ≤ maxLen) (hl : p.l.length ≤ maxLen) (hr : Rd w A (fl p.l)) (z : Int) (he : atErr p x y = z) (hz : z ≠ 0) :
    Calls Tryz.prog 29 #[p.val A c, .int .i64 x, .int .i64 y] w fun e w' => e = .returned (.tuple #[.float .f32 0, .int .i64 z]) ∧ Below w.heap.size w w' := by
  have hcp := fun w hr => checkPicture_any p A c w hs hl hr
  unfold atErr at he
  have HE := Lib.hid he
  clear he
  unfold Pic.val at hcp ⊢
  obtain ⟨n, hn⟩ : ∃ n, p.l.length = n := ⟨_, rfl⟩
  rw [hn] at hcp ⊢
  clear hn hl
  have HCP := Lib.hid hcp; have HR := Lib.hid hr
  have hz' : (z != 0) = true := by simpa using hz
  clear hcp hr
  go_enter Tryz.func29, Tryz.ntmps29
  go_wp2_with fail
  have hx0 := Blk.new w 50 #[.string p.name, .int .i64 p.w, .int .i64 p.h, .slice A n c]
  have hb0 := (Below.refl w.heap.size w).alloc (Nat.le_refl _) (.cells #[.string p.name, .int .i64 p.w, .int .i64 p.h, .slice A n c] 50)
  generalize w.alloc (.cells #[.string p.name, .int .i64 p.w, .int .i64 p.h, .slice A n c] 50) = w0 at hx0 hb0 ⊢
  have HX := Lib.hid hx0
  have HB := Lib.hid hb0
  clear hx0 hb0
  refine (HCP.out _ (by exact HR.out.below HB.out)).mono ?_
  rintro e w1 ⟨rfl, hb1⟩
  replace HX := Lib.hid (HX.out.below hb1)
  replace HB := Lib.hid (HB.out.trans (hb1.mono HB.out.size))
  obtain ⟨c0, c1, c2, c3⟩ := box4 HX.out
  clear hb1
  by_cases hx0 : x < 0 <;> by_cases hy0 : y < 0
  all_goals
    go_wp2_with fail
    refine (errorIf_any _ _ _).mono ?_
    rintro e wn ⟨rfl, rfl⟩
    go_wp2_with fail
    refine (errorIf_any _ _ _).mono ?_
    rintro e wn ⟨rfl, rfl⟩
    go_wp2_with fail
    refine (first_z _ _ _ [_, _, _] _ rfl (by simp [maxLen]) (by exact rd_of_blk (Blk.new _ _ _) rfl) z (by first | exact HE.out | simpa [hx0, hy0] using HE.out)).mono ?_
    rintro e wn ⟨rfl, rfl⟩
    clear c0 c1 c2 c3
    go_wp2
    exact bodyPost_ret (v := .tuple #[.float .f32 0, .int .i64 z]) (by simp [results, Tryz.results29, go_sem]) rfl ⟨rfl, HB.out.alloc HB.out.size _⟩
def cropErr (p : Pic) (a b a' b' : Int) : Int := firstE [p.err, errIf (decide (a < 0) || decide (b ≤ a) || decide (p.w < b)) 14, errIf (decide (a' < 0) || decide (b' ≤ a') || decide (p.h < b')) 14]
theorem box2 {w : World} {g : Nat} {t : TypeId} {a b : Value} (h : Blk w g t #[a, b]) : w.cell? ⟨g, 0, none⟩ = some a ∧ w.cell? ⟨g, 1, none⟩ = some b := ⟨h.cell 0, h.cell 1⟩
set_option maxHeartbeats 1000000 in
theorem cropped_err (p : Pic) (a b a' b' : Int) (A : Option Addr) (c : Nat) (w : World) (hs : p.name.size ≤ maxLen) (hl : p.l.length ≤ maxLen) (hr : Rd w A (fl p.l)) (z : Int) (he : cropErr p a b a' b' = z) (hz : z ≠ 0) :
    Calls Tryz.prog 31 #[p.val A c, .agg #[.int .i64 a, .int .i64 b], .agg #[.int .i64 a', .int .i64 b']] w fun e w' => e = .returned (.tuple #[.agg #[.string ⟨#[]⟩, .int .i64 0, .int .i64 0, .slice none 0 0], .int .i64 z]) ∧ Below w.heap.size w w' := by
  have hcp := fun w hr => checkPicture_any p A c w hs hl hr
  unfold cropErr at he
  have HE := Lib.hid he
  clear he
  unfold Pic.val at hcp ⊢
  obtain ⟨n, hn⟩ : ∃ n, p.l.length = n := ⟨_, rfl⟩
  rw [hn] at hcp ⊢
  clear hn hl
  have HCP := Lib.hid hcp; have HR := Lib.hid hr
  have hz' : (z != 0) = true := by simpa using hz
  clear hcp hr
  go_enter Tryz.func31, Tryz.ntmps31
  go_wp2_with fail
  have hx0 := (((Blk.new w 50 #[.string p.name, .int .i64 p.w, .int .i64 p.h, .slice A n c]).alloc (.cells #[.int .i64 a, .int .i64 b] 47)).alloc (.cells #[.int .i64 a', .int .i64 b'] 47)).alloc (.cells #[.string ⟨#[]⟩, .int .i64 0, .int .i64 0, .slice none 0 0] 50)
  have hx1 := ((Blk.new (w.alloc (.cells #[.string p.name, .int .i64 p.w, .int .i64 p.h, .slice A n c] 50)) 47 #[.int .i64 a, .int .i64 b]).alloc (.cells #[.int .i64 a', .int .i64 b'] 47)).alloc (.cells #[.string ⟨#[]⟩, .int .i64 0, .int .i64 0, .slice none 0 0] 50)
  have hx2 := (Blk.new ((w.alloc (.cells #[.string p.name, .int .i64 p.w, .int .i64 p.h, .slice A n c] 50)).alloc (.cells #[.int .i64 a, .int .i64 b] 47)) 47 #[.int .i64 a', .int .i64 b']).alloc (.cells #[.string ⟨#[]⟩, .int .i64 0, .int .i64 0, .slice none 0 0] 50)
  have hx3 := Blk.new (((w.alloc (.cells #[.string p.name, .int .i64 p.w, .int .i64 p.h, .slice A n c] 50)).alloc (.cells #[.int .i64 a, .int .i64 b] 47)).alloc (.cells #[.int .i64 a', .int .i64 b'] 47)) 50 #[.string ⟨#[]⟩, .int .i64 0, .int .i64 0, .slice none 0 0]
  simp only [World.size_alloc] at hx1 hx2 hx3
  have hb0 := ((((Below.refl w.heap.size w).alloc (Nat.le_refl _) (.cells #[.string p.name, .int .i64 p.w, .int .i64 p.h, .slice A n c] 50)).alloc (by simp only [World.size_alloc]; omega) (.cells #[.int .i64 a, .int .i64 b] 47)).alloc (by simp only [World.size_alloc]; omega) (.cells #[.int .i64 a', .int .i64 b'] 47)).alloc (by simp only [World.size_alloc]; omega) (.cells #[.string ⟨#[]⟩, .int .i64 0, .int .i64 0, .slice none 0 0] 50)
  generalize ((((w.alloc (.cells #[.string p.name, .int .i64 p.w, .int .i64 p.h, .slice A n c] 50)).alloc (.cells #[.int .i64 a, .int .i64 b] 47)).alloc (.cells #[.int .i64 a', .int .i64 b'] 47)).alloc (.cells #[.string ⟨#[]⟩, .int .i64 0, .int .i64 0, .slice none 0 0] 50)) = w0 at hx0 hx1 hx2 hx3 hb0 ⊢
  obtain ⟨c0, c1, c2, c3⟩ := box4 hx0
  obtain ⟨s0, s1⟩ := box2 hx1
  obtain ⟨t0, t1⟩ := box2 hx2
  have z0 := hx0.lt; have z1 := hx1.lt; have z2 := hx2.lt; have z3 := hx3.lt
  have HY := Lib.hid hx3; have HB := Lib.hid hb0; clear hx0 hx1 hx2 hx3 hb0
  go_region_held3 (SK w0)
    (first | exact sk_drew0 _ | exact sk_drew (by assumption) | assumption | exact sk_call (by assumption) (by assumption) | exact sk_alloc (by assumption) _)
    (first
      | (go_at_call 37; refine (HCP.out _ (HR.out.below (HB.out.trans ((And.left (by assumption : SK w0 _)).mono HB.out.size)))).mono ?_; rintro e wn ⟨rfl, hbn⟩; have hch := sk_call (w0 := w0) (by assumption) hbn)
      | (go_at_call 111; refine (spanError_any _ _ _ _).mono ?_; rintro e wn ⟨rfl, hbn⟩; have hch := sk_call (w0 := w0) (by assumption) hbn)
      | (go_at_call 97; refine (first_n _ _ _ [_, _, _] _ rfl (by simp [maxLen]) (by exact rd_of_blk (Blk.new _ _ _) rfl)).mono ?_; rintro e wn ⟨rfl, rfl⟩))
  rw [HE.out]
  have hch2 := sk_alloc hch (.cells #[.int .i64 p.err, .int .i64 (errIf (decide (a < 0) || decide (b ≤ a) || decide (p.w < b)) 14), .int .i64 (errIf (decide (a' < 0) || decide (b' ≤ a') || decide (p.h < b')) 14)] 26)
  generalize wn.alloc (.cells #[.int .i64 p.err, .int .i64 (errIf (decide (a < 0) || decide (b ≤ a) || decide (p.w < b)) 14), .int .i64 (errIf (decide (a' < 0) || decide (b' ≤ a') || decide (p.h < b')) 14)] 26) = w2 at hch2 ⊢
  have hy := HY.out.below hch2.1
  have HB1 := Lib.hid (HB.out.trans (hch2.1.mono HB.out.size))
  clear c0 c1 c2 c3 s0 s1 t0 t1 HY HB HCP HR hch2 hch hbn z0 z1 z2 z3 HE
  have z1 := hy.lt
  have f0 := hy.frozen 0; have f1 := hy.frozen 1; have f2 := hy.frozen 2; have f3 := hy.frozen 3
  obtain ⟨d0, d1, d2, d3⟩ := box4 hy
  have hyy := Lib.hid (show Blk ((((w2.setCell ⟨w.heap.size + 1 + 1 + 1, 0, none⟩ (.string ⟨#[]⟩)).setCell ⟨w.heap.size + 1 + 1 + 1, 1, none⟩ (.int .i64 0)).setCell ⟨w.heap.size + 1 + 1 + 1, 2, none⟩ (.int .i64 0)).setCell ⟨w.heap.size + 1 + 1 + 1, 3, none⟩ (.slice none 0 0)) (w.heap.size + 1 + 1 + 1) 50 #[.string ⟨#[]⟩, .int .i64 0, .int .i64 0, .slice none 0 0] from (((hy.set_ 0 _).set_ 1 _).set_ 2 _).set_ 3 _)
  clear hy
  go_wp2
  obtain ⟨r0, r1, r2, r3⟩ := box4 hyy.out
  exact bodyPost_ret (v := .tuple #[.agg #[.string ⟨#[]⟩, .int .i64 0, .int .i64 0, .slice none 0 0], .int .i64 z]) (by simp [results, Tryz.results31, go_sem, r0, r1, r2, r3]) rfl ⟨rfl, below_set4 HB1.out (by omega) _ _ _ _⟩
end Go.Proofs.YtnbpcfakkphmcaaGreatDoor
