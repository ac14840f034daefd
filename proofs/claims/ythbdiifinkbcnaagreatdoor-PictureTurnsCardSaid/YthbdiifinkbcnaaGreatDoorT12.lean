/- Parts of a proof: The text of a picture. The document's examples, as the law's 'awake' computes them. The reference's first error, permutation, ratio and sample. -/
import Derived.Test.YthbdiifinkbcnaaGreatDoorT3
import Derived.Test.YthbdiifinkbcnaaGreatDoorT11
import Derived.Test.YthbdiifinkbcnaaGreatDoorT10
import Derived.StillTailTactics
import Derived.Lib.ItoaLen
import Derived.Maps.OwnIn
import Derived.Test.YthbdiifinkbcnaaGreatDoorT4
import Derived.Test.YthbdiifinkbcnaaGreatDoorT5
import Derived.Test.YthbdiifinkbcnaaGreatDoorT6
import Derived.Test.YthbdiifinkbcnaaGreatDoorT7
import Derived.Test.YthbdiifinkbcnaaGreatDoorT8
import Derived.Test.YthbdiifinkbcnaaGreatDoorT9
namespace Go.Proofs.YthbdiifinkbcnaaGreatDoor
open Go.RowKit
set_option linter.unusedVariables false
open Go.Shelf
attribute [local go_sem] Oper.semAt_some
def itoaB (n : Int) : ByteArray := ⟨(Lib.itoa n).toArray⟩
def wordsOf (l : List Nat) : List ByteArray := l.map (fun b => itoaB (lvl b))
def headWords (p : Pic) : List ByteArray := [⟨#[112, 105, 99, 116, 117, 114, 101]⟩, p.name, itoaB p.w, itoaB p.h]
def rowWords (l : List Nat) (k j : Nat) : List ByteArray := ⟨#[114, 111, 119]⟩ :: ((wordsOf l).drop (j * k)).take k
def printF (p : Pic) (k : Nat) (rows : List Nat) : List UInt8 := lineOf (headWords p) ++ rows.flatMap (fun j => lineOf (rowWords p.l k j))
theorem printF_snoc (p : Pic) (k : Nat) (rows : List Nat) (j : Nat) : printF p k (rows ++ [j]) = printF p k rows ++ lineOf (rowWords p.l k j) := by
  unfold printF; rw [List.flatMap_append, List.append_assoc]; simp
theorem lens_le (xs : List ByteArray) (h : ∀ x ∈ xs, x.size ≤ 24) : Lib.lens (xs.map fun x => x.data.toList) ≤ 24 * xs.length := by
  induction xs with
  | nil => simp [Lib.lens]
  | cons a l ih =>
    have h1 := ih fun x hx => h x (by simp [hx])
    have h2 := h a (by simp)
    have h3 : a.data.toList.length = a.size := Array.length_toList
    simp only [Lib.lens, List.map_cons, List.sum_cons, List.length_cons, List.map_map] at h1 ⊢
    omega
theorem lineOf_len (xs : List ByteArray) (h : ∀ x ∈ xs, x.size ≤ 24) : (lineOf xs).length ≤ 25 * xs.length + 1 := by
  unfold lineOf
  have hl := lens_le xs h
  cases xs with
  | nil => simp [Lib.join, List.intercalate]
  | cons a l =>
    simp only [List.map_cons, List.length_append, List.length_cons, List.length_nil] at hl ⊢
    rw [Lib.join_length]
    simp only [List.length_cons, List.length_nil, List.length_map]
    omega
theorem itoaB_size (n : Int) (h0 : -16384 ≤ n) (h1 : n ≤ 16384) : (itoaB n).size ≤ 24 := by
  have := Lib.itoa_length_le n (by omega) (by omega)
  simp [itoaB, ByteArray.size]; omega
theorem rowWords_len (l : List Nat) (k j : Nat) : (rowWords l k j).length ≤ k + 1 := by
  unfold rowWords; simp; omega
theorem rowWords_size (l : List Nat) (hl : ∀ b ∈ l, -16384 ≤ lvl b ∧ lvl b ≤ 16384) (k j : Nat) : ∀ x ∈ rowWords l k j, x.size ≤ 24 := by
  intro x hx
  unfold rowWords at hx
  rcases List.mem_cons.1 hx with rfl | hx
  · decide
  · have h2 := List.mem_of_mem_drop (List.mem_of_mem_take hx)
    unfold wordsOf at h2
    obtain ⟨b, hb, rfl⟩ := List.mem_map.1 h2
    exact itoaB_size _ (hl b hb).1 (hl b hb).2
theorem printF_len (p : Pic) (hw : ∀ x ∈ headWords p, x.size ≤ 24) (hl : ∀ b ∈ p.l, -16384 ≤ lvl b ∧ lvl b ≤ 16384) (k : Nat) (hk : k ≤ 64) (rows : List Nat) : (printF p k rows).length ≤ 101 + rows.length * 1626 := by
  unfold printF
  have h1 := lineOf_len (headWords p) hw
  have h2 : (rows.flatMap (fun j => lineOf (rowWords p.l k j))).length ≤ rows.length * 1626 := by
    induction rows with
    | nil => simp
    | cons a r ih =>
      have h3 := lineOf_len (rowWords p.l k a) (rowWords_size p.l hl k a)
      have h4 := rowWords_len p.l k a
      simp only [List.flatMap_cons, List.length_append, List.length_cons]
      omega
  simp only [headWords, List.length_cons, List.length_nil] at h1
  rw [List.length_append]
  unfold headWords
  omega
theorem itoaS_any (k : Nat) (hk : k < 100) (w : World) : Calls Tryz.prog 134 #[.int .i64 k] w fun e w' => e = .returned (.string (itoaB k)) ∧ w' = w := by
  refine (Any.strconv_Itoa_small sh_laysM171.ton171 k hk w).mono ?_
  rintro e w' ⟨rfl, rfl⟩
  exact ⟨rfl, rfl⟩
theorem Blk.trans' {w w' : World} {g B : Nat} {t : TypeId} {cs : Array Value} (h : Blk w g t cs) (hb : Below B w w') (hg : g < B) : Blk w' g t cs := (hb.block g hg).trans h
theorem others_blk {b : Nat} {W W' : World} (h : Lib.OthersKept 5 (some b) W W') {g : Nat} {t : TypeId} {cs : Array Value} (hb : Blk W g t cs) (hg : g ≠ b) (ht : t ≠ 5) : Blk W' g t cs :=
  h g _ hb (fun e => hg (by cases e; rfl)) (fun c fz e => ht (by cases e; rfl))
theorem others_keeps {b : Nat} {W W' : World} {o : Obj} (h : Lib.OthersKept 5 (some b) W W') (hs : W.heap.size ≤ W'.heap.size) (hb : W.heap[b]? = some o) (ho : o.isCells = true) : KeepsOthers W W' :=
  ⟨hs, fun k o' hk hc => h k o' hk (fun e => by cases e; rw [hb] at hk; cases hk; rw [ho] at hc; cases hc) (fun c fz e => by subst e; cases hc)⟩
theorem builderF_blk {T e : TypeId} {B b : Nat} {bs : List Value} {w : World} (h : Lib.IsBuilderF T e B b bs w) : ∃ cs, Blk w b T cs := by
  rcases h with ⟨_, v, h, _⟩ | ⟨_, v, h, _⟩ <;> exact ⟨_, h⟩
theorem builderF_kept {T e : TypeId} {B b : Nat} {bs : List Value} {w w' : World} {row : Option Nat} (h : Lib.IsBuilderF T e B b bs w) (hg : w.grownBy w' row) (hr : ∀ r, row = some r → ∃ o : Obj, w.heap[r]? = some o ∧ o.isCells = false) : Lib.IsBuilderF T e B b bs w' := by
  have keep : ∀ g cs t fz, w.heap[g]? = some (Obj.cells cs t fz) → w'.heap[g]? = some (Obj.cells cs t fz) := fun g cs t fz hc => by
    refine (hg.block g (Array.getElem?_eq_some_iff.1 hc).1 (fun e' => ?_)).trans hc
    obtain ⟨o, ho, hcs⟩ := hr g e'.symm
    rw [hc] at ho; cases ho; cases hcs
  have key : ∀ p, Lib.BuilderAtF T e B b p bs w → Lib.BuilderAtF T e B b p bs w' := fun p ⟨hB, v, hc, ⟨h1, h2⟩, hne⟩ => by
    refine ⟨hB, v, keep _ _ _ _ hc, ⟨h1, ?_⟩, hne⟩
    rcases h2 with h2 | ⟨g, cap, cur, fz, hv, hgb, hcu, h3⟩
    · exact .inl h2
    · exact .inr ⟨g, cap, cur, fz, hv, hgb, keep _ _ _ _ hcu, h3⟩
  exact h.elim (fun x => .inl (key _ x)) (fun x => .inr (key _ x))
theorem enters_itoa : Enters Tryz.prog 134 := fun a w => by kernel_rfl
set_option maxRecDepth 100000 in
set_option maxHeartbeats 2000000 in
theorem print_in (p : Pic) (hp : p.Ok) (he : p.err = 0) (k h : Nat) (hk : p.w = (k : Int)) (hh : p.h = (h : Int)) (A : Option Addr) (c : Nat) (w : World) (hs : p.name.size ≤ maxLen) (hr : Rd w A (fl p.l))
    (htab : Lib.TabIs Tryz.prog w "internal/strconv.uint64pow10" .u64 Lib.pow10Tab) :
    CallsIn Fence.wide 6 Tryz.prog 76 #[p.val A c] w fun e w' => e = .returned (.tuple #[.string ⟨(printF p k (List.range h)).toArray⟩, .int .i64 0]) ∧ Below w.heap.size w w' := by
  have hl : p.l.length ≤ maxLen := by have := hp.big; unfold maxLen; omega
  have HR := Lib.hid hr; have HP := Lib.hid hp; have HE := Lib.hid he
  clear hr he
  have h1 : 1 ≤ 6 := by omega
  have hro : Fence.wide.round = none := rfl
  have HTAB := Lib.hid (Lib.tabBelow_of_tabIs htab)
  clear htab
  have hcp := fun w hr => checkPicture_any p A c w hs hl hr
  rw [HE.out] at hcp
  have HCP := Lib.hid hcp; clear hcp
  have HL := Lib.hid (fun w hr => levels_any p.l HP.out.big HP.out.ok A c w hr)
  have hk1 : 1 ≤ k := by have := hp.w1; omega
  have hk2 : k ≤ 64 := by have := hp.w2; omega
  have hh1 : 1 ≤ h := by have := hp.h1; omega
  have hh2 : h ≤ 64 := by have := hp.h2; omega
  have hlen : p.l.length = h * k := by have := hp.len; rw [hk, hh, Int.mul_comm] at this; exact_mod_cast this
  have hbig := hp.big
  have HLEN := Lib.hid hlen
  clear hp hlen
  unfold Pic.val at HCP ⊢
  rw [hk, hh] at HCP ⊢
  refine callsIn_of_wp_marks Tryz.func76 rfl trivial ?_ hro
  simp only [Tryz.ntmps76, List.size_toArray, List.length_cons, List.length_nil, Nat.reduceAdd, Nat.reduceSub, Array.replicate_succ, Array.replicate_zero, List.push_toArray, List.append_toArray, List.nil_append, List.cons_append]
  refine wpIn_wide.2 ?_
  go_wp2_with fail
  have hbx := Blk.new w 50 #[.string p.name, .int .i64 k, .int .i64 h, .slice A p.l.length c]
  have hb0 : Below w.heap.size w (w.alloc (.cells #[.string p.name, .int .i64 k, .int .i64 h, .slice A p.l.length c] 50)) := (Below.refl _ _).alloc (Nat.le_refl _) _
  generalize w.alloc (.cells #[.string p.name, .int .i64 k, .int .i64 h, .slice A p.l.length c] 50) = w0 at hbx hb0 ⊢
  have HB0 := Lib.hid hb0; have HX0 := Lib.hid hbx; clear hb0 hbx
  refine (HCP.out _ (by exact HR.out.below HB0.out)).mono ?_
  rintro e w1 ⟨rfl, hb1⟩
  have HX1 := Lib.hid (HX0.out.below hb1)
  have HB1 := Lib.hid (HB0.out.trans (hb1.mono HB0.out.size)); clear hb1
  go_upto_region 5 with fail
  have hbn := builderF_new w1
  have hx2 := HX1.out.alloc (.cells #[.pointer none, .slice none 0 0] 186)
  have hb2 := HB1.out.alloc HB1.out.size (.cells #[.pointer none, .slice none 0 0] 186)
  have hnb : w.heap.size < w1.heap.size := HX1.out.lt
  have hsz : (w1.alloc (.cells #[.pointer none, .slice none 0 0] 186)).heap.size = w1.heap.size + 1 := by simp only [World.size_alloc]
  obtain ⟨b, hbe⟩ : ∃ b, w1.heap.size = b := ⟨_, rfl⟩
  rw [hbe] at hbn hnb hsz ⊢
  clear hbe
  generalize w1.alloc (.cells #[.pointer none, .slice none 0 0] 186) = w2 at hbn hx2 hb2 hsz ⊢
  have HBN := Lib.hid hbn; have HX2 := Lib.hid hx2; have HB2 := Lib.hid hb2; have HSZ := Lib.hid hsz
  obtain ⟨c0, c1, c2, c3⟩ := box4 hx2
  have zx := hx2.lt
  clear hbn hx2 hb2 hsz HX1 HB1
  refine wp_region_still_tail 8 (by kernel_rfl) (by kernel_rfl) ?_
  simp only [List.take_succ_cons, List.take_zero, List.drop_succ_cons, List.drop_zero]
  still_step
  still_step
  still_step
  still_step
  still_call (itoaS_any k (by omega) _)
  still_step
  still_step
  still_call (itoaS_any h (by omega) _)
  refine wpStill_nil ?_
  change wpList _ _ _ _ _ w2.drew
  have HBN3 : RowKit.Hid (Lib.IsBuilderF 186 5 b b [] w2.drew) := Lib.hid HBN.out
  have HX3 : RowKit.Hid (Blk w2.drew w.heap.size 50 #[.string p.name, .int .i64 k, .int .i64 h, .slice A p.l.length c]) := Lib.hid HX2.out
  have HB3 := Lib.hid HB2.out.drew
  have HSZ3 : RowKit.Hid (w2.drew.heap.size = b + 1) := Lib.hid HSZ.out
  clear HBN HX2 HB2 HSZ c0 c1 c2 c3 zx
  generalize w2.drew = w3 at HBN3 HX3 HB3 HSZ3 ⊢
  go_wp2_with fail
  have hbw := Blk.new w3 9 #[.string ⟨#[112, 105, 99, 116, 117, 114, 101]⟩, .string p.name, .string (itoaB k), .string (itoaB h)]
  have HWD : RowKit.Hid (headWords p = [⟨#[112, 105, 99, 116, 117, 114, 101]⟩, p.name, itoaB k, itoaB h]) := Lib.hid (by unfold headWords; rw [hk, hh])
  have hnm : p.name.size ≤ 24 := by
    have h0 := HP.out.name
    unfold nameOk at h0
    simp at h0; omega
  have HWS : RowKit.Hid (∀ x ∈ headWords p, x.size ≤ 24) := Lib.hid (by
    rw [HWD.out]
    intro x hx
    simp only [List.mem_cons, List.not_mem_nil, or_false] at hx
    rcases hx with rfl | rfl | rfl | rfl
    · decide
    · exact hnm
    · exact itoaB_size _ (by omega) (by omega)
    · exact itoaB_size _ (by omega) (by omega))
  have hll := lineOf_len _ HWS.out
  rw [HWD.out] at hll
  simp only [List.length_cons, List.length_nil] at hll
  have hcw : ∀ (j : Nat) (x : ByteArray), [⟨#[112, 105, 99, 116, 117, 114, 101]⟩, p.name, itoaB k, itoaB h][j]? = some x → (w3.alloc (.cells #[.string ⟨#[112, 105, 99, 116, 117, 114, 101]⟩, .string p.name, .string (itoaB k), .string (itoaB h)] 9)).cell? ⟨w3.heap.size, 0 + j, none⟩ = some (.string x) := fun j x hj => by
    rw [Nat.zero_add, hbw.cell j]
    match j, hj with
    | 0, hj => cases hj; rfl
    | 1, hj => cases hj; rfl
    | 2, hj => cases hj; rfl
    | 3, hj => cases hj; rfl
    | (n + 4), hj => simp at hj
  refine (printLine_any b b [] w3.heap.size 0 4 4 [⟨#[112, 105, 99, 116, 117, 114, 101]⟩, p.name, itoaB k, itoaB h] rfl _ (builderF_below HBN3.out ((Below.refl _ _).alloc (Nat.le_refl _) _)) (by rw [World.size_alloc, HSZ3.out]; omega) hcw (by simp) (by simp) (by simp) (by simp only [List.length_nil]; omega)).mono ?_
  rintro e w5 ⟨rfl, hbn5, hb5, ho5⟩
  rw [List.nil_append, ← HWD.out] at hbn5
  have HBN5 := Lib.hid hbn5
  have HX5 := Lib.hid ((HX3.out.alloc (.cells #[.string ⟨#[112, 105, 99, 116, 117, 114, 101]⟩, .string p.name, .string (itoaB k), .string (itoaB h)] 9)).trans' hb5 hnb)
  have HB5 := Lib.hid ((HB3.out.alloc HB3.out.size (.cells #[.string ⟨#[112, 105, 99, 116, 117, 114, 101]⟩, .string p.name, .string (itoaB k), .string (itoaB h)] 9)).trans (hb5.mono (by omega)))
  clear hbn5 hb5 ho5 hcw hll hbw HBN3 HX3 HB3 HSZ3
  obtain ⟨c0, c1, c2, c3⟩ := box4 HX5.out
  go_wp2_with fail
  refine (HL.out _ (by exact HR.out.below HB5.out)).mono ?_
  rintro e w6 ⟨ad, rfl, hrd, hb6⟩
  have HBN6 := Lib.hid (builderF_below HBN5.out hb6)
  have HX6 := Lib.hid (HX5.out.below hb6)
  have HB6 := Lib.hid (HB5.out.trans (hb6.mono HB5.out.size))
  have HRD := Lib.hid hrd
  clear hb6 hrd c0 c1 c2 c3 HBN5 HX5 HB5
  go_wp2_with fail
  have hmap := mapIS_at (some ad) p.l.length (p.l.map lvl) 134 itoaB w6 (by simp; omega) (by rw [List.map_map]; exact HRD.out) enters_itoa (fun x hx wr hbr => by
    obtain ⟨y, hy, rfl⟩ := List.mem_map.1 hx
    have hb := HP.out.lv hy
    exact itoa_any _ (by omega) (by omega) wr (HTAB.out wr (HB6.out.trans (hbr.mono HB6.out.size))))
  rw [List.length_map] at hmap
  refine hmap.mono ?_
  rintro e w7 ⟨rfl, ⟨C, hC, hCs, hCw⟩, hb7⟩
  have HBN7 := Lib.hid (builderF_below HBN6.out hb7)
  have HX7 := Lib.hid (HX6.out.below hb7)
  have HB7 := Lib.hid (HB6.out.trans (hb7.mono HB6.out.size))
  have hbb : b < w6.heap.size := (builderF_blk HBN6.out).elim (fun _ h => h.lt)
  obtain ⟨g, hg⟩ : ∃ g, w6.heap.size = g := ⟨_, rfl⟩
  rw [hg] at hC hbb ⊢
  have HC := Lib.hid hC
  have HCW : RowKit.Hid (∀ (j : Nat) (x : ByteArray), (wordsOf p.l)[j]? = some x → C[j]? = some (.string x)) := Lib.hid (fun j x hj => by
    unfold wordsOf at hj
    obtain ⟨y, hy, rfl⟩ := Option.map_eq_some_iff.1 (List.getElem?_map .. ▸ hj)
    exact hCw j (lvl y) (by rw [List.getElem?_map, hy]; rfl))
  clear hC hCw hb7 hmap hg HRD HBN6 HX6 HB6
  obtain ⟨c0, c1, c2, c3⟩ := box4 HX7.out
  go_wp2_with fail
  refine (callsIn_wide.1 (chunk_in Fence.wide 3 trivial hro _ _ _ k hk1 _)).mono ?_
  rintro e w' ⟨rfl, rfl⟩
  go_wp2
  rw [HLEN.out]
  have hq0 := (Blk.new w7 189 #[.slice (some ⟨g, 0, none⟩) (h * k) (h * k)]).alloc (.cells #[.int .i64 k] 3)
  have hq1 := Blk.new (w7.alloc (.cells #[.slice (some ⟨g, 0, none⟩) (h * k) (h * k)] 189)) 3 #[.int .i64 k]
  simp only [World.size_alloc] at hq1
  have hb70 : Below w7.heap.size w7 ((w7.alloc (.cells #[.slice (some ⟨g, 0, none⟩) (h * k) (h * k)] 189)).alloc (.cells #[.int .i64 k] 3)) := ((Below.refl _ _).alloc (Nat.le_refl _) _).alloc (by simp) _
  have hsz : ((w7.alloc (.cells #[.slice (some ⟨g, 0, none⟩) (h * k) (h * k)] 189)).alloc (.cells #[.int .i64 k] 3)).heap.size = w7.heap.size + 2 := by simp only [World.size_alloc]
  have hbs : b < w7.heap.size := (builderF_blk HBN7.out).elim (fun _ h => h.lt)
  have hgs : g < w7.heap.size := HC.out.lt
  have HBN8 := Lib.hid (builderF_below HBN7.out hb70)
  have HC8 := Lib.hid (HC.out.below hb70)
  have HB8 := Lib.hid (HB7.out.trans (hb70.mono HB7.out.size))
  obtain ⟨q, hq⟩ : ∃ q, w7.heap.size = q := ⟨_, rfl⟩
  rw [hq] at hq0 hq1 hb70 hsz hbs hgs ⊢
  generalize (w7.alloc (.cells #[.slice (some ⟨g, 0, none⟩) (h * k) (h * k)] 189)).alloc (.cells #[.int .i64 k] 3) = W0 at hq0 hq1 hb70 hsz HBN8 HC8 HB8 ⊢
  have HSZ := Lib.hid hsz
  clear hq hsz hb70 c0 c1 c2 c3 HBN7 HC HX7 HB7
  have hbig2 : h * k ≤ 4096 := by rw [← HLEN.out]; exact hbig
  refine (wpIn_wide (n := 6)).1 ?_
  refine wpIn_rangeFunc_ownF hro h1 (gf := 175) (lb := #[.pointer (some ⟨q, 0, none⟩), .pointer (some ⟨q + 1, 0, none⟩)]) rfl trivial (enters_of Tryz.func175 (by kernel_rfl) rfl)
    (chunks_seq Fence.wide 5 trivial hro (by omega) q (q + 1) g k h (h * k) hk1 hk2 hh2 (Nat.le_refl _) (by unfold maxLen; omega) W0 hq0 hq1) keepsTwo_t (fun W l o o' _ hl ho _ => keepsTwo_put W l o o' hl ho) (Below.refl _ _) (fun _ => rfl)
    (fun pre W => (Lib.IsBuilderF 186 5 b b (Lib.byteCells (printF p k (rowV pre))) W ∧ Blk W g 9 C) ∧ Below w.heap.size w W)
    (fun _ _ _ => False)
    (OwnFrom.and (Own.from (fun s A B row hs hg hr => ⟨builderF_kept hs.1 hg hr, blk_kept hs.2 hg hr⟩) _) (ownFrom_below (Nat.le_refl _) (by rw [HSZ.out]; omega)))
    (fun _ _ _ _ _ hs _ _ => hs)
    ⟨⟨by unfold printF rowV; simpa using HBN8.out, HC8.out⟩, HB8.out⟩
    (fun x => { tmps := #[.agg #[.string p.name, .int .i64 k, .int .i64 h, .slice A (h * k) c], .pointer (some ⟨w.heap.size, 0, none⟩), .string ⟨#[]⟩, .int .i64 0, .int .i64 0, .pointer (some ⟨b, 0, none⟩), .slice (some ⟨g, 0, none⟩) (h * k) (h * k), .slice (some ⟨g, x.1 * k, none⟩) k k, .agg #[.string p.name, .int .i64 k, .int .i64 h, .slice A (h * k) c], .int .i64 0, .int .i64 0, .bool false, undef, .pointer (some ⟨w.heap.size, 0, none⟩), .string p.name, .pointer (some ⟨w.heap.size, 1, none⟩), .int .i64 k, .string (itoaB k), .pointer (some ⟨w.heap.size, 2, none⟩), .int .i64 h, .string (itoaB h), .slice (some ⟨w3.heap.size, 0, none⟩) 4 4, .tuple #[], .pointer (some ⟨w.heap.size, 3, none⟩), .slice A (h * k) c, .slice (some ad) (h * k) (h * k), .slice (some ⟨g, 0, none⟩) (h * k) (h * k), .slice (some ⟨g, 0, none⟩) (h * k) (h * k), .pointer (some ⟨w.heap.size, 1, none⟩), .int .i64 k, .func (.func 175) #[] #[.pointer (some ⟨q, 0, none⟩), .pointer (some ⟨q + 1, 0, none⟩)], .slice (some ⟨g, x.1 * k, none⟩) k k, undef, undef, undef, undef, undef], defers := [] }) ?assign ?body ?done ?stop
  case assign =>
    intro l x W K hK
    gi_wp2
    exact hK
  case body =>
    rintro l pre x W ⟨⟨hbn, hC⟩, hB⟩ hlt
    obtain ⟨i0, hi, hz0, hz1, hz2⟩ := info_parts info_mapIS
    have hxl := x.2
    obtain ⟨T, hT⟩ : ∃ T, printF p k (rowV pre) = T := ⟨_, rfl⟩
    have HT : RowKit.Hid (printF p k (rowV (pre ++ [x])) = T ++ lineOf (rowWords p.l k x.1)) := Lib.hid (by rw [rowV_snoc, printF_snoc, hT])
    have hTl := printF_len p HWS.out (fun b hb => HP.out.lv hb) k hk2 (rowV pre)
    have hrl : (rowV pre).length = pre.length := by simp [rowV]
    rw [hT, hrl] at hTl
    rw [hT] at hbn
    clear hT hrl
    obtain ⟨j, hj⟩ : ∃ j : Nat, x.1 = j := ⟨_, rfl⟩
    rw [hj] at HT hxl ⊢
    clear hj
    have hjk : j * k + k ≤ h * k := by rw [← Nat.succ_mul]; exact Nat.mul_le_mul_right k hxl
    have hwl : (wordsOf p.l).length = h * k := by unfold wordsOf; rw [List.length_map, HLEN.out]
    have hnl : (((wordsOf p.l).drop (j * k)).take k).length = k := by rw [List.length_take, List.length_drop, hwl]; omega
    have hrw : rowWords p.l k j = ⟨#[114, 111, 119]⟩ :: ((wordsOf p.l).drop (j * k)).take k := rfl
    obtain ⟨ws, hws⟩ : ∃ ws, ((wordsOf p.l).drop (j * k)).take k = ws := ⟨_, rfl⟩
    have hcell : ∀ (i : Nat) (u : ByteArray), ws[i]? = some u → C[j * k + i]? = some (.string u) := fun i u hu => by
      rw [← hws] at hu
      have hik : i < k := by rw [← hnl]; rw [hws] at hu ⊢; exact (List.getElem?_eq_some_iff.1 hu).1
      rw [List.getElem?_take_of_lt hik, List.getElem?_drop] at hu
      exact HCW.out _ _ hu
    rw [hws] at hnl hrw
    clear hws hwl
    have hC2 := hC.alloc (.cells #[.string ⟨#[114, 111, 119]⟩] 9)
    have hnews : ∀ (i : Nat) (u : Value), (ws.map Value.string)[i]? = some u → (W.alloc (.cells #[.string ⟨#[114, 111, 119]⟩] 9)).cell? ((⟨g, j * k, none⟩ : Addr).add i) = some u := fun i u hu => by
      have e : (⟨g, j * k, none⟩ : Addr).add i = ⟨g, j * k + i, none⟩ := by unfold Addr.add; split <;> simp_all
      rw [e, hC2.cell]
      rw [List.getElem?_map] at hu
      obtain ⟨y, hy, rfl⟩ := Option.map_eq_some_iff.1 hu
      exact hcell i y hy
    have hown0 : (W.alloc (.cells #[.string ⟨#[114, 111, 119]⟩] 9)).ownsRow W.heap.size 9 1 (.slice (some ⟨W.heap.size, 0, none⟩) 1 1) 1 [.string ⟨#[114, 111, 119]⟩] := ⟨rfl, .inr ⟨W.heap.size, 1, #[.string ⟨#[114, 111, 119]⟩], rfl, Nat.le_refl _, heap_alloc_new W _, Nat.le_refl _, by unfold maxLen; omega, rfl, rfl⟩⟩
    have HBN := Lib.hid hbn; have HC := Lib.hid hC; have HB := Lib.hid hB; have HN := Lib.hid hnews; have HO := Lib.hid hown0; have HNL := Lib.hid hnl; have HRW := Lib.hid hrw
    have hbs2 : b < W.heap.size := (builderF_blk hbn).elim (fun _ h => h.lt)
    have hgs2 : g < W.heap.size := hC.lt
    clear hbn hC hB hnews hown0 hnl hrw hcell hC2
    gi_wp2_with (gi_at_builtin; go_must (refine wpListIn_append_own_at _ (by rfl) (.tmp 32) (.tmp 33) 189 (by rfl) W.heap.size 9 i0 (.string ByteArray.empty) 1 16 Tryz.underlying189 hi hz0 hz1 hz2 (by rfl) (by decide) (.slice (some ⟨W.heap.size, 0, none⟩) 1 1) 1 [.string ⟨#[114, 111, 119]⟩] (by rfl) HO.out ⟨g, j * k, none⟩ k k (ws.map Value.string) rfl (by rw [List.length_map, HNL.out, Nat.mul_one]) HN.out (by simp [Value.oneCell']) (by unfold maxLen; omega) (by omega) (by simp) ?_); intro v' W4 hown1 hgrow hnil hat1; have HOWN := Lib.hid hown1; have HGR := Lib.hid hgrow; clear hown1 hgrow hnil hat1)
    refine ⟨trivial, ?_⟩
    have HBW := Lib.hid (((Below.refl W.heap.size W).alloc (Nat.le_refl _) (.cells #[.string ⟨#[114, 111, 119]⟩] 9)).grown HGR.out (by simp) (fun k hk => by cases hk; exact Nat.le_refl _))
    have hcs := fun (g1 : Nat) (hg1 : v'.ownBlock = some g1) => HOWN.out.cells hg1
    rcases HOWN.out.2 with ⟨_, h0⟩ | ⟨g', c4, cur, rfl, hg', hcur, hle, hmx, _, _⟩
    · omega
    have hcl := lineOf_len (⟨#[114, 111, 119]⟩ :: ws) (by rw [← HRW.out]; exact rowWords_size p.l (fun b hb => HP.out.lv hb) k j)
    rw [List.length_cons, HNL.out] at hcl
    have hlc : (⟨#[114, 111, 119]⟩ :: ws : List ByteArray).length = 1 + k := by rw [List.length_cons, HNL.out]; omega
    have hcc : ∀ (i : Nat) (u : ByteArray), (⟨#[114, 111, 119]⟩ :: ws)[i]? = some u → W4.cell? ⟨g', 0 + i, none⟩ = some (.string u) := fun i u hu => by
      have h2 := hcs g' rfl i (.string u) (by
        have h3 : ([Value.string ⟨#[114, 111, 119]⟩] ++ ws.map Value.string) = (⟨#[114, 111, 119]⟩ :: ws).map Value.string := rfl
        rw [h3, List.getElem?_map, hu]; rfl)
      rw [Nat.zero_add]
      have e : (⟨g', 0, none⟩ : Addr).add i = ⟨g', i, none⟩ := by unfold Addr.add; split <;> simp_all
      rwa [e] at h2
    refine (CallsIn.inRound l (callsIn_wide.2 (printLine_any b b T g' 0 c4 (1 + k) (⟨#[114, 111, 119]⟩ :: ws) hlc W4 (builderF_below HBN.out HBW.out) (by have := HBW.out.size; omega) hcc (Array.getElem?_eq_some_iff.1 hcur).1 (by rw [hlc]; omega) (by rw [hlc]; omega) (by have : pre.length * 1626 ≤ 64 * 1626 := Nat.mul_le_mul_right _ (by omega); omega)))).mono ?_
    rintro e W5 ⟨rfl, hbn5, hb5, ho5⟩
    obtain ⟨cs0, hcs0⟩ := builderF_blk (builderF_below HBN.out HBW.out)
    have HK5 := Lib.hid ((keeps_below HBW.out).trans (others_keeps ho5 hb5.size hcs0 rfl))
    have HO5 := Lib.hid ho5; have HB5 := Lib.hid hb5; have HBN5 := Lib.hid hbn5
    clear hbn5 hb5 ho5 hcs hcur hcc hcs0
    gi_wp2
    refine ⟨HK5.out, ⟨fun cs hq => ?_, fun cs hq => ?_⟩, ⟨?_, ?_⟩, ?_⟩
    · exact others_blk HO5.out (hq.below HBW.out) (by omega) (by decide)
    · exact others_blk HO5.out (hq.below HBW.out) (by omega) (by decide)
    · rw [HT.out, HRW.out]; exact HBN5.out
    · exact others_blk HO5.out (HC.out.below HBW.out) (by omega) (by decide)
    · exact (HB.out.trans (HBW.out.mono HB.out.size)).trans (HB5.out.mono (by omega))
  case done =>
    rintro D ys W hD hys ⟨⟨hbn, hC⟩, hB⟩ hK
    rw [hys] at hbn
    have HBN := Lib.hid hbn; have HB := Lib.hid hB
    have hbs2 : b < W.heap.size := (builderF_blk hbn).elim (fun _ h => h.lt)
    have hDb : D ≠ b := fun e => by
      obtain ⟨cs, hcs⟩ := builderF_blk hbn
      unfold Blk at hcs; subst e; rw [hK] at hcs; cases hcs
    have hD2 : w.heap.size ≤ D := by have := HB8.out.size; omega
    clear hbn hB hC
    go_wp2_with fail
    refine (builderString_any b b (printF p k (List.range h)) W HBN.out (by omega)).mono ?_
    rintro e W5 ⟨rfl, hbn5, hb5, ho5⟩
    have hK5 : W5.heap[D]? = some (.deferred (some [])) := ho5 D _ hK (fun e => hDb (by cases e; rfl)) (fun c fz e => by cases e)
    have hBB := hb5.mono (show w.heap.size ≤ b by omega)
    go_wp2
    refine ⟨by simp, .inl ⟨_, _, rfl, run_takeDeferred hK5, ?_⟩⟩
    refine ⟨.tuple #[.string ⟨(printF p k (List.range h)).toArray⟩, .int .i64 0], by simp [results, Tryz.results76, go_sem], rfl, ?_⟩
    exact (HB.out.trans hBB).trans (belowK_b (w := w) (Nat.le_refl _) W5 D _ _ hD2 hK5 rfl rfl)
  case stop =>
    rintro D c pre W _ _ h _
    exact h.elim
theorem print_ok (p : Pic) (hp : p.Ok) (he : p.err = 0) (k h : Nat) (hk : p.w = (k : Int)) (hh : p.h = (h : Int)) (A : Option Addr) (c : Nat) (w : World) (hs : p.name.size ≤ maxLen) (hr : Rd w A (fl p.l))
    (htab : Lib.TabIs Tryz.prog w "internal/strconv.uint64pow10" .u64 Lib.pow10Tab) :
    Calls Tryz.prog 76 #[p.val A c] w fun e w' => e = .returned (.tuple #[.string ⟨(printF p k (List.range h)).toArray⟩, .int .i64 0]) ∧ Below w.heap.size w w' :=
  callsIn_wide.1 (print_in p hp he k h hk hh A c w hs hr htab)

end Go.Proofs.YthbdiifinkbcnaaGreatDoor
namespace Go.Proofs.YthbdiifinkbcnaaGreatDoor
open Go.RowKit
set_option linter.unusedVariables false
set_option maxRecDepth 10000
theorem lt2 {i : Nat} (h : i < 2) : i = 0 ∨ i = 1 := by omega
theorem lt3 {i : Nat} (h : i < 3) : i = 0 ∨ i = 1 ∨ i = 2 := by omega
theorem lt6 {i : Nat} (h : i < 6) : i = 0 ∨ i = 1 ∨ i = 2 ∨ i = 3 ∨ i = 4 ∨ i = 5 := by omega
theorem lt12 {i : Nat} (h : i < 12) : i = 0 ∨ i = 1 ∨ i = 2 ∨ i = 3 ∨ i = 4 ∨ i = 5 ∨ i = 6 ∨ i = 7 ∨ i = 8 ∨ i = 9 ∨ i = 10 ∨ i = 11 := by omega
theorem six_err : (Pic.mk pName 3 2 six).err = 0 := by decide +kernel
theorem six_ok : (Pic.mk pName 3 2 six).Ok := ok_of six_err
theorem rd_six {w : World} {g : Nat} (h : Blk w g 23 (fl six).toArray) : Rd w (some ⟨g, 0, none⟩) (fl six) := rd_of_blk h rfl
theorem ex_at (g : Nat) (w : World) (h : Blk w g 23 (fl six).toArray) : Calls Tryz.prog 27 #[.agg #[.string pName, .int .i64 3, .int .i64 2, .slice (some ⟨g, 0, none⟩) 6 6], .int .i64 2, .int .i64 1] w fun e w' => e = .returned (.tuple #[.float .f32 1086324736, .int .i64 0]) ∧ Below w.heap.size w w' :=
  (at_ok pName 3 2 six six_ok six_err 2 1 (by decide) (by decide) _ 6 w (by decide) (by decide) (by decide) (rd_six h)).mono fun e w' ⟨h1, h2⟩ => ⟨h1, h2⟩
theorem ex_cropped (g : Nat) (w : World) (h : Blk w g 23 (fl six).toArray) : Calls Tryz.prog 29 #[.agg #[.string pName, .int .i64 3, .int .i64 2, .slice (some ⟨g, 0, none⟩) 6 6], .agg #[.int .i64 1, .int .i64 3], .agg #[.int .i64 1, .int .i64 2]] w fun e w' => ∃ k, e = .returned (.tuple #[.agg #[.string pName, .int .i64 2, .int .i64 1, .slice (some ⟨k, 0, none⟩) 2 2], .int .i64 0]) ∧ Rd w' (some ⟨k, 0, none⟩) (fl [1084227584, 1086324736]) ∧ Below w.heap.size w w' :=
  (cropped_ok pName 3 2 six six_ok six_err 1 2 1 1 (by decide) (by decide) _ 6 w (by decide) (by decide) (by decide) (rd_six h)).mono fun e w' ⟨k, h1, h2, h3⟩ => ⟨k, h1, rd_mask h2 (fun _ _ => rfl) rfl (fun i hi => by rcases lt2 hi with rfl | rfl <;> rfl), h3⟩
theorem ex_flipped (g : Nat) (w : World) (h : Blk w g 23 (fl six).toArray) : Calls Tryz.prog 44 #[.agg #[.string pName, .int .i64 3, .int .i64 2, .slice (some ⟨g, 0, none⟩) 6 6]] w fun e w' => ∃ k, e = .returned (.tuple #[.agg #[.string pName, .int .i64 3, .int .i64 2, .slice (some ⟨k, 0, none⟩) 6 6], .int .i64 0]) ∧ Rd w' (some ⟨k, 0, none⟩) (fl [1077936128, 1073741824, 1065353216, 1086324736, 1084227584, 1082130432]) ∧ Below w.heap.size w w' :=
  (flipped_ok pName 3 2 six six_ok six_err _ 6 w (by decide) (by decide) (by decide) (rd_six h)).mono fun e w' ⟨k, h1, h2, h3⟩ => ⟨k, h1, rd_mask h2 (fun _ _ => rfl) rfl (fun i hi => by rcases lt6 hi with rfl | rfl | rfl | rfl | rfl | rfl <;> rfl), h3⟩
theorem ex_transposed (g : Nat) (w : World) (h : Blk w g 23 (fl six).toArray) : Calls Tryz.prog 45 #[.agg #[.string pName, .int .i64 3, .int .i64 2, .slice (some ⟨g, 0, none⟩) 6 6]] w fun e w' => ∃ k, e = .returned (.tuple #[.agg #[.string pName, .int .i64 2, .int .i64 3, .slice (some ⟨k, 0, none⟩) 6 6], .int .i64 0]) ∧ Rd w' (some ⟨k, 0, none⟩) (fl [1065353216, 1082130432, 1073741824, 1084227584, 1077936128, 1086324736]) ∧ Below w.heap.size w w' :=
  (transposed_ok pName 3 2 six six_ok six_err _ 6 w (by decide) (by decide) (by decide) (rd_six h)).mono fun e w' ⟨k, h1, h2, h3⟩ => ⟨k, h1, rd_mask h2 (fun _ _ => rfl) rfl (fun i hi => by rcases lt6 hi with rfl | rfl | rfl | rfl | rfl | rfl <;> rfl), h3⟩
theorem ex_beside (g g2 : Nat) (w : World) (h : Blk w g 23 (fl six).toArray) (h2 : Blk w g2 23 (fl six).toArray) : Calls Tryz.prog 38 #[.agg #[.string pName, .int .i64 3, .int .i64 2, .slice (some ⟨g, 0, none⟩) 6 6], .agg #[.string pName, .int .i64 3, .int .i64 2, .slice (some ⟨g2, 0, none⟩) 6 6]] w fun e w' => ∃ k, e = .returned (.tuple #[.agg #[.string pName, .int .i64 6, .int .i64 2, .slice (some ⟨k, 0, none⟩) 12 12], .int .i64 0]) ∧ Rd w' (some ⟨k, 0, none⟩) (fl [1065353216, 1073741824, 1077936128, 1065353216, 1073741824, 1077936128, 1082130432, 1084227584, 1086324736, 1082130432, 1084227584, 1086324736]) ∧ Below w.heap.size w w' :=
  (beside_ok pName pName 3 3 2 6 rfl six six six_ok six_err six_ok six_err (by decide) _ _ 6 6 w (by decide) (by decide) (by decide) (by decide) (rd_six h) (rd_six h2)).mono fun e w' ⟨k, h1, h2, h3⟩ => ⟨k, h1, rd_mask h2 (fun _ _ => rfl) rfl (fun i hi => by rcases lt12 hi with rfl | rfl | rfl | rfl | rfl | rfl | rfl | rfl | rfl | rfl | rfl | rfl <;> rfl), h3⟩
theorem ex_fields (g : Nat) (w : World) (h : Blk w g 23 (fl six).toArray) : Calls Tryz.prog 46 #[.agg #[.string pName, .int .i64 3, .int .i64 2, .slice (some ⟨g, 0, none⟩) 6 6]] w fun e w' => ∃ ga gb, e = .returned (.tuple #[.agg #[.string pName, .int .i64 3, .int .i64 1, .slice (some ⟨ga, 0, none⟩) 3 3, .string pName, .int .i64 3, .int .i64 1, .slice (some ⟨gb, 0, none⟩) 3 3], .int .i64 0]) ∧ Rd w' (some ⟨ga, 0, none⟩) (fl [1065353216, 1073741824, 1077936128]) ∧ Rd w' (some ⟨gb, 0, none⟩) (fl [1082130432, 1084227584, 1086324736]) ∧ Below w.heap.size w w' :=
  (fields_ok pName 3 2 1 1 six six_ok six_err (by decide) rfl rfl _ 6 w (by decide) (by decide) (rd_six h)).mono fun e w' ⟨ga, gb, h1, _, h2, h3, h4⟩ => ⟨ga, gb, h1, rd_mask h2 (fun _ _ => rfl) rfl (fun i hi => by rcases lt3 hi with rfl | rfl | rfl <;> rfl), rd_mask h3 (fun _ _ => rfl) rfl (fun i hi => by rcases lt3 hi with rfl | rfl | rfl <;> rfl), h4⟩
theorem up_err : (Pic.mk pName 3 1 [1065353216, 1073741824, 1077936128]).err = 0 := by decide +kernel
theorem down_err : (Pic.mk pName 3 1 [1082130432, 1084227584, 1086324736]).err = 0 := by decide +kernel
theorem ex_woven (A A2 : Option Addr) (w : World) (h : Rd w A (fl [1065353216, 1073741824, 1077936128])) (h2 : Rd w A2 (fl [1082130432, 1084227584, 1086324736])) : Calls Tryz.prog 40 #[.agg #[.string pName, .int .i64 3, .int .i64 1, .slice A 3 3], .agg #[.string pName, .int .i64 3, .int .i64 1, .slice A2 3 3]] w fun e w' => ∃ k, e = .returned (.tuple #[.agg #[.string pName, .int .i64 3, .int .i64 2, .slice (some ⟨k, 0, none⟩) 6 6], .int .i64 0]) ∧ Rd w' (some ⟨k, 0, none⟩) (fl [1065353216, 1073741824, 1077936128, 1082130432, 1084227584, 1086324736]) ∧ Below w.heap.size w w' :=
  (woven_ok pName pName 3 1 1 2 rfl [1065353216, 1073741824, 1077936128] [1082130432, 1084227584, 1086324736] (ok_of up_err) up_err (ok_of down_err) down_err (.inl rfl) (by decide) A A2 3 3 w (by decide) (by decide) (by decide) (by decide) h h2).mono fun e w' ⟨k, h1, h2, h3⟩ => ⟨k, h1, rd_mask h2 (fun _ _ => rfl) rfl (fun i hi => by rcases lt6 hi with rfl | rfl | rfl | rfl | rfl | rfl <;> rfl), h3⟩
theorem six_maxLen : six.length ≤ maxLen := by decide
theorem ex_energy (g : Nat) (w : World) (h : Blk w g 23 (fl six).toArray) : Calls Tryz.prog 52 #[.agg #[.string pName, .int .i64 3, .int .i64 2, .slice (some ⟨g, 0, none⟩) 6 6]] w fun e w' => e = .returned (.tuple #[.int .i64 23296, .int .i64 0]) ∧ Below w.heap.size w w' := by
  have hv : (Pic.mk pName 3 2 six).energy = 23296 := by decide +kernel
  have h1 := energy_ok (Pic.mk pName 3 2 six) six_ok six_err (some ⟨g, 0, none⟩) 6 w (by decide) six_maxLen (rd_six h)
  rw [hv] at h1
  exact h1
theorem ex_peak (g : Nat) (w : World) (h : Blk w g 23 (fl six).toArray) : Calls Tryz.prog 53 #[.agg #[.string pName, .int .i64 3, .int .i64 2, .slice (some ⟨g, 0, none⟩) 6 6]] w fun e w' => e = .returned (.tuple #[.int .i64 96, .int .i64 0]) ∧ Below w.heap.size w w' := by
  have hv : (Pic.mk pName 3 2 six).peak = 96 := by decide +kernel
  have h1 := peak_ok (Pic.mk pName 3 2 six) six_ok six_err (some ⟨g, 0, none⟩) 6 w (by decide) six_maxLen (rd_six h)
  rw [hv] at h1
  exact h1
theorem ex_mean (g : Nat) (w : World) (h : Blk w g 23 (fl six).toArray) : Calls Tryz.prog 54 #[.agg #[.string pName, .int .i64 3, .int .i64 2, .slice (some ⟨g, 0, none⟩) 6 6]] w fun e w' => e = .returned (.tuple #[.agg #[.int .i64 7, .int .i64 2], .int .i64 0]) ∧ Below w.heap.size w w' := by
  have hv : (Pic.mk pName 3 2 six).sum / (Pic.mk pName 3 2 six).cd = 7 := by decide +kernel
  have hv2 : 16 * ((Pic.mk pName 3 2 six).l.length : Int) / (Pic.mk pName 3 2 six).cd = 2 := by decide +kernel
  have h1 := mean_ok (Pic.mk pName 3 2 six) six_ok six_err (some ⟨g, 0, none⟩) 6 w (by decide) six_maxLen (rd_six h)
  rw [hv, hv2] at h1
  exact h1

theorem two_err : (Pic.mk pName 2 1 [1031798784, 3179282432]).err = 0 := by decide +kernel
theorem ex_scaled (A : Option Addr) (w : World) (h : Rd w A (fl [1031798784, 3179282432])) : Calls Tryz.prog 51 #[.agg #[.string ⟨#[112]⟩, .int .i64 2, .int .i64 1, .slice A 2 2], .int .i64 1, .int .i64 2] w fun e w' => ∃ ad, e = .returned (.tuple #[.agg #[.string pName, .int .i64 2, .int .i64 1, .slice (some ad) 2 2], .int .i64 0]) ∧ Rd w' (some ad) (fl [1031798784, 0]) ∧ Below w.heap.size w w' := by
  have hv : (scaledL [1031798784, 3179282432] 1 2).map smp = [1031798784, 0] := by decide +kernel
  have h1 := scaled_ok pName 2 1 [1031798784, 3179282432] (ok_of two_err) two_err 1 2 (by decide) (by decide) (by decide +kernel) A 2 w (by decide) h
  rw [hv] at h1
  exact h1
theorem ex_four (w : World) (hP : ∀ i, i < 4 → w.cell? ⟨1, i * 2, none⟩ = some (.int .i64 (pwR i)) ∧ w.cell? ⟨1, i * 2 + 1, none⟩ = some (.int .i64 (pwI i))) (hP1 : 1 < w.heap.size) :
    Calls Tryz.prog 89 #[.agg #[.float .f32 1065353216, .float .f32 1073741824, .float .f32 1077936128, .float .f32 1082130432]] w fun e w' => e = .returned (.tuple #[.agg #[.complex .f32 1092616192 0, .complex .f32 3221225472 1073741824, .complex .f32 3221225472 0, .complex .f32 3221225472 3221225472], .int .i64 0]) ∧ Below w.heap.size w w' := by
  have h1 := four_ok oneToFour (by decide +kernel) _ awake_step w hP hP1
  have s0 : sumS (fun n => (oneToFour n, 0)) 1 0 4 = (1092616192, 0) := by decide +kernel
  have s1 : sumS (fun n => (oneToFour n, 0)) 1 1 4 = (3221225472, 1073741824) := by decide +kernel
  have s2 : sumS (fun n => (oneToFour n, 0)) 1 2 4 = (3221225472, 0) := by decide +kernel
  have s3 : sumS (fun n => (oneToFour n, 0)) 1 3 4 = (3221225472, 3221225472) := by decide +kernel
  have hz : czV (fun k => sumS (fun n => (oneToFour n, 0)) 1 k 4) 4 = #[.complex .f32 1092616192 0, .complex .f32 3221225472 1073741824, .complex .f32 3221225472 0, .complex .f32 3221225472 3221225472] := by
    rw [show czV (fun k => sumS (fun n => (oneToFour n, 0)) 1 k 4) 4 = #[.complex .f32 (sumS (fun n => (oneToFour n, 0)) 1 0 4).1 (sumS (fun n => (oneToFour n, 0)) 1 0 4).2, .complex .f32 (sumS (fun n => (oneToFour n, 0)) 1 1 4).1 (sumS (fun n => (oneToFour n, 0)) 1 1 4).2, .complex .f32 (sumS (fun n => (oneToFour n, 0)) 1 2 4).1 (sumS (fun n => (oneToFour n, 0)) 1 2 4).2, .complex .f32 (sumS (fun n => (oneToFour n, 0)) 1 3 4).1 (sumS (fun n => (oneToFour n, 0)) 1 3 4).2] from rfl, s0, s1, s2, s3]
  rw [hz] at h1
  exact h1
def b8 (n : Nat) (h : n ≤ 255 := by decide) : U8 := ⟨n, by omega, by omega⟩
def frameN : List Nat := [171, 1, 2, 3, 0, 0, 0, 0, 0, 0, 0, 0, 0, 0, 92, 211]
def frameL : List Int := [171, 1, 2, 3, 0, 0, 0, 0, 0, 0, 0, 0, 0, 0, 92, 211]
theorem ex_encode (w : World) : Calls Tryz.prog 62 #[.agg #[.int .i64 1, .int .i64 2, .int .u8 3, .int .u8 0, .int .u8 0, .int .u8 0, .int .u8 0, .int .u8 0, .int .u8 0, .int .u8 0, .int .u8 0, .int .u8 0]] w fun e w' => e = .returned (.tuple #[.agg #[.int .u8 171, .int .u8 1, .int .u8 2, .int .u8 3, .int .u8 0, .int .u8 0, .int .u8 0, .int .u8 0, .int .u8 0, .int .u8 0, .int .u8 0, .int .u8 0, .int .u8 0, .int .u8 0, .int .u8 92, .int .u8 211], .int .i64 0]) ∧ Below w.heap.size w w' := by
  refine (encode_ok (b8 1) (b8 2) (b8 3) u0 u0 u0 u0 u0 u0 u0 u0 u0 w).mono ?_
  rintro e w' ⟨P, S, hP, hS, rfl, hb⟩
  have e1 : P.1 = 0 := hP.symm.trans (by decide +kernel)
  have e2 : P = u0 := Subtype.ext e1
  subst e2
  have e3 : S = 23763 := hS.symm.trans (by decide +kernel)
  subst e3
  exact ⟨rfl, hb⟩
theorem rd_of_owns {w : World} {B : Nat} {e : TypeId} {size : Nat} {A : Option Addr} {n c : Nat} {xs : List Value} (h : w.ownsRow B e size (.slice A n c) n xs) : Rd w A xs := fun h0 => by
  rcases h.2 with ⟨hv, hn⟩ | ⟨g, cap, cur, hv, hb, hg, _⟩
  · have := h.1; rw [hn] at this; omega
  · cases hv
    have hlt := (h.lt g rfl).2
    refine ⟨_, rfl, hlt, fun j u hj => ?_⟩
    exact h.cells (g := g) rfl j u hj
def pk3 : List Pk := [⟨9, 254, 0, 0, 0, 0, 0, 0, 0, 0, 0, 0⟩, ⟨8, 0, 0, 0, 0, 0, 0, 0, 0, 0, 0, 0⟩, ⟨9, 1, 0, 0, 0, 0, 0, 0, 0, 0, 0, 0⟩]
theorem ex_lost (A : Option Addr) (w : World) (h : Rd w A (pksC pk3)) : Calls Tryz.prog 64 #[.slice A 3 3, .int .i64 9] w fun e w' => ∃ A' c, e = .returned (.tuple #[.slice A' 2 c, .int .i64 0]) ∧ Rd w' A' ([255, 0].map (Value.int .i64)) ∧ Below w.heap.size w w' := by
  have hv : lostF 9 pk3 false 0 [] = [255, 0] := by decide +kernel
  have h1 := lost_good A 3 pk3 9 w (by decide) h (by decide +kernel)
  rw [hv] at h1
  refine h1.mono ?_
  rintro e w' ⟨h2 | h2, hb⟩
  · obtain ⟨_, v, rfl, hown⟩ := h2
    obtain ⟨A', c, rfl⟩ := own_shape hown
    exact ⟨A', c, rfl, rd_of_owns hown, hb⟩
  · exact absurd h2.1 (by decide)
def stream18 : List U8 := (7 :: 171 :: frameN).map (fun n => b8 (n % 256) (by omega))
theorem ex_received (A : Option Addr) (c : Nat) (w : World) (hc : 18 ≤ c) (h : BRd w.heap.size w A stream18) : Calls Tryz.prog 71 #[.slice A 18 c] w fun e w' => ∃ A1 c1 A2 c2, e = .returned (.tuple #[.slice A1 1 c1, .slice A2 1 c2, .int .i64 0]) ∧ Rd w' A2 (spansC [(0, 2)]) ∧ Below w.heap.size w w' := by
  have hv : (rfold stream18 (List.range stream18.length)).pk.length = 1 := by decide +kernel
  have hv2 : (rfold stream18 (List.range stream18.length)).sk = [(0, 2)] := by decide +kernel
  have h1 := received_any A c stream18 (by decide) (by exact hc) w h
  rw [hv, hv2] at h1
  refine h1.mono ?_
  rintro e w' ⟨v1, v2, rfl, o1, o2, hb⟩
  obtain ⟨A1, c1, rfl⟩ := own_shape o1
  obtain ⟨A2, c2, rfl⟩ := own_shape o2
  exact ⟨A1, c1, A2, c2, rfl, rd_of_owns o2, hb⟩
def half : List Nat := [3204448256]
def qName : ByteArray := ⟨#[113]⟩
def code12 : List UInt8 := [80, 73, 67, 84, 1, 113, 1, 1, 191, 0, 0, 0]
def CodeAt (w : World) (g : Nat) : Prop := g < w.heap.size ∧ ∀ j (hj : j < code12.length), w.cell? ⟨g, j, none⟩ = some (.int .u8 (code12[j].toNat : Int))
theorem CodeAt.below {w w' : World} {g : Nat} (h : CodeAt w g) (hb : Below w.heap.size w w') : CodeAt w' g := ⟨Nat.lt_of_lt_of_le h.1 hb.size, fun j hj => (hb.cell (p := ⟨g, j, none⟩) h.1).trans (h.2 j hj)⟩
theorem code_text (w : World) (g c : Nat) (h : CodeAt w g) : (convert 106 9 (.slice (some ⟨g, 0, none⟩) 12 c)).run Tryz.prog w = .ok (.string ⟨#[80, 73, 67, 84, 1, 113, 1, 1, 191, 0, 0, 0]⟩) w :=
  run_convert_bytes_back w 106 9 5 ⟨g, 0, none⟩ c code12 Tryz.underlying106 Tryz.underlying5 Tryz.underlying9 (fun j hj => by rw [add_blk]; exact h.2 j hj)
theorem half_err : (Pic.mk qName 1 1 half).err = 0 := by decide +kernel
theorem half_ok : (Pic.mk qName 1 1 half).Ok := ok_of half_err
theorem ex_pack (A : Option Addr) (w : World) (h : Rd w A (fl half)) : Calls Tryz.prog 78 #[.agg #[.string ⟨#[113]⟩, .int .i64 1, .int .i64 1, .slice A 1 1]] w fun e w' => ∃ g c, e = .returned (.tuple #[.slice (some ⟨g, 0, none⟩) 16 c, .int .i64 0]) ∧ 16 ≤ c ∧ CodeAt w' g ∧ Below w.heap.size w w' := by
  have h1 := pack_ok qName 1 1 half half_ok half_err A 1 w h
  have hl : (packU qName 1 1 half).length = 16 := by decide +kernel
  have hx : ((packU qName 1 1 half).map (·.1)).take 12 = code12.map (fun b => (b.toNat : Int)) := by decide +kernel
  refine h1.mono ?_
  rintro e w' ⟨v, n, B, rfl, rfl, hB, hown, hb⟩
  rw [hl] at hown
  rcases hown.2 with ⟨_, h0⟩ | ⟨g, cap, cur, rfl, hb2, hg, hnc, _⟩
  · exact absurd h0 (by decide)
  · refine ⟨g, cap, rfl, hnc, ⟨(hown.lt g rfl).2, fun j hj => ?_⟩, hb⟩
    have hj12 : j < 12 := hj
    have hjl : j < (packU qName 1 1 half).length := by rw [hl]; omega
    have h2 : ((packU qName 1 1 half).map (·.1))[j]? = some (code12[j].toNat : Int) := by
      have h3 : (((packU qName 1 1 half).map (·.1)).take 12)[j]? = some (code12[j].toNat : Int) := by rw [hx, List.getElem?_map, List.getElem?_eq_getElem hj]; rfl
      rw [List.getElem?_take, if_pos hj12] at h3
      exact h3
    rw [← add_blk]
    refine hown.cells (g := g) rfl j _ ?_
    rw [List.getElem?_map] at h2 ⊢
    obtain ⟨u, hu, hu2⟩ := Option.map_eq_some_iff.1 h2
    rw [hu, Option.map_some]
    exact congrArg (fun z => some (Value.int .u8 z)) hu2
def printed : ByteArray := ⟨#[112, 105, 99, 116, 117, 114, 101, 32, 113, 32, 49, 32, 49, 10, 114, 111, 119, 32, 45, 56, 10]⟩
theorem ex_print (A : Option Addr) (w : World) (h : Rd w A (fl half)) (htab : Lib.TabIs Tryz.prog w "internal/strconv.uint64pow10" .u64 Lib.pow10Tab) : Calls Tryz.prog 76 #[.agg #[.string ⟨#[113]⟩, .int .i64 1, .int .i64 1, .slice A 1 1]] w fun e w' => e = .returned (.tuple #[.string ⟨#[112, 105, 99, 116, 117, 114, 101, 32, 113, 32, 49, 32, 49, 10, 114, 111, 119, 32, 45, 56, 10]⟩, .int .i64 0]) ∧ Below w.heap.size w w' := by
  have hv : printF (Pic.mk qName 1 1 half) 1 (List.range 1) = printed.data.toList := by decide +kernel
  have h1 := print_ok (Pic.mk qName 1 1 half) half_ok half_err 1 1 rfl rfl A 1 w (by decide) h htab
  rw [hv] at h1
  exact h1
theorem has_true (W H : Int) (A : Option Addr) (c n g : Nat) (l k : List Nat) (w : World) (hl : l.length = n) (hk : k.length = n) (hn : n ≤ maxLen) (hs : sameF l k = true) (hr : Rd w A (fl l)) (hb : Blk w g 23 (fl k).toArray) :
    Calls Tryz.prog 92 #[.agg #[.string pName, .int .i64 W, .int .i64 H, .slice A n c], .int .i64 W, .int .i64 H, .slice (some ⟨g, 0, none⟩) n n] w fun e w' => e = .returned (.bool true) ∧ Below w.heap.size w w' := by
  have h1 := has_any W H A (some ⟨g, 0, none⟩) c n l k w (by rw [hl]; exact hn) (by rw [hk]; exact hn) hr (rd_of_blk hb rfl)
  rw [hl, hk, hs] at h1
  exact h1
theorem box8 {w : World} {g : Nat} {t : TypeId} {a b c d e f i j : Value} (h : Blk w g t #[a, b, c, d, e, f, i, j]) : w.cell? ⟨g, 0, none⟩ = some a ∧ w.cell? ⟨g, 1, none⟩ = some b ∧ w.cell? ⟨g, 2, none⟩ = some c ∧ w.cell? ⟨g, 3, none⟩ = some d ∧ w.cell? ⟨g, 4, none⟩ = some e ∧ w.cell? ⟨g, 5, none⟩ = some f ∧ w.cell? ⟨g, 6, none⟩ = some i ∧ w.cell? ⟨g, 7, none⟩ = some j :=
  ⟨h.cell 0, h.cell 1, h.cell 2, h.cell 3, h.cell 4, h.cell 5, h.cell 6, h.cell 7⟩
theorem eq_ratio (w : World) : (Op.equalIn 10000 33 (.agg #[.int .i64 7, .int .i64 2]) (.agg #[.int .i64 7, .int .i64 2])).run Tryz.prog w = .ok true w := by kernel_rfl
theorem eq_panel (w : World) : (Op.equalIn 10000 138 (.agg #[.complex .f32 1092616192 0, .complex .f32 3221225472 1073741824, .complex .f32 3221225472 0, .complex .f32 3221225472 3221225472]) (.agg #[.complex .f32 1092616192 0, .complex .f32 3221225472 1073741824, .complex .f32 3221225472 0, .complex .f32 3221225472 3221225472])).run Tryz.prog w = .ok true w := by kernel_rfl
theorem eq_begin (w : World) : (Op.equalIn 10000 146 (.agg #[.int .u8 171, .int .u8 1, .int .u8 2, .int .u8 3, .int .u8 0, .int .u8 0, .int .u8 0, .int .u8 0, .int .u8 0, .int .u8 0, .int .u8 0, .int .u8 0, .int .u8 0, .int .u8 0]) (.agg #[.int .u8 171, .int .u8 1, .int .u8 2, .int .u8 3, .int .u8 0, .int .u8 0, .int .u8 0, .int .u8 0, .int .u8 0, .int .u8 0, .int .u8 0, .int .u8 0, .int .u8 0, .int .u8 0])).run Tryz.prog w = .ok true w := by kernel_rfl
theorem own_cons {w : World} {B : Nat} {e : TypeId} {size : Nat} {v : Value} {n : Nat} {xs : List Value} (h : w.ownsRow B e size v n xs) (hn : 0 < n) : ∃ g cap, v = .slice (some ⟨g, 0, none⟩) n cap ∧ n ≤ cap := by
  rcases h.2 with ⟨_, h0⟩ | ⟨g, cap, cur, rfl, _, _, hc, _⟩
  · omega
  · exact ⟨g, cap, rfl, hc⟩
theorem own_two (w : World) (a b : Value) : (w.alloc (.cells #[a, b] 5)).ownsRow w.heap.size 5 1 (.slice (some ⟨w.heap.size, 0, none⟩) 2 2) 2 [a, b] :=
  ⟨rfl, .inr ⟨_, 2, #[a, b], rfl, Nat.le_refl _, heap_alloc_new w _, Nat.le_refl _, by decide, rfl, rfl⟩⟩
theorem ints_true (A : Option Addr) (c g : Nat) (w : World) (hr : Rd w A ([255, 0].map (Value.int .i64))) (hb : Blk w g 3 #[.int .i64 255, .int .i64 0]) : Calls Tryz.prog 21 #[.slice A 2 c, .slice (some ⟨g, 0, none⟩) 2 2] w fun e w' => e = .returned (.bool true) ∧ Below w.heap.size w w' := by
  have hs : sameI [255, 0] [255, 0] = true := by decide
  have h1 := sameInts_any A (some ⟨g, 0, none⟩) c 2 [255, 0] [255, 0] w (by decide) (by decide) hr (rd_of_blk hb rfl)
  rw [hs] at h1
  exact h1
theorem spans_true (A : Option Addr) (c g : Nat) (w : World) (hr : Rd w A (spansC [(0, 2)])) (hb : Blk w g 47 #[.int .i64 0, .int .i64 2]) : Calls Tryz.prog 75 #[.slice A 1 c, .slice (some ⟨g, 0, none⟩) 1 1] w fun e w' => e = .returned (.bool true) ∧ Below w.heap.size w w' := by
  have hs : sameP [(0, 2)] [(0, 2)] = true := by decide
  have h1 := sameSpans_any A (some ⟨g, 0, none⟩) c 1 [(0, 2)] [(0, 2)] w (by decide) (by decide) hr (rd_of_blk hb rfl)
  rw [hs] at h1
  exact h1
def two : List U8 := [b8 1, b8 2]
theorem ex_check (A : Option Addr) (w : World) (h : BRd w.heap.size w A two) : Calls Tryz.prog 93 #[.slice A 2 2] w fun e w' => e = .returned (.int .i64 63254) ∧ w = w' := by
  have hv : rollF 251 65521 two 1 = 63254 := by decide +kernel
  have h1 := checkRef_any A 2 two (by decide) w h
  rw [hv] at h1
  exact h1


end Go.Proofs.YthbdiifinkbcnaaGreatDoor
namespace Go.Proofs.YthbdiifinkbcnaaGreatDoor
open Go.RowKit
set_option linter.unusedVariables false
theorem firstR_any (A : Option Addr) (c : Nat) (es : List Int) (w : World) (hl : es.length ≤ maxLen) (hr : Rd w A (es.map (.int .i64))) :
    Calls Tryz.prog 96 #[.slice A es.length c] w fun e' w' => e' = .returned (.int .i64 (firstE es)) ∧ w = w' := by
  unfold maxLen at hl
  go_enter Tryz.func96, Tryz.ntmps96
  go_wp2
  go_loop [3] (fun i => ∃ k : Nat, k ≤ es.length ∧ i = .int .i64 k ∧ firstE es = firstE (es.drop k)) (fun i => es.length - (intOf i).toNat)
  case atStart => exact ⟨0, by omega, rfl, rfl⟩
  case round =>
    obtain ⟨k, hk, rfl, hf⟩ := hrel
    have Hf := Lib.hid hf; clear hf
    by_cases hlt : k < es.length
    · obtain ⟨ad, rfl, hb, hc⟩ := hr.get (k := k) (u := .int .i64 es[k]) (by simp [hlt])
      have hfd := firstE_drop es k hlt
      have Hd := Lib.hid hfd; clear hfd
      by_cases hz : es[k] = 0
      · rw [hz] at hc
        have Hz := Lib.hid hz; clear hz
        go_wp2
        go_round
        case rel => exact ⟨k + 1, by omega, by go_num, by rw [Hf.out, Hd.out, if_pos Hz.out]⟩
        case measure => simp [intOf]; omega
      · obtain ⟨v, hv⟩ : ∃ v, v = es[k] := ⟨_, rfl⟩
        rw [← hv] at hc hz
        have Hv := Lib.hid hv; clear hv
        have hz' : (v != 0) = true := by simpa using hz
        go_wp2
        go_ret
        exact ⟨ret_int (by rw [Hf.out, Hd.out, if_neg (fun h => hz (Hv.out.trans h))]; exact Hv.out), rfl⟩
    · have : k = es.length := by omega
      subst this
      go_wp2
      go_ret
      exact ⟨by rw [Hf.out]; simp [firstE], rfl⟩
theorem firstR_n (A : Option Addr) (c n : Nat) (es : List Int) (w : World) (hn : es.length = n) (hl : n ≤ maxLen) (hr : Rd w A (es.map (.int .i64))) :
    Calls Tryz.prog 96 #[.slice A n c] w fun e' w' => e' = .returned (.int .i64 (firstE es)) ∧ w = w' := by
  subst hn; exact firstR_any A c es w hl hr
theorem firstL_n (A : Option Addr) (c n : Nat) (es : List Int) (w : World) (hn : es.length = n) (hl : n ≤ maxLen) (hr : Rd w A (es.map (.int .i64))) :
    Calls Tryz.prog 16 #[.slice A n c] w fun e' w' => e' = .returned (.int .i64 (firstE es)) ∧ w = w' := by
  go_enter Tryz.func16, Tryz.ntmps16
  go_wp2_with fail
  refine (firstR_n A c n es _ hn hl hr).mono ?_
  rintro e w' ⟨rfl, rfl⟩
  go_wp2
  go_ret
  exact ⟨rfl, rfl⟩
theorem checkSampleR_any (b : Nat) (w : World) : Calls Tryz.prog 25 #[.float .f32 b] w fun e w' => e = .returned (.int .i64 (chk 1024 b)) ∧ Below w.heap.size w w' := by
  go_enter Tryz.func25, Tryz.ntmps25
  go_wp2_with fail
  refine (checkPart_any b 1024 (by decide) _).mono ?_
  rintro e w' ⟨rfl, hb⟩
  go_wp2
  go_ret
  exact ⟨rfl, hb⟩
def ratioE (a b : Int) : Int := firstE [outs a (-999999999) 999999999, outs b 1 999999999, errIf (decide (1 < wrap64 (Int.gcd a b))) 1]
theorem ratioE_bad {a b : Int} (h : firstE [outs a (-999999999) 999999999, outs b 1 999999999] ≠ 0) : ratioE a b = firstE [outs a (-999999999) 999999999, outs b 1 999999999] := by
  unfold ratioE
  simp only [firstE] at h ⊢
  by_cases h1 : outs a (-999999999) 999999999 = 0
  · rw [if_pos h1] at h ⊢
    rw [if_pos h1]
    by_cases h2 : outs b 1 999999999 = 0
    · rw [if_pos h2] at h; exact absurd rfl h
    · rw [if_neg h2, if_neg h2]
  · rw [if_neg h1, if_neg h1]
theorem ratioE_good {a b : Int} (h : firstE [outs a (-999999999) 999999999, outs b 1 999999999] = 0) : ratioE a b = errIf (wrap64 (Int.gcd a b) != 1) 1 := by
  have h0 := firstE_zero h
  have h1 := h0 (outs a (-999999999) 999999999) (by simp)
  have h2 := h0 (outs b 1 999999999) (by simp)
  obtain ⟨b1, b2⟩ := outs_zero h2
  have hg : 1 ≤ Int.gcd a b ∧ Int.gcd a b ≤ 999999999 := by
    have hp : 0 < Int.gcd a b := Int.gcd_pos_of_ne_zero_right a (by omega)
    have hd : Int.gcd a b ∣ b.natAbs := Int.gcd_dvd_natAbs_right a b
    have := Nat.le_of_dvd (by omega) hd
    omega
  have hw : wrap64 (Int.gcd a b) = (Int.gcd a b : Int) := by unfold wrap64; omega
  unfold ratioE
  simp only [firstE, h1, h2, if_true]
  rw [hw]
  by_cases hc : Int.gcd a b = 1
  · rw [hc]; rfl
  · have e1 : decide ((1 : Int) < (Int.gcd a b : Int)) = true := by simp; omega
    have e2 : ((Int.gcd a b : Int) != 1) = true := by simp; omega
    rw [e1, e2]; rfl
theorem checkRatioR_any (a b : Int) (ha : -9223372036854775808 ≤ a ∧ a ≤ 9223372036854775807) (hb : -9223372036854775808 ≤ b ∧ b ≤ 9223372036854775807) (w : World) :
    Calls Tryz.prog 23 #[.agg #[.int .i64 a, .int .i64 b]] w fun e w' => e = .returned (.int .i64 (ratioE a b)) ∧ Below w.heap.size w w' := by
  go_enter Tryz.func23, Tryz.ntmps23
  go_wp2_with fail
  have hbx := Blk.new w 33 #[.int .i64 a, .int .i64 b]
  have hb0 : Below w.heap.size w (w.alloc (.cells #[.int .i64 a, .int .i64 b] 33)) := (Below.refl _ _).alloc (Nat.le_refl _) _
  generalize w.alloc (.cells #[.int .i64 a, .int .i64 b] 33) = w0 at hbx hb0 ⊢
  have c0 : w0.cell? ⟨w.heap.size, 0, none⟩ = some (.int .i64 a) := hbx.cell 0
  have c1 : w0.cell? ⟨w.heap.size, 1, none⟩ = some (.int .i64 b) := hbx.cell 1
  have hz := hbx.lt
  have HB0 := Lib.hid hb0; have HX := Lib.hid hbx; clear hb0 hbx
  go_region_held3 (SK w0)
    (first | exact sk_drew0 _ | assumption | exact sk_call (by assumption) (by assumption) | exact sk_alloc (by assumption) _)
    (first
      | (go_at_call 17; refine (checkRange_any _ _ _ _).mono ?_; rintro e wn ⟨rfl, rfl⟩)
      | (go_at_call 96; refine (firstR_n _ _ _ [_, _] _ rfl (by simp [maxLen]) (by exact rd_of_blk (Blk.new _ _ _) rfl)).mono ?_; rintro e wn ⟨rfl, rfl⟩))
  have hch := sk_drew (sk_alloc (sk_refl w0) (.cells #[.int .i64 (outs a (-999999999) 999999999), .int .i64 (outs b 1 999999999)] 3))
  generalize (w0.alloc (.cells #[.int .i64 (outs a (-999999999) 999999999), .int .i64 (outs b 1 999999999)] 3)).drew = w1 at hch ⊢
  have hx := HX.out.below hch.1
  have c0' : w1.cell? ⟨w.heap.size, 0, none⟩ = some (.int .i64 a) := hx.cell 0
  have c1' : w1.cell? ⟨w.heap.size, 1, none⟩ = some (.int .i64 b) := hx.cell 1
  have HB1 := Lib.hid (HB0.out.trans (hch.1.mono HB0.out.size))
  clear c0 c1 hch hx HX HB0 hz
  by_cases hf : firstE [outs a (-999999999) 999999999, outs b 1 999999999] = 0
  · have HG := Lib.hid (ratioE_good hf)
    rw [hf]; clear hf
    go_wp2_with fail
    refine (divisorR_any _ _ ha hb _).mono ?_
    rintro e w2 ⟨rfl, hb2⟩
    have HB2 := Lib.hid (HB1.out.trans (hb2.mono HB1.out.size))
    clear hb2
    go_wp2_with fail
    refine (when_any _ _ _).mono ?_
    rintro e w3 ⟨rfl, rfl⟩
    go_wp2
    go_ret
    exact ⟨ret_int HG.out.symm, HB2.out⟩
  · have hf2 := ratioE_bad hf
    obtain ⟨z, hz⟩ : ∃ z, firstE [outs a (-999999999) 999999999, outs b 1 999999999] = z := ⟨_, rfl⟩
    rw [hz] at hf hf2 ⊢
    have HZ := Lib.hid hf2
    have hz' : (z != 0) = true := by simpa using hf
    clear hf2 hz
    go_wp2
    go_ret
    exact ⟨ret_int HZ.out.symm, HB1.out⟩

def IC (cs : Array Value) (l : List Int) (n : Nat) : Prop := l.length = n ∧ ∀ j, j < n → cs[j]? = some (.int .i64 (l.getD j 0))
theorem IC.set {cs : Array Value} {l : List Int} {n : Nat} (h : IC cs l n) (i : Nat) (v : Int) : IC (cs.setIfInBounds i (.int .i64 v)) (l.set i v) n := by
  refine ⟨by rw [List.length_set]; exact h.1, fun j hj => ?_⟩
  have hj2 := h.2 j hj
  have hcs : j < cs.size := (Array.getElem?_eq_some_iff.1 hj2).1
  rw [Array.getElem?_setIfInBounds]
  by_cases e : i = j
  · subst e
    rw [if_pos rfl, if_pos hcs]
    simp [List.getD, h.1, hj]
  · rw [if_neg e, hj2]
    simp [List.getD, e]
theorem rd_own {w : World} {B : Nat} {e : TypeId} {size : Nat} {A : Option Addr} {n c : Nat} {xs : List Value} (h : w.ownsRow B e size (.slice A n c) n xs) : Rd w A xs := fun h0 => by
  rcases h.2 with ⟨hv, hn⟩ | ⟨g, cap, cur, hv, hb, hg, _⟩
  · have := h.1; rw [hn] at this; omega
  · cases hv
    have hlt := (h.lt g rfl).2
    refine ⟨_, rfl, hlt, fun j u hj => ?_⟩
    exact h.cells (g := g) rfl j u hj
theorem own_cells {w : World} {B : Nat} {A : Option Addr} {n c : Nat} {l : List Int} (h : w.ownsRow B 3 1 (.slice A n c) n (l.map (.int .i64))) (hn : 0 < n) : ∃ g cs, n ≤ c ∧ A = some ⟨g, 0, none⟩ ∧ Blk w g 3 cs ∧ IC cs l n := by
  rcases h.2 with ⟨_, h0⟩ | ⟨g, cap, cur, hv, _, hg, hc, _, hcur, ht⟩
  · omega
  · cases hv
    have hl : l.length = n := by have := h.1; simpa using this
    refine ⟨g, cur, hc, rfl, hg, hl, fun j hj => ?_⟩
    have h1 : (cur.toList.take (n * 1))[j]? = some (.int .i64 (l.getD j 0)) := by
      rw [ht]; simp [List.getD, hl, hj]
    rw [List.getElem?_take, if_pos (by omega)] at h1
    simpa using h1
theorem rd_ic {w : World} {g n : Nat} {cs : Array Value} {l : List Int} (hb : Blk w g 3 cs) (h : IC cs l n) : Rd w (some ⟨g, 0, none⟩) (l.map (Value.int .i64)) := fun _ =>
  ⟨_, rfl, hb.lt, fun j u hj => by
    have hjl : j < l.length := by have := (List.getElem?_eq_some_iff.1 hj).1; simpa using this
    rw [add_blk, hb.cell j, h.2 j (by rw [← h.1]; exact hjl)]
    simp [hjl] at hj
    subst hj
    simp [List.getD, hjl]⟩
theorem upI_snoc (k : Nat) : upI (k + 1) = upI k ++ [(k : Int)] := by simp [upI, List.range_succ]
theorem swap_same (l : List Int) : swapI l 0 0 = l := by cases l <;> simp [swapI]
set_option maxRecDepth 100000 in
theorem drawR_ok (key : Int) (n : Nat) (hk : 1 ≤ key ∧ key ≤ 2147483646) (hn : n ≤ 256) (w : World) :
    Calls Tryz.prog 18 #[.int .i64 key, .int .i64 (n : Int)] w fun e w' => ∃ A c, e = .returned (.slice A n c) ∧ Rd w' A ((drawL key n).map (Value.int .i64)) ∧ Below w.heap.size w w' := by
  obtain ⟨i0, hi, hz0, hz1, hz2⟩ := info_parts info_int_
  go_enter Tryz.func18, Tryz.ntmps18
  go_wp2
  go_loopw [5, 6] (fun sv iv wr => ∃ k : Nat, k ≤ n ∧ iv = .int .i64 k ∧ wr.ownsRow w.heap.size 3 1 sv k ((upI k).map (.int .i64)) ∧ Below w.heap.size w wr) (fun _ i _ => n - (intOf i).toNat)
  case atStart => exact ⟨0, by omega, rfl, World.ownsRow_nil _ _ _ _, Below.refl _ _⟩
  case round =>
    obtain ⟨k, hkn, rfl, hown, hbel⟩ := hrel
    by_cases hlt : k < n
    · have HNB := Lib.hid (heap_alloc_new wr (.cells #[.int .i64 k] 3))
      have HO := Lib.hid hown; have HBel := Lib.hid hbel
      have hsz := hbel.size
      clear hown hbel
      go_wp2_with (at_builtin; go_must (refine wpList_append_own_at _ (by rfl) (.tmp 15) (.tmp 17) 25 (by rfl) w.heap.size 3 i0 (.int .i64 0) 1 8 Tryz.underlying25 hi hz0 hz1 hz2 (by rfl) (by decide) _ k ((upI k).map (.int .i64)) (by rfl) (HO.out.alloc _) ⟨wr.heap.size, 0, none⟩ 1 1 [.int .i64 k] rfl rfl (World.news_of_block HNB.out) (by simp [Value.oneCell']) (by unfold maxLen; omega) (by omega) (by simp; omega) ?_); intro v' w4 hown1 hgrow hnil hat1)
      go_roundw
      case rel =>
        refine ⟨k + 1, by omega, by go_num, by rw [upI_snoc, List.map_append]; exact hown1, ?_⟩
        exact (HBel.out.alloc HBel.out.size (.cells #[.int .i64 k] 3)).grown hgrow (by simp; omega) (fun r hr => (owns_block (HO.out.alloc (.cells #[.int .i64 k] 3)) r hr).1)
      case measure => simp [intOf]; omega
    · have : k = n := by omega
      subst this
      obtain ⟨A, c, rfl⟩ := own_shape hown
      have hrd0 := rd_own hown
      have HBel := Lib.hid hbel
      by_cases hk0 : k = 0
      · subst hk0
        clear hown hbel
        go_wp2
        go_loopw [7, 8] (fun xv iv wr2 => ∃ x : Int, xv = .int .i64 x ∧ iv = .int .i64 (-1) ∧ wr2 = wr) (fun _ _ _ => 0)
        case atStart => exact ⟨key, rfl, rfl, rfl⟩
        case round =>
          obtain ⟨x, rfl, rfl, rfl⟩ := hrel
          go_wp2
          go_ret
          exact ⟨A, c, rfl, fun h => by simp [drawL, drawGo_length, upI] at h, HBel.out⟩
      · obtain ⟨g, cs, hcap, rfl, hb, hic⟩ := own_cells hown (by omega)
        have hg := (owns_block hown g rfl).1
        clear hown hbel hrd0
        have HX := Lib.hid hb; have HIC := Lib.hid hic; clear hb hic
        go_wp2
        go_loopw [7, 8] (fun xv iv wr => ∃ (i x : Int) (l : List Int) (cs : Array Value), xv = .int .i64 x ∧ iv = .int .i64 i ∧ (0 ≤ x ∧ x ≤ 2147483646) ∧ (-1 ≤ i ∧ i < k) ∧ (0 ≤ i → drawGo i.toNat x l = drawL key k) ∧ (i < 0 → l = drawL key k) ∧ Blk wr g 3 cs ∧ IC cs l k ∧ Below w.heap.size w wr) (fun _ iv _ => (intOf iv + 1).toNat)
        case atStart => exact ⟨(k : Int) - 1, key, upI k, cs, rfl, rfl, by omega, by omega, fun _ => by unfold drawL; congr 1; omega, fun h => by omega, HX.out, HIC.out, HBel.out⟩
        case round =>
          obtain ⟨i, x, l, cs, rfl, rfl, hx, hi2, hgo, hend, hb, hic, hbel⟩ := hrel
          have HGO := Lib.hid hgo; have HEND := Lib.hid hend; have HIC := Lib.hid hic; clear hgo hend hic
          by_cases h1 : 0 ≤ i
          · obtain ⟨M, rfl⟩ : ∃ M : Nat, i = (M : Int) := ⟨i.toNat, by omega⟩
            obtain ⟨y, hy⟩ : ∃ y, 1226874159 * x % 2147483647 = y := ⟨_, rfl⟩
            have hyb : 0 ≤ y ∧ y ≤ 2147483646 := by omega
            obtain ⟨j, hj⟩ : ∃ j : Nat, y % ((M : Int) + 1) = (j : Int) := ⟨(y % ((M : Int) + 1)).toNat, by have := Int.emod_nonneg y (b := (M : Int) + 1) (by omega); omega⟩
            have hjb : j < M + 1 := by have := Int.emod_lt_of_pos y (b := (M : Int) + 1) (by omega); omega
            have HSW : RowKit.Hid ((0 ≤ (M : Int) - 1 → drawGo ((M : Int) - 1).toNat y (swapI l M j) = drawL key k) ∧ ((M : Int) - 1 < 0 → swapI l M j = drawL key k)) := Lib.hid ⟨fun h => by
                rw [← HGO.out (by omega), Int.toNat_natCast, drawGo_pos M x l (by omega)]
                unfold drawX
                rw [hy, hj, Int.toNat_natCast]
                congr 1; omega, fun h => by
                have hM0 : M = 0 := by omega
                have hj0 : j = 0 := by omega
                subst hM0; subst hj0
                rw [swap_same, ← HGO.out (by omega)]; rfl⟩
            have fM := hb.frozen M
            have fj := hb.frozen j
            have HBel := Lib.hid hbel
            have hkk : (M : Int) < (k : Int) := by omega
            have hjk : (j : Int) < (k : Int) := by omega
            have cM := (hb.cell M).trans (HIC.out.2 M (by omega))
            have HJ := Lib.hid hj; have HY := Lib.hid hy
            clear hbel
            by_cases hjm : j = M
            · subst hjm
              have HSW2 := Lib.hid ((hb.set_ j (.int .i64 (l.getD j 0))).set_ j (.int .i64 (l.getD j 0)))
              have HIC2 := Lib.hid ((HIC.out.set j (l.getD j 0)).set j (l.getD j 0))
              have HSI : RowKit.Hid (swapI l j j = (l.set j (l.getD j 0)).set j (l.getD j 0)) := Lib.hid rfl
              clear hb
              generalize l.getD j 0 = a at cM HSW2 HIC2 HSI
              go_wp2
              go_region
              go_wp2
              go_roundw
              case rel => exact ⟨_, y, _, _, by rw [HY.out], rfl, by omega, by omega, fun h => by rw [← HSI.out]; exact HSW.out.1 h, fun h => by rw [← HSI.out]; exact HSW.out.2 h, HSW2.out, HIC2.out, ((HBel.out.setCell (p := ⟨g, _, none⟩) hg _).setCell (p := ⟨g, _, none⟩) hg _).drew⟩
              case measure => simp [intOf] <;> omega
            · have cj := (hb.cell j).trans (HIC.out.2 j (by omega))
              have HSW2 := Lib.hid ((hb.set_ M (.int .i64 (l.getD j 0))).set_ j (.int .i64 (l.getD M 0)))
              have HIC2 := Lib.hid ((HIC.out.set M (l.getD j 0)).set j (l.getD M 0))
              have HSI : RowKit.Hid (swapI l M j = (l.set M (l.getD j 0)).set j (l.getD M 0)) := Lib.hid rfl
              clear hb
              generalize l.getD M 0 = a at cM HSW2 HIC2 HSI
              generalize l.getD j 0 = b at cj HSW2 HIC2 HSI
              have hjm' : ¬ M = j := fun h => hjm h.symm
              go_wp2
              go_region
              go_wp2
              go_roundw
              case rel => exact ⟨_, y, _, _, by rw [HY.out], rfl, by omega, by omega, fun h => by rw [← HSI.out]; exact HSW.out.1 h, fun h => by rw [← HSI.out]; exact HSW.out.2 h, HSW2.out, HIC2.out, ((HBel.out.setCell (p := ⟨g, _, none⟩) hg _).setCell (p := ⟨g, _, none⟩) hg _).drew⟩
              case measure => simp [intOf] <;> omega
          · have HB3 := Lib.hid hb; have HBel := Lib.hid hbel
            have HE : RowKit.Hid (l = drawL key k) := Lib.hid (HEND.out (by omega))
            clear hb hbel
            go_wp2
            go_ret
            exact ⟨_, ⟨_, rfl⟩, by rw [← HE.out]; exact rd_ic HB3.out HIC.out, HBel.out⟩

end Go.Proofs.YthbdiifinkbcnaaGreatDoor
