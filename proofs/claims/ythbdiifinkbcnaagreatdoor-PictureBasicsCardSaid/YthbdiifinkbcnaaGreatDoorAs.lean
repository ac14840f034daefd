/- The text of a picture. -/
import Derived.Test.YthbdiifinkbcnaaGreatDoorI
import Derived.Test.YthbdiifinkbcnaaGreatDoorAr
import Derived.Test.YthbdiifinkbcnaaGreatDoorAl
import Derived.StillTailTactics
import Derived.Lib.ItoaLen
import Derived.Maps.OwnIn
namespace Go.Proofs.YthbdiifinkbcnaaGreatDoor
open Go.RowKit
set_option linter.unusedVariables false
open Go.Shelf
attribute [local go_sem] Oper.semAt_some
def itoaB (n : Int) : ByteArray := ⟨(Lib.itoa n).toArray⟩
def wordsOf (l : List Nat) : List ByteArray := l.map (fun b => itoaB (lvl b))
def headWords (p : Pic) : List ByteArray := [⟨#[112, 105, 99, 116, 117, 114, 101]⟩, p.name, itoaB p.w, itoaB p.h]
def rowWords (l : List Nat) (k j : Nat) : List ByteArray := ⟨#[114, 111, 119]⟩ :: ((wordsOf l).drop (j * k)).take k
def printF (p : Pic) (k : Nat) (rows : List Nat) : List UInt8 := lineOf (headWords p) ++ rows.flatMap (fun j => lineOf (rowWords p.l k j))
theorem printF_snoc (p : Pic) (k : Nat) (rows : List Nat) (j : Nat) : printF p k (rows ++ [j]) = printF p k rows ++ lineOf (rowWords p.l k j) := by
  unfold printF; rw [List.flatMap_append, List.append_assoc]; simp
theorem lens_le (xs : List ByteArray) (h : ∀ x ∈ xs, x.size ≤ 24) : Lib.lens (xs.map fun x => x.data.toList) ≤ 24 * xs.length := by
  induction xs with
  | nil => simp [Lib.lens]
  | cons a l ih =>
    have h1 := ih fun x hx => h x (by simp [hx])
    have h2 := h a (by simp)
    have h3 : a.data.toList.length = a.size := Array.length_toList
    simp only [Lib.lens, List.map_cons, List.sum_cons, List.length_cons, List.map_map] at h1 ⊢
    omega
theorem lineOf_len (xs : List ByteArray) (h : ∀ x ∈ xs, x.size ≤ 24) : (lineOf xs).length ≤ 25 * xs.length + 1 := by
  unfold lineOf
  have hl := lens_le xs h
  cases xs with
  | nil => simp [Lib.join, List.intercalate]
  | cons a l =>
    simp only [List.map_cons, List.length_append, List.length_cons, List.length_nil] at hl ⊢
    rw [Lib.join_length]
    simp only [List.length_cons, List.length_nil, List.length_map]
    omega
theorem itoaB_size (n : Int) (h0 : -16384 ≤ n) (h1 : n ≤ 16384) : (itoaB n).size ≤ 24 := by
  have := Lib.itoa_length_le n (by omega) (by omega)
  simp [itoaB, ByteArray.size]; omega
theorem rowWords_len (l : List Nat) (k j : Nat) : (rowWords l k j).length ≤ k + 1 := by
  unfold rowWords; simp; omega
theorem rowWords_size (l : List Nat) (hl : ∀ b ∈ l, -16384 ≤ lvl b ∧ lvl b ≤ 16384) (k j : Nat) : ∀ x ∈ rowWords l k j, x.size ≤ 24 := by
  intro x hx
  unfold rowWords at hx
  rcases List.mem_cons.1 hx with rfl | hx
  · decide
  · have h2 := List.mem_of_mem_drop (List.mem_of_mem_take hx)
    unfold wordsOf at h2
    obtain ⟨b, hb, rfl⟩ := List.mem_map.1 h2
    exact itoaB_size _ (hl b hb).1 (hl b hb).2
theorem printF_len (p : Pic) (hw : ∀ x ∈ headWords p, x.size ≤ 24) (hl : ∀ b ∈ p.l, -16384 ≤ lvl b ∧ lvl b ≤ 16384) (k : Nat) (hk : k ≤ 64) (rows : List Nat) : (printF p k rows).length ≤ 101 + rows.length * 1626 := by
  unfold printF
  have h1 := lineOf_len (headWords p) hw
  have h2 : (rows.flatMap (fun j => lineOf (rowWords p.l k j))).length ≤ rows.length * 1626 := by
    induction rows with
    | nil => simp
    | cons a r ih =>
      have h3 := lineOf_len (rowWords p.l k a) (rowWords_size p.l hl k a)
      have h4 := rowWords_len p.l k a
      simp only [List.flatMap_cons, List.length_append, List.length_cons]
      omega
  simp only [headWords, List.length_cons, List.length_nil] at h1
  rw [List.length_append]
  unfold headWords
  omega
theorem itoaS_any (k : Nat) (hk : k < 100) (w : World) : Calls Tryz.prog 134 #[.int .i64 k] w fun e w' => e = .returned (.string (itoaB k)) ∧ w' = w := by
  refine (Any.strconv_Itoa_small sh_laysM171.ton171 k hk w).mono ?_
  rintro e w' ⟨rfl, rfl⟩
  exact ⟨rfl, rfl⟩
theorem Blk.trans' {w w' : World} {g B : Nat} {t : TypeId} {cs : Array Value} (h : Blk w g t cs) (hb : Below B w w') (hg : g < B) : Blk w' g t cs := (hb.block g hg).trans h
theorem others_blk {b : Nat} {W W' : World} (h : Lib.OthersKept 5 (some b) W W') {g : Nat} {t : TypeId} {cs : Array Value} (hb : Blk W g t cs) (hg : g ≠ b) (ht : t ≠ 5) : Blk W' g t cs :=
  h g _ hb (fun e => hg (by cases e; rfl)) (fun c fz e => ht (by cases e; rfl))
theorem others_keeps {b : Nat} {W W' : World} {o : Obj} (h : Lib.OthersKept 5 (some b) W W') (hs : W.heap.size ≤ W'.heap.size) (hb : W.heap[b]? = some o) (ho : o.isCells = true) : KeepsOthers W W' :=
  ⟨hs, fun k o' hk hc => h k o' hk (fun e => by cases e; rw [hb] at hk; cases hk; rw [ho] at hc; cases hc) (fun c fz e => by subst e; cases hc)⟩
theorem builderF_blk {T e : TypeId} {B b : Nat} {bs : List Value} {w : World} (h : Lib.IsBuilderF T e B b bs w) : ∃ cs, Blk w b T cs := by
  rcases h with ⟨_, v, h, _⟩ | ⟨_, v, h, _⟩ <;> exact ⟨_, h⟩
theorem builderF_kept {T e : TypeId} {B b : Nat} {bs : List Value} {w w' : World} {row : Option Nat} (h : Lib.IsBuilderF T e B b bs w) (hg : w.grownBy w' row) (hr : ∀ r, row = some r → ∃ o : Obj, w.heap[r]? = some o ∧ o.isCells = false) : Lib.IsBuilderF T e B b bs w' := by
  have keep : ∀ g cs t fz, w.heap[g]? = some (Obj.cells cs t fz) → w'.heap[g]? = some (Obj.cells cs t fz) := fun g cs t fz hc => by
    refine (hg.block g (Array.getElem?_eq_some_iff.1 hc).1 (fun e' => ?_)).trans hc
    obtain ⟨o, ho, hcs⟩ := hr g e'.symm
    rw [hc] at ho; cases ho; cases hcs
  have key : ∀ p, Lib.BuilderAtF T e B b p bs w → Lib.BuilderAtF T e B b p bs w' := fun p ⟨hB, v, hc, ⟨h1, h2⟩, hne⟩ => by
    refine ⟨hB, v, keep _ _ _ _ hc, ⟨h1, ?_⟩, hne⟩
    rcases h2 with h2 | ⟨g, cap, cur, fz, hv, hgb, hcu, h3⟩
    · exact .inl h2
    · exact .inr ⟨g, cap, cur, fz, hv, hgb, keep _ _ _ _ hcu, h3⟩
  exact h.elim (fun x => .inl (key _ x)) (fun x => .inr (key _ x))
theorem enters_itoa : Enters Tryz.prog 134 := fun a w => by kernel_rfl
set_option maxRecDepth 100000 in
set_option maxHeartbeats 2000000 in
theorem print_in (p : Pic) (hp : p.Ok) (he : p.err = 0) (k h : Nat) (hk : p.w = (k : Int)) (hh : p.h = (h : Int)) (A : Option Addr) (c : Nat) (w : World) (hs : p.name.size ≤ maxLen) (hr : Rd w A (fl p.l))
    (htab : Lib.TabIs Tryz.prog w "internal/strconv.uint64pow10" .u64 Lib.pow10Tab) :
    CallsIn Fence.wide 6 Tryz.prog 76 #[p.val A c] w fun e w' => e = .returned (.tuple #[.string ⟨(printF p k (List.range h)).toArray⟩, .int .i64 0]) ∧ Below w.heap.size w w' := by
  have hl : p.l.length ≤ maxLen := by have := hp.big; unfold maxLen; omega
  have HR := Lib.hid hr; have HP := Lib.hid hp; have HE := Lib.hid he
  clear hr he
  have h1 : 1 ≤ 6 := by omega
  have hro : Fence.wide.round = none := rfl
  have HTAB := Lib.hid (Lib.tabBelow_of_tabIs htab)
  clear htab
  have hcp := fun w hr => checkPicture_any p A c w hs hl hr
  rw [HE.out] at hcp
  have HCP := Lib.hid hcp; clear hcp
  have HL := Lib.hid (fun w hr => levels_any p.l HP.out.big HP.out.ok A c w hr)
  have hk1 : 1 ≤ k := by have := hp.w1; omega
  have hk2 : k ≤ 64 := by have := hp.w2; omega
  have hh1 : 1 ≤ h := by have := hp.h1; omega
  have hh2 : h ≤ 64 := by have := hp.h2; omega
  have hlen : p.l.length = h * k := by have := hp.len; rw [hk, hh, Int.mul_comm] at this; exact_mod_cast this
  have hbig := hp.big
  have HLEN := Lib.hid hlen
  clear hp hlen
  unfold Pic.val at HCP ⊢
  rw [hk, hh] at HCP ⊢
  refine callsIn_of_wp_marks Tryz.func76 rfl trivial ?_ hro
  simp only [Tryz.ntmps76, List.size_toArray, List.length_cons, List.length_nil, Nat.reduceAdd, Nat.reduceSub, Array.replicate_succ, Array.replicate_zero, List.push_toArray, List.append_toArray, List.nil_append, List.cons_append]
  refine wpIn_wide.2 ?_
  go_wp2_with fail
  have hbx := Blk.new w 50 #[.string p.name, .int .i64 k, .int .i64 h, .slice A p.l.length c]
  have hb0 : Below w.heap.size w (w.alloc (.cells #[.string p.name, .int .i64 k, .int .i64 h, .slice A p.l.length c] 50)) := (Below.refl _ _).alloc (Nat.le_refl _) _
  generalize w.alloc (.cells #[.string p.name, .int .i64 k, .int .i64 h, .slice A p.l.length c] 50) = w0 at hbx hb0 ⊢
  have HB0 := Lib.hid hb0; have HX0 := Lib.hid hbx; clear hb0 hbx
  refine (HCP.out _ (by exact HR.out.below HB0.out)).mono ?_
  rintro e w1 ⟨rfl, hb1⟩
  have HX1 := Lib.hid (HX0.out.below hb1)
  have HB1 := Lib.hid (HB0.out.trans (hb1.mono HB0.out.size)); clear hb1
  go_upto_region 5 with fail
  have hbn := builderF_new w1
  have hx2 := HX1.out.alloc (.cells #[.pointer none, .slice none 0 0] 186)
  have hb2 := HB1.out.alloc HB1.out.size (.cells #[.pointer none, .slice none 0 0] 186)
  have hnb : w.heap.size < w1.heap.size := HX1.out.lt
  have hsz : (w1.alloc (.cells #[.pointer none, .slice none 0 0] 186)).heap.size = w1.heap.size + 1 := by simp only [World.size_alloc]
  obtain ⟨b, hbe⟩ : ∃ b, w1.heap.size = b := ⟨_, rfl⟩
  rw [hbe] at hbn hnb hsz ⊢
  clear hbe
  generalize w1.alloc (.cells #[.pointer none, .slice none 0 0] 186) = w2 at hbn hx2 hb2 hsz ⊢
  have HBN := Lib.hid hbn; have HX2 := Lib.hid hx2; have HB2 := Lib.hid hb2; have HSZ := Lib.hid hsz
  obtain ⟨c0, c1, c2, c3⟩ := box4 hx2
  have zx := hx2.lt
  clear hbn hx2 hb2 hsz HX1 HB1
  refine wp_region_still_tail 8 (by kernel_rfl) (by kernel_rfl) ?_
  simp only [List.take_succ_cons, List.take_zero, List.drop_succ_cons, List.drop_zero]
  still_step
  still_step
  still_step
  still_step
  still_call (itoaS_any k (by omega) _)
  still_step
  still_step
  still_call (itoaS_any h (by omega) _)
  refine wpStill_nil ?_
  change wpList _ _ _ _ _ w2.drew
  have HBN3 : RowKit.Hid (Lib.IsBuilderF 186 5 b b [] w2.drew) := Lib.hid HBN.out
  have HX3 : RowKit.Hid (Blk w2.drew w.heap.size 50 #[.string p.name, .int .i64 k, .int .i64 h, .slice A p.l.length c]) := Lib.hid HX2.out
  have HB3 := Lib.hid HB2.out.drew
  have HSZ3 : RowKit.Hid (w2.drew.heap.size = b + 1) := Lib.hid HSZ.out
  clear HBN HX2 HB2 HSZ c0 c1 c2 c3 zx
  generalize w2.drew = w3 at HBN3 HX3 HB3 HSZ3 ⊢
  go_wp2_with fail
  have hbw := Blk.new w3 9 #[.string ⟨#[112, 105, 99, 116, 117, 114, 101]⟩, .string p.name, .string (itoaB k), .string (itoaB h)]
  have HWD : RowKit.Hid (headWords p = [⟨#[112, 105, 99, 116, 117, 114, 101]⟩, p.name, itoaB k, itoaB h]) := Lib.hid (by unfold headWords; rw [hk, hh])
  have hnm : p.name.size ≤ 24 := by
    have h0 := HP.out.name
    unfold nameOk at h0
    simp at h0; omega
  have HWS : RowKit.Hid (∀ x ∈ headWords p, x.size ≤ 24) := Lib.hid (by
    rw [HWD.out]
    intro x hx
    simp only [List.mem_cons, List.not_mem_nil, or_false] at hx
    rcases hx with rfl | rfl | rfl | rfl
    · decide
    · exact hnm
    · exact itoaB_size _ (by omega) (by omega)
    · exact itoaB_size _ (by omega) (by omega))
  have hll := lineOf_len _ HWS.out
  rw [HWD.out] at hll
  simp only [List.length_cons, List.length_nil] at hll
  have hcw : ∀ (j : Nat) (x : ByteArray), [⟨#[112, 105, 99, 116, 117, 114, 101]⟩, p.name, itoaB k, itoaB h][j]? = some x → (w3.alloc (.cells #[.string ⟨#[112, 105, 99, 116, 117, 114, 101]⟩, .string p.name, .string (itoaB k), .string (itoaB h)] 9)).cell? ⟨w3.heap.size, 0 + j, none⟩ = some (.string x) := fun j x hj => by
    rw [Nat.zero_add, hbw.cell j]
    match j, hj with
    | 0, hj => cases hj; rfl
    | 1, hj => cases hj; rfl
    | 2, hj => cases hj; rfl
    | 3, hj => cases hj; rfl
    | (n + 4), hj => simp at hj
  refine (printLine_any b b [] w3.heap.size 0 4 4 [⟨#[112, 105, 99, 116, 117, 114, 101]⟩, p.name, itoaB k, itoaB h] rfl _ (builderF_below HBN3.out ((Below.refl _ _).alloc (Nat.le_refl _) _)) (by rw [World.size_alloc, HSZ3.out]; omega) hcw (by simp) (by simp) (by simp) (by simp only [List.length_nil]; omega)).mono ?_
  rintro e w5 ⟨rfl, hbn5, hb5, ho5⟩
  rw [List.nil_append, ← HWD.out] at hbn5
  have HBN5 := Lib.hid hbn5
  have HX5 := Lib.hid ((HX3.out.alloc (.cells #[.string ⟨#[112, 105, 99, 116, 117, 114, 101]⟩, .string p.name, .string (itoaB k), .string (itoaB h)] 9)).trans' hb5 hnb)
  have HB5 := Lib.hid ((HB3.out.alloc HB3.out.size (.cells #[.string ⟨#[112, 105, 99, 116, 117, 114, 101]⟩, .string p.name, .string (itoaB k), .string (itoaB h)] 9)).trans (hb5.mono (by omega)))
  clear hbn5 hb5 ho5 hcw hll hbw HBN3 HX3 HB3 HSZ3
  obtain ⟨c0, c1, c2, c3⟩ := box4 HX5.out
  go_wp2_with fail
  refine (HL.out _ (by exact HR.out.below HB5.out)).mono ?_
  rintro e w6 ⟨ad, rfl, hrd, hb6⟩
  have HBN6 := Lib.hid (builderF_below HBN5.out hb6)
  have HX6 := Lib.hid (HX5.out.below hb6)
  have HB6 := Lib.hid (HB5.out.trans (hb6.mono HB5.out.size))
  have HRD := Lib.hid hrd
  clear hb6 hrd c0 c1 c2 c3 HBN5 HX5 HB5
  go_wp2_with fail
  have hmap := mapIS_at (some ad) p.l.length (p.l.map lvl) 134 itoaB w6 (by simp; omega) (by rw [List.map_map]; exact HRD.out) enters_itoa (fun x hx wr hbr => by
    obtain ⟨y, hy, rfl⟩ := List.mem_map.1 hx
    have hb := HP.out.lv hy
    exact itoa_any _ (by omega) (by omega) wr (HTAB.out wr (HB6.out.trans (hbr.mono HB6.out.size))))
  rw [List.length_map] at hmap
  refine hmap.mono ?_
  rintro e w7 ⟨rfl, ⟨C, hC, hCs, hCw⟩, hb7⟩
  have HBN7 := Lib.hid (builderF_below HBN6.out hb7)
  have HX7 := Lib.hid (HX6.out.below hb7)
  have HB7 := Lib.hid (HB6.out.trans (hb7.mono HB6.out.size))
  have hbb : b < w6.heap.size := (builderF_blk HBN6.out).elim (fun _ h => h.lt)
  obtain ⟨g, hg⟩ : ∃ g, w6.heap.size = g := ⟨_, rfl⟩
  rw [hg] at hC hbb ⊢
  have HC := Lib.hid hC
  have HCW : RowKit.Hid (∀ (j : Nat) (x : ByteArray), (wordsOf p.l)[j]? = some x → C[j]? = some (.string x)) := Lib.hid (fun j x hj => by
    unfold wordsOf at hj
    obtain ⟨y, hy, rfl⟩ := Option.map_eq_some_iff.1 (List.getElem?_map .. ▸ hj)
    exact hCw j (lvl y) (by rw [List.getElem?_map, hy]; rfl))
  clear hC hCw hb7 hmap hg HRD HBN6 HX6 HB6
  obtain ⟨c0, c1, c2, c3⟩ := box4 HX7.out
  go_wp2_with fail
  refine (callsIn_wide.1 (chunk_in Fence.wide 3 trivial hro _ _ _ k hk1 _)).mono ?_
  rintro e w' ⟨rfl, rfl⟩
  go_wp2
  rw [HLEN.out]
  have hq0 := (Blk.new w7 189 #[.slice (some ⟨g, 0, none⟩) (h * k) (h * k)]).alloc (.cells #[.int .i64 k] 3)
  have hq1 := Blk.new (w7.alloc (.cells #[.slice (some ⟨g, 0, none⟩) (h * k) (h * k)] 189)) 3 #[.int .i64 k]
  simp only [World.size_alloc] at hq1
  have hb70 : Below w7.heap.size w7 ((w7.alloc (.cells #[.slice (some ⟨g, 0, none⟩) (h * k) (h * k)] 189)).alloc (.cells #[.int .i64 k] 3)) := ((Below.refl _ _).alloc (Nat.le_refl _) _).alloc (by simp) _
  have hsz : ((w7.alloc (.cells #[.slice (some ⟨g, 0, none⟩) (h * k) (h * k)] 189)).alloc (.cells #[.int .i64 k] 3)).heap.size = w7.heap.size + 2 := by simp only [World.size_alloc]
  have hbs : b < w7.heap.size := (builderF_blk HBN7.out).elim (fun _ h => h.lt)
  have hgs : g < w7.heap.size := HC.out.lt
  have HBN8 := Lib.hid (builderF_below HBN7.out hb70)
  have HC8 := Lib.hid (HC.out.below hb70)
  have HB8 := Lib.hid (HB7.out.trans (hb70.mono HB7.out.size))
  obtain ⟨q, hq⟩ : ∃ q, w7.heap.size = q := ⟨_, rfl⟩
  rw [hq] at hq0 hq1 hb70 hsz hbs hgs ⊢
  generalize (w7.alloc (.cells #[.slice (some ⟨g, 0, none⟩) (h * k) (h * k)] 189)).alloc (.cells #[.int .i64 k] 3) = W0 at hq0 hq1 hb70 hsz HBN8 HC8 HB8 ⊢
  have HSZ := Lib.hid hsz
  clear hq hsz hb70 c0 c1 c2 c3 HBN7 HC HX7 HB7
  have hbig2 : h * k ≤ 4096 := by rw [← HLEN.out]; exact hbig
  refine (wpIn_wide (n := 6)).1 ?_
  refine wpIn_rangeFunc_ownF hro h1 (gf := 175) (lb := #[.pointer (some ⟨q, 0, none⟩), .pointer (some ⟨q + 1, 0, none⟩)]) rfl trivial (enters_of Tryz.func175 (by kernel_rfl) rfl)
    (chunks_seq Fence.wide 5 trivial hro (by omega) q (q + 1) g k h (h * k) hk1 hk2 hh2 (Nat.le_refl _) (by unfold maxLen; omega) W0 hq0 hq1) keepsTwo_t (fun W l o o' _ hl ho _ => keepsTwo_put W l o o' hl ho) (Below.refl _ _) (fun _ => rfl)
    (fun pre W => (Lib.IsBuilderF 186 5 b b (Lib.byteCells (printF p k (rowV pre))) W ∧ Blk W g 9 C) ∧ Below w.heap.size w W)
    (fun _ _ _ => False)
    (OwnFrom.and (Own.from (fun s A B row hs hg hr => ⟨builderF_kept hs.1 hg hr, blk_kept hs.2 hg hr⟩) _) (ownFrom_below (Nat.le_refl _) (by rw [HSZ.out]; omega)))
    (fun _ _ _ _ _ hs _ _ => hs)
    ⟨⟨by unfold printF rowV; simpa using HBN8.out, HC8.out⟩, HB8.out⟩
    (fun x => { tmps := #[.agg #[.string p.name, .int .i64 k, .int .i64 h, .slice A (h * k) c], .pointer (some ⟨w.heap.size, 0, none⟩), .string ⟨#[]⟩, .int .i64 0, .int .i64 0, .pointer (some ⟨b, 0, none⟩), .slice (some ⟨g, 0, none⟩) (h * k) (h * k), .slice (some ⟨g, x.1 * k, none⟩) k k, .agg #[.string p.name, .int .i64 k, .int .i64 h, .slice A (h * k) c], .int .i64 0, .int .i64 0, .bool false, undef, .pointer (some ⟨w.heap.size, 0, none⟩), .string p.name, .pointer (some ⟨w.heap.size, 1, none⟩), .int .i64 k, .string (itoaB k), .pointer (some ⟨w.heap.size, 2, none⟩), .int .i64 h, .string (itoaB h), .slice (some ⟨w3.heap.size, 0, none⟩) 4 4, .tuple #[], .pointer (some ⟨w.heap.size, 3, none⟩), .slice A (h * k) c, .slice (some ad) (h * k) (h * k), .slice (some ⟨g, 0, none⟩) (h * k) (h * k), .slice (some ⟨g, 0, none⟩) (h * k) (h * k), .pointer (some ⟨w.heap.size, 1, none⟩), .int .i64 k, .func (.func 175) #[] #[.pointer (some ⟨q, 0, none⟩), .pointer (some ⟨q + 1, 0, none⟩)], .slice (some ⟨g, x.1 * k, none⟩) k k, undef, undef, undef, undef, undef], defers := [] }) ?assign ?body ?done ?stop
  case assign =>
    intro l x W K hK
    gi_wp2
    exact hK
  case body =>
    rintro l pre x W ⟨⟨hbn, hC⟩, hB⟩ hlt
    obtain ⟨i0, hi, hz0, hz1, hz2⟩ := info_parts info_mapIS
    have hxl := x.2
    obtain ⟨T, hT⟩ : ∃ T, printF p k (rowV pre) = T := ⟨_, rfl⟩
    have HT : RowKit.Hid (printF p k (rowV (pre ++ [x])) = T ++ lineOf (rowWords p.l k x.1)) := Lib.hid (by rw [rowV_snoc, printF_snoc, hT])
    have hTl := printF_len p HWS.out (fun b hb => HP.out.lv hb) k hk2 (rowV pre)
    have hrl : (rowV pre).length = pre.length := by simp [rowV]
    rw [hT, hrl] at hTl
    rw [hT] at hbn
    clear hT hrl
    obtain ⟨j, hj⟩ : ∃ j : Nat, x.1 = j := ⟨_, rfl⟩
    rw [hj] at HT hxl ⊢
    clear hj
    have hjk : j * k + k ≤ h * k := by rw [← Nat.succ_mul]; exact Nat.mul_le_mul_right k hxl
    have hwl : (wordsOf p.l).length = h * k := by unfold wordsOf; rw [List.length_map, HLEN.out]
    have hnl : (((wordsOf p.l).drop (j * k)).take k).length = k := by rw [List.length_take, List.length_drop, hwl]; omega
    have hrw : rowWords p.l k j = ⟨#[114, 111, 119]⟩ :: ((wordsOf p.l).drop (j * k)).take k := rfl
    obtain ⟨ws, hws⟩ : ∃ ws, ((wordsOf p.l).drop (j * k)).take k = ws := ⟨_, rfl⟩
    have hcell : ∀ (i : Nat) (u : ByteArray), ws[i]? = some u → C[j * k + i]? = some (.string u) := fun i u hu => by
      rw [← hws] at hu
      have hik : i < k := by rw [← hnl]; rw [hws] at hu ⊢; exact (List.getElem?_eq_some_iff.1 hu).1
      rw [List.getElem?_take_of_lt hik, List.getElem?_drop] at hu
      exact HCW.out _ _ hu
    rw [hws] at hnl hrw
    clear hws hwl
    have hC2 := hC.alloc (.cells #[.string ⟨#[114, 111, 119]⟩] 9)
    have hnews : ∀ (i : Nat) (u : Value), (ws.map Value.string)[i]? = some u → (W.alloc (.cells #[.string ⟨#[114, 111, 119]⟩] 9)).cell? ((⟨g, j * k, none⟩ : Addr).add i) = some u := fun i u hu => by
      have e : (⟨g, j * k, none⟩ : Addr).add i = ⟨g, j * k + i, none⟩ := by unfold Addr.add; split <;> simp_all
      rw [e, hC2.cell]
      rw [List.getElem?_map] at hu
      obtain ⟨y, hy, rfl⟩ := Option.map_eq_some_iff.1 hu
      exact hcell i y hy
    have hown0 : (W.alloc (.cells #[.string ⟨#[114, 111, 119]⟩] 9)).ownsRow W.heap.size 9 1 (.slice (some ⟨W.heap.size, 0, none⟩) 1 1) 1 [.string ⟨#[114, 111, 119]⟩] := ⟨rfl, .inr ⟨W.heap.size, 1, #[.string ⟨#[114, 111, 119]⟩], rfl, Nat.le_refl _, heap_alloc_new W _, Nat.le_refl _, by unfold maxLen; omega, rfl, rfl⟩⟩
    have HBN := Lib.hid hbn; have HC := Lib.hid hC; have HB := Lib.hid hB; have HN := Lib.hid hnews; have HO := Lib.hid hown0; have HNL := Lib.hid hnl; have HRW := Lib.hid hrw
    have hbs2 : b < W.heap.size := (builderF_blk hbn).elim (fun _ h => h.lt)
    have hgs2 : g < W.heap.size := hC.lt
    clear hbn hC hB hnews hown0 hnl hrw hcell hC2
    gi_wp2_with (gi_at_builtin; go_must (refine wpListIn_append_own_at _ (by rfl) (.tmp 32) (.tmp 33) 189 (by rfl) W.heap.size 9 i0 (.string ByteArray.empty) 1 16 Tryz.underlying189 hi hz0 hz1 hz2 (by rfl) (by decide) (.slice (some ⟨W.heap.size, 0, none⟩) 1 1) 1 [.string ⟨#[114, 111, 119]⟩] (by rfl) HO.out ⟨g, j * k, none⟩ k k (ws.map Value.string) rfl (by rw [List.length_map, HNL.out, Nat.mul_one]) HN.out (by simp [Value.oneCell']) (by unfold maxLen; omega) (by omega) (by simp) ?_); intro v' W4 hown1 hgrow hnil hat1; have HOWN := Lib.hid hown1; have HGR := Lib.hid hgrow; clear hown1 hgrow hnil hat1)
    refine ⟨trivial, ?_⟩
    have HBW := Lib.hid (((Below.refl W.heap.size W).alloc (Nat.le_refl _) (.cells #[.string ⟨#[114, 111, 119]⟩] 9)).grown HGR.out (by simp) (fun k hk => by cases hk; exact Nat.le_refl _))
    have hcs := fun (g1 : Nat) (hg1 : v'.ownBlock = some g1) => HOWN.out.cells hg1
    rcases HOWN.out.2 with ⟨_, h0⟩ | ⟨g', c4, cur, rfl, hg', hcur, hle, hmx, _, _⟩
    · omega
    have hcl := lineOf_len (⟨#[114, 111, 119]⟩ :: ws) (by rw [← HRW.out]; exact rowWords_size p.l (fun b hb => HP.out.lv hb) k j)
    rw [List.length_cons, HNL.out] at hcl
    have hlc : (⟨#[114, 111, 119]⟩ :: ws : List ByteArray).length = 1 + k := by rw [List.length_cons, HNL.out]; omega
    have hcc : ∀ (i : Nat) (u : ByteArray), (⟨#[114, 111, 119]⟩ :: ws)[i]? = some u → W4.cell? ⟨g', 0 + i, none⟩ = some (.string u) := fun i u hu => by
      have h2 := hcs g' rfl i (.string u) (by
        have h3 : ([Value.string ⟨#[114, 111, 119]⟩] ++ ws.map Value.string) = (⟨#[114, 111, 119]⟩ :: ws).map Value.string := rfl
        rw [h3, List.getElem?_map, hu]; rfl)
      rw [Nat.zero_add]
      have e : (⟨g', 0, none⟩ : Addr).add i = ⟨g', i, none⟩ := by unfold Addr.add; split <;> simp_all
      rwa [e] at h2
    refine (CallsIn.inRound l (callsIn_wide.2 (printLine_any b b T g' 0 c4 (1 + k) (⟨#[114, 111, 119]⟩ :: ws) hlc W4 (builderF_below HBN.out HBW.out) (by have := HBW.out.size; omega) hcc (Array.getElem?_eq_some_iff.1 hcur).1 (by rw [hlc]; omega) (by rw [hlc]; omega) (by have : pre.length * 1626 ≤ 64 * 1626 := Nat.mul_le_mul_right _ (by omega); omega)))).mono ?_
    rintro e W5 ⟨rfl, hbn5, hb5, ho5⟩
    obtain ⟨cs0, hcs0⟩ := builderF_blk (builderF_below HBN.out HBW.out)
    have HK5 := Lib.hid ((keeps_below HBW.out).trans (others_keeps ho5 hb5.size hcs0 rfl))
    have HO5 := Lib.hid ho5; have HB5 := Lib.hid hb5; have HBN5 := Lib.hid hbn5
    clear hbn5 hb5 ho5 hcs hcur hcc hcs0
    gi_wp2
    refine ⟨HK5.out, ⟨fun cs hq => ?_, fun cs hq => ?_⟩, ⟨?_, ?_⟩, ?_⟩
    · exact others_blk HO5.out (hq.below HBW.out) (by omega) (by decide)
    · exact others_blk HO5.out (hq.below HBW.out) (by omega) (by decide)
    · rw [HT.out, HRW.out]; exact HBN5.out
    · exact others_blk HO5.out (HC.out.below HBW.out) (by omega) (by decide)
    · exact (HB.out.trans (HBW.out.mono HB.out.size)).trans (HB5.out.mono (by omega))
  case done =>
    rintro D ys W hD hys ⟨⟨hbn, hC⟩, hB⟩ hK
    rw [hys] at hbn
    have HBN := Lib.hid hbn; have HB := Lib.hid hB
    have hbs2 : b < W.heap.size := (builderF_blk hbn).elim (fun _ h => h.lt)
    have hDb : D ≠ b := fun e => by
      obtain ⟨cs, hcs⟩ := builderF_blk hbn
      unfold Blk at hcs; subst e; rw [hK] at hcs; cases hcs
    have hD2 : w.heap.size ≤ D := by have := HB8.out.size; omega
    clear hbn hB hC
    go_wp2_with fail
    refine (builderString_any b b (printF p k (List.range h)) W HBN.out (by omega)).mono ?_
    rintro e W5 ⟨rfl, hbn5, hb5, ho5⟩
    have hK5 : W5.heap[D]? = some (.deferred (some [])) := ho5 D _ hK (fun e => hDb (by cases e; rfl)) (fun c fz e => by cases e)
    have hBB := hb5.mono (show w.heap.size ≤ b by omega)
    go_wp2
    refine ⟨by simp, .inl ⟨_, _, rfl, run_takeDeferred hK5, ?_⟩⟩
    refine ⟨.tuple #[.string ⟨(printF p k (List.range h)).toArray⟩, .int .i64 0], by simp [results, Tryz.results76, go_sem], rfl, ?_⟩
    exact (HB.out.trans hBB).trans (belowK_b (w := w) (Nat.le_refl _) W5 D _ _ hD2 hK5 rfl rfl)
  case stop =>
    rintro D c pre W _ _ h _
    exact h.elim
theorem print_ok (p : Pic) (hp : p.Ok) (he : p.err = 0) (k h : Nat) (hk : p.w = (k : Int)) (hh : p.h = (h : Int)) (A : Option Addr) (c : Nat) (w : World) (hs : p.name.size ≤ maxLen) (hr : Rd w A (fl p.l))
    (htab : Lib.TabIs Tryz.prog w "internal/strconv.uint64pow10" .u64 Lib.pow10Tab) :
    Calls Tryz.prog 76 #[p.val A c] w fun e w' => e = .returned (.tuple #[.string ⟨(printF p k (List.range h)).toArray⟩, .int .i64 0]) ∧ Below w.heap.size w w' :=
  callsIn_wide.1 (print_in p hp he k h hk hh A c w hs hr htab)

end Go.Proofs.YthbdiifinkbcnaaGreatDoor
