/- Parts of a proof: The stream of a picture. Spans compared. -/
import Derived.Test.YtkjkjhheckfhbaaGreatDoorPE
import Derived.Test.YtkjkjhheckfhbaaGreatDoorV
import Derived.Maps.AppendAt
import Derived.Lib.AppendStr
import Derived.Lib.SlBytesConst
import Derived.ArgAppend
import Derived.Test.YtkjkjhheckfhbaaGreatDoorPM
import Derived.Test.YtkjkjhheckfhbaaGreatDoorPF
import Derived.Laws.StructEq
namespace Go.Proofs.YtkjkjhheckfhbaaGreatDoor
open Go.RowKit
set_option linter.unusedVariables false
theorem info_u8 : (Tryz.prog.info? 5).map (fun i => (i.zero, i.size, i.bytes)) = some (some (.int .u8 0), 1, 1) := by kernel_rfl
/-- The four bytes of a word. -/
def word4 (n : Int) : List Value := [.int .u8 (n / 16777216), .int .u8 (n / 65536 % 256), .int .u8 (n / 256 % 256), .int .u8 (n % 256)]
set_option maxRecDepth 100000 in
theorem appendWord_own (B : Nat) (v : Value) (n : Nat) (xs : List Value) (x : Int) (hx : 0 ≤ x ∧ x < 4294967296) (w : World) (hown : w.ownsRow B 5 1 v n xs) (hn : n ≤ 1000000) (hB : B ≤ w.heap.size) :
    Calls Tryz.prog 144 #[v, .int .u32 x] w fun e w' => ∃ v', e = .returned v' ∧ w'.ownsRow B 5 1 v' (n + 4) (xs ++ word4 x) ∧ w.grownBy w' v.ownBlock ∧ (v'.ownBlock = v.ownBlock ∨ ∃ h, w.heap.size ≤ h ∧ v'.ownBlock = some h) := by
  obtain ⟨i0, hi, hz0, hz1, hz2⟩ := info_parts info_u8
  go_enter Tryz.func144, Tryz.ntmps144
  go_wp2_with (at_builtin; go_must (refine wpList_append_own_at _ (by rfl) (.tmp 5) (.tmp 17) 106 (by rfl) B 5 i0 (.int .u8 0) 1 1 Tryz.underlying106 hi hz0 hz1 hz2 rfl (by decide) v n xs (by rfl) (hown.alloc _) ⟨w.heap.size, 0, none⟩ 4 4 (word4 x) rfl rfl (World.news_of_block (heap_alloc_new w _)) (by simp [word4, Value.oneCell']) (by unfold maxLen; omega) (by omega) (by simp; omega) ?_); intro v' w1 hown1 hgrow hnil hat)
  have hg : w.grownBy w1 v.ownBlock := ⟨hgrow.os, hgrow.tape, hgrow.output, Nat.le_trans (by simp) hgrow.size, fun i hi hne => (hgrow.block i (by simp; omega) hne).trans (Below.heap_alloc w _ i hi)⟩
  go_ret
  refine ⟨v', rfl, hown1, hg, ?_⟩
  rcases hat with h | h
  · exact .inl h
  · exact .inr ⟨_, by simp, h⟩
def u8 (x : Int) : U8 := ⟨x % 256, by omega⟩
def word4U (n : Int) : List U8 := [u8 (n / 16777216), u8 (n / 65536), u8 (n / 256), u8 n]
def u8V (b : U8) : Value := .int .u8 b.1
theorem word4_eq (n : Int) (h : 0 ≤ n ∧ n < 4294967296) : word4 n = (word4U n).map u8V := by
  have : n / 16777216 % 256 = n / 16777216 := by omega
  simp [word4, word4U, u8V, u8, this]
theorem brd_of_own {w : World} {B g n cap : Nat} {bs : List U8} (h : w.ownsRow B 5 1 (.slice (some ⟨g, 0, none⟩) n cap) n (bs.map u8V)) (hn : bs.length = n) : BRd w.heap.size w (some ⟨g, 0, none⟩) bs := fun _ => by
  have hg := h.lt g rfl
  refine ⟨_, rfl, hg.2, fun j hj => ?_⟩
  exact h.cells (g := g) rfl j (.int .u8 (bs.getD j u0).1) (by simp [u8V, List.getD, hj])
theorem checksum_any (A : Option Addr) (cap : Nat) (bs : List U8) (hlen : bs.length ≤ 1000000) (w : World) (hL : BRd w.heap.size w A bs) :
    Calls Tryz.prog 147 #[.slice A bs.length cap] w fun e w' => e = .returned (.int .u32 (rollF 263 16777183 bs 1)) ∧ Below w.heap.size w w' := by
  have hb := rollF_bd 263 16777183 (by omega) bs 1 (by omega)
  have HL := Lib.hid hL; clear hL
  obtain ⟨x, hx⟩ : ∃ x, rollF 263 16777183 bs 1 = x := ⟨_, rfl⟩
  rw [hx] at hb ⊢
  have HX := Lib.hid hx; clear hx
  go_enter Tryz.func147, Tryz.ntmps147
  go_wp2_with fail
  refine (check_any A cap bs 263 16777183 (by omega) (by omega) (by omega) w HL.out).mono ?_
  rintro e w1 ⟨rfl, hb1⟩
  rw [HX.out]
  go_wp2
  go_ret
  exact ⟨rfl, hb1⟩
theorem f32bits (x : Nat) (w : World) : (callFunc 145 #[.float .f32 x]).run Tryz.prog w = .ok (.value (.int .u32 x)) w := by kernel_rfl
theorem smp_lt (n : Int) (h : n.natAbs ≤ 1000000) : smp n < 4294967296 := by
  have := floatBits_wf (smp_facts n h).1
  simpa [Lit.wf] using this
def bytesU (s : ByteArray) : List U8 := s.data.toList.map (fun b => ⟨b.toNat, by have := b.toNat_lt; omega⟩)
theorem strCells_eq (s : ByteArray) : Lib.strCells s = (bytesU s).map u8V := by simp [Lib.strCells, bytesU, u8V]
theorem bytesU_length (s : ByteArray) : (bytesU s).length = s.size := by simp [bytesU]
def magicU : List U8 := [u8 80, u8 73, u8 67, u8 84]
def headU (nm : ByteArray) (W H : Nat) : List U8 := magicU ++ [u8 nm.size] ++ bytesU nm ++ [u8 W, u8 H]
def bodyU (l : List Nat) : List U8 := l.flatMap (fun b => word4U (smp (lvl b)))
theorem bodyU_snoc (l : List Nat) (k : Nat) (h : k < l.length) : bodyU (l.take (k + 1)) = bodyU (l.take k) ++ word4U (smp (lvl (l.getD k 0))) := by
  have : l.take (k + 1) = l.take k ++ [l.getD k 0] := by rw [List.take_succ_eq_append_getElem h]; simp [List.getD, h]
  rw [this, bodyU, List.flatMap_append]; simp [bodyU]
theorem bodyU_length (l : List Nat) : (bodyU l).length = 4 * l.length := by
  induction l with
  | nil => rfl
  | cons a l ih => simp only [bodyU, List.flatMap_cons, List.length_append, List.length_cons] at ih ⊢; rw [ih]; simp [word4U]; omega
def packU (nm : ByteArray) (W H : Nat) (l : List Nat) : List U8 := headU nm W H ++ bodyU l ++ word4U (rollF 263 16777183 (headU nm W H ++ bodyU l) 1)
set_option maxRecDepth 100000 in
theorem mapFI_new (A : Option Addr) (c : Nat) (l : List (Nat)) (F : FuncId) (g : Nat → Int) (w : World) (hl : l.length ≤ 4096) (hr : Rd w A (l.map (Value.float .f32))) (hcf : Enters Tryz.prog F)
    (hF : ∀ x ∈ l, ∀ w, Calls Tryz.prog F #[(Value.float .f32) x] w fun e w' => e = .returned (Value.int .i64 (g x)) ∧ Below w.heap.size w w') :
    Calls Tryz.prog 168 #[.slice A l.length c, .func (.func F) #[] #[]] w fun e w' => e = .returned (.slice (some ⟨w.heap.size, 0, none⟩) l.length l.length) ∧ Rd w' (some ⟨w.heap.size, 0, none⟩) (l.map (fun x => Value.int .i64 (g x))) ∧ Below w.heap.size w w' := by
  have HF := Lib.hid hF; clear hF
  have HR := Lib.hid hr; clear hr
  unfold Enters at hcf
  have hmk := fun W => Go.run_make_row' (P := Tryz.prog) 25 3 (.int .i64 0) 8 Tryz.underlying25 info_mapFI rfl .i64 .i64 l.length (by omega) (by omega) W
  go_enter Tryz.func168, Tryz.ntmps168
  go_wp2
  go_loopw [13] (fun i wr => ∃ k : Nat, k ≤ l.length ∧ i = .int .i64 k ∧ Blk wr w.heap.size 3 (fillN (fun j => Value.int .i64 (g (l.getD j 0))) (.int .i64 0) l.length k) ∧ Below w.heap.size w wr) (fun i _ => l.length - (intOf i).toNat)
  case atStart => exact ⟨0, by omega, rfl, by rw [← fill_zero]; exact Blk.new _ _ _, (Below.refl _ _).alloc (Nat.le_refl _) _⟩
  case round =>
    obtain ⟨k, hk, rfl, hb, hbel⟩ := hrel
    by_cases hlt : k < l.length
    · obtain ⟨x, hx⟩ : ∃ x, l.getD k 0 = x := ⟨_, rfl⟩
      have hxm : x ∈ l := by rw [← hx]; simp [List.getD, hlt]
      obtain ⟨ad, rfl, hbl, hc⟩ := HR.out.get (k := k) (u := (Value.float .f32) x) (by rw [← hx]; simp [List.getD, hlt])
      have hc' := (hbel.cell (by rw [block_of_add]; exact hbl)).trans hc
      have hs := hbel.size
      have HB := Lib.hid hb; clear hb
      have HBel := Lib.hid hbel; clear hbel
      have HX := Lib.hid hx; clear hx
      clear hc hmk
      go_wp2_with fail
      refine (HF.out x hxm _).mono ?_
      rintro e w1 ⟨rfl, hb1⟩
      have hblk := HB.out.below hb1
      have hcell := hblk.cell k
      rw [fill_get, if_pos hlt, if_neg (by omega)] at hcell
      have hfr := hblk.frozen k
      have hset := hblk.set_ k (Value.int .i64 (g x))
      have hfs := fill_set (fun j => Value.int .i64 (g (l.getD j 0))) (.int .i64 0) l.length k
      simp only [HX.out] at hfs
      rw [hfs] at hset
      have hbel1 := (HBel.out.trans (hb1.mono HBel.out.size)).setCell (p := ⟨w.heap.size, k, none⟩) (Nat.le_refl _) (Value.int .i64 (g x))
      have HS := Lib.hid hset; have HB1 := Lib.hid hbel1
      clear hset hbel1 hblk hb1 hfs
      go_wp2
      go_roundw
      case rel => exact ⟨k + 1, by omega, by go_num, HS.out, HB1.out⟩
      case measure => simp [intOf]; omega
    · have : k = l.length := by omega
      subst this
      go_wp2
      go_ret
      refine ⟨rfl, fun _ => ⟨_, rfl, hb.lt, fun j u hj => ?_⟩, hbel⟩
      have hjl : j < l.length := by simpa using (List.getElem?_eq_some_iff.1 hj).1
      have h2 := hb.cell j
      rw [fill_get, if_pos hjl, if_pos hjl] at h2
      simp [hjl] at hj
      subst hj
      simp [hjl] at h2
      unfold Addr.add
      split
      · rename_i h0; subst h0; exact h2
      · simpa using h2

set_option maxRecDepth 100000 in
theorem levels_new (l : List Nat) (hb : l.length ≤ 4096) (hok : ∀ b ∈ l, chk 1024 b = 0) (A : Option Addr) (c : Nat) (w : World) (hr : Rd w A (fl l)) :
    Calls Tryz.prog 118 #[.slice A l.length c] w fun e w' => e = .returned (.slice (some ⟨w.heap.size, 0, none⟩) l.length l.length) ∧ Rd w' (some ⟨w.heap.size, 0, none⟩) (l.map (fun b => .int .i64 (lvl b))) ∧ Below w.heap.size w w' := by
  have HOK := Lib.hid hok
  have HR := Lib.hid hr
  clear hok hr
  go_enter Tryz.func118, Tryz.ntmps118
  go_wp2_with fail
  refine (mapFI_new A c l 169 lvl _ hb HR.out enters_level (fun b hb w => level_v b (HOK.out b hb) w)).mono ?_
  rintro e w3 ⟨rfl, hrd, hb3⟩
  go_wp2
  go_ret
  exact ⟨rfl, hrd, hb3⟩
theorem own_below {w w' : World} {base : Nat} {e : TypeId} {size : Nat} {v : Value} {n : Nat} {xs : List Value} (h : w.ownsRow base e size v n xs) (hb : Below w.heap.size w w') : w'.ownsRow base e size v n xs :=
  h.kept (row := none) ⟨hb.os, hb.tape, hb.output, hb.size, fun i hi _ => hb.block i hi⟩ (by cases hv : v.ownBlock <;> simp)
theorem u8V_small (x : Int) (h : 0 ≤ x ∧ x < 256) : u8V (u8 x) = .int .u8 x := by
  have e : x % 256 = x := by omega
  show Value.int .u8 (x % 256) = Value.int .u8 x
  rw [e]
theorem rd_grown {w w' : World} {row : Option Nat} {g : Nat} {xs : List Value} (h : Rd w (some ⟨g, 0, none⟩) xs) (hg : w.grownBy w' row) (hne : some g ≠ row) : Rd w' (some ⟨g, 0, none⟩) xs := fun hp => by
  obtain ⟨ad, e, hbl, hc⟩ := h hp
  cases e
  exact ⟨_, rfl, Nat.lt_of_lt_of_le hbl hg.size, fun j u hu => (hg.cell_far _ (by rw [block_of_add]; exact hbl) (by rw [block_of_add]; exact hne)).trans (hc j u hu)⟩
set_option maxRecDepth 100000 in
set_option maxHeartbeats 1000000 in
theorem pack_ok (nm : ByteArray) (W H : Nat) (l : List Nat) (hp : (Pic.mk nm W H l).Ok) (he : (Pic.mk nm W H l).err = 0) (A : Option Addr) (c : Nat) (w : World) (hr : Rd w A (fl l)) :
    Calls Tryz.prog 80 #[.agg #[.string nm, .int .i64 (W : Int), .int .i64 (H : Int), .slice A l.length c]] w fun e w' => ∃ v n B, e = .returned (.tuple #[v, .int .i64 0]) ∧ n = (packU nm W H l).length ∧ w.heap.size ≤ B ∧ w'.ownsRow B 5 1 v n ((packU nm W H l).map u8V) ∧ Below w.heap.size w w' := by
  obtain ⟨i0, hi, hz0, hz1, hz2⟩ := info_parts info_u8
  have hW : 1 ≤ W ∧ W ≤ 64 := by have h1 := hp.w1; have h2 := hp.w2; simp at h1 h2; omega
  have hH : 1 ≤ H ∧ H ≤ 64 := by have h1 := hp.h1; have h2 := hp.h2; simp at h1 h2; omega
  have hs : 1 ≤ nm.size ∧ nm.size ≤ 24 := by have h1 := hp.name; unfold nameOk at h1; simp at h1; exact h1.1
  have hbig : l.length ≤ 4096 := hp.big
  have hcp := fun w hr => checkPicture_any (Pic.mk nm W H l) A c w (Nat.le_trans hs.2 (by decide)) (Nat.le_trans hbig (by decide)) hr
  rw [he] at hcp
  simp only [Pic.val] at hcp
  have HCP := Lib.hid hcp; have HR := Lib.hid hr; have HP := Lib.hid hp
  clear hcp hr hp he
  have hcv := fun (w : World) (C : Array Value) (n c : Nat) => Lib.run_convert_bytes_const (P := Tryz.prog) w 106 5 C n c Tryz.underlying106 Tryz.underlying5
  go_enter Tryz.func80, Tryz.ntmps80
  go_wp2_with fail
  have hbx := Blk.new w 50 #[.string nm, .int .i64 (W : Int), .int .i64 (H : Int), .slice A l.length c]
  have hb0 : Below w.heap.size w (w.alloc (.cells #[.string nm, .int .i64 (W : Int), .int .i64 (H : Int), .slice A l.length c] 50)) := (Below.refl _ _).alloc (Nat.le_refl _) _
  generalize w.alloc (.cells #[.string nm, .int .i64 (W : Int), .int .i64 (H : Int), .slice A l.length c] 50) = w0 at hbx hb0 ⊢
  have HX0 := Lib.hid hbx; have HB0 := Lib.hid hb0; clear hbx hb0
  refine (HCP.out _ (HR.out.below HB0.out)).mono ?_
  rintro e w1 ⟨rfl, hb1⟩
  have hx := HX0.out.below hb1
  have l0 := hx.lt
  obtain ⟨c0, c1, c2, c3⟩ := box4 hx
  have HX1 := Lib.hid hx; have HB1 := Lib.hid (HB0.out.trans (hb1.mono HB0.out.size)); clear hx hb1
  have hold : ∀ (j : Nat) (u : Value), (magicU.map u8V)[j]? = some u → ((w1.alloc (.cells #[.int .u8 80, .int .u8 73, .int .u8 67, .int .u8 84] 5 (4, 5))).alloc (.cells #[.int .u8 (nm.size : Int)] 5)).cell? ⟨w1.heap.size, 0 + j, none⟩ = some u := fun j u hu => by
    rw [Nat.zero_add]
    have h := Lib.cell_of_heap (w := (w1.alloc (.cells #[.int .u8 80, .int .u8 73, .int .u8 67, .int .u8 84] 5 (4, 5))).alloc (.cells #[.int .u8 (nm.size : Int)] 5)) (b := w1.heap.size) ((Below.heap_alloc (w1.alloc (.cells #[.int .u8 80, .int .u8 73, .int .u8 67, .int .u8 84] 5 (4, 5))) (.cells #[.int .u8 (nm.size : Int)] 5) w1.heap.size (by simp)).trans (heap_alloc_new w1 _)) j
    rw [h]
    have e : magicU.map u8V = [.int .u8 80, .int .u8 73, .int .u8 67, .int .u8 84] := rfl
    rw [e] at hu
    simpa using hu
  have HOLD := Lib.hid hold
  have HBA := Lib.hid (show Below w1.heap.size w1 ((w1.alloc (.cells #[.int .u8 80, .int .u8 73, .int .u8 67, .int .u8 84] 5 (4, 5))).alloc (.cells #[.int .u8 (nm.size : Int)] 5)) from ((Below.refl _ _).alloc (Nat.le_refl _) _).alloc (by simp) _)
  clear hold
  go_wp2_with (first
    | (at_builtin; refine wpList_append_arg _ (by rfl) (.tmp 15) (.tmp 20) 106 (by rfl) 5 i0 (.int .u8 0) 1 1 Tryz.underlying106 hi hz0 hz1 hz2 rfl (by decide) w1.heap.size 0 4 4 (magicU.map u8V) (by rfl) (by rfl) HOLD.out ⟨w1.heap.size + 1, 0, none⟩ 1 1 [.int .u8 (nm.size : Int)] (by rfl) (by rfl) (by have h := World.news_of_block (heap_alloc_new (w1.alloc (.cells #[.int .u8 80, .int .u8 73, .int .u8 67, .int .u8 84] 5 (4, 5))) (.cells #[.int .u8 (nm.size : Int)] 5)); simpa using h) (by simp [Value.oneCell']) (fun h => by omega) (by decide) (by decide) (fun h => by omega) (fun _ v1 w2 hown1 hgrow1 => ?_); have hown1 : w2.ownsRow (w1.heap.size + 1 + 1) 5 1 v1 (4 + 1) (magicU.map u8V ++ [.int .u8 (nm.size : Int)]) := (by simpa using hown1); have hbB := HBA.out.grown hgrow1 (by simp; omega) (fun k e => by cases e); have hsB := hgrow1.size; obtain ⟨hcB, hfB⟩ := bcell hbB; have HOWN1 := Lib.hid hown1; have HBB := Lib.hid hbB; have HSB := Lib.hid (show w1.heap.size + 1 + 1 ≤ w2.heap.size by simpa using hsB); clear hown1 hbB hfB hgrow1 hsB)
    | (at_builtin; refine Lib.wpList_append_own_string _ (by rfl) (.tmp 22) (.tmp 24) 106 9 (by rfl) (w1.heap.size + 1 + 1) 5 i0 Tryz.underlying106 Tryz.underlying9 hi hz0 hz1 hz2 _ _ _ (by rfl) HOWN1.out nm (by rfl) (by unfold maxLen; omega) (by omega) HSB.out ?_; intro v2 w3 hown2 hgrow2 hnil2; clear hnil2; have HSC := Lib.hid (Nat.le_trans HSB.out hgrow2.size); have hbC := HBB.out.grown hgrow2 HBB.out.size (fun k e => by have := (HOWN1.out.lt k e).1; omega); obtain ⟨hcC, hfC⟩ := bcell hbC; have HOWN2 := Lib.hid hown2; have HBC := Lib.hid hbC; clear hown2 hbC hfC hgrow2)
    | (at_builtin; refine wpList_append_own_at _ (by rfl) (.tmp 26) (.tmp 33) 106 (by rfl) (w1.heap.size + 1 + 1) 5 i0 (.int .u8 0) 1 1 Tryz.underlying106 hi hz0 hz1 hz2 rfl (by decide) _ _ _ (by rfl) (HOWN2.out.alloc _) ⟨_, 0, none⟩ 2 2 [.int .u8 (W : Int), .int .u8 (H : Int)] (by rfl) (by rfl) (World.news_of_block (heap_alloc_new w3 _)) (by simp [Value.oneCell']) (by unfold maxLen; omega) (by omega) (by have := HSC.out; simp; omega) ?_; intro v3 w4 hown3 hgrow3 hnil3 hat3; clear hnil3; have hbD := (HBC.out.alloc HBC.out.size (.cells #[.int .u8 (W : Int), .int .u8 (H : Int)] 5)).grown hgrow3 (by have := HBC.out.size; simp; omega) (fun k e => by have := ((HOWN2.out.alloc (.cells #[.int .u8 (W : Int), .int .u8 (H : Int)] 5)).lt k e).1; omega); obtain ⟨hcD, hfD⟩ := bcell hbD; have HOWN3 := Lib.hid hown3; have HBD := Lib.hid hbD; clear hown3 hbD hfD hgrow3 hat3))
  have HR4 := Lib.hid (HR.out.below (HB1.out.trans (HBD.out.mono HB1.out.size)))
  have hsz4 := HBD.out.size
  refine (levels_new l HP.out.big HP.out.ok A c _ HR4.out).mono ?_
  rintro e w5 ⟨rfl, hrd, hb5⟩
  obtain ⟨L, hL⟩ : ∃ L, w4.heap.size = L := ⟨_, rfl⟩
  have hneL : v3.ownBlock ≠ some L := fun e => by have := (HOWN3.out.lt L e).2; omega
  rw [hL] at hrd ⊢
  have hown5 := own_below HOWN3.out hb5
  have hb5' := HBD.out.trans (hb5.mono HBD.out.size)
  have hxs : List.map u8V magicU ++ [Value.int IntKind.u8 ↑nm.size] ++ Lib.strCells nm ++ [Value.int IntKind.u8 ↑W, Value.int IntKind.u8 ↑H] = (headU nm W H ++ bodyU (l.take 0)).map u8V := by
    simp only [headU, bodyU, List.take_zero, List.flatMap_nil, List.append_nil, List.map_append, strCells_eq, List.map_cons, List.map_nil]
    rw [u8V_small (nm.size : Int) (by omega), u8V_small (W : Int) (by omega), u8V_small (H : Int) (by omega)]
  have hnn : 4 + 1 + nm.size + 2 = (headU nm W H ++ bodyU (l.take 0)).length := by simp [headU, bodyU, bytesU_length, magicU]; omega
  rw [hxs, hnn] at hown5
  have HOWN5 := Lib.hid hown5; have HRD5 := Lib.hid hrd; have HB5 := Lib.hid hb5'; have HNL := Lib.hid hneL
  have hLl : L < w5.heap.size ∨ l.length = 0 := by
    by_cases h0 : l.length = 0
    · exact .inr h0
    · obtain ⟨ad, e, hbl, _⟩ := hrd (by simp; omega)
      cases e; exact .inl hbl
  clear hown5 hrd hb5' hneL hxs hnn hb5 hL hsz4 hcB hcC hcD c0 c1 c2 c3 hLl
  have hb142 := fun (x : Nat) W => f32bits x W
  go_wp2_with fail
  go_loopw [5, 39] (fun sv i wr => ∃ (k n : Nat), k ≤ l.length ∧ i = .int .i64 k ∧ n = (headU nm W H ++ bodyU (l.take k)).length ∧ wr.ownsRow (w1.heap.size + 1 + 1) 5 1 sv n ((headU nm W H ++ bodyU (l.take k)).map u8V) ∧ sv.ownBlock ≠ some L ∧ Rd wr (some ⟨L, 0, none⟩) (l.map (fun b => .int .i64 (lvl b))) ∧ Below w1.heap.size w1 wr) (fun _ i _ => l.length - (intOf i).toNat)
  case atStart => exact ⟨0, _, by omega, rfl, rfl, HOWN5.out, HNL.out, HRD5.out, HB5.out⟩
  case round =>
    obtain ⟨k, n, hk, rfl, hn, hown, hne, hrd, hbel⟩ := hrel
    have hnb : n ≤ 20000 := by
      rw [hn, List.length_append, bodyU_length]
      have : (headU nm W H).length ≤ 31 := by simp [headU, bytesU_length, magicU]; omega
      have := List.length_take_le k l
      simp at *; omega
    by_cases hlt : k < l.length
    · obtain ⟨x, hx⟩ : ∃ x, lvl (l.getD k 0) = x := ⟨_, rfl⟩
      have hxb := HP.out.lv (getD_mem hlt)
      obtain ⟨ad', had, hbl, hc⟩ := hrd.get (k := k) (u := .int .i64 x) (by rw [← hx]; simp [List.getD, hlt])
      obtain rfl := Option.some.inj had
      rw [add_blk] at hc
      rw [hx] at hxb
      have hsm := smp_lt x (by omega)
      have hst := bodyU_snoc l k hlt
      rw [hx] at hst
      have hB2 : w1.heap.size + 1 + 1 ≤ wr.heap.size := by
        have hpos : 0 < n := by rw [hn]; simp [headU, magicU]
        obtain ⟨g, cap, _, hg1, hg2⟩ := hown.form hpos
        omega
      have HST := Lib.hid hst; have HN := Lib.hid hn; have HRD := Lib.hid hrd; have HNE := Lib.hid hne; have HBE := Lib.hid hbel; have HOWN := Lib.hid hown; have HX := Lib.hid hx
      clear hst hn hrd hne hbel hown hx had
      go_wp2_with (first
        | (go_at_call 146; refine (sample_any x (smp x) (smp_facts x (by omega)).1 _).mono ?_; rintro e wn ⟨rfl, rfl⟩)
        | (go_at_call 144; refine (appendWord_own _ _ n _ (smp x : Int) (by omega) _ HOWN.out (by omega) hB2).mono ?_; rintro e w6 ⟨v', rfl, hown6, hgr, hat⟩; have hblk := (HOWN.out.lt); have HO6 := Lib.hid hown6; have HGR := Lib.hid hgr; have HAT := Lib.hid hat; have HBK := Lib.hid hblk; clear hown6 hgr hat hblk))
      go_roundw
      case rel =>
        have hw4 := word4_eq (smp x : Int) (by omega)
        refine ⟨k + 1, n + 4, by omega, by go_num, ?_, ?_, ?_, rd_grown HRD.out HGR.out (fun e => HNE.out e.symm), HBE.out.grown HGR.out HBE.out.size (fun b e => by have := (HBK.out b e).1; omega)⟩
        · rw [HST.out, HN.out]; simp [word4U]; omega
        · have h := HO6.out
          rw [hw4, ← List.map_append] at h
          rw [HST.out, ← List.append_assoc]
          exact h
        · rcases HAT.out with e | ⟨b, hb, e⟩
          · rw [e]; exact HNE.out
          · rw [e]; intro e2; cases e2; omega
      case measure => simp [intOf]; omega
    · have hkl : k = l.length := by omega
      subst hkl
      rw [List.take_length] at hn hown
      have hpos : 0 < n := by rw [hn]; simp [headU, magicU]
      obtain ⟨g, cap, hv, hg1, hg2⟩ := hown.form hpos
      subst hv
      obtain ⟨bs, hbs⟩ : ∃ bs, headU nm W H ++ bodyU l = bs := ⟨_, rfl⟩
      rw [hbs] at hn hown
      subst hn
      have HBRD := Lib.hid (brd_of_own hown rfl)
      have hck := rollF_bd 263 16777183 (by omega) bs 1 (by omega)
      have HOWN := Lib.hid hown; have HBS := Lib.hid hbs; have HBE := Lib.hid hbel
      clear hown hbs hbel hrd hne
      go_wp2_with fail
      refine (checksum_any _ cap bs (by omega) _ HBRD.out).mono ?_
      rintro e w6 ⟨rfl, hb6⟩
      have HO6 := Lib.hid (own_below HOWN.out hb6)
      have HB6 := Lib.hid (HBE.out.trans (hb6.mono HBE.out.size))
      have hs6 := hb6.size
      obtain ⟨q, hq⟩ : ∃ q, rollF 263 16777183 bs 1 = q := ⟨_, rfl⟩
      rw [hq] at hck ⊢
      have HQ := Lib.hid hq
      clear hb6 hq
      go_wp2_with fail
      refine (appendWord_own _ _ bs.length _ q (by omega) _ HO6.out (by omega) (by omega)).mono ?_
      rintro e w7 ⟨v', rfl, hown7, hgr, hat⟩
      have hw4 := word4_eq q (by omega)
      rw [hw4, ← List.map_append] at hown7
      have hfin : packU nm W H l = bs ++ word4U q := by unfold packU; rw [HBS.out, HQ.out]
      have hlen : bs.length + 4 = (packU nm W H l).length := by rw [hfin]; simp [word4U]
      rw [← hfin, hlen] at hown7
      have hb7 := HB6.out.grown hgr HB6.out.size (fun b e => by have := (HO6.out.lt b e).1; omega)
      have HO7 := Lib.hid hown7; have HB7 := Lib.hid (HB1.out.trans (hb7.mono HB1.out.size))
      clear hown7 hgr hat hw4 hfin hlen hb7
      go_wp2
      go_ret2
      exact ⟨v', _, _, rfl, rfl, Nat.le_of_lt (Nat.lt_of_lt_of_le l0 (by omega)), HO7.out, HB7.out⟩

end Go.Proofs.YtkjkjhheckfhbaaGreatDoor
namespace Go.Proofs.YtkjkjhheckfhbaaGreatDoor
open Go.RowKit
set_option linter.unusedVariables false
def sameP (l k : List (Int × Int)) : Bool := decide (l = k)
theorem spansC_at {l : List (Int × Int)} {i : Nat} (h : i < l.length) : (spansC l)[i * 2]? = some (.int .i64 l[i].1) ∧ (spansC l)[i * 2 + 1]? = some (.int .i64 l[i].2) := by
  have e : spansC l = spansC (l.take i) ++ (spansC [l[i]] ++ spansC (l.drop (i + 1))) := by
    rw [← spansC_app, ← spansC_app]; congr 1; simp [List.take_append_drop, ← List.drop_eq_getElem_cons h]
  have hn : (spansC (l.take i)).length = i * 2 := by rw [spansC_len]; simp; omega
  rw [e]
  constructor
  · rw [List.getElem?_append_right (by omega), hn, Nat.sub_self]; rfl
  · rw [List.getElem?_append_right (by omega), hn, Nat.add_sub_cancel_left]; rfl
set_option maxRecDepth 100000 in
theorem sameSpans_any (A B : Option Addr) (c d : Nat) (l k : List (Int × Int)) (w : World) (hl : l.length ≤ maxLen) (hl2 : k.length ≤ maxLen) (hr : Rd w A (spansC l)) (hr2 : Rd w B (spansC k)) :
    Calls Tryz.prog 77 #[.slice A l.length c, .slice B k.length d] w fun e w' => e = .returned (.bool (sameP l k)) ∧ Below w.heap.size w w' := by
  unfold maxLen at hl hl2
  have HRa := Lib.hid hr; have HRb := Lib.hid hr2; clear hr hr2
  by_cases hlen : l.length = k.length
  · obtain ⟨n, hn⟩ : ∃ n, l.length = n := ⟨_, rfl⟩
    have hm : k.length = n := by rw [← hlen, hn]
    rw [hn, hm]
    have HN := Lib.hid hn; have HM := Lib.hid hm
    rw [hn] at hl
    clear hlen hl2 hn hm
    go_enter Tryz.func77, Tryz.ntmps77
    go_wp2
    go_loopw [5] (fun v wr => ∃ i : Nat, i ≤ n ∧ v = .int .i64 i ∧ RowKit.Hid (l.take i = k.take i) ∧ Below w.heap.size w wr) (fun v _ => n - (intOf v).toNat)
    case atStart => exact ⟨0, by omega, rfl, Lib.hid rfl, Below.refl _ _⟩
    case round =>
      obtain ⟨i, hi, rfl, hpre, hbel⟩ := hrel
      by_cases hlt : i < n
      · have g1 : i < l.length := by rw [HN.out]; exact hlt
        have g2 : i < k.length := by rw [HM.out]; exact hlt
        obtain ⟨ad, rfl, hb1, hc1⟩ := (HRa.out.below hbel).get (spansC_at g1).1
        obtain ⟨ad', e', hb1', hc1'⟩ := (HRa.out.below hbel).get (spansC_at g1).2
        cases e'
        obtain ⟨ad2, rfl, hb2, hc2⟩ := (HRb.out.below hbel).get (spansC_at g2).1
        obtain ⟨ad2', e', hb2', hc2'⟩ := (HRb.out.below hbel).get (spansC_at g2).2
        cases e'
        rw [← Addr.add_add] at hc1' hc2'
        obtain ⟨⟨a, a'⟩, ha⟩ : ∃ a, l[i] = a := ⟨_, rfl⟩
        obtain ⟨⟨b, b'⟩, hb⟩ : ∃ b, k[i] = b := ⟨_, rfl⟩
        rw [ha] at hc1 hc1'
        rw [hb] at hc2 hc2'
        dsimp only at hc1 hc1' hc2 hc2'
        have hd1 : wr.cell? ⟨(ad.add (i * 2)).block, (ad.add (i * 2)).off + 1, none⟩ = some (.int .i64 a') := hc1'
        have hd2 : wr.cell? ⟨(ad2.add (i * 2)).block, (ad2.add (i * 2)).off + 1, none⟩ = some (.int .i64 b') := hc2'
        clear hc1' hc2'
        have HA := Lib.hid ha; have HBb := Lib.hid hb; have HBE := Lib.hid hbel
        clear ha hb hbel hb1' hb2'
        by_cases hab : a = b
        · by_cases hab2 : a' = b'
          · have hx : (a == b) = true := by simp [hab]
            have hx2 : (a' == b') = true := by simp [hab2]
            have HAB := Lib.hid hab; clear hab
            have HAB2 := Lib.hid hab2; clear hab2
            go_wp2_with fail
            go_region
            go_wp2
            go_roundw
            case rel => exact ⟨i + 1, by omega, by go_num, Lib.hid (take_next g1 g2 hpre.out (by rw [HA.out, HBb.out, HAB.out, HAB2.out])), by exact HBE.out.drew⟩
            case measure => simp [intOf]; omega
          · have hx : (a == b) = true := by simp [hab]
            have hx2 : (a' == b') = false := by simp [hab2]
            have HAB2 := Lib.hid hab2; clear hab hab2
            go_wp2_with fail
            go_region
            go_wp2
            go_ret
            exact ⟨ret_bool (by unfold sameP; rw [eq_comm, decide_eq_false_iff_not]; intro he; subst he; exact HAB2.out (congrArg Prod.snd (HA.out.symm.trans HBb.out))), by exact HBE.out.drew⟩
        · have hx : (a == b) = false := by simp [hab]
          have HAB := Lib.hid hab; clear hab
          go_wp2_with fail
          go_region
          go_wp2
          go_ret
          exact ⟨ret_bool (by unfold sameP; rw [eq_comm, decide_eq_false_iff_not]; intro he; subst he; exact HAB.out (congrArg Prod.fst (HA.out.symm.trans HBb.out))), by exact HBE.out.drew⟩
      · have hie : i = n := by omega
        subst hie
        go_wp2
        go_ret
        refine ⟨ret_bool ?_, hbel⟩
        have h := hpre.out
        rw [List.take_of_length_le (by rw [HN.out]; exact Nat.le_refl _), List.take_of_length_le (by rw [HM.out]; exact Nat.le_refl _)] at h
        simp [sameP, h]
  · have hd : ((l.length : Int) != (k.length : Int)) = true := by simp; omega
    have hs : sameP l k = false := by unfold sameP; rw [decide_eq_false_iff_not]; intro he; subst he; exact hlen rfl
    rw [hs]
    clear hs
    go_enter Tryz.func77, Tryz.ntmps77
    go_wp2
    go_ret
    exact ⟨rfl, Below.refl _ _⟩

end Go.Proofs.YtkjkjhheckfhbaaGreatDoor
