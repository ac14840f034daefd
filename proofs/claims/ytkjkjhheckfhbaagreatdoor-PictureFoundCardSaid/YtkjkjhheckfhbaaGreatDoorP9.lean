/- Parts of a proof: PictureFound: bytes as values, packets as whole boxes, what is kept while the row of sixteen is made. PictureFound: the damaged stream, and what chains of operations keep. -/
import Derived.Test.YtkjkjhheckfhbaaGreatDoorPC
import Derived.Test.YtkjkjhheckfhbaaGreatDoorPB
import Derived.Test.YtkjkjhheckfhbaaGreatDoorHa
import Derived.Test.YtkjkjhheckfhbaaGreatDoorGl
import Derived.Test.YtkjkjhheckfhbaaGreatDoorRh
import Derived.Test.YtkjkjhheckfhbaaGreatDoorBa
import Derived.Test.YtkjkjhheckfhbaaGreatDoorP3
namespace Go.Proofs.YtkjkjhheckfhbaaGreatDoor
open Go.RowKit
set_option linter.unusedVariables false
/-- Bytes as values. -/
def ub (bs : List U8) : List Value := bs.map (fun b => Value.int .u8 b.1)
theorem ub_len (bs : List U8) : (ub bs).length = bs.length := by simp [ub]
theorem ub_app (a b : List U8) : ub (a ++ b) = ub a ++ ub b := by simp [ub]
theorem ub_take (a : List U8) (k : Nat) : (ub a).take k = ub (a.take k) := by simp [ub, List.map_take]
theorem ub_drop (a : List U8) (k : Nat) : (ub a).drop k = ub (a.drop k) := by simp [ub, List.map_drop]
theorem ub_one (bs : List U8) : ∀ u ∈ ub bs, u.oneCell' = true := by
  intro u hu
  obtain ⟨b, _, rfl⟩ := List.mem_map.1 hu
  rfl
theorem ub_at {bs : List U8} {i : Nat} (h : i < bs.length) : (ub bs)[i]? = some (.int .u8 (bs.getD i u0).1) := by
  simp [ub, List.getD, h]
/-- The stream's packets as boxes. -/
def pkA (p : PkU) : Array Value := p.pk.cells.toArray
def frA (p : PkU) : Array Value := (ub p.fr).toArray
theorem pkA_size (p : PkU) : (pkA p).size = 12 := rfl
theorem frA_size (p : PkU) : (frA p).size = 16 := rfl
theorem pkA_one (p : PkU) : (pkA p).all (·.oneCell') = true := by simp [pkA, Pk.cells, Value.oneCell']
theorem frA_one (p : PkU) : (frA p).all (·.oneCell') = true := by
  rw [Array.all_eq_true]
  intro i hi
  exact ub_one p.fr _ (by simp [frA])
theorem enc_box (p : PkU) (w : World) : Calls Tryz.prog 64 #[.agg (pkA p)] w fun e w' => e = .returned (.tuple #[.agg (frA p), .int .i64 0]) ∧ Below w.heap.size w w' := encode_fr p w
theorem dec_box (p : PkU) (w : World) : Calls Tryz.prog 65 #[.agg (frA p)] w fun e w' => e = .returned (.tuple #[.agg (pkA p), .int .i64 0]) ∧ Below w.heap.size w w' := decode_fr p w
theorem eq_box (p : PkU) (w : World) : (Op.equalIn 10000 89 (.agg (pkA p)) (.agg (pkA p))).run Tryz.prog w = .ok true w := eq_packetR p.pk w
theorem pkA_at (L : List PkU) (i : Nat) (h : i < L.length) (j : Nat) (v : Value) (hv : (pkA L[i])[j]? = some v) : (pksC (L.map PkU.pk))[i * 12 + j]? = some v := by
  refine pksC_at (l := L.map PkU.pk) (i := i) (by simpa using h) j v ?_
  rw [List.getElem_map]
  simpa [pkA] using hv
theorem code_next (L : List PkU) (i : Nat) (h : i < L.length) : ub (codeU (L.take (i + 1))) = ub (codeU (L.take i)) ++ ub L[i].fr := by
  rw [← ub_app, ← codeU_snoc]
  congr 2
  rw [List.take_succ_eq_append_getElem h]
theorem code_all (L : List PkU) (n : Nat) (h : L.length = n) : L.take n = L := List.take_of_length_le (by omega)
theorem box2n {w : World} {g : Nat} {t : TypeId} {a b : Value} (h : Blk w g t #[a, b]) : w.cell? ⟨g, 0, none⟩ = some a ∧ w.cell? ⟨g, 1, none⟩ = some b := ⟨h.cell 0, h.cell 1⟩
theorem info_pk : (Tryz.prog.info? 92).map (fun i => (i.zero, i.size, i.bytes)) = some (some pk0.val, 12, 32) := by kernel_rfl
theorem info_int1 : (Tryz.prog.info? 3).map (fun i => (i.zero, i.size, i.bytes)) = some (some (.int .i64 0), 1, 8) := by kernel_rfl
def intC (l : List Int) : List Value := l.map (.int .i64)
theorem intC_app (l m : List Int) : intC (l ++ m) = intC l ++ intC m := by simp [intC]
/-- What is kept while the row is made: the packets, the counters that are gone. -/
structure KW (B : Nat) (v1 v2 : Value) (pk : List Pk) (go : List Int) (W : World) : Prop where
  o1 : W.ownsRow B 92 12 v1 pk.length (pksC pk)
  o2 : W.ownsRow B 3 1 v2 go.length (intC go)
  ne : v1.ownBlock = none ∨ v1.ownBlock ≠ v2.ownBlock
section
variable {B : Nat} {v1 v2 : Value} {pk : List Pk} {go : List Int} {W W' : World}
theorem KW.below (h : KW B v1 v2 pk go W) (hb : Below W.heap.size W W') : KW B v1 v2 pk go W' := ⟨owns_below h.o1 hb, owns_below h.o2 hb, h.ne⟩
theorem KW.start (B : Nat) (W : World) : KW B (.slice none 0 0) (.slice none 0 0) [] [] W := ⟨World.ownsRow_nil _ _ _ _, World.ownsRow_nil _ _ _ _, .inl rfl⟩
theorem KW.app1 {pk' : List Pk} {v1' : Value} (h : KW B v1 v2 pk go W) (ho : W'.ownsRow B 92 12 v1' pk'.length (pksC pk')) (hg : W.grownBy W' v1.ownBlock) (ha : v1'.ownBlock = v1.ownBlock ∨ v1'.ownBlock = some W.heap.size) : KW B v1' v2 pk' go W' := by
  have hb2 := owns_block h.o2
  have hv2 : v2.ownBlock = none ∨ v2.ownBlock ≠ v1.ownBlock := by
    rcases h.ne with e | e
    · rw [e]; cases hv : v2.ownBlock <;> simp
    · exact .inr (Ne.symm e)
  refine ⟨ho, h.o2.kept hg hv2, ?_⟩
  rcases ha with e | e
  · rw [e]; exact h.ne
  · right; rw [e]; intro e2
    have := (hb2 _ e2.symm).2.1
    omega
theorem KW.app2 {go' : List Int} {v2' : Value} (h : KW B v1 v2 pk go W) (ho : W'.ownsRow B 3 1 v2' go'.length (intC go')) (hg : W.grownBy W' v2.ownBlock) (ha : v2'.ownBlock = v2.ownBlock ∨ v2'.ownBlock = some W.heap.size) : KW B v1 v2' pk go' W' := by
  have hb1 := owns_block h.o1
  refine ⟨h.o1.kept hg h.ne, ho, ?_⟩
  rcases ha with e | e
  · rw [e]; exact h.ne
  · cases hv : v1.ownBlock with
    | none => exact .inl rfl
    | some k =>
      right; rw [e]; intro e2
      cases e2
      have := (hb1 _ hv).2.1
      omega
end
theorem own_none1 (w : World) : (w.alloc (.cells #[] 5)).ownsRow w.heap.size 5 1 (.slice (some ⟨w.heap.size, 0, none⟩) 0 0) 0 [] :=
  ⟨rfl, .inr ⟨_, 0, #[], rfl, Nat.le_refl _, heap_alloc_new w _, Nat.le_refl _, by decide, rfl, rfl⟩⟩
/-- A slice that the law owns, as it stands. -/
theorem own_slice {w : World} {B : Nat} {e : TypeId} {size : Nat} {v : Value} {n : Nat} {xs : List Value} (h : w.ownsRow B e size v n xs) : ∃ A c, v = .slice A n c ∧ (A = none → n = 0 ∧ c = 0) ∧ n ≤ c ∧ Rd w A xs := by
  rcases h.2 with ⟨rfl, h0⟩ | ⟨g, cap, cur, rfl, hb, hg, hc, hrest⟩
  · subst h0
    exact ⟨none, 0, rfl, fun _ => ⟨rfl, rfl⟩, Nat.le_refl _, rd_own h⟩
  · exact ⟨_, cap, rfl, fun h0 => absurd h0 (by simp), hc, rd_own h⟩
theorem info_u8n : (Tryz.prog.info? 5).map (fun i => (i.zero, i.size, i.bytes)) = some (some (.int .u8 0), 1, 1) := by kernel_rfl
end Go.Proofs.YtkjkjhheckfhbaaGreatDoor
namespace Go.Proofs.YtkjkjhheckfhbaaGreatDoor
open Go Go.RowKit
set_option linter.unusedVariables false
section
variable {P : Program} {ops : Array Oper} {Q : Exit → Act → World → Prop}
/-- Operation i by its text, for any relation of worlds. -/
theorem spec_ofB {Rr : World → World → Prop} {i : Nat} {o : Oper} (ho : ops[i]? = some o) {a : Act} {w : World} {F : Value → World → Prop}
    (h : ∀ K : Act → World → Prop, Shut (∀ v w', Rr w w' → F v w' → K (a.put o.dst v) w') → if Region.wanted o (yielded ops a.tmps) = true then Oper.wp P o a w K Q else K (a.put o.dst undef) w) : SpecOp P ops Q Rr i a w F := by
  intro K hK
  have hd : dstOf ops i = o.dst := by simp [dstOf, ho]
  rw [hd] at hK
  exact wpOp_step ho (fun K' hK' => h K' (fun v w' hr hv => hK' _ _ (hK v w' hr hv)))
end
section
variable {w : World} {B : Nat} {e : TypeId} {g n cap : Nat} {xs : List Value}
theorem owns_put (h : w.ownsRow B e 1 (.slice (some ⟨g, 0, none⟩) n cap) n xs) (i : Nat) (v : Value) : (w.setCell ⟨g, i, none⟩ v).ownsRow B e 1 (.slice (some ⟨g, 0, none⟩) n cap) n (xs.set i v) := by
  refine ⟨by rw [List.length_set]; exact h.1, ?_⟩
  rcases h.2 with ⟨h1, _⟩ | ⟨g', cap', cur, hv, hb, hg, hc, hm, hs, ht⟩
  · cases h1
  · cases hv
    refine .inr ⟨g, cap, cur.setIfInBounds i v, rfl, hb, Blk.set_ hg i v, hc, hm, by rw [Array.size_setIfInBounds]; exact hs, ?_⟩
    rw [Array.toList_setIfInBounds, List.take_set, ht]
theorem own_cell (h : w.ownsRow B e 1 (.slice (some ⟨g, 0, none⟩) n cap) n xs) {i : Nat} {v : Value} (hv : xs[i]? = some v) : w.cell? ⟨g, i, none⟩ = some v := by
  have hl : 0 < xs.length := by have := (List.getElem?_eq_some_iff.1 hv).1; omega
  obtain ⟨ad, e1, _, hc⟩ := rd_own h hl
  cases e1
  have := hc i v hv
  rwa [Addr.add_mid, Nat.zero_add] at this
theorem own_lt (h : w.ownsRow B e 1 (.slice (some ⟨g, 0, none⟩) n cap) n xs) : B ≤ g ∧ g < w.heap.size := by
  have := owns_block h g rfl
  exact ⟨this.1, this.2.1⟩
theorem own_frozen (h : w.ownsRow B e 1 (.slice (some ⟨g, 0, none⟩) n cap) n xs) (i : Nat) : w.frozen? ⟨g, i, none⟩ = false := by
  rcases h.2 with ⟨h1, _⟩ | ⟨g', cap', cur, hv, hb, hg, hc, hm, hs, ht⟩
  · cases h1
  · cases hv
    exact Blk.frozen hg i
end
theorem ub_set (bs : List U8) (i : Nat) (v : U8) : (ub bs).set i (.int .u8 v.1) = ub (bs.set i v) := by simp [ub, List.map_set]
def xorU (b : U8) (d : Int) : U8 := ⟨bits .xor .u8 b.1 d, xor_bd _ _⟩
/-- The damaged stream, and where its damage ends. -/
def dmgD (L : List PkU) (n n0 n1 n2 n3 : Nat) : List U8 :=
  if n3 % 2 = 1 then (codeU L).take (16 * (n0 % n)) ++ (codeU L).drop (16 * (n0 % n) + (1 + n1 % 16 % 15)) else (codeU L).set (16 * (n0 % n) + n1 % 16) (xorU ((codeU L).getD (16 * (n0 % n) + n1 % 16) u0) ((1 + n2 % 255 : Nat) : Int))
def dmgE (n n0 n1 n3 : Nat) : Nat := if n3 % 2 = 1 then 16 * (n0 % n) + 15 - n1 % 16 % 15 else 16 * (n0 % n) + 16
/-- What the store into the stream's copy keeps. -/
def ST36 (B g n cap : Nat) (bs bs' : List U8) (x y : Value) : Nat → Value → World → Prop
  | 0, _, W => W.ownsRow B 5 1 (.slice (some ⟨g, 0, none⟩) n cap) n (ub bs)
  | 1, u, W => u = x ∧ W.ownsRow B 5 1 (.slice (some ⟨g, 0, none⟩) n cap) n (ub bs)
  | 2, u, W => u = y ∧ W.ownsRow B 5 1 (.slice (some ⟨g, 0, none⟩) n cap) n (ub bs)
  | _, _, W => W.ownsRow B 5 1 (.slice (some ⟨g, 0, none⟩) n cap) n (ub bs')
theorem st36_below {B g n cap : Nat} {bs bs' : List U8} {x y : Value} (k : Nat) (u : Value) (w w' : World) (h : ST36 B g n cap bs bs' x y k u w) (hb : Below w.heap.size w w') : ST36 B g n cap bs bs' x y k u w' := by
  match k, h with
  | 0, h => exact owns_below h hb
  | 1, h => exact ⟨h.1, owns_below h.2 hb⟩
  | 2, h => exact ⟨h.1, owns_below h.2 hb⟩
  | k + 3, h => exact owns_below (show World.ownsRow w B 5 1 (.slice (some ⟨g, 0, none⟩) n cap) n (ub bs') from h) hb
/-- What two appends onto a new slice keep. -/
def STap (B : Nat) (e : TypeId) (size n1 n2 : Nat) (x1 x2 : List Value) : Nat → Value → World → Prop
  | 0, _, _ => True
  | 1, u, W => W.ownsRow B e size u 0 []
  | 2, u, W => W.ownsRow B e size u n1 x1
  | _, u, W => W.ownsRow B e size u n2 x2
theorem stap_below {B : Nat} {e : TypeId} {size n1 n2 : Nat} {x1 x2 : List Value} (k : Nat) (u : Value) (w w' : World) (h : STap B e size n1 n2 x1 x2 k u w) (hb : Below w.heap.size w w') : STap B e size n1 n2 x1 x2 k u w' := by
  match k, h with
  | 0, h => exact trivial
  | 1, h => exact owns_below (show w.ownsRow B e size u 0 [] from h) hb
  | 2, h => exact owns_below (show w.ownsRow B e size u n1 x1 from h) hb
  | k + 3, h => exact owns_below (show w.ownsRow B e size u n2 x2 from h) hb
theorem pks_one (l : List Pk) : ∀ u ∈ pksC l, u.oneCell' = true := by
  intro u hu
  obtain ⟨p, _, hp⟩ := List.mem_flatMap.1 hu
  simp only [Pk.cells, List.mem_cons, List.not_mem_nil, or_false] at hp
  rcases hp with rfl | rfl | rfl | rfl | rfl | rfl | rfl | rfl | rfl | rfl | rfl | rfl <;> rfl
theorem own_new (w : World) (B : Nat) (hB : B ≤ w.heap.size) (e : TypeId) (size : Nat) : (w.alloc (.cells #[] e)).ownsRow B e size (.slice (some ⟨w.heap.size, 0, none⟩) 0 0) 0 [] :=
  ⟨by simp, .inr ⟨_, 0, #[], rfl, hB, heap_alloc_new w _, Nat.le_refl _, by decide, by simp, by simp⟩⟩
theorem rd_cells {w : World} {A : Addr} {xs : List Value} (h : Rd w (some A) xs) (a m : Nat) (hm : a + m ≤ xs.length) : ∀ (W : World), Below w.heap.size w W → ∀ j u, ((xs.drop a).take m)[j]? = some u → W.cell? ((A.add a).add j) = some u := by
  intro W hb j u hj
  have hlt : j < m := by
    have h1 := (List.getElem?_eq_some_iff.1 hj).1
    rw [List.length_take] at h1
    omega
  rw [List.getElem?_take_of_lt hlt, List.getElem?_drop] at hj
  obtain ⟨ad, e, hl, hc⟩ := h (by have := (List.getElem?_eq_some_iff.1 hj).1; omega)
  cases e
  rw [Addr.add_add]
  exact (hb.cell (p := A.add (a + j)) (by rw [block_of_add]; exact hl)).trans (hc _ _ hj)
end Go.Proofs.YtkjkjhheckfhbaaGreatDoor
