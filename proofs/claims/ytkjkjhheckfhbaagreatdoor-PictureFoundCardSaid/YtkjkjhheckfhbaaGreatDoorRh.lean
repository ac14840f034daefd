/- A region that draws its order, some operations of which go one after the other and change memory that the region's start has not seen: the others leave values that are known outright. -/
import Derived.Test.YtkjkjhheckfhbaaGreatDoorRe
namespace Go.Proofs.YtkjkjhheckfhbaaGreatDoor
open Go Go.RowKit
set_option linter.unusedVariables false
section
variable {P : Program} {ops : Array Oper} {Q : Exit → Act → World → Prop}
theorem each_chain (ho : OkOps ops) (fs : Nat → Value) (m : Nat) (hm : 0 < m) (c : Nat → Nat) (ST : Nat → Value → World → Prop) (B : Nat) (a0 : Act) (w0 : World) (hB : B ≤ w0.heap.size)
    (hc : ∀ k, k < m → c k < ops.size) (hinj : ∀ j k, j < m → k < m → c j = c k → j = k)
    (hcn : ∀ i, i < ops.size → (∀ k, k < m → i ≠ c k) → ∀ d ∈ depsOf ops i, ∀ k, k < m → d ≠ c k)
    (hcc : ∀ k, k + 1 < m → c k ∈ depsOf ops (c (k + 1)))
    (hst : ∀ k u w w', ST k u w → Below w.heap.size w w' → ST k u w')
    (hQ : ∀ (c : List PanicEntry) (a a' : Act) w, a.defers = a'.defers → Q (.panic c) a w → Q (.panic c) a' w)
    (hstep : ∀ i, i < ops.size → (∀ k, k < m → i ≠ c k) → ∀ (v : Nat → Value) (w : World), Below B w0 w → (∀ d ∈ depsOf ops i, v d = fs d) → SpecOp P ops Q Grown i (canon ops v a0 (depsOf ops i)) w (fun u _ => u = fs i))
    (hch : ∀ k, k < m → ∀ (v : Nat → Value) (w : World), Below B w0 w → (∀ d ∈ depsOf ops (c k), (∀ j, j < m → d ≠ c j) → v d = fs d) → ST k (v (c (k - 1))) w → SpecOp P ops Q (Below B) (c k) (canon ops v a0 (depsOf ops (c k))) w (ST (k + 1)))
    (hend : ∀ (v : Nat → Value) (w : World), Below B w0 w → (∀ i, i < ops.size → (∀ k, k < m → i ≠ c k) → v i = fs i) → ST m (v (c (m - 1))) w → Q .normal (canon ops v a0 (List.range ops.size)) w) :
    ∀ (fuel : Nat) (listed : Array Bool) (v : Nat → Value) (a : Act) (w : World), listed.size = ops.size → ((List.range ops.size).filter fun i => !listed.getD i true).length ≤ fuel →
      Agree ops a0 listed v a → Below B w0 w → (∀ i, i < ops.size → listed.getD i true = true → (∀ k, k < m → i ≠ c k) → v i = fs i) → (∃ k, k ≤ m ∧ (∀ j, j < m → listed.getD (c j) true = decide (j < k)) ∧ ST k (v (c (k - 1))) w) → wpAny P .any ops Q fuel listed a w := by
  have fin : ∀ (listed : Array Bool) (v : Nat → Value) (a : Act) (w : World), listed.size = ops.size → Region.ready .any ops listed = [] → Agree ops a0 listed v a → Below B w0 w → (∀ i, i < ops.size → listed.getD i true = true → (∀ k, k < m → i ≠ c k) → v i = fs i) → (∃ k, k ≤ m ∧ (∀ j, j < m → listed.getD (c j) true = decide (j < k)) ∧ ST k (v (c (k - 1))) w) → Q .normal a w := by
    intro listed v a w hn hr ha hw hf hk
    have hall : ∀ k i, i < k → i < ops.size → listed.getD i true = true := by
      intro k
      induction k with
      | zero => intro i hi; omega
      | succ k ih =>
        intro i hi hin
        by_cases hl : listed.getD i true = true
        · exact hl
        · have hmem : i ∈ Region.ready .any ops listed := by
            rw [mem_ready]
            obtain ⟨o, hoi⟩ : ∃ o, ops[i]? = some o := ⟨ops[i], by simp [hin]⟩
            refine ⟨by simpa using hl, o, hoi, fun e he hb => ?_⟩
            have h1 := ho.back i o hoi e he hb
            have h2 := ih e.on (by omega) (by omega)
            simp only [Array.getD_eq_getD_getElem?] at h2 ⊢
            rw [Array.getElem?_eq_getElem (by omega)] at h2 ⊢
            exact h2
          rw [hr] at hmem; cases hmem
    have e : a = canon ops v a0 (List.range ops.size) := by
      refine act_ext (fun t => ?_) (by rw [ha.dfs, canon_dfs])
      by_cases hx : ∃ i, i < ops.size ∧ dstOf ops i = some t
      · obtain ⟨i, hi, hd⟩ := hx
        rw [ha.hit i t hi (hall (i + 1) i (by omega) hi) hd, canon_hit ho v a0 hd _ (fun j hj => List.mem_range.1 hj) (List.mem_range.2 hi)]
      · rw [ha.miss t (fun i hi _ hd => hx ⟨i, hi, hd⟩), canon_miss v a0 _ (fun j hj hd => hx ⟨j, List.mem_range.1 hj, hd⟩)]
    rw [e]
    obtain ⟨k, hkm, hkl, hks⟩ := hk
    have hkm2 : k = m := by
      have h1 := hkl (m - 1) (by omega)
      rw [hall (c (m - 1) + 1) (c (m - 1)) (by omega) (hc _ (by omega))] at h1
      have := of_decide_eq_true h1.symm
      omega
    subst hkm2
    exact hend v w hw (fun i hi hne => hf i hi (hall (i + 1) i (by omega) hi) hne) hks
  intro fuel
  induction fuel with
  | zero =>
    intro listed v a w hn hcn0 ha hw hf hk
    have hr : Region.ready .any ops listed = [] := by
      rw [List.eq_nil_iff_forall_not_mem]
      intro j hj
      obtain ⟨h0, o, hoj, _⟩ := mem_ready.1 hj
      have hlt : j < ops.size := (Array.getElem?_eq_some_iff.1 hoj).1
      have : j ∈ (List.range ops.size).filter fun i => !listed.getD i true := List.mem_filter.2 ⟨List.mem_range.2 hlt, by simp only [h0, Bool.not_false]⟩
      rw [List.length_eq_zero_iff.1 (Nat.le_zero.1 hcn0)] at this
      cases this
    exact ⟨hr, fin listed v a w hn hr ha hw hf hk⟩
  | succ fuel ih =>
    intro listed v a w hn hcnt ha hw hf hk
    refine ⟨fun hr => fin listed v a w hn hr ha hw hf hk, fun j hj => ?_⟩
    obtain ⟨h0, oj, hoj, hall⟩ := mem_ready.1 hj
    have hlt : j < ops.size := (Array.getElem?_eq_some_iff.1 hoj).1
    have hdep : ∀ d t, d < ops.size → dstOf ops d = some t → t ∈ oj.looksAt ops → listed.getD d true = true := fun d t hd hdt ht => by
      obtain ⟨e, he, hb, rfl⟩ := ho.dep j oj hoj d t hd hdt ht
      have h2 := hall e he hb
      simp only [Array.getD_eq_getD_getElem?] at h2 ⊢
      rw [Array.getElem?_eq_getElem (by omega)] at h2 ⊢
      exact h2
    have hdl : ∀ d ∈ depsOf ops j, d < ops.size ∧ listed.getD d true = true := fun d hd => by
      obtain ⟨h1, h2⟩ := List.mem_filter.1 hd
      have hd' := List.mem_range.1 h1
      rw [hoj] at h2
      cases hdt : dstOf ops d with
      | none => rw [hdt] at h2; cases h2
      | some t => rw [hdt] at h2; exact ⟨hd', hdep d t hd' hdt (List.contains_iff_mem.1 h2)⟩
    have hcnt2 : ((List.range ops.size).filter fun i => !(listed.setIfInBounds j true).getD i true).length ≤ fuel := by
      have hsub : ((List.range ops.size).filter fun i => !(listed.setIfInBounds j true).getD i true).length < ((List.range ops.size).filter fun i => !listed.getD i true).length := by
        have e : ((List.range ops.size).filter fun i => !(listed.setIfInBounds j true).getD i true) = (((List.range ops.size).filter fun i => !listed.getD i true).filter fun i => i != j) := by
          rw [List.filter_filter]
          refine List.filter_congr fun i hi => ?_
          by_cases hij : j = i
          · subst hij; simp [hn, hlt]
          · rw [getD_set_ne true hij]
            have : (i != j) = true := by simp; exact fun h => hij h.symm
            rw [this]; simp
        rw [e]
        refine List.length_filter_lt_length_iff_exists.2 ⟨j, List.mem_filter.2 ⟨List.mem_range.2 hlt, by simp only [h0, Bool.not_false]⟩, by simp⟩
      omega
    have htr : ∀ F : Value → World → Prop, ∀ R : World → World → Prop, SpecOp P ops Q R j (canon ops v a0 (depsOf ops j)) w F → SpecOp P ops Q R j a w F := fun F R h => h.transfer hoj (Region.noSelect_spec ho.sel j oj · · hoj) hQ (a' := a) (by rw [canon_dfs, ha.dfs]) (by rw [canon_size, ha.size]) (fun t ht => by
      by_cases hx : ∃ d, d < ops.size ∧ dstOf ops d = some t
      · obtain ⟨d, hd, hdt⟩ := hx
        have hmem : d ∈ depsOf ops j := List.mem_filter.2 ⟨List.mem_range.2 hd, by rw [hdt, hoj]; exact List.contains_iff_mem.2 ht⟩
        rw [canon_hit ho v a0 hdt _ (fun k hk => (hdl k hk).1) hmem, ha.hit d t hd (hdep d t hd hdt ht) hdt]
      · rw [canon_miss v a0 _ (fun k hk hdt => hx ⟨k, (hdl k hk).1, hdt⟩), ha.miss t (fun k hk _ hdt => hx ⟨k, hk, hdt⟩)])
    have hset : ∀ i, i ≠ j → (listed.setIfInBounds j true).getD i true = listed.getD i true := fun i hi => getD_set_ne true (Ne.symm hi)
    have hset2 : (listed.setIfInBounds j true).getD j true = true := by simp [hn, hlt]
    obtain ⟨k, hkm, hkl, hks⟩ := hk
    by_cases hch0 : ∃ i, i < m ∧ j = c i
    · obtain ⟨i, him, rfl⟩ := hch0
      have hik : i = k := by
        have h1 := hkl i him
        rw [h0] at h1
        have h2 : ¬ i < k := of_decide_eq_false h1.symm
        by_cases h3 : i = 0
        · omega
        · obtain ⟨p, rfl⟩ : ∃ p, i = p + 1 := ⟨i - 1, by omega⟩
          have h4 := (hdl _ (hcc p him)).2
          rw [hkl p (by omega)] at h4
          have := of_decide_eq_true h4
          omega
      subst hik
      refine htr _ _ (hch i him v w hw (fun d hd hne => hf d (hdl d hd).1 (hdl d hd).2 hne) hks) _ fun u w' hr hu => ih _ (fun q => if q = c i then u else v q) _ w' (by simp [hn]) hcnt2 (ha.put ho hn hlt h0 u) (hw.trans hr) (fun q hq hl hne => ?_) ⟨i + 1, by omega, fun q hq => ?_, ?_⟩
      · have hqj : q ≠ c i := hne i him
        rw [if_neg hqj]
        rw [hset q hqj] at hl
        exact hf q hq hl hne
      · by_cases hqi : q = i
        · subst hqi; rw [hset2, decide_eq_true (by omega)]
        · rw [hset _ (fun e => hqi (hinj _ _ hq him e)), hkl q hq]
          by_cases hlt2 : q < i
          · rw [decide_eq_true hlt2, decide_eq_true (by omega)]
          · rw [decide_eq_false hlt2, decide_eq_false (by omega)]
      · show ST (i + 1) (if c i = c i then u else _) w'
        rw [if_pos rfl]; exact hu
    · have hne : ∀ k, k < m → j ≠ c k := fun k hk e => hch0 ⟨k, hk, e⟩
      refine htr _ _ (hstep j hlt hne v w hw fun d hd => hf d (hdl d hd).1 (hdl d hd).2 (hcn j hlt hne d hd)) _ fun u w' hr hu => ih _ (fun q => if q = j then u else v q) _ w' (by simp [hn]) hcnt2 (ha.put ho hn hlt h0 u) (hw.trans (Below.mono hr (Nat.le_trans hB hw.size))) (fun q hq hl hneq => ?_) ⟨k, hkm, fun q hq => ?_, ?_⟩
      · by_cases hqj : q = j
        · subst hqj; rw [if_pos rfl]; exact hu
        · rw [if_neg hqj]
          rw [hset q hqj] at hl
          exact hf q hq hl hneq
      · rw [hset _ (fun e => hne q hq e.symm), hkl q hq]
      · have : c (k - 1) ≠ j := fun e => hne (k - 1) (by omega) e.symm
        show ST k (if c (k - 1) = j then u else _) w'
        rw [if_neg this]
        exact hst _ _ _ _ hks hr
/-- A region that draws its order, with a chain of operations that change what lies from block B on. -/
theorem wp_region_chain (fs : List Value) (cs : List Nat) (ST : Nat → Value → World → Prop) (B : Nat) (tab : List (List Nat)) (ds : List (Option Tmp × Nat)) {id : Nat} {a0 : Act} {w : World} (hB : B ≤ w.heap.size)
    (hm : P.follows .mixedOrders = true) (hok : okOps ops = true) (htab : (List.range ops.size).map (depsOf ops) = tab) (hds : ((List.range ops.size).map fun i => (dstOf ops i, i)) = ds)
    (hcs : (decide (0 < cs.length) && (List.range cs.length).all (fun k => decide (cs.getD k 0 < ops.size) && (List.range cs.length).all (fun j => decide (j = k) || decide (cs.getD j 0 ≠ cs.getD k 0)) && (decide (¬ k + 1 < cs.length) || (tab.getD (cs.getD (k + 1) 0) []).contains (cs.getD k 0))) &&
      (List.range ops.size).all (fun i => cs.contains i || (tab.getD i []).all fun d => !cs.contains d)) = true)
    (hst : ∀ k u w w', ST k u w → Below w.heap.size w w' → ST k u w') (hST : ST 0 undef w.drew)
    (hQ : ∀ (c : List PanicEntry) (a a' : Act) w, a.defers = a'.defers → Q (.panic c) a w → Q (.panic c) a' w)
    (hstep : ∀ i, i < ops.size → cs.contains i = false → ∀ (v : Nat → Value) (w' : World), Below B w w' → (∀ d ∈ tab.getD i [], v d = fs.getD d undef) → SpecOp P ops Q Grown i (canon ops v a0 (tab.getD i [])) w' (fun u _ => u = fs.getD i undef))
    (hch : ∀ k, k < cs.length → ∀ (v : Nat → Value) (w' : World), Below B w w' → (∀ d ∈ tab.getD (cs.getD k 0) [], cs.contains d = false → v d = fs.getD d undef) → ST k (v (cs.getD (k - 1) 0)) w' → SpecOp P ops Q (Below B) (cs.getD k 0) (canon ops v a0 (tab.getD (cs.getD k 0) [])) w' (ST (k + 1)))
    (hend : ∀ (v : Nat → Value) (w' : World), Below B w w' → (∀ i, i < ops.size → cs.contains i = false → v i = fs.getD i undef) → ST cs.length (v (cs.getD (cs.length - 1) 0)) w' → Q .normal (putL v a0 ds) w') :
    (Code.region id ops true).wp P Q a0 w := by
  have htd : ∀ i, i < ops.size → tab.getD i [] = depsOf ops i := fun i hi => by rw [← htab]; simp [List.getD, hi]
  rw [Bool.and_eq_true, Bool.and_eq_true] at hcs
  obtain ⟨⟨h1, h2⟩, h3⟩ := hcs
  have hpos : 0 < cs.length := of_decide_eq_true h1
  have h2' : ∀ k, k < cs.length → (cs.getD k 0 < ops.size) ∧ (∀ j, j < cs.length → j = k ∨ cs.getD j 0 ≠ cs.getD k 0) ∧ (k + 1 < cs.length → (tab.getD (cs.getD (k + 1) 0) []).contains (cs.getD k 0) = true) := by
    intro k hk
    have h := List.all_eq_true.1 h2 k (List.mem_range.2 hk)
    rw [Bool.and_eq_true, Bool.and_eq_true] at h
    obtain ⟨⟨ha, hb⟩, hc⟩ := h
    refine ⟨of_decide_eq_true ha, fun j hj => ?_, fun hk1 => ?_⟩
    · have hbj := List.all_eq_true.1 hb j (List.mem_range.2 hj)
      rcases Bool.or_eq_true _ _ |>.mp hbj with h | h
      · exact .inl (of_decide_eq_true h)
      · exact .inr (of_decide_eq_true h)
    · rcases Bool.or_eq_true _ _ |>.mp hc with h | h
      · exact absurd hk1 (of_decide_eq_true h)
      · exact h
  have hmem : ∀ i, cs.contains i = false ↔ ∀ k, k < cs.length → i ≠ cs.getD k 0 := by
    intro i
    constructor
    · intro h k hk e
      have : i ∈ cs := by
        rw [e]
        have : cs.getD k 0 = cs[k] := by simp [List.getD, hk]
        rw [this]; exact List.getElem_mem hk
      rw [List.contains_iff_mem.2 this] at h
      cases h
    · intro h
      cases hcon : cs.contains i with
      | false => rfl
      | true =>
        obtain ⟨k, hk, e⟩ := List.mem_iff_getElem.1 (List.contains_iff_mem.1 hcon)
        exact absurd (by simp [List.getD, hk, e]) (h k hk)
  refine wp_region_any hm (each_chain (okOps_spec hok) (fun i => fs.getD i undef) cs.length hpos (fun k => cs.getD k 0) ST B a0 w hB (fun k hk => (h2' k hk).1) (fun j k hj hk e => ?_) ?_ ?_ hst hQ ?_ ?_ ?_ ops.size _ (fun _ => undef) a0 _ (by simp) (by
      refine Nat.le_trans (List.length_filter_le _ _) (by simp)) ⟨rfl, rfl, fun i t hi hl => by simp [hi] at hl, fun t _ => rfl⟩ ((Below.refl _ _).drew) (fun i hi hl => by simp [hi] at hl) ⟨0, Nat.zero_le _, fun j hj => ?_, hST⟩)
  · rcases (h2' k hk).2.1 j hj with h | h
    · exact h
    · exact absurd e h
  · intro i hi hne d hd
    have h := List.all_eq_true.1 h3 i (List.mem_range.2 hi)
    rw [(hmem i).2 hne, Bool.false_or, htd i hi] at h
    have h4 := List.all_eq_true.1 h d hd
    exact (hmem d).1 (by simpa using h4)
  · intro k hk
    have h := (h2' k (by omega)).2.2 hk
    rw [htd _ (h2' _ hk).1] at h
    exact List.contains_iff_mem.1 h
  · intro i hi hne v w' hw hd
    have h := hstep i hi ((hmem i).2 hne) v w' hw
    rw [htd i hi] at h; exact h hd
  · intro k hk v w' hw hd hs
    have h := hch k hk v w' hw
    rw [htd _ (h2' k hk).1] at h
    exact h (fun d hd' hc => hd d hd' ((hmem d).1 hc)) hs
  · intro v w' hw hf hs
    rw [canon_putL, hds]
    exact hend v w' hw (fun i hi hc => hf i hi ((hmem i).1 hc)) hs
  · show (Array.replicate ops.size false).getD (cs.getD j 0) true = decide (j < 0)
    rw [Array.getD_eq_getD_getElem?, Array.getElem?_replicate, if_pos (h2' j hj).1]
    rfl
end
end Go.Proofs.YtkjkjhheckfhbaaGreatDoor
