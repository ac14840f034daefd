/- A region that draws its order, operation by operation: each one keeps the world growing and leaves a value of which a fact holds that no growth undoes; then the order makes no difference. -/
import Derived.Test.YtkjkjhheckfhbaaGreatDoorPE
import Derived.Deep.RegionHeld3
namespace Go.Proofs.YtkjkjhheckfhbaaGreatDoor
open Go Go.RowKit
set_option linter.unusedVariables false
section
variable {P : Program} {ops : Array Oper} {Q : Exit → Act → World → Prop} {R : World → World → Prop}
/-- The temporary that operation i fills. -/
def dstOf (ops : Array Oper) (i : Nat) : Option Tmp := (ops[i]?).bind (·.dst)
/-- The frame with the values of some operations. -/
def canon (ops : Array Oper) (v : Nat → Value) (a : Act) : List Nat → Act
  | [] => a
  | i :: l => (canon ops v a l).put (dstOf ops i) (v i)
theorem canon_nil (v : Nat → Value) (a : Act) : canon ops v a [] = a := rfl
/-- Operation i, run in this frame and world, ends in a grown world and leaves a value for which the fact holds. -/
def SpecOp (P : Program) (ops : Array Oper) (Q : Exit → Act → World → Prop) (R : World → World → Prop) (i : Nat) (a : Act) (w : World) (F : Value → World → Prop) : Prop :=
  ∀ K : Act → World → Prop, (∀ v w', R w w' → F v w' → K (a.put (dstOf ops i) v) w') → wpOp P ops Q i K a w
theorem put_size (a : Act) (d : Option Tmp) (v : Value) : (a.put d v).tmps.size = a.tmps.size := by cases d <;> simp [Act.put]
theorem put_dfs (a : Act) (d : Option Tmp) (v : Value) : (a.put d v).defers = a.defers := by cases d <;> rfl
theorem put_get_ne (a : Act) {d : Option Tmp} {t : Tmp} (v : Value) (h : d ≠ some t) : (a.put d v).tmps[t]? = a.tmps[t]? := by
  cases d with
  | none => rfl
  | some d => simp only [Act.put]; exact Array.getElem?_setIfInBounds_ne (fun e => h (by rw [e]))
theorem put_get_eq (a : Act) (t : Tmp) (v : Value) : (a.put (some t) v).tmps[t]? = if t < a.tmps.size then some v else none := by
  simp only [Act.put]
  by_cases h : t < a.tmps.size
  · rw [if_pos h, Array.getElem?_setIfInBounds_self_of_lt h]
  · rw [if_neg h, Array.getElem?_eq_none (by rw [Array.size_setIfInBounds]; exact Nat.le_of_not_lt h)]
theorem put_transfer {a a' : Act} (hs : a.tmps.size = a'.tmps.size) {d : Option Tmp} {u v : Value} (h : a.put d u = a.put d v) : a'.put d u = a'.put d v := by
  cases d with
  | none => rfl
  | some t =>
    have h1 : (a.put (some t) u).tmps[t]? = (a.put (some t) v).tmps[t]? := by rw [h]
    rw [put_get_eq, put_get_eq] at h1
    by_cases ht : t < a.tmps.size
    · rw [if_pos ht, if_pos ht] at h1
      cases h1; rfl
    · simp only [Act.put]
      have hle : a'.tmps.size ≤ t := by rw [← hs]; exact Nat.le_of_not_lt ht
      rw [Array.setIfInBounds_eq_of_size_le hle, Array.setIfInBounds_eq_of_size_le hle]
theorem act_ext {a b : Act} (h : ∀ t : Nat, a.tmps[t]? = b.tmps[t]?) (hd : a.defers = b.defers) : a = b := by
  obtain ⟨t1, d1⟩ := a; obtain ⟨t2, d2⟩ := b
  simp only [] at hd h
  rw [Array.ext_getElem? h, hd]
theorem SpecOp.transfer {j : Nat} {oj : Oper} (hj : ops[j]? = some oj) (hsel : ∀ cs b, oj.op ≠ .select cs b)
    (hQ : ∀ (c : List PanicEntry) (a a' : Act) w, a.defers = a'.defers → Q (.panic c) a w → Q (.panic c) a' w) {a a' : Act} (hdf : a.defers = a'.defers) (hs : a.tmps.size = a'.tmps.size)
    (heq : ∀ t ∈ oj.looksAt ops, a.tmps[t]? = a'.tmps[t]?) {w : World} {F : Value → World → Prop} (h : SpecOp P ops Q R j a w F) : SpecOp P ops Q R j a' w F := by
  intro K hK
  have hd : dstOf ops j = oj.dst := by simp [dstOf, hj]
  have he : execOp a'.eval oj = execOp a.eval oj := execOp_congr oj hsel fun x hx => by
    cases x with
    | tmp t =>
      have := heq t (List.mem_append_left _ (List.mem_filterMap.2 ⟨.tmp t, by simpa using hx, rfl⟩))
      simp only [Act.eval, Array.getD_eq_getD_getElem?, this]
    | _ => rfl
  have hw : Region.wanted oj (yielded ops a'.tmps) = Region.wanted oj (yielded ops a.tmps) := by
    unfold Region.wanted
    cases hg : oj.guard with
    | none => rfl
    | some gw =>
      obtain ⟨g, want⟩ := gw
      have hy : yielded ops a'.tmps g = yielded ops a.tmps g := by
        unfold yielded
        cases ht : (ops[g]?).bind (·.dst) with
        | none => rfl
        | some t =>
          have := heq t (by simp [Oper.looksAt, hg, ht])
          simp only [Option.bind_some, this]
      simp only [hy]
  have h1 := h (fun b w' => ∃ v, b = a.put oj.dst v ∧ R w w' ∧ F v w') (fun v w' hr hv => ⟨v, by rw [hd], hr, hv⟩)
  rw [hd] at hK
  have key : ∀ u w1, (∃ v, a.put oj.dst u = a.put oj.dst v ∧ R w w1 ∧ F v w1) → K (a'.put oj.dst u) w1 := fun u w1 ⟨v, e, hr, hv⟩ => by
    rw [put_transfer hs e]; exact hK v w1 hr hv
  unfold wpOp at *
  simp only [hj] at *
  rw [hw]
  split
  · rename_i hwt
    simp only [hwt, if_true] at h1
    rcases h1 with h1 | ⟨ha, hl⟩
    case inr => exact .inr ⟨by unfold Oper.asks at *; rw [he]; exact ha, hl⟩
    refine .inl ?_
    unfold Oper.wp at *
    rw [he]
    generalize (execOp a.eval oj).run P w = r at *
    cases r with
    | ok n w' =>
      cases n <;> simp only [Oper.upon] at h1 ⊢
      case value u => exact key u w' h1
      case skip => exact key undef w' h1
      case defer d =>
        obtain ⟨v, e, _⟩ := h1
        have := congrArg Act.defers e
        rw [put_dfs, put_dfs] at this
        simp at this
      case enter f args =>
        refine Calls.mono h1 fun e w'' he => ?_
        cases e with
        | returned u => exact key u w'' he
        | panicked c => exact hQ _ _ _ _ hdf he
        | outgrown => exact he
      case row row args => exact Rows.mono h1 fun u w'' he => key u w'' he
    | halt x w' =>
      cases x <;> simp only [Oper.upon] at h1 ⊢
      case panic u => exact hQ _ _ _ _ hdf h1
  · rename_i hwf
    simp only [hwf] at h1
    exact key undef w h1
/-- The operations whose values operation j looks at. -/
def depsOf (ops : Array Oper) (j : Nat) : List Nat :=
  (List.range ops.size).filter fun d => match dstOf ops d, ops[j]? with
    | some t, some o => (o.looksAt ops).contains t
    | _, _ => false
/-- What is asked of a region's text: no select; two operations fill two temporaries; whatever is looked at is waited for; what is waited for stands before. -/
def okOps (ops : Array Oper) : Bool :=
  Region.noSelect ops
  && ((List.range ops.size).all fun i => (List.range ops.size).all fun j => i == j || (dstOf ops i).isNone || dstOf ops i != dstOf ops j)
  && ((List.range ops.size).all fun j => match ops[j]? with
      | none => false
      | some o => ((List.range ops.size).all fun d => match dstOf ops d with
          | none => true
          | some t => !(o.looksAt ops).contains t || (o.after.any fun e => Region.binds .any e && e.on == d))
        && (o.after.all fun e => !Region.binds .any e || decide (e.on < j)))
structure OkOps (ops : Array Oper) : Prop where
  sel : Region.noSelect ops = true
  dist : ∀ (i j : Nat) (t : Tmp), i < ops.size → j < ops.size → i ≠ j → dstOf ops i = some t → dstOf ops j ≠ some t
  dep : ∀ (j : Nat) (o : Oper), ops[j]? = some o → ∀ (d : Nat) (t : Tmp), d < ops.size → dstOf ops d = some t → t ∈ o.looksAt ops → ∃ e ∈ o.after, Region.binds .any e = true ∧ e.on = d
  back : ∀ (j : Nat) (o : Oper), ops[j]? = some o → ∀ e ∈ o.after, Region.binds .any e = true → e.on < j
theorem okOps_spec (h : okOps ops = true) : OkOps ops := by
  unfold okOps at h
  simp only [Bool.and_eq_true, List.all_eq_true, List.mem_range] at h
  obtain ⟨⟨h1, h2⟩, h3⟩ := h
  refine ⟨h1, fun i j t hi hj hne hd he => ?_, fun j o hj d t hd hdt ht => ?_, fun j o hj e he hb => ?_⟩
  · have := h2 i hi j hj
    rw [hd, he] at this
    simp [hne] at this
  · have hlt : j < ops.size := (Array.getElem?_eq_some_iff.1 hj).1
    have h4 := h3 j hlt
    rw [hj] at h4
    simp only [Bool.and_eq_true, List.all_eq_true, List.mem_range] at h4
    have h5 := h4.1 d hd
    rw [hdt] at h5
    simp only [Bool.or_eq_true, Bool.not_eq_true', Array.any_eq_true', Bool.and_eq_true, beq_iff_eq] at h5
    rcases h5 with h5 | ⟨e, he, hb, hon⟩
    · rw [List.contains_iff_mem.2 ht] at h5; cases h5
    · exact ⟨e, he, hb, hon⟩
  · have hlt : j < ops.size := (Array.getElem?_eq_some_iff.1 hj).1
    have h4 := h3 j hlt
    rw [hj] at h4
    simp only [Bool.and_eq_true, Array.all_eq_true_iff_forall_mem, Bool.or_eq_true, Bool.not_eq_true', decide_eq_true_eq] at h4
    rcases h4.2 e he with h5 | h5
    · rw [hb] at h5; cases h5
    · exact h5
/-- The frame a holds the values v of the listed operations, and is a0 elsewhere. -/
structure Agree (ops : Array Oper) (a0 : Act) (listed : Array Bool) (v : Nat → Value) (a : Act) : Prop where
  size : a.tmps.size = a0.tmps.size
  dfs : a.defers = a0.defers
  hit : ∀ i t, i < ops.size → listed.getD i true = true → dstOf ops i = some t → a.tmps[t]? = if t < a0.tmps.size then some (v i) else none
  miss : ∀ t, (∀ i, i < ops.size → listed.getD i true = true → dstOf ops i ≠ some t) → a.tmps[t]? = a0.tmps[t]?
theorem Agree.put (ho : OkOps ops) {a0 : Act} {listed : Array Bool} {v : Nat → Value} {a : Act} (h : Agree ops a0 listed v a) (hn : listed.size = ops.size) {j : Nat} (hj : j < ops.size) (hu : listed.getD j true = false) (u : Value) :
    Agree ops a0 (listed.setIfInBounds j true) (fun i => if i = j then u else v i) (a.put (dstOf ops j) u) := by
  refine ⟨by rw [put_size, h.size], by rw [put_dfs, h.dfs], fun i t hi hl hd => ?_, fun t hm => ?_⟩
  · by_cases hij : i = j
    · subst hij
      rw [hd, put_get_eq, if_pos rfl, h.size]
    · rw [if_neg hij, put_get_ne _ _ (ho.dist i j t hi hj hij hd)]
      exact h.hit i t hi (by rw [getD_set_ne true (Ne.symm hij)] at hl; exact hl) hd
  · have hne : dstOf ops j ≠ some t := hm j hj (by simp [hn, hj])
    rw [put_get_ne _ _ hne]
    refine h.miss t fun i hi hl => hm i hi ?_
    by_cases hij : j = i
    · subst hij; simp [hn, hj]
    · rw [getD_set_ne true hij]; exact hl
theorem canon_size (v : Nat → Value) (a : Act) (l : List Nat) : (canon ops v a l).tmps.size = a.tmps.size := by
  induction l with
  | nil => rfl
  | cons i l ih => rw [canon, put_size, ih]
theorem canon_dfs (v : Nat → Value) (a : Act) (l : List Nat) : (canon ops v a l).defers = a.defers := by
  induction l with
  | nil => rfl
  | cons i l ih => rw [canon, put_dfs, ih]
theorem canon_hit (ho : OkOps ops) (v : Nat → Value) (a : Act) {i t : Nat} (hd : dstOf ops i = some t) : ∀ (l : List Nat), (∀ j ∈ l, j < ops.size) → i ∈ l → (canon ops v a l).tmps[t]? = if t < a.tmps.size then some (v i) else none := by
  intro l
  induction l with
  | nil => intro _ h; cases h
  | cons j l ih =>
    intro hl hm
    by_cases hij : j = i
    · subst hij; rw [canon, hd, put_get_eq, canon_size]
    · have hi : i ∈ l := by rcases List.mem_cons.1 hm with h | h; exact absurd h.symm hij; exact h
      rw [canon, put_get_ne _ _ (ho.dist i j t (hl i hm) (hl j (List.mem_cons_self ..)) (Ne.symm hij) hd)]
      exact ih (fun k hk => hl k (List.mem_cons_of_mem _ hk)) hi
theorem canon_miss (v : Nat → Value) (a : Act) {t : Nat} : ∀ (l : List Nat), (∀ j ∈ l, dstOf ops j ≠ some t) → (canon ops v a l).tmps[t]? = a.tmps[t]? := by
  intro l
  induction l with
  | nil => intro _; rfl
  | cons j l ih =>
    intro hl
    rw [canon, put_get_ne _ _ (hl j (List.mem_cons_self ..))]
    exact ih fun k hk => hl k (List.mem_cons_of_mem _ hk)
variable (F : Nat → Value → World → Prop) (a0 : Act) (w0 : World)
theorem each_any (ho : OkOps ops) (htr : ∀ a b c, R a b → R b c → R a c) (hst : ∀ i v w w', F i v w → R w w' → F i v w')
    (hQ : ∀ (c : List PanicEntry) (a a' : Act) w, a.defers = a'.defers → Q (.panic c) a w → Q (.panic c) a' w)
    (hstep : ∀ i, i < ops.size → ∀ (v : Nat → Value) (w : World), R w0 w → (∀ d ∈ depsOf ops i, F d (v d) w) → SpecOp P ops Q R i (canon ops v a0 (depsOf ops i)) w (F i))
    (hend : ∀ (v : Nat → Value) (w : World), R w0 w → (∀ i, i < ops.size → F i (v i) w) → Q .normal (canon ops v a0 (List.range ops.size)) w) :
    ∀ (fuel : Nat) (listed : Array Bool) (v : Nat → Value) (a : Act) (w : World), listed.size = ops.size → ((List.range ops.size).filter fun i => !listed.getD i true).length ≤ fuel →
      Agree ops a0 listed v a → R w0 w → (∀ i, i < ops.size → listed.getD i true = true → F i (v i) w) → wpAny P .any ops Q fuel listed a w := by
  have fin : ∀ (listed : Array Bool) (v : Nat → Value) (a : Act) (w : World), listed.size = ops.size → Region.ready .any ops listed = [] → Agree ops a0 listed v a → R w0 w → (∀ i, i < ops.size → listed.getD i true = true → F i (v i) w) → Q .normal a w := by
    intro listed v a w hn hr ha hw hf
    have hall : ∀ k i, i < k → i < ops.size → listed.getD i true = true := by
      intro k
      induction k with
      | zero => intro i hi; omega
      | succ k ih =>
        intro i hi hin
        by_cases hl : listed.getD i true = true
        · exact hl
        · have hmem : i ∈ Region.ready .any ops listed := by
            rw [mem_ready]
            obtain ⟨o, hoi⟩ : ∃ o, ops[i]? = some o := ⟨ops[i], by simp [hin]⟩
            refine ⟨by simpa using hl, o, hoi, fun e he hb => ?_⟩
            have h1 := ho.back i o hoi e he hb
            have h2 := ih e.on (by omega) (by omega)
            simp only [Array.getD_eq_getD_getElem?] at h2 ⊢
            rw [Array.getElem?_eq_getElem (by omega)] at h2 ⊢
            exact h2
          rw [hr] at hmem; cases hmem
    have e : a = canon ops v a0 (List.range ops.size) := by
      refine act_ext (fun t => ?_) (by rw [ha.dfs, canon_dfs])
      by_cases hx : ∃ i, i < ops.size ∧ dstOf ops i = some t
      · obtain ⟨i, hi, hd⟩ := hx
        rw [ha.hit i t hi (hall (i + 1) i (by omega) hi) hd, canon_hit ho v a0 hd _ (fun j hj => List.mem_range.1 hj) (List.mem_range.2 hi)]
      · rw [ha.miss t (fun i hi _ hd => hx ⟨i, hi, hd⟩), canon_miss v a0 _ (fun j hj hd => hx ⟨j, List.mem_range.1 hj, hd⟩)]
    rw [e]
    exact hend v w hw fun i hi => hf i hi (hall (i + 1) i (by omega) hi)
  intro fuel
  induction fuel with
  | zero =>
    intro listed v a w hn hc ha hw hf
    have hr : Region.ready .any ops listed = [] := by
      rw [List.eq_nil_iff_forall_not_mem]
      intro j hj
      obtain ⟨h0, o, hoj, _⟩ := mem_ready.1 hj
      have hlt : j < ops.size := (Array.getElem?_eq_some_iff.1 hoj).1
      have : j ∈ (List.range ops.size).filter fun i => !listed.getD i true := List.mem_filter.2 ⟨List.mem_range.2 hlt, by simp only [h0, Bool.not_false]⟩
      rw [List.length_eq_zero_iff.1 (Nat.le_zero.1 hc)] at this
      cases this
    exact ⟨hr, fin listed v a w hn hr ha hw hf⟩
  | succ fuel ih =>
    intro listed v a w hn hc ha hw hf
    refine ⟨fun hr => fin listed v a w hn hr ha hw hf, fun j hj => ?_⟩
    obtain ⟨h0, oj, hoj, hall⟩ := mem_ready.1 hj
    have hlt : j < ops.size := (Array.getElem?_eq_some_iff.1 hoj).1
    have hdep : ∀ d t, d < ops.size → dstOf ops d = some t → t ∈ oj.looksAt ops → listed.getD d true = true := fun d t hd hdt ht => by
      obtain ⟨e, he, hb, rfl⟩ := ho.dep j oj hoj d t hd hdt ht
      have h2 := hall e he hb
      simp only [Array.getD_eq_getD_getElem?] at h2 ⊢
      rw [Array.getElem?_eq_getElem (by omega)] at h2 ⊢
      exact h2
    have hdl : ∀ d ∈ depsOf ops j, d < ops.size ∧ listed.getD d true = true := fun d hd => by
      obtain ⟨h1, h2⟩ := List.mem_filter.1 hd
      have hd' := List.mem_range.1 h1
      rw [hoj] at h2
      cases hdt : dstOf ops d with
      | none => rw [hdt] at h2; cases h2
      | some t => rw [hdt] at h2; exact ⟨hd', hdep d t hd' hdt (List.contains_iff_mem.1 h2)⟩
    have hspec := hstep j hlt v w hw (fun d hd => hf d (hdl d hd).1 (hdl d hd).2)
    have hspec2 := hspec.transfer hoj (Region.noSelect_spec ho.sel j oj · · hoj) hQ (a' := a) (by rw [canon_dfs, ha.dfs]) (by rw [canon_size, ha.size]) (fun t ht => by
      by_cases hx : ∃ d, d < ops.size ∧ dstOf ops d = some t
      · obtain ⟨d, hd, hdt⟩ := hx
        have hmem : d ∈ depsOf ops j := List.mem_filter.2 ⟨List.mem_range.2 hd, by rw [hdt, hoj]; exact List.contains_iff_mem.2 ht⟩
        rw [canon_hit ho v a0 hdt _ (fun k hk => (hdl k hk).1) hmem, ha.hit d t hd (hdep d t hd hdt ht) hdt]
      · rw [canon_miss v a0 _ (fun k hk hdt => hx ⟨k, (hdl k hk).1, hdt⟩), ha.miss t (fun k hk _ hdt => hx ⟨k, hk, hdt⟩)])
    refine hspec2 _ fun u w' hr hu => ih _ (fun i => if i = j then u else v i) _ w' (by simp [hn]) ?_ (ha.put ho hn hlt h0 u) (htr _ _ _ hw hr) fun i hi hl => ?_
    · have hsub : ((List.range ops.size).filter fun i => !(listed.setIfInBounds j true).getD i true).length < ((List.range ops.size).filter fun i => !listed.getD i true).length := by
        have e : ((List.range ops.size).filter fun i => !(listed.setIfInBounds j true).getD i true) = (((List.range ops.size).filter fun i => !listed.getD i true).filter fun i => i != j) := by
          rw [List.filter_filter]
          refine List.filter_congr fun i hi => ?_
          by_cases hij : j = i
          · subst hij; simp [hn, hlt]
          · rw [getD_set_ne true hij]
            have : (i != j) = true := by simp; exact fun h => hij h.symm
            rw [this]; simp
        rw [e]
        refine List.length_filter_lt_length_iff_exists.2 ⟨j, List.mem_filter.2 ⟨List.mem_range.2 hlt, by simp only [h0, Bool.not_false]⟩, by simp⟩
      omega
    · by_cases hij : i = j
      · subst hij; rw [if_pos rfl]; exact hu
      · rw [if_neg hij]
        rw [getD_set_ne true (Ne.symm hij)] at hl
        exact hst i _ _ _ (hf i hi hl) hr
/-- A region that draws its order, operation by operation. -/
theorem wp_region_each {id : Nat} {w : World} (hm : P.follows .mixedOrders = true) (hok : okOps ops = true) (hrf : R w0 { w with drawn := w.drawn + 1 }) (htr : ∀ a b c, R a b → R b c → R a c) (hst : ∀ i v w w', F i v w → R w w' → F i v w')
    (hQ : ∀ (c : List PanicEntry) (a a' : Act) w, a.defers = a'.defers → Q (.panic c) a w → Q (.panic c) a' w)
    (hstep : ∀ i, i < ops.size → ∀ (v : Nat → Value) (w : World), R w0 w → (∀ d ∈ depsOf ops i, F d (v d) w) → SpecOp P ops Q R i (canon ops v a0 (depsOf ops i)) w (F i))
    (hend : ∀ (v : Nat → Value) (w : World), R w0 w → (∀ i, i < ops.size → F i (v i) w) → Q .normal (canon ops v a0 (List.range ops.size)) w) :
    (Code.region id ops true).wp P Q a0 w :=
  wp_region_any hm (each_any F a0 w0 (okOps_spec hok) htr hst hQ hstep hend ops.size _ (fun _ => undef) a0 _ (by simp) (by
      refine Nat.le_trans (List.length_filter_le _ _) (by simp)) ⟨rfl, rfl, fun i t hi hl => by simp [hi] at hl, fun t _ => rfl⟩ hrf fun i hi hl => by simp [hi] at hl)
/-- A fact of a value that no growth of the world undoes. -/
structure Fact where
  p : Value → World → Prop
  st : ∀ v w w', p v w → Below w.heap.size w w' → p v w'
def Fact.is (x : Value) : Fact := ⟨fun u _ => u = x, fun _ _ _ h _ => h⟩
def Fact.any : Fact := ⟨fun _ _ => True, fun _ _ _ _ _ => trivial⟩
def Fact.ints (n : Nat) (l : List Int) : Fact := ⟨fun u w => ∃ A c, u = .slice A n c ∧ Rd w A (l.map (.int .i64)), fun _ _ _ ⟨A, c, h1, h2⟩ hb => ⟨A, c, h1, h2.below hb⟩⟩
theorem Fact.is_out {x v : Value} {w : World} (h : (Fact.is x).p v w) : v = x := h
/-- A growing world. -/
def Grown (w w' : World) : Prop := Below w.heap.size w w'
theorem grown_trans (a b c : World) (h : Grown a b) (k : Grown b c) : Grown a c := Below.trans h (Below.mono k (Below.size h))
theorem spec_of {i : Nat} {o : Oper} (ho : ops[i]? = some o) {a : Act} {w : World} {F : Value → World → Prop}
    (h : ∀ K : Act → World → Prop, Shut (∀ v w', Below w.heap.size w w' → F v w' → K (a.put o.dst v) w') → if Region.wanted o (yielded ops a.tmps) = true then Oper.wp P o a w K Q else K (a.put o.dst undef) w) : SpecOp P ops Q Grown i a w F := by
  intro K hK
  have hd : dstOf ops i = o.dst := by simp [dstOf, ho]
  rw [hd] at hK
  exact wpOp_step ho (fun K' hK' => h K' (fun v w' hr hv => hK' _ _ (hK v w' hr hv)))
/-- The frame with the values of a table of operations. -/
def putL (v : Nat → Value) (a : Act) : List (Option Tmp × Nat) → Act
  | [] => a
  | (d, k) :: l => (putL v a l).put d (v k)
theorem canon_putL (v : Nat → Value) (a : Act) (l : List Nat) : canon ops v a l = putL v a (l.map fun i => (dstOf ops i, i)) := by
  induction l with
  | nil => rfl
  | cons i l ih => rw [canon, ih]; rfl
/-- A region that draws its order, by a list of facts. -/
theorem wp_region_facts (fs : List Fact) (tab : List (List Nat)) (ds : List (Option Tmp × Nat)) {id : Nat} {a0 : Act} {w : World} (hm : P.follows .mixedOrders = true) (hok : okOps ops = true) (htab : (List.range ops.size).map (depsOf ops) = tab) (hds : ((List.range ops.size).map fun i => (dstOf ops i, i)) = ds)
    (hQ : ∀ (c : List PanicEntry) (a a' : Act) w, a.defers = a'.defers → Q (.panic c) a w → Q (.panic c) a' w)
    (hstep : ∀ i, i < ops.size → ∀ (v : Nat → Value) (w' : World), Below w.heap.size w w' → (∀ d ∈ tab.getD i [], (fs.getD d Fact.any).p (v d) w') → SpecOp P ops Q Grown i (canon ops v a0 (tab.getD i [])) w' (fs.getD i Fact.any).p)
    (hend : ∀ (v : Nat → Value) (w' : World), Below w.heap.size w w' → (∀ i, i < ops.size → (fs.getD i Fact.any).p (v i) w') → Q .normal (putL v a0 ds) w') :
    (Code.region id ops true).wp P Q a0 w := by
  have htd : ∀ i, i < ops.size → tab.getD i [] = depsOf ops i := fun i hi => by rw [← htab]; simp [List.getD, hi]
  exact wp_region_each (R := Grown) (fun i => (fs.getD i Fact.any).p) a0 w hm hok ((Below.refl _ _).drew) grown_trans (fun i v w w' h hb => (fs.getD i Fact.any).st v w w' h hb) hQ
    (fun i hi v w' hw hd => by have h := hstep i hi v w' hw; rw [htd i hi] at h; exact h hd) (fun v w' hw hf => by rw [canon_putL, hds]; exact hend v w' hw hf)
end
end Go.Proofs.YtkjkjhheckfhbaaGreatDoor
