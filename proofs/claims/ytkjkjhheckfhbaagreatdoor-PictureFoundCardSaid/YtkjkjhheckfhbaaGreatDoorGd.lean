/- The counters that are lost, by the reference. -/
import Derived.Test.YtkjkjhheckfhbaaGreatDoorGa
namespace Go.Proofs.YtkjkjhheckfhbaaGreatDoor
open Go.RowKit
set_option linter.unusedVariables false
/-- The counters from c up to d. -/
def dueR : Nat → Int → Int → List Int
  | 0, _, _ => []
  | n + 1, c, d => if c = d then [] else c :: dueR n ((c + 1) % 256) d
theorem dueR_end (n : Nat) (c : Int) : dueR (n + 1) c c = [] := if_pos rfl
theorem dueR_next (n : Nat) {c d : Int} (h : c ≠ d) : dueR (n + 1) c d = c :: dueR n ((c + 1) % 256) d := if_neg h
def lostR (kind : Int) : List Pk → Int → List Int → List Int
  | [], _, acc => acc
  | p :: l, c, acc => if p.k = kind then (if 0 ≤ c then lostR kind l p.c (acc ++ dueR 256 ((c + 1) % 256) p.c) else lostR kind l p.c acc) else lostR kind l c acc
theorem lostR_other {kind : Int} {p : Pk} {l : List Pk} {c : Int} {acc : List Int} (h : p.k ≠ kind) : lostR kind (p :: l) c acc = lostR kind l c acc := if_neg h
theorem lostR_first {kind : Int} {p : Pk} {l : List Pk} {c : Int} {acc : List Int} (h : p.k = kind) (hc : ¬ 0 ≤ c) : lostR kind (p :: l) c acc = lostR kind l p.c acc := (if_pos h).trans (if_neg hc)
theorem lostR_next {kind : Int} {p : Pk} {l : List Pk} {c : Int} {acc : List Int} (h : p.k = kind) (hc : 0 ≤ c) : lostR kind (p :: l) c acc = lostR kind l p.c (acc ++ dueR 256 ((c + 1) % 256) p.c) := (if_pos h).trans (if_pos hc)
theorem dueF_R (d : Int) : ∀ (n : Nat) (c : Int) (acc : List Int), acc.length ≤ 256 → ((acc ++ dueR n c d).length ≤ 256 → dueF n c d acc = (acc ++ dueR n c d, false)) ∧ (256 < (acc ++ dueR n c d).length → ∃ r, dueF n c d acc = (r, true) ∧ 256 < r.length) := by
  intro n
  induction n with
  | zero => intro c acc h; exact ⟨fun _ => by simp [dueF, dueR], fun h2 => by simp [dueR] at h2; omega⟩
  | succ n ih =>
    intro c acc h
    by_cases hc : c = d
    · subst hc
      rw [dueR_end, dueF_end, List.append_nil]
      exact ⟨fun _ => rfl, fun h2 => by omega⟩
    · rw [dueR_next n hc]
      by_cases hm : 256 < acc.length + 1
      · rw [dueF_many n hc hm]
        exact ⟨fun h2 => by simp at h2; omega, fun _ => ⟨_, rfl, by simp; omega⟩⟩
      · rw [dueF_next n hc hm]
        have e : acc ++ c :: dueR n ((c + 1) % 256) d = (acc ++ [c]) ++ dueR n ((c + 1) % 256) d := by simp
        rw [e]
        exact ih _ (acc ++ [c]) (by simp; omega)
theorem lostR_len (kind : Int) : ∀ (l : List Pk) (c : Int) (acc : List Int), acc.length ≤ (lostR kind l c acc).length := by
  intro l
  induction l with
  | nil => intro c acc; exact Nat.le_refl _
  | cons p l ih =>
    intro c acc
    by_cases hk : p.k = kind
    · by_cases hc : 0 ≤ c
      · rw [lostR_next hk hc]
        exact Nat.le_trans (by simp) (ih p.c (acc ++ dueR 256 ((c + 1) % 256) p.c))
      · rw [lostR_first hk hc]; exact ih _ _
    · rw [lostR_other hk]; exact ih _ _
theorem lostF_R (kind : Int) : ∀ (l : List Pk), (∀ p ∈ l, 0 ≤ p.c ∧ p.c ≤ 255) → ∀ (b : Bool) (c c' : Int) (acc : List Int), (b = true → 0 ≤ c ∧ c' = c) → (b = false → ¬ 0 ≤ c') → acc.length ≤ 256 →
    ((lostR kind l c' acc).length ≤ 256 → lostF kind l b c acc = lostR kind l c' acc) ∧ (256 < (lostR kind l c' acc).length → 256 < (lostF kind l b c acc).length) := by
  intro l
  induction l with
  | nil => intro _ b c c' acc _ _ h; exact ⟨fun _ => rfl, fun h2 => h2⟩
  | cons p l ih =>
    intro hp b c c' acc h1 h2 h
    have hpc := hp p (List.mem_cons_self ..)
    have hpl : ∀ q ∈ l, 0 ≤ q.c ∧ q.c ≤ 255 := fun q hq => hp q (List.mem_cons_of_mem _ hq)
    by_cases hk : p.k = kind
    · cases b with
      | false =>
        rw [lostF_first hk, lostR_first hk (h2 rfl)]
        exact ih hpl true p.c p.c acc (fun _ => ⟨hpc.1, rfl⟩) (fun h => by cases h) h
      | true =>
        obtain ⟨hc, rfl⟩ := h1 rfl
        rw [lostR_next hk hc]
        obtain ⟨a1, a2⟩ := dueF_R p.c 256 ((c' + 1) % 256) acc h
        by_cases hm : (acc ++ dueR 256 ((c' + 1) % 256) p.c).length ≤ 256
        · rw [lostF_next hk (a1 hm)]
          exact ih hpl true p.c p.c _ (fun _ => ⟨hpc.1, rfl⟩) (fun h => by cases h) hm
        · obtain ⟨r, hr, hr2⟩ := a2 (by omega)
          rw [lostF_many hk hr]
          exact ⟨fun h3 => absurd (Nat.le_trans (lostR_len kind l p.c _) h3) (by omega), fun _ => hr2⟩
    · rw [lostF_other hk, lostR_other hk]
      exact ih hpl b c c' acc h1 h2 h
theorem lost_agree {l : List Pk} (hl : firstPk l = 0) (kind : Int) : ((lostR kind l (-1) []).length ≤ 256 → lostF kind l false 0 [] = lostR kind l (-1) []) ∧ (256 < (lostR kind l (-1) []).length → 256 < (lostF kind l false 0 []).length) :=
  lostF_R kind l (pk_bounds hl) false 0 (-1) [] (fun h => by cases h) (fun _ => by decide) (by simp)
/-- What holds at the head of each round over the packets. -/
structure RO (w : World) (l : List Pk) (kind : Int) (i : Nat) (c : Int) (acc : List Int) (v : Value) (wx : World) : Prop where
  left : lostR kind l (-1) [] = lostR kind (l.drop i) c acc
  few : acc.length ≤ 255 * i
  lo : -1 ≤ c
  hi : c ≤ 255
  own : wx.ownsRow w.heap.size 3 1 v acc.length (acc.map (.int .i64))
  bel : Below w.heap.size w wx
/-- What holds at the head of each round over the counters. -/
structure RN (w : World) (d : Int) (acc0 acc1 : List Int) (m : Nat) (c : Int) (acc : List Int) (v : Value) (wy : World) : Prop where
  due : acc1 = acc ++ dueR m c d
  steps : stepsTo c d < m
  few : acc.length + stepsTo c d ≤ acc0.length + 255
  lo : 0 ≤ c
  hi : c ≤ 255
  own : wy.ownsRow w.heap.size 3 1 v acc.length (acc.map (.int .i64))
  bel : Below w.heap.size w wy
set_option maxRecDepth 100000 in
set_option maxHeartbeats 2000000 in
theorem lostRef_any (A : Option Addr) (cap : Nat) (l : List Pk) (kind : Int) (w : World) (hl : l.length ≤ 1024) (hr : Rd w A (pksC l)) (hf : firstPk l = 0) :
    Calls Tryz.prog 71 #[.slice A l.length cap, .int .i64 kind] w fun e w' => LostEnd w.heap.size (lostR kind l (-1) []) w e w' := by
  obtain ⟨i0, hi, hz0, hz1, hz2⟩ := info_parts info_int_
  have HR := Lib.hid hr; clear hr
  have HPB := Lib.hid (pk_bounds hf)
  clear hf
  obtain ⟨n, hn⟩ : ∃ n, l.length = n := ⟨_, rfl⟩
  have HN := Lib.hid hn
  rw [hn] at hl ⊢
  clear hn
  go_enter Tryz.func71, Tryz.ntmps71
  go_wp2
  go_loopg [6, 7, 8] n (fun g s6 s7 s8 wx => ∃ (i : Nat) (c : Int) (acc : List Int), i + g = n ∧ s8 = .int .i64 i ∧ s7 = .int .i64 c ∧ RowKit.Hid (RO w l kind i c acc s6 wx))
  case atStart => exact ⟨0, -1, [], by omega, rfl, rfl, Lib.hid ⟨rfl, by simp, by omega, by omega, World.ownsRow_nil _ _ _ _, Below.refl _ _⟩⟩
  case round =>
    obtain ⟨i, c, acc, hig, rfl, rfl, HRO⟩ := hrel
    cases gk with
    | zero =>
      have hin : ¬ ((i : Int) < (n : Int)) := by omega
      have hlt : l.length ≤ i := by rw [HN.out]; omega
      obtain ⟨A6, c6, rfl⟩ := own_shape HRO.out.own
      have hle := HRO.out.left
      rw [List.drop_of_length_le hlt] at hle
      have HLE : RowKit.Hid (lostR kind l (-1) [] = acc) := Lib.hid hle
      clear hle hlt
      by_cases h256 : 256 < acc.length
      · have hd : decide (256 < (acc.length : Int)) = true := by simp; omega
        go_wp2
        go_ret2
        rw [HLE.out]
        exact ⟨.inr ⟨h256, rfl⟩, HRO.out.bel⟩
      · have hd : decide (256 < (acc.length : Int)) = false := by simp; omega
        go_wp2
        go_ret2
        rw [HLE.out]
        exact ⟨.inl ⟨by omega, _, rfl, HRO.out.own⟩, HRO.out.bel⟩
    | succ g =>
      have hin : (i : Int) < (n : Int) := by omega
      have g1 : i < l.length := by rw [HN.out]; omega
      obtain ⟨p, hp⟩ : ∃ p, l[i] = p := ⟨_, rfl⟩
      have hpm : p ∈ l := by rw [← hp]; exact List.getElem_mem g1
      have hpb := HPB.out p hpm
      have Hdr := Lib.hid (show l.drop i = p :: l.drop (i + 1) by rw [List.drop_eq_getElem_cons g1, hp])
      have hat : ∀ j v, p.cells[j]? = some v → (pksC l)[i * 12 + j]? = some v := fun j v hv => pksC_at g1 j v (by rw [hp]; exact hv)
      obtain ⟨ad, rfl, hbl0, hcc0⟩ := HR.out (by rw [pksC_len]; omega)
      have QC : RowKit.Hid (∀ W, Below w.heap.size w W → W.cell? ⟨(ad.add (i * 12)).block, (ad.add (i * 12)).off + 1, none⟩ = some (.int .i64 p.c) ∧ ad.block < W.heap.size) := Lib.hid (fun W hb => by
        refine ⟨(hb.cell (p := ⟨(ad.add (i * 12)).block, (ad.add (i * 12)).off + 1, none⟩) (by dsimp only; rw [block_of_add]; exact hbl0)).trans ?_, Nat.lt_of_lt_of_le hbl0 hb.size⟩
        have h : w.cell? ((ad.add (i * 12)).add 1) = some (.int .i64 p.c) := by
          rw [Addr.add_add]; exact hcc0 _ _ (hat 1 _ rfl)
        exact h)
      clear hbl0 hcc0
      obtain ⟨ad', e', hbl, hcc⟩ := (HR.out.below HRO.out.bel) (by rw [pksC_len]; omega)
      obtain rfl : ad = ad' := Option.some.inj e'
      clear e'
      have q0 : wr.cell? (ad.add (i * 12)) = some (.int .i64 p.k) := hcc _ _ (hat 0 _ rfl)
      have hcx : wr.cell? ((ad.add (i * 12)).add 1) = some (.int .i64 p.c) := by
        rw [Addr.add_add]; exact hcc _ _ (hat 1 _ rfl)
      have q1 : wr.cell? ⟨(ad.add (i * 12)).block, (ad.add (i * 12)).off + 1, none⟩ = some (.int .i64 p.c) := hcx
      have z0 : ad.block < wr.heap.size := hbl
      have hlo := HRO.out.lo
      have hhi := HRO.out.hi
      have hfew := HRO.out.few
      clear hcc hcx hat hp hpm hbl
      by_cases hk : p.k = kind
      · have hk2 : (p.k != kind) = false := by simp [hk]
        have HK := Lib.hid hk
        clear hk
        by_cases hc0 : 0 ≤ c
        · obtain ⟨c1, hc1⟩ : ∃ c1, (c + 1) % 256 = c1 := ⟨_, rfl⟩
          have hc1b : 0 ≤ c1 ∧ c1 ≤ 255 := by omega
          have HC1 := Lib.hid hc1
          obtain ⟨acc1, ha1⟩ : ∃ acc1, acc ++ dueR 256 c1 p.c = acc1 := ⟨_, rfl⟩
          have hrn : RN w p.c acc acc1 256 c1 acc u6 wr := ⟨ha1.symm, stepsTo_lt _ _, by have := stepsTo_lt c1 p.c; omega, hc1b.1, hc1b.2, HRO.out.own, HRO.out.bel⟩
          have HRN := Lib.hid hrn
          have HA1 := Lib.hid ha1
          have HLF : RowKit.Hid (lostR kind l (-1) [] = lostR kind (l.drop (i + 1)) p.c acc1) := Lib.hid (by rw [HRO.out.left, Hdr.out, lostR_next HK.out hc0, HC1.out, HA1.out])
          clear hrn ha1 hc1 hc1b HRO
          go_wp2
          rw [HC1.out]
          go_loopg [6, 9] 256 (fun g2 s6 s9 wy => ∃ (c2 : Int) (acc2 : List Int), s9 = .int .i64 c2 ∧ RowKit.Hid (RN w p.c acc acc1 g2 c2 acc2 s6 wy))
          case atStart => exact ⟨c1, acc, rfl, HRN⟩
          case round =>
            clear HRN
            obtain ⟨c2, acc2, rfl, HRN⟩ := hrel
            have hst := HRN.out.steps
            have hfew2 := HRN.out.few
            have hlo2 := HRN.out.lo
            have hhi2 := HRN.out.hi
            have hsz := HRN.out.bel.size
            clear q0 q1 z0
            obtain ⟨q1, z0⟩ := QC.out wr HRN.out.bel
            cases gk with
            | zero => exact absurd hst (by omega)
            | succ m =>
              by_cases hce : c2 = p.c
              · have hcc : (c2 != p.c) = false := by simp [hce]
                have HFIN : RowKit.Hid (acc1 = acc2) := Lib.hid (by rw [HRN.out.due, hce, dueR_end, List.append_nil])
                have HCE := Lib.hid hce
                clear hce
                go_wp2
                go_roundg g
                case measure => omega
                case rel => exact ⟨i + 1, p.c, acc2, by omega, by go_num, rfl, Lib.hid ⟨by rw [HLF.out, HFIN.out], by omega, by omega, by omega, HRN.out.own, HRN.out.bel⟩⟩
              · have hcc : (c2 != p.c) = true := by simp [hce]
                have HNX : RowKit.Hid (acc1 = (acc2 ++ [c2]) ++ dueR m ((c2 + 1) % 256) p.c) := Lib.hid (by rw [HRN.out.due, dueR_next m hce]; simp)
                have hsn := stepsTo_next ⟨hlo2, hhi2⟩ hpb hce
                have HSN : RowKit.Hid (stepsTo ((c2 + 1) % 256) p.c < m ∧ (acc2 ++ [c2]).length + stepsTo ((c2 + 1) % 256) p.c ≤ acc.length + 255) := Lib.hid ⟨by omega, by rw [List.length_append, List.length_singleton]; omega⟩
                have HCE := Lib.hid hce
                have HNB := Lib.hid (heap_alloc_new wr (.cells #[.int .i64 c2] 3))
                have hmod : 0 ≤ (c2 + 1) % 256 ∧ (c2 + 1) % 256 ≤ 255 := by omega
                have HMOD := Lib.hid hmod
                clear hce hsn hmod
                go_wp2_with (at_builtin; go_must (refine wpList_append_own_at _ (by rfl) (.tmp 38) (.tmp 40) 25 (by rfl) w.heap.size 3 i0 (.int .i64 0) 1 8 Tryz.underlying25 hi hz0 hz1 hz2 (by rfl) (by decide) _ acc2.length (acc2.map (.int .i64)) (by rfl) (HRN.out.own.alloc _) ⟨wr.heap.size, 0, none⟩ 1 1 [.int .i64 c2] rfl rfl (World.news_of_block HNB.out) (by simp [Value.oneCell']) (by unfold maxLen; omega) (by omega) (by simp; omega) ?_); intro v' w4 hown1 hgrow hnil hat1)
                go_roundg m
                case measure => omega
                case rel =>
                  refine ⟨(c2 + 1) % 256, acc2 ++ [c2], rfl, Lib.hid ⟨HNX.out, HSN.out.1, HSN.out.2, HMOD.out.1, HMOD.out.2, by rw [List.map_append, List.length_append]; exact hown1, ?_⟩⟩
                  exact (HRN.out.bel.alloc HRN.out.bel.size (.cells #[.int .i64 c2] 3)).grown hgrow (by simp; omega) (fun r hr => (owns_block (HRN.out.own.alloc (.cells #[.int .i64 c2] 3)) r hr).1)
        · have HC0 := Lib.hid hc0
          have hc0' : decide (0 ≤ c) = false := by simpa using hc0
          clear hc0
          go_wp2
          go_roundg g
          case measure => omega
          case rel => exact ⟨i + 1, p.c, acc, by omega, by go_num, rfl, Lib.hid ⟨by rw [HRO.out.left, Hdr.out, lostR_first HK.out (by have := HC0.out; omega)], by omega, by omega, by omega, HRO.out.own, HRO.out.bel⟩⟩
      · have hk2 : (p.k != kind) = true := by simp [hk]
        have HK := Lib.hid hk
        clear hk
        go_wp2
        go_roundg g
        case measure => omega
        case rel => exact ⟨i + 1, c, acc, by omega, by go_num, rfl, Lib.hid ⟨by rw [HRO.out.left, Hdr.out, lostR_other HK.out], by omega, by omega, by omega, HRO.out.own, HRO.out.bel⟩⟩
end Go.Proofs.YtkjkjhheckfhbaaGreatDoor
