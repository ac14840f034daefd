/- The packets that are received. -/
import Derived.Test.YtkjkjhheckfhbaaGreatDoorAk
import Derived.Test.YtkjkjhheckfhbaaGreatDoorAl
import Derived.Maps.OwnIn
namespace Go.Proofs.YtkjkjhheckfhbaaGreatDoor
open Go.RowKit
set_option linter.unusedVariables false
open Go.Shelf
attribute [local go_sem] Oper.semAt_some
theorem info_packet : (Tryz.prog.info? 92).map (fun i => (i.zero, i.size, i.bytes)) = some (some pk0.val, 12, 32) := by kernel_rfl
def RI (n : Nat) (s0 : Value) (s : Rc) (W : World) : Prop := ∃ v1 v2, RP n s0 v1 v2 s.pk s.sk s.nx W
theorem rstep_skip {bs : List U8} {s : Rc} {a : Nat} (h : a < s.nx) : rstep bs s a = s := if_pos h
theorem rstep_ok {bs : List U8} {s : Rc} {a : Nat} (h : ¬ a < s.nx) (ho : pkOk bs a = true) : rstep bs s a = ⟨s.pk ++ [pkAt bs a], s.sk, a + 16⟩ := by unfold rstep; rw [if_neg h, if_pos ho]
theorem rstep_no {bs : List U8} {s : Rc} {a : Nat} (h : ¬ a < s.nx) (ho : pkOk bs a = false) : rstep bs s a = ⟨s.pk, addSpan s.sk a, s.nx⟩ := by unfold rstep; rw [if_neg h, ho]; rfl
theorem brd_mono {n m : Nat} {w : World} {A : Option Addr} {bs : List U8} (h : BRd n w A bs) (hnm : n ≤ m) : BRd m w A bs := fun h0 => by
  obtain ⟨ad, e, hl, hc⟩ := h h0
  exact ⟨ad, e, by omega, hc⟩
set_option maxRecDepth 100000 in
set_option maxHeartbeats 2000000 in
theorem received_in (A : Option Addr) (cap : Nat) (bs : List U8) (hlen : bs.length ≤ 16384) (hcap : bs.length ≤ cap) (w : World) (hL : BRd w.heap.size w A bs) :
    CallsIn Fence.wide 4 Tryz.prog 73 #[.slice A bs.length cap] w fun e W' => ∃ v1 v2, e = .returned (.tuple #[v1, v2, .int .i64 0]) ∧ W'.ownsRow (w.heap.size + 4) 92 12 v1 (rfold bs (List.range bs.length)).pk.length (pksC (rfold bs (List.range bs.length)).pk) ∧ W'.ownsRow (w.heap.size + 4) 47 2 v2 (rfold bs (List.range bs.length)).sk.length (spansC (rfold bs (List.range bs.length)).sk) ∧ Below w.heap.size w W' := by
  obtain ⟨i0, hi, hz0, hz1, hz2⟩ := info_parts info_packet
  have h1 : 1 ≤ 4 := by omega
  have hro : Fence.wide.round = none := rfl
  have f1 : Fence.wide.fn 133 := trivial
  have f2 : Fence.wide.fn 172 := trivial
  have f3 : Fence.wide.fn 134 := trivial
  have f4 : Fence.wide.fn 135 := trivial
  refine callsIn_of_wp_marks Tryz.func73 rfl trivial ?_ hro
  simp only [Tryz.ntmps73, List.size_toArray, List.length_cons, List.length_nil, Nat.reduceAdd, Nat.reduceSub, Array.replicate_succ, Array.replicate_zero, List.push_toArray, List.append_toArray, List.nil_append, List.cons_append]
  have hd : decide ((bs.length : Int) > 16384) = false := by simp; omega
  gi_wp2_with (gi_at_call 133; refine (visited_in Fence.wide 3 trivial hro _ _ _ _).mono ?_; rintro e w' ⟨rfl, rfl⟩)
  have hB0 : Below w.heap.size w (((((w.alloc (.cells #[.slice A bs.length cap] 106)).alloc (.cells #[.slice none 0 0] 96)).alloc (.cells #[.slice none 0 0] 107)).alloc (.cells #[.int .i64 0] 3)).alloc (.cells #[.slice A bs.length cap] 106)) :=
    (((((Below.refl _ w).alloc (Nat.le_refl _) _).alloc (by simp) _).alloc (by simp only [World.size_alloc]; omega) _).alloc (by simp only [World.size_alloc]; omega) _).alloc (by simp only [World.size_alloc]; omega) _
  have q0 := ((((Blk.new w 106 #[.slice A bs.length cap]).alloc (.cells #[.slice none 0 0] 96)).alloc (.cells #[.slice none 0 0] 107)).alloc (.cells #[.int .i64 0] 3)).alloc (.cells #[.slice A bs.length cap] 106)
  have q1 := (((Blk.new (w.alloc (.cells #[.slice A bs.length cap] 106)) 96 #[.slice none 0 0]).alloc (.cells #[.slice none 0 0] 107)).alloc (.cells #[.int .i64 0] 3)).alloc (.cells #[.slice A bs.length cap] 106)
  have q2 := ((Blk.new ((w.alloc (.cells #[.slice A bs.length cap] 106)).alloc (.cells #[.slice none 0 0] 96)) 107 #[.slice none 0 0]).alloc (.cells #[.int .i64 0] 3)).alloc (.cells #[.slice A bs.length cap] 106)
  have q3 := (Blk.new (((w.alloc (.cells #[.slice A bs.length cap] 106)).alloc (.cells #[.slice none 0 0] 96)).alloc (.cells #[.slice none 0 0] 107)) 3 #[.int .i64 0]).alloc (.cells #[.slice A bs.length cap] 106)
  have q4 := Blk.new ((((w.alloc (.cells #[.slice A bs.length cap] 106)).alloc (.cells #[.slice none 0 0] 96)).alloc (.cells #[.slice none 0 0] 107)).alloc (.cells #[.int .i64 0] 3)) 106 #[.slice A bs.length cap]
  simp only [World.size_alloc] at q1 q2 q3 q4
  have hz : (((((w.alloc (.cells #[.slice A bs.length cap] 106)).alloc (.cells #[.slice none 0 0] 96)).alloc (.cells #[.slice none 0 0] 107)).alloc (.cells #[.int .i64 0] 3)).alloc (.cells #[.slice A bs.length cap] 106)).heap.size = w.heap.size + 1 + 1 + 1 + 1 + 1 := by simp only [World.size_alloc]
  generalize (((((w.alloc (.cells #[.slice A bs.length cap] 106)).alloc (.cells #[.slice none 0 0] 96)).alloc (.cells #[.slice none 0 0] 107)).alloc (.cells #[.int .i64 0] 3)).alloc (.cells #[.slice A bs.length cap] 106)) = W0 at hB0 q0 q1 q2 q3 q4 hz ⊢
  have HZ := Lib.hid hz
  clear hz
  have hr0 : RI w.heap.size (.slice A bs.length cap) (rfold bs []) W0 := ⟨_, _, q0, q1, q2, q3, World.ownsRow_nil _ _ _ _, World.ownsRow_nil _ _ _ _, fun _ => rfl, .inl rfl⟩
  refine wpIn_rangeFunc_ownF hro h1 (gf := 172) (lb := #[.pointer (some ⟨w.heap.size + 1 + 1 + 1 + 1, 0, none⟩)]) rfl f2 (enters_of Tryz.func172 (by kernel_rfl) rfl)
    (visited_pos Fence.wide 3 f2 hro (by omega) (w.heap.size + 1 + 1 + 1 + 1) w.heap.size cap A bs (by omega) W0 (by rw [HZ.out]; omega) (by rw [HZ.out]; omega) (q4.cell 0) (hL.below hB0)) belowK_t (belowK_b (by rw [HZ.out]; omega)) (Below.refl _ _) (fun _ => rfl)
    (fun pre W => RI w.heap.size (.slice A bs.length cap) (rfold bs (posV pre)) W ∧ Below w.heap.size w W)
    (fun _ _ _ => False)
    (OwnFrom.and (Own.from (fun s A B row hs hg hr => by obtain ⟨v1, v2, h⟩ := hs; exact ⟨v1, v2, h.keep hg hr⟩) _) (ownFrom_below (Nat.le_refl _) (by rw [HZ.out]; omega)))
    (fun _ _ _ _ _ hs _ _ => hs)
    ⟨hr0, hB0⟩
    (fun x => { tmps := #[.slice A bs.length cap, .pointer (some ⟨w.heap.size, 0, none⟩), .slice none 0 0, .slice none 0 0, .int .i64 0, .pointer (some ⟨w.heap.size + 1, 0, none⟩), .pointer (some ⟨w.heap.size + 1 + 1, 0, none⟩), .pointer (some ⟨w.heap.size + 1 + 1 + 1, 0, none⟩), .int .i64 x.1, undef, undef, .slice A bs.length cap, .int .i64 bs.length, .bool false, .slice A bs.length cap, .func (.func 172) #[] #[.pointer (some ⟨w.heap.size + 1 + 1 + 1 + 1, 0, none⟩)], .int .i64 x.1, .int .u8 (bs.getD x.1 u0).1, undef, undef, undef, undef, undef, undef, undef, undef, undef, undef, undef, undef, undef, undef, undef, undef, undef, undef, undef, undef, undef], defers := [] }) ?assign ?body ?done ?stop
  case assign =>
    intro l x W K hK
    gi_wp2
    exact hK
  case body =>
    rintro l pre x W ⟨⟨v1, v2, hp⟩, hB⟩ hlt
    have hlp := (rfold_len bs (posV pre))
    have hpl : (posV pre).length = pre.length := by simp [posV]
    have hxl := x.2
    obtain ⟨s, hs⟩ : ∃ s, rfold bs (posV pre) = s := ⟨_, rfl⟩
    have HS : RowKit.Hid (rfold bs (posV (pre ++ [x])) = rstep bs s x.1) := Lib.hid (by rw [posV_snoc, rfold_snoc, hs])
    rw [hs] at hp hlp
    rw [hpl] at hlp
    clear hpl hs
    obtain ⟨k, hk⟩ : ∃ k : Nat, x.1 = k := ⟨_, rfl⟩
    rw [hk] at HS hxl
    rw [hk]
    obtain ⟨c, hc⟩ : ∃ c, (bs.getD k u0).1 = c := ⟨_, rfl⟩
    rw [hc]
    have hL1 := hL.below (hB.mono (Nat.le_refl _))
    clear hk hc
    have c0 := hp.b0.cell 0
    have c1 := hp.b1.cell 0
    have c2 := hp.b2.cell 0
    have c3 := hp.b3.cell 0
    have f1' := hp.b1.frozen 0
    have f2' := hp.b2.frozen 0
    have f3' := hp.b3.frozen 0
    simp only [List.getElem?_toArray, List.getElem?_cons_zero] at c0 c1 c2 c3
    have HP := Lib.hid hp
    have HB := Lib.hid hB
    clear hp hB q0 q1 q2 q3 q4 hr0
    by_cases hk1 : k < s.nx
    · have hkd : decide ((k : Int) < (s.nx : Int)) = true := by simp; omega
      have HR := Lib.hid (rstep_skip (bs := bs) hk1)
      gi_wp2
      refine ⟨KeepsOthers.refl _, Below.refl _ _, ?_, HB.out⟩
      rw [HS.out, HR.out]
      exact ⟨_, _, HP.out⟩
    · have hkd : decide ((k : Int) < (s.nx : Int)) = false := by simp; omega
      gi_wp2_with fail
      refine (CallsIn.inRound l ((callsIn_wide (n := 1)).2 (packetAt_any A bs cap k (by omega) hcap (by omega) W (brd_mono hL1 HB.out.size)))).mono ?_
      rintro e W1 ⟨rfl, hb1⟩
      obtain ⟨p, hp⟩ : ∃ p, pkAt bs k = p := ⟨_, rfl⟩
      rw [hp]
      have HPK := Lib.hid hp
      have HP1 := Lib.hid (HP.out.below hb1)
      have HB1 := Lib.hid (HB.out.trans (hb1.mono HB.out.size))
      have HK1 := Lib.hid (keeps_below hb1)
      have HV1 := Lib.hid (hb1.mono HB.out.size)
      have HS1 := Lib.hid (hb1.size)
      have g1 := HP1.out.b1.cell 0
      have g2 := HP1.out.b2.cell 0
      have h1' := HP1.out.b1.frozen 0
      have h2' := HP1.out.b2.frozen 0
      have h3' := HP1.out.b3.frozen 0
      simp only [List.getElem?_toArray, List.getElem?_cons_zero] at g1 g2
      have z1 := HP1.out.b1.lt
      have z2 := HP1.out.b2.lt
      have z3 := HP1.out.b3.lt
      clear hp hb1 c0 c1 c2 c3 f1' f2' f3' HP
      obtain ⟨ok, hok⟩ : ∃ ok, pkOk bs k = ok := ⟨_, rfl⟩
      rw [hok]
      unfold Pk.val
      cases ok with
      | false =>
        have HR := Lib.hid (rstep_no hk1 hok)
        clear hok
        gi_wp2_with fail
        refine (CallsIn.inRound l ((callsIn_wide (n := 1)).2 (withPlace_any (w.heap.size + 4) k v2 s.sk (by omega) (by omega) HP1.out.nil _ (by exact (HP1.out.below ((Below.refl _ _).alloc (Nat.le_refl _) _)).o2) (by simp; omega)))).mono ?_
        rintro e W3 ⟨v2', rfl, ho, hg, ha⟩
        obtain ⟨a2, c2, rfl⟩ := own_shape ho
        have hp2 := HP1.out.below ((Below.refl _ _).alloc (Nat.le_refl _) (.cells #[.int .i64 p.k, .int .i64 p.c, .int .u8 p.d0, .int .u8 p.d1, .int .u8 p.d2, .int .u8 p.d3, .int .u8 p.d4, .int .u8 p.d5, .int .u8 p.d6, .int .u8 p.d7, .int .u8 p.d8, .int .u8 p.d9] 92))
        have hx := hp2.box2 hg
        have t1 := hx.cell 0
        have t2 := hx.frozen 0
        have t3 := hx.lt
        simp only [List.getElem?_toArray, List.getElem?_cons_zero] at t1
        have HK := Lib.hid ((HK1.out.trans (KeepsOthers.alloc _ _)).trans (hp2.keeps2 hg))
        have HB3 := Lib.hid (hp2.below2 (HB1.out.alloc HB1.out.size _) (Nat.le_refl _) (by have := HB1.out.size; simp; omega) hg)
        have HV3 := Lib.hid (hp2.below2 (HV1.out.alloc (by have := HB1.out.size; omega) _) (Nat.le_refl _) (by have := HB1.out.size; simp; omega) hg)
        have HP3 := Lib.hid (hp2.app2 ho (addSpan_ne _ _) hg ha)
        clear hp2 hx ho hg ha g1 g2
        gi_wp2
        refine ⟨HK.out.trans (KeepsOthers.setCell _ _ _), ?_, ?_, HB3.out.setCell (p := ⟨w.heap.size + 1 + 1, 0, none⟩) (by dsimp only; omega) _⟩
        · exact HV3.out.setCell (p := ⟨w.heap.size + 1 + 1, 0, none⟩) (by dsimp only; omega) _
        · rw [HS.out, HR.out]
          exact ⟨_, _, HP3.out⟩
      | true =>
        have HR := Lib.hid (rstep_ok hk1 hok)
        clear hok
        have hnb := heap_alloc_new (W1.alloc (.cells #[.int .i64 p.k, .int .i64 p.c, .int .u8 p.d0, .int .u8 p.d1, .int .u8 p.d2, .int .u8 p.d3, .int .u8 p.d4, .int .u8 p.d5, .int .u8 p.d6, .int .u8 p.d7, .int .u8 p.d8, .int .u8 p.d9] 92)) (.cells #[.int .i64 p.k, .int .i64 p.c, .int .u8 p.d0, .int .u8 p.d1, .int .u8 p.d2, .int .u8 p.d3, .int .u8 p.d4, .int .u8 p.d5, .int .u8 p.d6, .int .u8 p.d7, .int .u8 p.d8, .int .u8 p.d9] 92)
        rw [World.size_alloc] at hnb
        have HNB := Lib.hid hnb
        clear hnb
        have HP2 := Lib.hid ((HP1.out.below ((Below.refl _ _).alloc (Nat.le_refl _) (.cells #[.int .i64 p.k, .int .i64 p.c, .int .u8 p.d0, .int .u8 p.d1, .int .u8 p.d2, .int .u8 p.d3, .int .u8 p.d4, .int .u8 p.d5, .int .u8 p.d6, .int .u8 p.d7, .int .u8 p.d8, .int .u8 p.d9] 92))).below ((Below.refl _ _).alloc (Nat.le_refl _) (.cells #[.int .i64 p.k, .int .i64 p.c, .int .u8 p.d0, .int .u8 p.d1, .int .u8 p.d2, .int .u8 p.d3, .int .u8 p.d4, .int .u8 p.d5, .int .u8 p.d6, .int .u8 p.d7, .int .u8 p.d8, .int .u8 p.d9] 92)))
        gi_wp2_with (gi_at_builtin; go_must (refine wpListIn_append_own_at _ (by rfl) (.tmp 28) (.tmp 30) 96 (by rfl) (w.heap.size + 4) 92 i0 pk0.val 12 32 Tryz.underlying96 hi hz0 hz1 hz2 (by rfl) (by decide) v1 s.pk.length (pksC s.pk) (by rfl) ((HP1.out.o1.alloc _).alloc _) ⟨W1.heap.size + 1, 0, none⟩ 1 1 (pksC [p]) rfl rfl (World.news_of_block HNB.out) (by simp [pksC, Pk.cells, Value.oneCell']) (by unfold maxLen; omega) (by omega) (by simp; omega) ?_); intro v1' W4 ho hg hnil ha; go_must (obtain ⟨a1, c1, rfl⟩ := own_shape ho; have hp2 := HP2.out; have hx := hp2.box1 hg; have t1 := hx.1.cell 0; have t2 := hx.1.frozen 0; have t3 := hx.1.lt; have u1 := hx.2.cell 0; have u2 := hx.2.frozen 0; have u3 := hx.2.lt; simp only [List.getElem?_toArray, List.getElem?_cons_zero] at t1 u1; have HK := Lib.hid (((HK1.out.trans (KeepsOthers.alloc _ _)).trans (KeepsOthers.alloc _ _)).trans (hp2.keeps1 hg)); have HB4 := Lib.hid (hp2.below1 ((HB1.out.alloc HB1.out.size _).alloc (by have := HB1.out.size; simp; omega) _) (Nat.le_refl _) (by have := HB1.out.size; simp; omega) hg); have HV4 := Lib.hid (hp2.below1 ((HV1.out.alloc (by have := HB1.out.size; omega) _).alloc (by have := HB1.out.size; simp; omega) _) (Nat.le_refl _) (by have := HB1.out.size; simp; omega) hg); have HP4 := Lib.hid (RP.app (pk' := s.pk ++ [p]) hp2 (by rw [pksC_app, List.length_append]; exact ho) hg (by rcases ha with h | h; exact .inl h; exact .inr ⟨_, Nat.le_refl _, h⟩)); clear hp2 hx ho hg ha hnil g1 g2))
        refine ⟨(HK.out.trans (KeepsOthers.setCell _ _ _)).trans (KeepsOthers.setCell _ _ _), ?_, ?_, (HB4.out.setCell (p := ⟨w.heap.size + 1, 0, none⟩) (by dsimp only; omega) _).setCell (p := ⟨w.heap.size + 1 + 1 + 1, 0, none⟩) (by dsimp only; omega) _⟩
        · exact (HV4.out.setCell (p := ⟨w.heap.size + 1, 0, none⟩) (by dsimp only; omega) _).setCell (p := ⟨w.heap.size + 1 + 1 + 1, 0, none⟩) (by dsimp only; omega) _
        · rw [HS.out, HR.out]
          have h5 := HP4.out.next (nx' := k + 16)
          rw [HPK.out]
          rw [Int.natCast_add] at h5
          exact ⟨.slice a1 (s.pk.length + 1) c1, v2, h5⟩
  case done =>
    rintro D ys W hD hys ⟨⟨v1, v2, hp⟩, hB⟩ hK
    rw [hys] at hp
    have c1 := hp.b1.cell 0
    have c2 := hp.b2.cell 0
    simp only [List.getElem?_toArray, List.getElem?_cons_zero] at c1 c2
    have ho1 := hp.o1
    have ho2 := hp.o2
    clear hp
    obtain ⟨A1, k1, rfl⟩ := own_shape ho1
    obtain ⟨A2, k2, rfl⟩ := own_shape ho2
    have HO1 := Lib.hid ho1
    have HO2 := Lib.hid ho2
    clear ho1 ho2
    gi_wp2
    gi_region
    gi_wp2
    have hD2 : w.heap.size ≤ D := by rw [HZ.out] at hD; omega
    refine ⟨by simp, .inl ⟨_, _, rfl, run_takeDeferred (w := W.drew) hK, ?_⟩⟩
    refine ⟨.tuple #[.slice A1 (rfold bs (List.range bs.length)).pk.length k1, .slice A2 (rfold bs (List.range bs.length)).sk.length k2, .int .i64 0], by simp [results, Tryz.results73, go_sem], _, _, rfl, ?_, ?_, ?_⟩
    · exact owns_kept HO1.out.drew (grownBy_putObj' W.drew D _) (fun r e => by cases e; exact ⟨_, hK, rfl⟩)
    · exact owns_kept HO2.out.drew (grownBy_putObj' W.drew D _) (fun r e => by cases e; exact ⟨_, hK, rfl⟩)
    · exact hB.drew.trans (belowK_b (w := w) (Nat.le_refl _) W.drew D _ _ hD2 hK rfl rfl)
  case stop =>
    rintro D c pre W _ _ h _
    exact h.elim
theorem received_any (A : Option Addr) (cap : Nat) (bs : List U8) (hlen : bs.length ≤ 16384) (hcap : bs.length ≤ cap) (w : World) (hL : BRd w.heap.size w A bs) :
    Calls Tryz.prog 73 #[.slice A bs.length cap] w fun e W' => ∃ v1 v2, e = .returned (.tuple #[v1, v2, .int .i64 0]) ∧ W'.ownsRow (w.heap.size + 4) 92 12 v1 (rfold bs (List.range bs.length)).pk.length (pksC (rfold bs (List.range bs.length)).pk) ∧ W'.ownsRow (w.heap.size + 4) 47 2 v2 (rfold bs (List.range bs.length)).sk.length (spansC (rfold bs (List.range bs.length)).sk) ∧ Below w.heap.size w W' :=
  callsIn_wide.1 (received_in A cap bs hlen hcap w hL)
theorem received_long (A : Option Addr) (cap n : Nat) (hlen : 16384 < n) (w : World) :
    Calls Tryz.prog 73 #[.slice A n cap] w fun e W' => e = .returned (.tuple #[.slice none 0 0, .slice none 0 0, .int .i64 26]) ∧ Below w.heap.size w W' := by
  have hd : decide ((n : Int) > 16384) = true := by simp; omega
  go_enter Tryz.func73, Tryz.ntmps73
  go_wp2
  exact bodyPost_ret (v := .tuple #[.slice none 0 0, .slice none 0 0, .int .i64 26]) (by simp [results, Tryz.results73, go_sem]) rfl ⟨rfl, (Below.refl _ _).alloc (Nat.le_refl _) _⟩

end Go.Proofs.YtkjkjhheckfhbaaGreatDoor
