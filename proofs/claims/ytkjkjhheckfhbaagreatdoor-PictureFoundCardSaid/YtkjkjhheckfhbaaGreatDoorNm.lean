/- PictureFound, for any packets and bytes. -/
import Derived.Test.YtkjkjhheckfhbaaGreatDoorNk
import Derived.Test.YtkjkjhheckfhbaaGreatDoorAp
import Derived.Test.YtkjkjhheckfhbaaGreatDoorPJ
namespace Go.Proofs.YtkjkjhheckfhbaaGreatDoor
open Go.RowKit
set_option linter.unusedVariables false
set_option maxRecDepth 100000
theorem found_long (n : Nat) (nv cv : Array Value) (A : Option Addr) (c : Nat) (w : World) (hlaid : Laid w) (h : 10 < n) :
    Calls Tryz.prog 14 #[.slice A n c, .agg nv, .agg cv] w (YesEnd w) := by
  have HL := Lib.hid hlaid; clear hlaid
  have HB := Lib.hid (Below.refl w.heap.size w)
  go_enter Tryz.func14, Tryz.ntmps14
  go_upto_region 1 with fail
  have hb2 := ((Below.refl w.heap.size w).alloc (Nat.le_refl _) (.cells nv 144)).alloc (by simp only [World.size_alloc]; omega) (.cells cv 146)
  generalize (w.alloc (.cells nv 144)).alloc (.cells cv 146) = w0 at hb2 ⊢
  replace HB := Lib.hid hb2; clear hb2
  have h1 : decide ((n : Int) > 10) = true := by simp; omega
  go_wp2_with fail
  refine (awake_laid _ (HL.out.below HB.out)).mono ?_
  rintro e u1w ⟨rfl, hb⟩
  replace HB := Lib.hid (HB.out.trans (hb.mono HB.out.size))
  clear hb
  go_wp2
  go_ret
  exact yesEnd_mk rfl HB.out
theorem found_bad (n : Nat) (nv cv : Array Value) (A : Option Addr) (c : Nat) (w : World) (hlaid : Laid w) (h : n ≤ 10) (pk : List Value) (E : Int) (hE : E ≠ 0) (hr : Rd w A pk) (hck : ∀ w, Rd w A pk → Calls Tryz.prog 69 #[.slice A n c] w fun e w' => e = .returned (.int .i64 E) ∧ Below w.heap.size w w') :
    Calls Tryz.prog 14 #[.slice A n c, .agg nv, .agg cv] w (YesEnd w) := by
  have HL := Lib.hid hlaid; clear hlaid
  have HB := Lib.hid (Below.refl w.heap.size w)
  have Hhck := Lib.hid hck; have Hhr := Lib.hid hr; clear hck hr
  go_enter Tryz.func14, Tryz.ntmps14
  go_upto_region 1 with fail
  have hb2 := ((Below.refl w.heap.size w).alloc (Nat.le_refl _) (.cells nv 144)).alloc (by simp only [World.size_alloc]; omega) (.cells cv 146)
  generalize (w.alloc (.cells nv 144)).alloc (.cells cv 146) = w0 at hb2 ⊢
  replace HB := Lib.hid hb2; clear hb2
  have h1 : decide ((n : Int) > 10) = false := by simp; omega
  have h2 : (E != 0) = true := by simp [hE]
  go_wp2_with fail
  refine (Hhck.out _ (Hhr.out.below HB.out)).mono ?_
  rintro e u1w ⟨rfl, hb⟩
  replace HB := Lib.hid (HB.out.trans (hb.mono HB.out.size))
  clear hb
  go_wp2_with fail
  refine (awake_laid _ (HL.out.below HB.out)).mono ?_
  rintro e u2w ⟨rfl, hb⟩
  replace HB := Lib.hid (HB.out.trans (hb.mono HB.out.size))
  clear hb
  go_wp2
  go_ret
  exact yesEnd_mk rfl HB.out
theorem brd_ub {w : World} {A : Option Addr} {bs : List U8} (h : Rd w A (ub bs)) : BRd w.heap.size w A bs := fun h0 => by
  obtain ⟨ad, e, hl, hc⟩ := h (by rw [ub_len]; exact h0)
  exact ⟨ad, e, hl, fun j hj => hc j _ (ub_at hj)⟩
/-- Received, of any bytes. -/
theorem rcv_call (bs : List U8) (N : Nat) (hN : bs.length = N) (hb : N ≤ 16384) (pk : List Pk) (sk : List (Int × Int)) (hk : rcv bs = (pk, sk)) (m1 m2 : Nat) (h1 : pk.length = m1) (h2 : sk.length = m2) (A : Option Addr) (c : Nat) (w : World) (hc : N ≤ c) (hr : Rd w A (ub bs)) :
    Calls Tryz.prog 73 #[.slice A N c] w fun e w' => ∃ A1 c1 A2 c2, e = .returned (.tuple #[.slice A1 m1 c1, .slice A2 m2 c2, .int .i64 0]) ∧ Rd w' A1 (pksC pk) ∧ Rd w' A2 (spansC sk) ∧ Below w.heap.size w w' := by
  subst hN
  have h := received_any A c bs hb hc w (brd_ub hr)
  have e1 : (rfold bs (List.range bs.length)).pk = pk := congrArg Prod.fst hk
  have e2 : (rfold bs (List.range bs.length)).sk = sk := congrArg Prod.snd hk
  rw [e1, e2, h1, h2] at h
  refine h.mono ?_
  rintro e w' ⟨v1, v2, rfl, o1, o2, hbl⟩
  obtain ⟨A1, c1, rfl⟩ := own_shape o1
  obtain ⟨A2, c2, rfl⟩ := own_shape o2
  exact ⟨A1, c1, A2, c2, rfl, rd_own o1, rd_own o2, hbl⟩
theorem dmg_len (L : List PkU) (n n0 n1 n2 n3 : Nat) (hL : L.length = n) (hn : 0 < n) : dmgE n n0 n1 n3 ≤ (dmgD L n n0 n1 n2 n3).length ∧ (dmgD L n n0 n1 n2 n3).length ≤ 16 * n := by
  have hk : n0 % n < n := Nat.mod_lt _ hn
  unfold dmgD dmgE
  by_cases h : n3 % 2 = 1
  · rw [if_pos h, if_pos h, List.length_append, List.length_take, List.length_drop, codeU_len, hL]
    omega
  · rw [if_neg h, if_neg h, List.length_set, codeU_len, hL]
    omega
/-- What is received of the damaged stream. -/
theorem rcv_dmg (L : List PkU) (n n0 n1 n2 n3 : Nat) (hL : L.length = n) (hn : 0 < n) (hcl : Clear (dmgD L n n0 n1 n2 n3) (16 * (n0 % n)) (dmgE n n0 n1 n3) (decide (n3 % 2 = 0)) (dmgD L n n0 n1 n2 n3).length) :
    rcv (dmgD L n n0 n1 n2 n3) = ((L.map PkU.pk).take (n0 % n) ++ (L.map PkU.pk).drop (n0 % n + 1), [(((16 * (n0 % n) : Nat) : Int), ((dmgE n n0 n1 n3 : Nat) : Int))]) := by
  have hk : n0 % n < L.length := by rw [hL]; exact Nat.mod_lt _ hn
  have hle := (dmg_len L n n0 n1 n2 n3 hL hn).1
  by_cases h : n3 % 2 = 1
  · have hD : dmgD L n n0 n1 n2 n3 = (codeU L).take (16 * (n0 % n)) ++ (codeU L).drop (16 * (n0 % n) + (1 + n1 % 16 % 15)) := if_pos h
    have hE : dmgE n n0 n1 n3 = 16 * (n0 % n) + 15 - n1 % 16 % 15 := if_pos h
    rw [decide_eq_false (show ¬ n3 % 2 = 0 by omega)] at hcl
    have hno := hcl.odd hle
    rw [hD] at hno ⊢
    rw [hE] at hno ⊢
    rw [rcv_cut L (n0 % n) hk (1 + n1 % 16 % 15) (by omega) (fun j hj hj2 => hno j hj (by omega))]
    congr 3
    omega
  · have hD : dmgD L n n0 n1 n2 n3 = (codeU L).set (16 * (n0 % n) + n1 % 16) (xorU ((codeU L).getD (16 * (n0 % n) + n1 % 16) u0) ((1 + n2 % 255 : Nat) : Int)) := if_neg h
    have hE : dmgE n n0 n1 n3 = 16 * (n0 % n) + 16 := if_neg h
    rw [decide_eq_true (show n3 % 2 = 0 by omega)] at hcl
    have hno := hcl.even hle
    rw [hD] at hno ⊢
    rw [hE] at hno ⊢
    rw [rcv_set L (n0 % n) hk (n1 % 16) (Nat.mod_lt _ (by omega)) _ (fun e => xor_other ((codeU L).getD (16 * (n0 % n) + n1 % 16) u0) ((1 + n2 % 255 : Nat) : Int) (by omega) (by omega) (congrArg Subtype.val e)) hno]
    congr 3
/-- The bits that are asked of the places in between. -/
def bitD (c1 i : Nat) : Bool := decide (0 < i) && (decide (i < 15) && (bits .and .u16 ((c1 : Int) / 2 ^ i) 1 == 1))
theorem found_law (l : List Pk) (hb : ∀ p ∈ l, p.Bytes) (n0 n1 n2 n3 c0 c1 : Nat) (h0 : n0 < 256) (h1 : n1 < 256) (h2 : n2 < 256) (h3 : n3 < 256) (g0 : c0 < 65536) (g1 : c1 < 65536) (A : Option Addr) (c : Nat) (w : World) (hlaid : Laid w) (hc : l.length ≤ c) (hr : Rd w A (pksC l)) :
    Calls Tryz.prog 14 #[.slice A l.length c, .agg #[.int .u8 (n0 : Int), .int .u8 (n1 : Int), .int .u8 (n2 : Int), .int .u8 (n3 : Int)], .agg #[.int .u16 (c0 : Int), .int .u16 (c1 : Int)]] w (YesEnd w) := by
  by_cases hl : 10 < l.length
  · exact found_long l.length _ _ A c w hlaid hl
  have hck : ∀ w, Rd w A (pksC l) → Calls Tryz.prog 69 #[.slice A l.length c] w fun e w' => e = .returned (.int .i64 (pksErr l)) ∧ Below w.heap.size w w' := fun w h => checkPackets_any A c l w (by unfold maxLen; omega) h
  by_cases he : pksErr l = 0
  · rw [he] at hck
    have hf : firstPk l = 0 := by unfold pksErr at he; rwa [if_neg (by omega)] at he
    obtain ⟨L, rfl⟩ := pksU_of l hf (fun q hq x hx => hb q hq x hx)
    have hm : (L.map PkU.pk).length = L.length := List.length_map ..
    rw [hm] at hl hck hc ⊢
    obtain ⟨hlk, hle⟩ := lost_kept c0 (bitD c1) rfl (by unfold bitD; rw [decide_eq_false (show ¬ 15 < 15 by omega)]; rfl)
    refine (found_walk L L.length n0 n1 n2 n3 c0 c1 A c (bitD c1) w (by omega) hc rfl hr hck (fun w1 hb => awake_laid w1 (hlaid.below hb)) ?_ ?_ ?_ ?_ ?_ ?_ ?_).mono (fun e w' h => yesEnd_mk h.1 h.2)
    · exact fun A c w hc hr => rcv_call (codeU L) _ (codeU_len L) (by omega) _ _ (rcv_whole L) _ _ hm rfl A c w hc hr
    · intro l m A c w h hm hr
      subst h
      exact heard_any A c l w (by omega) hr
    · intro A c w hr
      have hgl := gone_le c0 (bitD c1) 16 0
      refine (lost_good A c _ 3 w (by unfold maxLen; omega) hr hle).mono ?_
      rintro e w' ⟨h, hbl⟩
      rw [hlk] at h
      rcases h with ⟨_, v, rfl, ho⟩ | ⟨hx, _⟩
      · obtain ⟨A1, c1', rfl⟩ := own_shape ho
        exact ⟨A1, c1', rfl, rd_own ho, hbl⟩
      · omega
    · intro hn hcl
      have hk : n0 % L.length < L.length := Nat.mod_lt _ hn
      exact fun A c w hc hr => rcv_call _ _ rfl (by have := (dmg_len L L.length n0 n1 n2 n3 rfl hn).2; omega) _ _ (rcv_dmg L L.length n0 n1 n2 n3 rfl hn hcl) _ _ (by rw [List.length_append, List.length_take, List.length_drop, hm]; omega) rfl A c w hc hr
    · intro x y A A2 c c2 w h h'
      have hs : sameP [(x, y)] [(x, y)] = true := by simp [sameP]
      have h3 := sameSpans_any A A2 c c2 [(x, y)] [(x, y)] w (by unfold maxLen; simp) (by unfold maxLen; simp) h h'
      rw [hs] at h3
      exact h3
    · exact fun i _ => rfl
    · exact ⟨h0, h1, h2, h3, g0, g1⟩
  · exact found_bad l.length _ _ A c w hlaid (by omega) _ _ he hr hck
end Go.Proofs.YtkjkjhheckfhbaaGreatDoor
