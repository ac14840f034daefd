/- Parts of a proof: PictureFound: a frame with one byte changed is none. Pure. PictureFound: what a stream of frames gives, with one stretch that holds none. Pure. PictureFound: the frame of a packet as a list of bytes. Pure. PictureFound: the stream with a byte changed, and the stream with a frame's beginning taken away. Pure. PictureFound: the stream of the law's packets, whole, changed and cut, and what Received gives of each. Pure. PictureFound: Encode and Decode of a packet whose bytes are given, as the law calls them. -/
import Derived.Test.YtkjkjhheckfhbaaGreatDoorAm
namespace Go.Proofs.YtkjkjhheckfhbaaGreatDoor
open Go.RowKit
set_option linter.unusedVariables false
theorem xor_u8 (a b : Int) : bits .xor .u8 a b = ((BitVec.ofInt 8 a ^^^ BitVec.ofInt 8 b).toNat : Int) := by
  have h : bits .xor .u8 a b = IntKind.u8.wrap ((BitVec.ofInt 8 a ^^^ BitVec.ofInt 8 b).toNat : Int) := rfl
  rw [h, IntKind.wrap_u8]
  have := (BitVec.ofInt 8 a ^^^ BitVec.ofInt 8 b).isLt
  omega
theorem ofInt_inj {a b : Int} (ha : 0 ≤ a ∧ a ≤ 255) (hb : 0 ≤ b ∧ b ≤ 255) (h : BitVec.ofInt 8 a = BitVec.ofInt 8 b) : a = b := by
  have h1 := congrArg BitVec.toNat h
  simp only [BitVec.toNat_ofInt] at h1
  omega
theorem xor_left {a b c : Int} (ha : 0 ≤ a ∧ a ≤ 255) (hb : 0 ≤ b ∧ b ≤ 255) (h : bits .xor .u8 a c = bits .xor .u8 b c) : a = b := by
  rw [xor_u8, xor_u8] at h
  refine ofInt_inj ha hb (BitVec.xor_left_inj (BitVec.ofInt 8 c) |>.mp (BitVec.eq_of_toNat_eq ?_))
  exact Int.ofNat.inj h
theorem xor_right {a b c : Int} (ha : 0 ≤ a ∧ a ≤ 255) (hb : 0 ≤ b ∧ b ≤ 255) (h : bits .xor .u8 c a = bits .xor .u8 c b) : a = b := by
  rw [xor_u8, xor_u8] at h
  refine ofInt_inj ha hb (BitVec.xor_right_inj (BitVec.ofInt 8 c) |>.mp (BitVec.eq_of_toNat_eq ?_))
  exact Int.ofNat.inj h
theorem xorF_inj (l : List U8) {a b : Int} (ha : 0 ≤ a ∧ a ≤ 255) (hb : 0 ≤ b ∧ b ≤ 255) (h : xorF l a = xorF l b) : a = b := by
  induction l generalizing a b with
  | nil => exact h
  | cons x l ih => exact xor_left ha hb (ih (xor_bd _ _) (xor_bd _ _) h)
theorem xorF_set (l : List U8) (i : Nat) (hi : i < l.length) (v : U8) (a : Int) (ha : 0 ≤ a ∧ a ≤ 255) (h : xorF (l.set i v) a = xorF l a) : v = l.getD i u0 := by
  induction l generalizing i a with
  | nil => simp at hi
  | cons x l ih =>
    cases i with
    | zero =>
      have := xor_right v.2 x.2 (xorF_inj l (xor_bd _ _) (xor_bd _ _) h)
      exact Subtype.ext this
    | succ i => exact ih i (by simpa using hi) _ (xor_bd _ _) h
/-- A frame is no frame any more when one of its bytes is another. -/
theorem goodB_set {l : List U8} (hl : l.length = 16) (hg : goodB l = true) {i : Nat} (hi : i < 16) {v : U8} (hv : v ≠ l.getD i u0) : goodB (l.set i v) = false := by
  cases hb : goodB (l.set i v) with
  | false => rfl
  | true =>
    exfalso
    unfold goodB at hg hb
    have hg := of_decide_eq_true hg
    have hb := of_decide_eq_true hb
    obtain ⟨g0, g1, g2, g3⟩ := hg
    obtain ⟨b0, b1, b2, b3⟩ := hb
    have eqv : ∀ j, (l.set i v).getD j u0 = if j = i then v else l.getD j u0 := by
      intro j
      rw [List.getD_eq_getElem?_getD, List.getD_eq_getElem?_getD, List.getElem?_set]
      by_cases h : i = j
      · subst h; simp [hl, hi]
      · rw [if_neg h, if_neg (Ne.symm h)]
    rw [eqv] at b0 b1 b2 b3
    by_cases h0 : i = 0
    · subst h0
      rw [if_pos rfl] at b0
      exact hv (Subtype.ext (b0.trans g0.symm))
    · by_cases h1 : i ≤ 12
      · rw [if_neg (by omega), ← g1] at b1
        have e : ((l.set i v).drop 1).take 12 = (((l.drop 1).take 12)).set (i - 1) v := by
          rw [List.drop_set, if_neg (by omega), List.take_set]
        rw [e] at b1
        have := xorF_set _ (i - 1) (by simp [hl]; omega) v 0 (by decide) b1
        apply hv
        rw [this]
        rw [List.getD_eq_getElem?_getD, List.getD_eq_getElem?_getD, List.getElem?_take_of_lt (by omega), List.getElem?_drop]
        congr 2
        omega
      · by_cases h2 : i = 13
        · subst h2
          rw [if_pos rfl] at b1
          have e : ((l.set 13 v).drop 1).take 12 = (l.drop 1).take 12 := by
            rw [List.drop_set, if_neg (by omega), List.take_set, List.set_eq_of_length_le (by simp; omega)]
          rw [e, g1] at b1
          exact hv (Subtype.ext b1.symm)
        · have e : (l.set i v).take 14 = l.take 14 := by
            rw [List.take_set, List.set_eq_of_length_le (by simp; omega)]
          rw [e] at b2 b3
          by_cases h3 : i = 14
          · subst h3
            rw [if_pos rfl, g2] at b2
            exact hv (Subtype.ext b2.symm)
          · have h4 : i = 15 := by omega
            subst h4
            rw [if_pos rfl, g3] at b3
            exact hv (Subtype.ext b3.symm)
end Go.Proofs.YtkjkjhheckfhbaaGreatDoor
namespace Go.Proofs.YtkjkjhheckfhbaaGreatDoor
open Go.RowKit
set_option linter.unusedVariables false
theorem rf_skip {bs : List U8} {a : Nat} (h : (rfold bs (List.range a)).nx ≤ a) (ho : pkOk bs a = false) : rfold bs (List.range (a + 1)) = ⟨(rfold bs (List.range a)).pk, addSpan (rfold bs (List.range a)).sk a, (rfold bs (List.range a)).nx⟩ := by
  rw [List.range_succ, rfold_snoc, rstep_no (by omega) ho]
theorem rf_take {bs : List U8} {a : Nat} (h : (rfold bs (List.range a)).nx ≤ a) (ho : pkOk bs a = true) : rfold bs (List.range (a + 16)) = ⟨(rfold bs (List.range a)).pk ++ [pkAt bs a], (rfold bs (List.range a)).sk, a + 16⟩ := by
  have key : ∀ j, j ≤ 15 → rfold bs (List.range (a + 1 + j)) = ⟨(rfold bs (List.range a)).pk ++ [pkAt bs a], (rfold bs (List.range a)).sk, a + 16⟩ := by
    intro j
    induction j with
    | zero => intro _; rw [Nat.add_zero, List.range_succ, rfold_snoc, rstep_ok (by omega) ho]
    | succ j ih =>
      intro hj
      rw [show a + 1 + (j + 1) = (a + 1 + j) + 1 by omega, List.range_succ, rfold_snoc, ih (by omega)]
      exact rstep_skip (show a + 1 + j < a + 16 by omega)
  exact key 15 (Nat.le_refl _)
/-- Frames, one behind another. -/
def Frames (Fs : List (List U8)) : Prop := ∀ f ∈ Fs, f.length = 16 ∧ goodB f = true
theorem Frames.len {Fs : List (List U8)} (h : Frames Fs) : Fs.flatten.length = 16 * Fs.length := by
  induction Fs with
  | nil => rfl
  | cons f Fs ih =>
    have := ih fun g hg => h g (List.mem_cons_of_mem _ hg)
    rw [List.flatten_cons, List.length_append, this, (h f (List.mem_cons_self ..)).1, List.length_cons]
    omega
theorem ok_frame {bs : List U8} {a : Nat} {f t : List U8} (h : bs.drop a = f ++ t) (hl : f.length = 16) (hg : goodB f = true) : pkOk bs a = true ∧ pkAt bs a = pkOf f := by
  have h1 := congrArg List.length h
  simp only [List.length_drop, List.length_append] at h1
  have ht : (bs.drop a).take 16 = f := by rw [h, ← hl, List.take_left']; rfl
  have ho : pkOk bs a = true := by
    unfold pkOk
    rw [ht, hg, decide_eq_true (show a + 16 ≤ bs.length by omega)]; rfl
  refine ⟨ho, ?_⟩
  unfold pkAt
  rw [if_pos ho, ht]
theorem rf_frames (bs : List U8) (Fs : List (List U8)) : ∀ (a : Nat) (t : List U8), Frames Fs → bs.drop a = Fs.flatten ++ t → (rfold bs (List.range a)).nx ≤ a →
    (rfold bs (List.range (a + 16 * Fs.length))).pk = (rfold bs (List.range a)).pk ++ Fs.map pkOf ∧ (rfold bs (List.range (a + 16 * Fs.length))).sk = (rfold bs (List.range a)).sk ∧ (rfold bs (List.range (a + 16 * Fs.length))).nx ≤ a + 16 * Fs.length := by
  induction Fs with
  | nil => intro a t _ _ hn; simpa using hn
  | cons f Fs ih =>
    intro a t hF hd hn
    obtain ⟨hl, hg⟩ := hF f (List.mem_cons_self ..)
    rw [List.flatten_cons, List.append_assoc] at hd
    obtain ⟨ho, hp⟩ := ok_frame hd hl hg
    have ht := rf_take hn ho
    have hd2 : bs.drop (a + 16) = Fs.flatten ++ t := by
      rw [← List.drop_drop, hd, ← hl, List.drop_left]
    have h := ih (a + 16) t (fun g hg => hF g (List.mem_cons_of_mem _ hg)) hd2 (by rw [ht]; exact Nat.le_refl _)
    rw [show a + 16 * (f :: Fs).length = a + 16 + 16 * Fs.length by rw [List.length_cons]; omega]
    rw [ht] at h
    obtain ⟨h1, h2, h3⟩ := h
    refine ⟨?_, h2, h3⟩
    rw [h1, hp, List.map_cons, List.append_assoc]; rfl
theorem addSpan_one (a n : Nat) : addSpan [((a : Int), (a : Int) + n)] (a + n) = [((a : Int), (a : Int) + (n + 1 : Nat))] := by
  unfold addSpan
  rw [List.reverse_cons, List.reverse_nil, List.nil_append, addSpanR_cons, if_pos (by omega)]
  simp only [List.reverse_nil, List.nil_append, List.cons.injEq, Prod.mk.injEq, and_true, true_and]
  omega
theorem rf_gap (bs : List U8) (a : Nat) (n : Nat) (h : ∀ j, a ≤ j → j < a + (n + 1) → pkOk bs j = false) (hn : (rfold bs (List.range a)).nx ≤ a) (hs : (rfold bs (List.range a)).sk = []) :
    (rfold bs (List.range (a + (n + 1)))).pk = (rfold bs (List.range a)).pk ∧ (rfold bs (List.range (a + (n + 1)))).sk = [((a : Int), (a : Int) + (n + 1 : Nat))] ∧ (rfold bs (List.range (a + (n + 1)))).nx ≤ a + (n + 1) := by
  induction n with
  | zero =>
    rw [rf_skip hn (h a (Nat.le_refl _) (by omega)), hs]
    exact ⟨rfl, rfl, by show (rfold bs (List.range a)).nx ≤ a + 1; omega⟩
  | succ n ih =>
    obtain ⟨h1, h2, h3⟩ := ih fun j hj hj2 => h j hj (by omega)
    have e := rf_skip h3 (h (a + (n + 1)) (by omega) (by omega))
    rw [show a + (n + 1 + 1) = a + (n + 1) + 1 by omega, e, h1, h2]
    exact ⟨rfl, addSpan_one a (n + 1), by show (rfold bs (List.range (a + (n + 1)))).nx ≤ a + (n + 1) + 1; omega⟩
/-- Frames, a stretch that holds none, frames. -/
theorem rf_damaged (Fs Gs : List (List U8)) (m : List U8) (hF : Frames Fs) (hG : Frames Gs) (hm : 0 < m.length) (h : ∀ j, 16 * Fs.length ≤ j → j < 16 * Fs.length + m.length → pkOk (Fs.flatten ++ (m ++ Gs.flatten)) j = false) :
    (rfold (Fs.flatten ++ (m ++ Gs.flatten)) (List.range (Fs.flatten ++ (m ++ Gs.flatten)).length)).pk = Fs.map pkOf ++ Gs.map pkOf ∧ (rfold (Fs.flatten ++ (m ++ Gs.flatten)) (List.range (Fs.flatten ++ (m ++ Gs.flatten)).length)).sk = [(((16 * Fs.length : Nat) : Int), ((16 * Fs.length : Nat) : Int) + m.length)] := by
  obtain ⟨bs, hbs⟩ : ∃ bs, Fs.flatten ++ (m ++ Gs.flatten) = bs := ⟨_, rfl⟩
  rw [hbs] at h ⊢
  have hlen : bs.length = 16 * Fs.length + (m.length + 16 * Gs.length) := by
    rw [← hbs, List.length_append, List.length_append, hF.len, hG.len]
  have a1 := rf_frames bs Fs 0 (m ++ Gs.flatten) hF (by rw [← hbs]; rfl) (Nat.le_refl _)
  rw [Nat.zero_add] at a1
  obtain ⟨p1, s1, n1⟩ := a1
  obtain ⟨k, hk⟩ : ∃ k, m.length = k + 1 := ⟨m.length - 1, by omega⟩
  rw [hk] at h
  obtain ⟨p2, s2, n2⟩ := rf_gap bs (16 * Fs.length) k h n1 s1
  have hd : bs.drop (16 * Fs.length + (k + 1)) = Gs.flatten ++ [] := by
    rw [← hbs, List.append_nil, ← hk, ← List.append_assoc]
    exact List.drop_left' (by rw [List.length_append, hF.len])
  obtain ⟨p3, s3, n3⟩ := rf_frames bs Gs (16 * Fs.length + (k + 1)) [] hG hd n2
  rw [show bs.length = 16 * Fs.length + (k + 1) + 16 * Gs.length by rw [hlen, hk]; omega]
  refine ⟨?_, ?_⟩
  · rw [p3, p2, p1]; rfl
  · rw [s3, s2, hk]
/-- Frames alone: every packet, nothing skipped. -/
theorem rf_whole (Fs : List (List U8)) (hF : Frames Fs) : (rfold Fs.flatten (List.range Fs.flatten.length)).pk = Fs.map pkOf ∧ (rfold Fs.flatten (List.range Fs.flatten.length)).sk = [] := by
  have a1 := rf_frames Fs.flatten Fs 0 [] hF (by rw [List.append_nil]; rfl) (Nat.le_refl _)
  rw [Nat.zero_add, ← hF.len] at a1
  exact ⟨a1.1, a1.2.1⟩
/-- No frame begins where the first byte is another. -/
theorem no_sync {bs : List U8} {a : Nat} (h : (bs.getD a u0).1 ≠ 171) : pkOk bs a = false := by
  unfold pkOk
  by_cases hl : a + 16 ≤ bs.length
  · have e : ((bs.drop a).take 16).getD 0 u0 = bs.getD a u0 := by
      rw [List.getD_eq_getElem?_getD, List.getD_eq_getElem?_getD, List.getElem?_take_of_lt (by omega), List.getElem?_drop]; rfl
    have : goodB ((bs.drop a).take 16) = false := by
      unfold goodB
      rw [decide_eq_false]
      intro hc
      rw [e] at hc
      exact h hc.1
    rw [this, Bool.and_false]
  · rw [decide_eq_false hl, Bool.false_and]
end Go.Proofs.YtkjkjhheckfhbaaGreatDoor
namespace Go.Proofs.YtkjkjhheckfhbaaGreatDoor
open Go.RowKit
set_option linter.unusedVariables false
section
variable (ki co d0 d1 d2 d3 d4 d5 d6 d7 d8 d9 : U8)
def parU : U8 := ⟨xorF [ki, co, d0, d1, d2, d3, d4, d5, d6, d7, d8, d9] 0, xorF_bd _ _ (by decide)⟩
def sumI : Int := rollF 251 65521 [u171, ki, co, d0, d1, d2, d3, d4, d5, d6, d7, d8, d9, parU ki co d0 d1 d2 d3 d4 d5 d6 d7 d8 d9] 1
theorem sumI_bd : 0 ≤ sumI ki co d0 d1 d2 d3 d4 d5 d6 d7 d8 d9 ∧ sumI ki co d0 d1 d2 d3 d4 d5 d6 d7 d8 d9 < 65521 := rollF_bd _ _ (by decide) _ _ (by decide)
def hiU : U8 := ⟨sumI ki co d0 d1 d2 d3 d4 d5 d6 d7 d8 d9 / 256, by have := sumI_bd ki co d0 d1 d2 d3 d4 d5 d6 d7 d8 d9; omega⟩
def loU : U8 := ⟨sumI ki co d0 d1 d2 d3 d4 d5 d6 d7 d8 d9 % 256, by have := sumI_bd ki co d0 d1 d2 d3 d4 d5 d6 d7 d8 d9; omega⟩
/-- The frame. -/
def frU : List U8 := [u171, ki, co, d0, d1, d2, d3, d4, d5, d6, d7, d8, d9, parU ki co d0 d1 d2 d3 d4 d5 d6 d7 d8 d9, hiU ki co d0 d1 d2 d3 d4 d5 d6 d7 d8 d9, loU ki co d0 d1 d2 d3 d4 d5 d6 d7 d8 d9]
theorem frU_len : (frU ki co d0 d1 d2 d3 d4 d5 d6 d7 d8 d9).length = 16 := rfl
theorem frU_good : goodB (frU ki co d0 d1 d2 d3 d4 d5 d6 d7 d8 d9) = true := by
  unfold goodB
  exact decide_eq_true ⟨rfl, rfl, rfl, rfl⟩
theorem frU_pk : pkOf (frU ki co d0 d1 d2 d3 d4 d5 d6 d7 d8 d9) = ⟨ki.1, co.1, d0.1, d1.1, d2.1, d3.1, d4.1, d5.1, d6.1, d7.1, d8.1, d9.1⟩ := rfl
end
/-- The bytes of a packet that has no error. -/
structure PkU where
  ki : U8
  co : U8
  d0 : U8
  d1 : U8
  d2 : U8
  d3 : U8
  d4 : U8
  d5 : U8
  d6 : U8
  d7 : U8
  d8 : U8
  d9 : U8
def PkU.pk (p : PkU) : Pk := ⟨p.ki.1, p.co.1, p.d0.1, p.d1.1, p.d2.1, p.d3.1, p.d4.1, p.d5.1, p.d6.1, p.d7.1, p.d8.1, p.d9.1⟩
def PkU.fr (p : PkU) : List U8 := frU p.ki p.co p.d0 p.d1 p.d2 p.d3 p.d4 p.d5 p.d6 p.d7 p.d8 p.d9
theorem PkU.fr_pk (p : PkU) : pkOf p.fr = p.pk := rfl
theorem frames_of (l : List PkU) : Frames (l.map PkU.fr) := by
  intro f hf
  obtain ⟨p, _, rfl⟩ := List.mem_map.mp hf
  exact ⟨rfl, frU_good ..⟩
theorem map_fr_pk (l : List PkU) : (l.map PkU.fr).map pkOf = l.map PkU.pk := by
  rw [List.map_map]; rfl
end Go.Proofs.YtkjkjhheckfhbaaGreatDoor
namespace Go.Proofs.YtkjkjhheckfhbaaGreatDoor
open Go.RowKit
set_option linter.unusedVariables false
theorem changed_stream (Fs Gs : List (List U8)) (f : List U8) (hF : Frames Fs) (hG : Frames Gs) (hl : f.length = 16) (hg : goodB f = true) (i : Nat) (hi : i < 16) (v : U8) (hv : v ≠ f.getD i u0)
    (hn : ∀ j, 16 * Fs.length < j → j < 16 * Fs.length + 16 → ((Fs.flatten ++ (f.set i v ++ Gs.flatten)).getD j u0).1 ≠ 171) :
    (rfold (Fs.flatten ++ (f.set i v ++ Gs.flatten)) (List.range (Fs.flatten ++ (f.set i v ++ Gs.flatten)).length)).pk = Fs.map pkOf ++ Gs.map pkOf ∧ (rfold (Fs.flatten ++ (f.set i v ++ Gs.flatten)) (List.range (Fs.flatten ++ (f.set i v ++ Gs.flatten)).length)).sk = [(((16 * Fs.length : Nat) : Int), ((16 * Fs.length : Nat) : Int) + 16)] := by
  have hm : (f.set i v).length = 16 := by rw [List.length_set, hl]
  have h := rf_damaged Fs Gs (f.set i v) hF hG (by omega) fun j hj hj2 => by
    rw [hm] at hj2
    by_cases hje : j = 16 * Fs.length
    · subst hje
      unfold pkOk
      have e : ((Fs.flatten ++ (f.set i v ++ Gs.flatten)).drop (16 * Fs.length)).take 16 = f.set i v := by
        rw [List.drop_left' hF.len, List.take_left' hm]
      rw [e, goodB_set hl hg hi hv, Bool.and_false]
    · exact no_sync (hn j (by omega) hj2)
  rw [hm] at h
  exact h
theorem cut_stream (Fs Gs : List (List U8)) (m : List U8) (hF : Frames Fs) (hG : Frames Gs) (hm : 0 < m.length)
    (hn : ∀ j, 16 * Fs.length ≤ j → j < 16 * Fs.length + m.length → ((Fs.flatten ++ (m ++ Gs.flatten)).getD j u0).1 ≠ 171) :
    (rfold (Fs.flatten ++ (m ++ Gs.flatten)) (List.range (Fs.flatten ++ (m ++ Gs.flatten)).length)).pk = Fs.map pkOf ++ Gs.map pkOf ∧ (rfold (Fs.flatten ++ (m ++ Gs.flatten)) (List.range (Fs.flatten ++ (m ++ Gs.flatten)).length)).sk = [(((16 * Fs.length : Nat) : Int), ((16 * Fs.length : Nat) : Int) + m.length)] :=
  rf_damaged Fs Gs m hF hG hm fun j hj hj2 => no_sync (hn j hj hj2)
/-- A changed byte is another. -/
theorem xor_other (a : U8) (d : Int) (hd : 0 < d) (hd2 : d ≤ 255) : bits .xor .u8 a.1 d ≠ a.1 := by
  intro h
  have e : bits .xor .u8 a.1 0 = a.1 := by
    rw [xor_u8]
    have : BitVec.ofInt 8 a.1 ^^^ BitVec.ofInt 8 0 = BitVec.ofInt 8 a.1 := by simp
    rw [this, BitVec.toNat_ofInt]
    have := a.2
    omega
  have := xor_right (c := a.1) ⟨Int.le_of_lt hd, hd2⟩ (b := 0) (by decide) (h.trans e.symm)
  omega
end Go.Proofs.YtkjkjhheckfhbaaGreatDoor
namespace Go.Proofs.YtkjkjhheckfhbaaGreatDoor
open Go.RowKit
set_option linter.unusedVariables false
/-- The stream of packets. -/
def codeU (l : List PkU) : List U8 := (l.map PkU.fr).flatten
theorem codeU_len (l : List PkU) : (codeU l).length = 16 * l.length := by
  unfold codeU; rw [(frames_of l).len, List.length_map]
theorem codeU_snoc (l : List PkU) (p : PkU) : codeU (l ++ [p]) = codeU l ++ p.fr := by
  unfold codeU
  rw [List.map_append, List.flatten_append]
  show _ ++ (p.fr ++ []) = _
  rw [List.append_nil]
theorem codeU_split (l : List PkU) (k : Nat) (hk : k < l.length) : codeU l = codeU (l.take k) ++ (l[k].fr ++ codeU (l.drop (k + 1))) := by
  have h : l = l.take k ++ l[k] :: l.drop (k + 1) := by rw [List.getElem_cons_drop, List.take_append_drop]
  have h2 : codeU (l.take k ++ l[k] :: l.drop (k + 1)) = codeU (l.take k) ++ (l[k].fr ++ codeU (l.drop (k + 1))) := by
    unfold codeU
    rw [List.map_append, List.flatten_append]
    rfl
  rw [← h] at h2
  exact h2
theorem take_len {l : List PkU} {k : Nat} (hk : k < l.length) : (codeU (l.take k)).length = 16 * k := by
  rw [codeU_len, List.length_take]; omega
/-- A byte changed. -/
theorem codeU_set (l : List PkU) (k : Nat) (hk : k < l.length) (i : Nat) (hi : i < 16) (v : U8) : (codeU l).set (16 * k + i) v = codeU (l.take k) ++ (l[k].fr.set i v ++ codeU (l.drop (k + 1))) := by
  have hf : l[k].fr.length = 16 := rfl
  rw [codeU_split l k hk, List.set_append_right _ _ (by rw [take_len hk]; omega), take_len hk, show 16 * k + i - 16 * k = i by omega, List.set_append_left _ _ (by rw [hf]; exact hi)]
/-- The beginning of a frame taken away. -/
theorem codeU_cut (l : List PkU) (k : Nat) (hk : k < l.length) (c : Nat) (hc : c ≤ 16) : (codeU l).take (16 * k) ++ (codeU l).drop (16 * k + c) = codeU (l.take k) ++ (l[k].fr.drop c ++ codeU (l.drop (k + 1))) := by
  have hf : l[k].fr.length = 16 := rfl
  rw [codeU_split l k hk, List.take_left' (take_len hk), ← List.drop_drop, List.drop_left' (take_len hk), List.drop_append_of_le_length (by rw [hf]; exact hc)]
theorem getD_fr (l : List PkU) (k : Nat) (hk : k < l.length) (i : Nat) (hi : i < 16) : (codeU l).getD (16 * k + i) u0 = l[k].fr.getD i u0 := by
  have hf : l[k].fr.length = 16 := rfl
  rw [codeU_split l k hk, List.getD_eq_getElem?_getD, List.getD_eq_getElem?_getD, List.getElem?_append_right (by rw [take_len hk]; omega), take_len hk, show 16 * k + i - 16 * k = i by omega, List.getElem?_append_left (by rw [hf]; exact hi)]
/-- What is received. -/
def rcv (bs : List U8) : List Pk × List (Int × Int) := ((rfold bs (List.range bs.length)).pk, (rfold bs (List.range bs.length)).sk)
theorem rcv_whole (l : List PkU) : rcv (codeU l) = (l.map PkU.pk, []) := by
  have h := rf_whole (l.map PkU.fr) (frames_of l)
  unfold rcv
  show ((rfold (l.map PkU.fr).flatten (List.range (l.map PkU.fr).flatten.length)).pk, (rfold (l.map PkU.fr).flatten (List.range (l.map PkU.fr).flatten.length)).sk) = _
  rw [h.1, h.2, map_fr_pk]
theorem rest_pk (l : List PkU) (k : Nat) : (l.take k).map PkU.pk ++ (l.drop (k + 1)).map PkU.pk = (l.map PkU.pk).take k ++ (l.map PkU.pk).drop (k + 1) := by
  rw [List.map_take, List.map_drop]
theorem rcv_set (l : List PkU) (k : Nat) (hk : k < l.length) (i : Nat) (hi : i < 16) (v : U8) (hv : v ≠ (codeU l).getD (16 * k + i) u0)
    (hn : ∀ j, 16 * k < j → j < 16 * k + 16 → (((codeU l).set (16 * k + i) v).getD j u0).1 ≠ 171) :
    rcv ((codeU l).set (16 * k + i) v) = ((l.map PkU.pk).take k ++ (l.map PkU.pk).drop (k + 1), [(((16 * k : Nat) : Int), ((16 * k : Nat) : Int) + 16)]) := by
  rw [codeU_set l k hk i hi v] at hn ⊢
  rw [getD_fr l k hk i hi] at hv
  have hlen : ((l.take k).map PkU.fr).length = k := by rw [List.length_map, List.length_take]; omega
  have h := changed_stream ((l.take k).map PkU.fr) ((l.drop (k + 1)).map PkU.fr) l[k].fr (frames_of _) (frames_of _) rfl (frU_good ..) i hi v hv (by rw [hlen]; exact hn)
  rw [hlen, map_fr_pk, map_fr_pk, rest_pk] at h
  exact Prod.ext h.1 h.2
theorem rcv_cut (l : List PkU) (k : Nat) (hk : k < l.length) (c : Nat) (hc : c < 16)
    (hn : ∀ j, 16 * k ≤ j → j < 16 * k + (16 - c) → (((codeU l).take (16 * k) ++ (codeU l).drop (16 * k + c)).getD j u0).1 ≠ 171) :
    rcv ((codeU l).take (16 * k) ++ (codeU l).drop (16 * k + c)) = ((l.map PkU.pk).take k ++ (l.map PkU.pk).drop (k + 1), [(((16 * k : Nat) : Int), ((16 * k : Nat) : Int) + ((16 - c : Nat) : Int))]) := by
  rw [codeU_cut l k hk c (by omega)] at hn ⊢
  have hlen : ((l.take k).map PkU.fr).length = k := by rw [List.length_map, List.length_take]; omega
  have hm : (l[k].fr.drop c).length = 16 - c := by rw [List.length_drop]; rfl
  have h := cut_stream ((l.take k).map PkU.fr) ((l.drop (k + 1)).map PkU.fr) (l[k].fr.drop c) (frames_of _) (frames_of _) (by omega) (by rw [hlen, hm]; exact hn)
  rw [hlen, hm, map_fr_pk, map_fr_pk, rest_pk] at h
  exact Prod.ext h.1 h.2
end Go.Proofs.YtkjkjhheckfhbaaGreatDoor
namespace Go.Proofs.YtkjkjhheckfhbaaGreatDoor
open Go.RowKit
set_option linter.unusedVariables false
/-- A packet's values, as an argument. -/
def PkU.arg (p : PkU) : Value := .agg #[.int .i64 p.ki.1, .int .i64 p.co.1, .int .u8 p.d0.1, .int .u8 p.d1.1, .int .u8 p.d2.1, .int .u8 p.d3.1, .int .u8 p.d4.1, .int .u8 p.d5.1, .int .u8 p.d6.1, .int .u8 p.d7.1, .int .u8 p.d8.1, .int .u8 p.d9.1]
/-- A frame's bytes, as a value. -/
def frV (f : List U8) : Value := .agg (f.map (fun b => Value.int .u8 b.1)).toArray
theorem encode_fr (p : PkU) (w : World) : Calls Tryz.prog 64 #[p.arg] w fun e w' => e = .returned (.tuple #[frV p.fr, .int .i64 0]) ∧ Below w.heap.size w w' := by
  refine (encode_ok p.ki p.co p.d0 p.d1 p.d2 p.d3 p.d4 p.d5 p.d6 p.d7 p.d8 p.d9 w).mono ?_
  rintro e w' ⟨P, S, hP, hS, rfl, hb⟩
  refine ⟨?_, hb⟩
  have hPe : P = parU p.ki p.co p.d0 p.d1 p.d2 p.d3 p.d4 p.d5 p.d6 p.d7 p.d8 p.d9 := Subtype.ext hP.symm
  subst hPe
  subst hS
  rfl
theorem decode_fr (p : PkU) (w : World) : Calls Tryz.prog 65 #[frV p.fr] w fun e w' => e = .returned (.tuple #[p.arg, .int .i64 0]) ∧ Below w.heap.size w w' := by
  have hg : goodB p.fr = true := frU_good ..
  refine (decode_any u171 p.ki p.co p.d0 p.d1 p.d2 p.d3 p.d4 p.d5 p.d6 p.d7 p.d8 p.d9 (parU p.ki p.co p.d0 p.d1 p.d2 p.d3 p.d4 p.d5 p.d6 p.d7 p.d8 p.d9) (hiU p.ki p.co p.d0 p.d1 p.d2 p.d3 p.d4 p.d5 p.d6 p.d7 p.d8 p.d9) (loU p.ki p.co p.d0 p.d1 p.d2 p.d3 p.d4 p.d5 p.d6 p.d7 p.d8 p.d9) w).mono ?_
  rintro e w' ⟨rfl, hb⟩
  refine ⟨?_, hb⟩
  show Ending.returned (.tuple #[pkV (goodB p.fr) p.fr, .int .i64 (errD p.fr)]) = _
  rw [errD_good hg, hg]
  rfl
theorem err_zero {q : Pk} (h : q.err = 0) : (0 ≤ q.k ∧ q.k ≤ 255) ∧ 0 ≤ q.c ∧ q.c ≤ 255 := by
  have h1 : firstE [outs q.k 0 255, outs q.c 0 255] = 0 := h
  unfold firstE at h1
  split at h1
  · rename_i e
    unfold firstE at h1
    split at h1
    · rename_i e2; exact ⟨outs_zero e, outs_zero e2⟩
    · exact absurd h1 (by assumption)
  · exact absurd h1 (by assumption)
/-- A packet without an error whose data are bytes is one of bytes. -/
theorem pkU_of (q : Pk) (hk : q.err = 0) (hd : ∀ x ∈ [q.d0, q.d1, q.d2, q.d3, q.d4, q.d5, q.d6, q.d7, q.d8, q.d9], 0 ≤ x ∧ x ≤ 255) : ∃ p : PkU, p.pk = q :=
  have hkc := err_zero hk
  ⟨⟨⟨q.k, hkc.1⟩, ⟨q.c, hkc.2⟩, ⟨q.d0, hd _ (by simp)⟩, ⟨q.d1, hd _ (by simp)⟩, ⟨q.d2, hd _ (by simp)⟩, ⟨q.d3, hd _ (by simp)⟩, ⟨q.d4, hd _ (by simp)⟩, ⟨q.d5, hd _ (by simp)⟩, ⟨q.d6, hd _ (by simp)⟩, ⟨q.d7, hd _ (by simp)⟩, ⟨q.d8, hd _ (by simp)⟩, ⟨q.d9, hd _ (by simp)⟩⟩, rfl⟩
theorem pksU_of (l : List Pk) (h : firstPk l = 0) (hd : ∀ q ∈ l, ∀ x ∈ [q.d0, q.d1, q.d2, q.d3, q.d4, q.d5, q.d6, q.d7, q.d8, q.d9], 0 ≤ x ∧ x ≤ 255) : ∃ L : List PkU, L.map PkU.pk = l := by
  induction l with
  | nil => exact ⟨[], rfl⟩
  | cons q l ih =>
    have h1 : (if q.err = 0 then firstPk l else q.err) = 0 := h
    by_cases e : q.err = 0
    · rw [if_pos e] at h1
      obtain ⟨p, hp⟩ := pkU_of q e (hd q (List.mem_cons_self ..))
      obtain ⟨L, hL⟩ := ih h1 fun x hx => hd x (List.mem_cons_of_mem _ hx)
      exact ⟨p :: L, by rw [List.map_cons, hp, hL]⟩
    · rw [if_neg e] at h1
      exact absurd h1 e
end Go.Proofs.YtkjkjhheckfhbaaGreatDoor
