/- Names: the program and the reference agree on one plain function. -/
import Derived.Test.YtkjkjhheckfhbaaGreatDoorC
namespace Go.Proofs.YtkjkjhheckfhbaaGreatDoor
open Go.RowKit
set_option linter.unusedVariables false
def isDigitN (r : Int) : Bool := decide (48 ≤ r ∧ r ≤ 57)
theorem isDigit_any (r : Int) (w : World) : Calls Tryz.prog 101 #[.int .i32 r] w fun e' w' => e' = .returned (.bool (isDigitN r)) ∧ w = w' := by
  go_enter Tryz.func101, Tryz.ntmps101
  by_cases h1 : 48 ≤ r <;> by_cases h2 : r ≤ 57
  all_goals
    go_wp2
    go_ret
    exact ⟨by simp [isDigitN]; omega, rfl⟩
theorem isLetterB_any (r : Int) (w : World) : Calls Tryz.prog 102 #[.int .u8 r] w fun e' w' => e' = .returned (.bool (isLetterN r)) ∧ w = w' := by
  go_enter Tryz.func102, Tryz.ntmps102
  by_cases h1 : 65 ≤ r <;> by_cases h2 : r ≤ 90 <;> by_cases h3 : 97 ≤ r <;> by_cases h4 : r ≤ 122
  all_goals first | (exfalso; omega) | skip
  all_goals
    go_wp2
    go_ret
    exact ⟨by simp [isLetterN]; omega, rfl⟩
theorem isDigitB_any (r : Int) (w : World) : Calls Tryz.prog 103 #[.int .u8 r] w fun e' w' => e' = .returned (.bool (isDigitN r)) ∧ w = w' := by
  go_enter Tryz.func103, Tryz.ntmps103
  by_cases h1 : 48 ≤ r <;> by_cases h2 : r ≤ 57
  all_goals
    go_wp2
    go_ret
    exact ⟨by simp [isDigitN]; omega, rfl⟩
def okAt (s : ByteArray) (i : Nat) : Bool := isLetterN (s.data.toList.getD i 0).toNat || (decide (i ≠ 0) && (isDigitN (s.data.toList.getD i 0).toNat || decide (((s.data.toList.getD i 0).toNat : Int) = 95)))
def nameOk (s : ByteArray) : Bool := decide (1 ≤ s.size ∧ s.size ≤ 24) && (List.range s.size).all (okAt s)
theorem nameOk_true {s : ByteArray} (h1 : 1 ≤ s.size) (h2 : s.size ≤ 24) (h : ∀ j, j < s.size → okAt s j = true) : nameOk s = true := by
  unfold nameOk
  simp [h1, h2]
  exact h
theorem nameOk_false {s : ByteArray} {j : Nat} (hj : j < s.size) (h : okAt s j = false) : nameOk s = false := by
  unfold nameOk
  simp
  intro _ _
  exact ⟨j, hj, h⟩
theorem nameOk_short {s : ByteArray} (h : s.size < 1 ∨ 24 < s.size) : nameOk s = false := by
  unfold nameOk
  simp
  omega
theorem rune_at (s : ByteArray) (pos : Nat) (h : pos < s.size) : ∃ (r : Nat) (wd : Nat), Utf8.decode s pos = (r, wd) ∧ 1 ≤ wd ∧ ((r = (s.data.toList.getD pos 0).toNat ∧ wd = 1) ∨ (128 ≤ r ∧ 128 ≤ (s.data.toList.getD pos 0).toNat)) := by
  have hg : s.data.toList.getD pos 0 = s[pos]'h := by simp [List.getD, h]; rfl
  by_cases ha : (s[pos]'h).toNat < 128
  · exact ⟨_, _, decode_ascii s pos h ha, Nat.le_refl _, .inl ⟨by rw [hg], rfl⟩⟩
  · have := decode_high s pos h (by omega)
    exact ⟨_, _, rfl, this.2, .inr ⟨this.1, by rw [hg]; omega⟩⟩

theorem ret_bool {a b : Bool} (h : a = b) : Ending.returned (.bool a) = .returned (.bool b) := by rw [h]
theorem okAt_letter (s : ByteArray) (pos r wd : Nat) (hc : (r = (s.data.toList.getD pos 0).toNat ∧ wd = 1) ∨ (128 ≤ r ∧ 128 ≤ (s.data.toList.getD pos 0).toNat)) (h : isLetterN r = true) : okAt s pos = true ∧ wd = 1 := by
  unfold okAt
  generalize (s.data.toList.getD pos 0).toNat = c at *
  rcases hc with ⟨rfl, hw⟩ | ⟨h1, h2⟩
  · exact ⟨by rw [h]; rfl, hw⟩
  · exfalso; simp [isLetterN] at h; omega
theorem okAt_other (s : ByteArray) (pos r wd : Nat) (hc : (r = (s.data.toList.getD pos 0).toNat ∧ wd = 1) ∨ (128 ≤ r ∧ 128 ≤ (s.data.toList.getD pos 0).toNat)) (h0 : pos ≠ 0) (h : isDigitN r = true ∨ (r : Int) = 95) : okAt s pos = true ∧ wd = 1 := by
  unfold okAt
  generalize (s.data.toList.getD pos 0).toNat = c at *
  rcases hc with ⟨rfl, hw⟩ | ⟨h1, h2⟩
  · refine ⟨?_, hw⟩
    rcases h with h | h
    · simp [h, h0]
    · have : r = 95 := by omega
      subst this
      simp [h0]
  · exfalso
    rcases h with h | h
    · simp [isDigitN] at h; omega
    · omega
theorem okAt_no (s : ByteArray) (pos r wd : Nat) (hc : (r = (s.data.toList.getD pos 0).toNat ∧ wd = 1) ∨ (128 ≤ r ∧ 128 ≤ (s.data.toList.getD pos 0).toNat)) (h1 : isLetterN r = false) (h : pos = 0 ∨ (isDigitN r = false ∧ (r : Int) ≠ 95)) : okAt s pos = false := by
  unfold okAt
  generalize (s.data.toList.getD pos 0).toNat = c at *
  rcases hc with ⟨rfl, hw⟩ | ⟨h3, h4⟩
  · rw [h1]
    rcases h with h | ⟨h, h'⟩
    · simp [h]
    · rw [h, decide_eq_false h']; simp
  · have e1 : isLetterN (c : Int) = false := by unfold isLetterN; apply decide_eq_false; omega
    have e2 : isDigitN (c : Int) = false := by unfold isDigitN; apply decide_eq_false; omega
    have e3 : ¬ ((c : Int) = 95) := by omega
    rw [e1, e2, decide_eq_false e3]
    simp
theorem iter_below (w : World) (s : ByteArray) (pos : Nat) : Below w.heap.size w (w.iter s pos) := (Below.refl _ _).alloc (Nat.le_refl _) _
set_option maxRecDepth 100000 in
theorem isName_any (s : ByteArray) (w : World) (hs : s.size ≤ maxLen) : Calls Tryz.prog 21 #[.string s] w fun e w' => e = .returned (.bool (nameOk s)) ∧ Below w.heap.size w w' := by
  unfold maxLen at hs
  by_cases h1 : s.size < 1
  · have HN := Lib.hid (nameOk_short (Or.inl h1))
    go_enter Tryz.func21, Tryz.ntmps21
    go_wp2
    go_ret
    exact ⟨ret_bool HN.out.symm, Below.refl _ _⟩
  by_cases h2 : 24 < s.size
  · have HN := Lib.hid (nameOk_short (Or.inr h2))
    go_enter Tryz.func21, Tryz.ntmps21
    go_wp2
    go_ret
    exact ⟨ret_bool HN.out.symm, Below.refl _ _⟩
  go_enter Tryz.func21, Tryz.ntmps21
  go_wp2
  go_loopw [] (fun w' => ∃ pos : Nat, w' = w.iter s pos ∧ (∀ j, j < pos → okAt s j = true)) (fun w' => s.size - w'.iterPos w.heap.size)
  case atStart => exact ⟨0, rfl, fun j hj => absurd hj (by omega)⟩
  case round =>
    obtain ⟨pos, rfl, hok⟩ := hrel
    have HOK := Lib.hid hok; clear hok
    by_cases hp : pos < s.size
    · obtain ⟨r, wd, hdec, hwd, hcase⟩ := rune_at s pos hp
      have hnx : ∀ ty, (Instr.next (.pointer (some ⟨w.heap.size, 0, none⟩)) true ty).run Tryz.prog (w.iter s pos) = .ok (.tuple #[.bool true, .int .i64 pos, .int .i32 r]) (w.iter s (pos + wd)) := fun ty => by
        rw [run_next_any w s pos ty hp, hdec]
      have HC := Lib.hid hcase; clear hcase hdec
      generalize hb1 : isLetterN r = b1
      generalize hb2 : isDigitN r = b2
      have HB1 := Lib.hid hb1; have HB2 := Lib.hid hb2
      clear hb1 hb2
      cases b1
      · by_cases h0 : pos = 0
        · have HN := Lib.hid (nameOk_false hp (okAt_no s pos r wd HC.out HB1.out (Or.inl h0)))
          have h0' : (((pos : Nat) : Int) == 0) = true := by simp [h0]
          clear h0
          go_wp2_with (first
            | (go_at_call 100; refine (isLetter_any _ _).mono ?_; rw [HB1.out]; rintro e w' ⟨rfl, rfl⟩))
          go_ret
          exact ⟨ret_bool HN.out.symm, iter_below _ _ _⟩
        · have h0' : (((pos : Nat) : Int) == 0) = false := by simp [h0]
          have H0 := Lib.hid h0
          clear h0
          cases b2
          · by_cases h95 : (r : Int) = 95
            · have hr := okAt_other s pos r wd HC.out H0.out (Or.inr h95)
              have h95' : (((r : Nat) : Int) != 95) = false := by simp [h95]
              have HR := Lib.hid hr
              clear h95 hr
              go_wp2_with (first
                | (go_at_call 100; refine (isLetter_any _ _).mono ?_; rw [HB1.out]; rintro e w' ⟨rfl, rfl⟩)
                | (go_at_call 101; refine (isDigit_any _ _).mono ?_; rw [HB2.out]; rintro e w' ⟨rfl, rfl⟩))
              go_roundw
              case rel => exact ⟨pos + wd, rfl, fun j hj => by
                have := HR.out
                by_cases e : j = pos
                · rw [e]; exact this.1
                · exact HOK.out j (by omega)⟩
              case measure => simp; omega
            · have HN := Lib.hid (nameOk_false hp (okAt_no s pos r wd HC.out HB1.out (Or.inr ⟨HB2.out, h95⟩)))
              have h95' : (((r : Nat) : Int) != 95) = true := by simp [h95]
              clear h95
              go_wp2_with (first
                | (go_at_call 100; refine (isLetter_any _ _).mono ?_; rw [HB1.out]; rintro e w' ⟨rfl, rfl⟩)
                | (go_at_call 101; refine (isDigit_any _ _).mono ?_; rw [HB2.out]; rintro e w' ⟨rfl, rfl⟩))
              go_ret
              exact ⟨ret_bool HN.out.symm, iter_below _ _ _⟩
          · have hr := okAt_other s pos r wd HC.out H0.out (Or.inl HB2.out)
            have HR := Lib.hid hr
            clear hr
            go_wp2_with (first
              | (go_at_call 100; refine (isLetter_any _ _).mono ?_; rw [HB1.out]; rintro e w' ⟨rfl, rfl⟩)
              | (go_at_call 101; refine (isDigit_any _ _).mono ?_; rw [HB2.out]; rintro e w' ⟨rfl, rfl⟩))
            go_roundw
            case rel => exact ⟨pos + wd, rfl, fun j hj => by
              have := HR.out
              by_cases e : j = pos
              · rw [e]; exact this.1
              · exact HOK.out j (by omega)⟩
            case measure => simp; omega
      · have hr := okAt_letter s pos r wd HC.out HB1.out
        have HR := Lib.hid hr
        clear hr
        go_wp2_with (first
          | (go_at_call 100; refine (isLetter_any _ _).mono ?_; rw [HB1.out]; rintro e w' ⟨rfl, rfl⟩)
          | (go_at_call 101; refine (isDigit_any _ _).mono ?_; rw [HB2.out]; rintro e w' ⟨rfl, rfl⟩))
        go_roundw
        case rel => exact ⟨pos + wd, rfl, fun j hj => by
          have := HR.out
          by_cases e : j = pos
          · rw [e]; exact this.1
          · exact HOK.out j (by omega)⟩
        case measure => simp; omega
    · have hnx : ∀ ty, (Instr.next (.pointer (some ⟨w.heap.size, 0, none⟩)) true ty).run Tryz.prog (w.iter s pos) = _ := fun ty => run_next_end w s pos ty hp
      have HN := Lib.hid (nameOk_true (by omega) (by omega) (fun j hj => HOK.out j (by omega)))
      go_wp2
      go_ret
      exact ⟨ret_bool HN.out.symm, iter_below _ _ _⟩
theorem okAt_eq (s : ByteArray) (k : Nat) (h : k < s.size) : okAt s k = (isLetterN (s[k]'h).toNat || (decide (k ≠ 0) && (isDigitN (s[k]'h).toNat || decide (((s[k]'h).toNat : Int) = 95)))) := by
  have hg : s.data.toList.getD k 0 = s[k]'h := by simp [List.getD, h]; rfl
  unfold okAt
  rw [hg]
set_option maxRecDepth 100000 in
theorem isNameR_any (s : ByteArray) (w : World) (hs : s.size ≤ maxLen) : Calls Tryz.prog 22 #[.string s] w fun e w' => e = .returned (.bool (nameOk s)) ∧ w = w' := by
  unfold maxLen at hs
  by_cases h1 : s.size < 1
  · have HN := Lib.hid (nameOk_short (Or.inl h1))
    have q1 : (((s.size : Nat) : Int) == 0) = true := beq_iff_eq.2 (by omega)
    go_enter Tryz.func22, Tryz.ntmps22
    go_wp2
    go_ret
    exact ⟨ret_bool HN.out.symm, rfl⟩
  have q1 : (((s.size : Nat) : Int) == 0) = false := beq_eq_false_iff_ne.2 (by omega)
  by_cases h2 : 24 < s.size
  · have HN := Lib.hid (nameOk_short (Or.inr h2))
    go_enter Tryz.func22, Tryz.ntmps22
    go_wp2
    go_ret
    exact ⟨ret_bool HN.out.symm, rfl⟩
  have h0 : 0 < s.size := by omega
  generalize hb0 : isLetterN (s[0]'h0).toNat = b0
  have HB0 := Lib.hid hb0; clear hb0
  cases b0
  · have HN := Lib.hid (nameOk_false h0 (by rw [okAt_eq s 0 h0, HB0.out]; rfl))
    go_enter Tryz.func22, Tryz.ntmps22
    go_wp2_with (go_at_call 102; refine (isLetterB_any _ _).mono ?_; rw [HB0.out]; rintro e w' ⟨rfl, rfl⟩)
    go_ret
    exact ⟨ret_bool HN.out.symm, rfl⟩
  · go_enter Tryz.func22, Tryz.ntmps22
    go_wp2_with (go_at_call 102; refine (isLetterB_any _ _).mono ?_; rw [HB0.out]; rintro e w' ⟨rfl, rfl⟩)
    go_loop [3] (fun i => ∃ k : Nat, 1 ≤ k ∧ k ≤ s.size ∧ i = .int .i64 k ∧ (∀ j, j < k → okAt s j = true)) (fun i => s.size - (intOf i).toNat)
    case atStart => exact ⟨1, by omega, by omega, rfl, fun j hj => by
      have : j = 0 := by omega
      subst this
      rw [okAt_eq s 0 h0, HB0.out]; rfl⟩
    case round =>
      obtain ⟨k, hk1, hk, rfl, hok⟩ := hrel
      have HOK := Lib.hid hok; clear hok
      by_cases hlt : k < s.size
      · have HE := Lib.hid (okAt_eq s k hlt)
        have hkn : decide (k ≠ 0) = true := decide_eq_true (by omega)
        generalize hb1 : isLetterN (s[k]'hlt).toNat = b1 at HE
        generalize hb2 : isDigitN (s[k]'hlt).toNat = b2 at HE
        generalize hb3 : (((s[k]'hlt).toNat : Int) != 95) = b3
        have hb3' : decide (((s[k]'hlt).toNat : Int) = 95) = !b3 := by rw [← hb3]; by_cases e : (((s[k]'hlt).toNat : Int) = 95) <;> simp [e]
        have H3 := Lib.hid hb3'; have HB1 := Lib.hid hb1; have HB2 := Lib.hid hb2; have HKN := Lib.hid hkn
        clear hb3' hb1 hb2 hkn
        cases b1 <;> cases b2 <;> cases b3
        rotate_left
        · have HN := Lib.hid (nameOk_false hlt (by rw [HE.out, HKN.out, H3.out]; rfl))
          go_wp2_with (first
            | (go_at_call 102; refine (isLetterB_any _ _).mono ?_; rw [HB1.out]; rintro e w' ⟨rfl, rfl⟩)
            | (go_at_call 103; refine (isDigitB_any _ _).mono ?_; rw [HB2.out]; rintro e w' ⟨rfl, rfl⟩))
          go_ret
          exact ⟨ret_bool HN.out.symm, rfl⟩
        all_goals
          have HK := Lib.hid (show okAt s k = true by rw [HE.out, HKN.out, H3.out]; rfl)
          go_wp2_with (first
            | (go_at_call 102; refine (isLetterB_any _ _).mono ?_; rw [HB1.out]; rintro e w' ⟨rfl, rfl⟩)
            | (go_at_call 103; refine (isDigitB_any _ _).mono ?_; rw [HB2.out]; rintro e w' ⟨rfl, rfl⟩))
          go_round
          case rel => exact ⟨k + 1, by omega, by omega, by go_num, fun j hj => by
            by_cases e : j = k
            · rw [e]; exact HK.out
            · exact HOK.out j (by omega)⟩
          case measure => simp [intOf]; omega
      · have HN := Lib.hid (nameOk_true (by omega) (by omega) (fun j hj => HOK.out j (by omega)))
        go_wp2
        go_ret
        exact ⟨ret_bool HN.out.symm, rfl⟩
theorem checkName_any (s : ByteArray) (w : World) (hs : s.size ≤ maxLen) : Calls Tryz.prog 113 #[.string s] w fun e w' => e = .returned (.int .i64 (errIf (!nameOk s) 8)) ∧ w = w' := by
  go_enter Tryz.func113, Tryz.ntmps113
  go_wp2_with (first
    | (go_at_call 22; refine (isNameR_any _ _ hs).mono ?_; rintro e w' ⟨rfl, rfl⟩)
    | (go_at_call 33; refine (when_any _ _ _).mono ?_; rintro e w' ⟨rfl, rfl⟩))
  go_ret
  exact ⟨rfl, rfl⟩
theorem checkRange_any (n lo hi : Int) (w : World) : Calls Tryz.prog 19 #[.int .i64 n, .int .i64 lo, .int .i64 hi] w fun e' w' => e' = .returned (.int .i64 (outs n lo hi)) ∧ w = w' := by
  go_enter Tryz.func19, Tryz.ntmps19
  go_wp2_with (go_at_call 33; refine (when_any _ _ _).mono ?_; rintro e w' ⟨rfl, rfl⟩)
  all_goals
    go_ret
    exact ⟨by simp [outs, errIf, *], rfl⟩
/-- A picture, as the two kinds of picture read. -/
structure Pic where
  name : ByteArray
  w : Int
  h : Int
  l : List Nat
def Pic.val (p : Pic) (A : Option Addr) (c : Nat) : Value := .agg #[.string p.name, .int .i64 p.w, .int .i64 p.h, .slice A p.l.length c]
def fl (l : List Nat) : List Value := l.map (.float .f32)
def Pic.err (p : Pic) : Int := firstE [firstE [errIf (!nameOk p.name) 8, outs p.w 1 64, outs p.h 1 64, errIf ((p.l.length : Int) != IntKind.i64.wrap (p.w * p.h)) 2], firstF (chk 1024) p.l]

end Go.Proofs.YtkjkjhheckfhbaaGreatDoor
