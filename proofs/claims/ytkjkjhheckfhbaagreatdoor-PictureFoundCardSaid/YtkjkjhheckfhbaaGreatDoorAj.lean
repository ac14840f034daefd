/- The reference's check of bytes. -/
import Derived.Test.YtkjkjhheckfhbaaGreatDoorR
namespace Go.Proofs.YtkjkjhheckfhbaaGreatDoor
open Go.RowKit
set_option linter.unusedVariables false
theorem rollF_take (fa mo : Int) (bs : List U8) (k : Nat) (h : k < bs.length) (x : Int) : rollF fa mo (bs.take (k + 1)) x = (fa * rollF fa mo (bs.take k) x + (bs.getD k u0).1) % mo := by
  rw [List.take_succ_eq_append_getElem h, rollF_snoc]
  simp [List.getD, h]
set_option maxRecDepth 100000 in
theorem rolledRef_any (A : Option Addr) (cap : Nat) (bs : List U8) (fa mo : Int) (hfa : 1 ≤ fa ∧ fa ≤ 1000) (hmo : 2 ≤ mo ∧ mo ≤ 100000000) (hlen : bs.length ≤ 140737488351232) (w : World) (hL : BRd w.heap.size w A bs) :
    Calls Tryz.prog 162 #[.slice A bs.length cap, .int .i64 fa, .int .i64 mo] w fun e W' => e = .returned (.int .i64 (rollF fa mo bs 1)) ∧ w = W' := by
  have HL := Lib.hid hL; clear hL
  obtain ⟨n, hn⟩ : ∃ n, bs.length = n := ⟨_, rfl⟩
  have HN := Lib.hid hn
  rw [hn] at hlen ⊢
  clear hn
  go_enter Tryz.func162, Tryz.ntmps162
  go_wp2
  go_loop [7, 8] (fun x i => ∃ k : Nat, k ≤ n ∧ i = .int .i64 k ∧ x = .int .i64 (rollF fa mo (bs.take k) 1)) (fun _ i => n - (intOf i).toNat)
  case atStart => exact ⟨0, Nat.zero_le _, rfl, rfl⟩
  case round =>
    obtain ⟨k, hk, rfl, rfl⟩ := hrel
    by_cases hlt : k < n
    · have g : k < bs.length := by rw [HN.out]; exact hlt
      obtain ⟨ad, rfl, hbl, hcc⟩ := HL.out (by omega)
      have hc := hcc k g
      obtain ⟨v, hv⟩ : ∃ v, bs.getD k u0 = v := ⟨_, rfl⟩
      rw [hv] at hc
      obtain ⟨X, hX⟩ : ∃ X, rollF fa mo (bs.take k) 1 = X := ⟨_, rfl⟩
      have hXb := rollF_bd fa mo hmo.1 (bs.take k) 1 (by omega)
      rw [hX] at hXb ⊢
      obtain ⟨P, hP⟩ : ∃ P, fa * X = P := ⟨_, rfl⟩
      have hPb : 0 ≤ P ∧ P ≤ 100000000000 := by
        rw [← hP]
        have h1 := Int.mul_nonneg (a := fa) (b := X) (by omega) (by omega)
        have h2 : fa * X ≤ 1000 * 100000000 := Int.mul_le_mul hfa.2 (by omega) (by omega) (by omega)
        omega
      have hxb := v.2
      obtain ⟨y, hy⟩ : ∃ y : Int, v.1 = y := ⟨_, rfl⟩
      rw [hy] at hxb hc
      have HS : RowKit.Hid (rollF fa mo (bs.take (k + 1)) 1 = (P + y) % mo) := Lib.hid (by rw [rollF_take fa mo bs k g, hX, hP, hv, hy])
      clear hX hy hv hcc
      go_wp2
      go_round
      case rel => exact ⟨k + 1, by omega, by go_num, by rw [HS.out]⟩
      case measure => simp [intOf]; omega
    · have hkn : k = n := by omega
      subst hkn
      go_wp2
      go_ret
      exact ⟨ret_int (by rw [List.take_of_length_le (by rw [HN.out]; exact Nat.le_refl _)]), rfl⟩
theorem checkRef_any (A : Option Addr) (cap : Nat) (bs : List U8) (hlen : bs.length ≤ 140737488351232) (w : World) (hL : BRd w.heap.size w A bs) :
    Calls Tryz.prog 96 #[.slice A bs.length cap] w fun e W' => e = .returned (.int .i64 (rollF 251 65521 bs 1)) ∧ w = W' := by
  go_enter Tryz.func96, Tryz.ntmps96
  go_wp2_with (go_at_call 162; refine (rolledRef_any A cap bs 251 65521 (by omega) (by omega) hlen _ hL).mono ?_; rintro e w' ⟨rfl, rfl⟩)
  go_ret
  exact ⟨rfl, rfl⟩

end Go.Proofs.YtkjkjhheckfhbaaGreatDoor
