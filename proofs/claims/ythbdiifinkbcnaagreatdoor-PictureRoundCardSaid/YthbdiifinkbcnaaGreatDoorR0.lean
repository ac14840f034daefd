/- Parts of a proof: PictureRound: the walk of the law. -/
import Derived.Test.YthbdiifinkbcnaaGreatDoorP4
import Derived.Test.YthbdiifinkbcnaaGreatDoorP2
import Derived.Test.YthbdiifinkbcnaaGreatDoorP3
namespace Go.Proofs.YthbdiifinkbcnaaGreatDoor
open Go.RowKit
set_option linter.unusedVariables false
set_option maxRecDepth 100000
theorem add_start (g d : Nat) : (⟨g, 0, none⟩ : Addr).add d = ⟨g, d, none⟩ := by
  unfold Addr.add
  by_cases h : d = 0 <;> simp [h]
theorem rd_from {w : World} {g q : Nat} {l k : List Nat} (h : Rd w (some ⟨g, 0, none⟩) (fl l)) (hk : ∀ j, j < k.length → q + j < l.length ∧ l.getD (q + j) 0 = k.getD j 0) : Rd w (some ⟨g, q, none⟩) (fl k) := fun h0 => by
  have h0' : 0 < k.length := by simpa [fl] using h0
  obtain ⟨ad, e, hb, hc⟩ := h (by have := (hk 0 h0').1; simp [fl]; omega)
  cases e
  refine ⟨_, rfl, hb, fun j u hj => ?_⟩
  have hjl : j < k.length := by have := (List.getElem?_eq_some_iff.1 hj).1; simpa [fl] using this
  rw [fl_get hjl] at hj
  obtain ⟨h1, h2⟩ := hk j hjl
  have h3 := hc (q + j) _ (fl_get h1)
  rw [h2] at h3
  rw [← hj, ← h3]
  unfold Addr.add
  by_cases a1 : j = 0 <;> by_cases a2 : q = 0 <;> simp [a1, a2]

theorem samesam (W : Nat) (L : List Nat) (hn : L.length = W) (hs : sameF L L = true) (A B : Option Addr) (c d : Nat) (w : World) (hr : Rd w A (fl L)) (hr2 : Rd w B (fl L)) (hW : W ≤ maxLen := by unfold maxLen; omega) : Calls Tryz.prog 87 #[.slice A W c, .slice B W d] w fun e w' => e = .returned (.bool true) ∧ Below w.heap.size w w' := by
  subst hn
  have h := sameSamples_any A B c d L L w hW hW hr hr2
  rw [hs] at h
  exact h

set_option maxHeartbeats 1000000 in
theorem round_long (p : Pic) (A : Option Addr) (c : Nat) (w : World) (hlaid : Laid w) (hr : Rd w A (fl p.l)) (hsh : (shortB p && (p.err == 0)) = false) : Calls Tryz.prog 12 #[p.val A c] w (TrueEnd w) := by
  have HS : RowKit.Hid (∀ w, Rd w A (fl p.l) → Calls Tryz.prog 84 #[p.val A c] w (BoolEnd false w)) := Lib.hid (fun w hr => by have h := valid_any p A c w hr; rw [hsh] at h; exact h)
  unfold Pic.val at HS ⊢
  have HR := Lib.hid hr; clear hr
  have HL := Lib.hid hlaid; clear hlaid
  have HB := Lib.hid (Below.refl w.heap.size w)
  go_enter Tryz.func12, Tryz.ntmps12
  go_upto_region 1 with fail
  have hn := Blk.new w 43 #[.string p.name, .int .i64 p.w, .int .i64 p.h, .slice A p.l.length c]
  have hb : Below w.heap.size w (w.alloc (.cells #[.string p.name, .int .i64 p.w, .int .i64 p.h, .slice A p.l.length c] 43)) := (Below.refl _ _).alloc (Nat.le_refl _) _
  have hge := HB.out.size
  obtain ⟨bP, hl⟩ : ∃ b, w.heap.size = b := ⟨_, rfl⟩
  generalize w.alloc (.cells #[.string p.name, .int .i64 p.w, .int .i64 p.h, .slice A p.l.length c] 43) = s0 at hn hb ⊢
  replace HR := Lib.hid (HR.out.below hb); replace HB := Lib.hid (HB.out.trans (hb.mono HB.out.size))
  clear hb
  rw [hl] at hn hge
  try rw [hl]
  have HXP := Lib.hid hn; have HGP := Lib.hid hge; clear hn hl hge
  obtain ⟨cHXP_0, cHXP_1, cHXP_2, cHXP_3⟩ := box4 HXP.out
  go_wp2_with fail
  refine (HS.out _ HR.out).mono ?_
  rintro e s1 ⟨rfl, hb⟩
  replace HR := Lib.hid (HR.out.below hb); replace HXP := Lib.hid (HXP.out.below hb); replace HB := Lib.hid (HB.out.trans (hb.mono HB.out.size))
  clear hb
  clear cHXP_0 cHXP_1 cHXP_2 cHXP_3
  go_wp2_with fail
  refine (awake_laid _ (HL.out.below HB.out)).mono ?_
  rintro e uz ⟨rfl, hb⟩
  replace HR := Lib.hid (HR.out.below hb); replace HXP := Lib.hid (HXP.out.below hb); replace HB := Lib.hid (HB.out.trans (hb.mono HB.out.size))
  clear hb
  go_wp2
  go_ret
  exact trueEnd_mk rfl HB.out
end Go.Proofs.YthbdiifinkbcnaaGreatDoor
