/- Parts of a proof: PictureJoins: the walk of the law. -/
import Derived.Test.YtfgeokeankfplaaGreatDoorQ2
import Derived.Test.YtfgeokeankfplaaGreatDoorP4
import Derived.Test.YtfgeokeankfplaaGreatDoorP3
namespace Go.Proofs.YtfgeokeankfplaaGreatDoor
open Go.RowKit
set_option linter.unusedVariables false
set_option maxRecDepth 100000
theorem firstE_head {a b : Int} {l : List Int} (h : firstE [a, b] ≠ 0) : firstE (a :: b :: l) = firstE [a, b] := by
  unfold firstE at h ⊢
  by_cases ha : a = 0
  · subst ha
    by_cases hb : b = 0
    · subst hb; exact absurd rfl h
    · simp [hb, firstE] at h ⊢
  · simp [ha] at h ⊢

set_option maxHeartbeats 1000000 in
theorem joins_long1 (p q : Pic) (A B : Option Addr) (c d : Nat) (w : World) (hlaid : Laid w) (hsh : narrowB p = false) : Calls Tryz.prog 5 #[p.val A c, q.val B d] w (TrueEnd w) := by
  have HS : RowKit.Hid (∀ w, Calls Tryz.prog 39 #[p.val A c] w (BoolEnd false w)) := Lib.hid (fun w => by have h := narrow_any p A c w; rw [hsh] at h; exact h)
  have HS2 : RowKit.Hid (∀ w, Calls Tryz.prog 39 #[q.val B d] w (BoolEnd (narrowB q) w)) := Lib.hid (fun w => by have h := narrow_any q B d w; exact h)
  unfold Pic.val at HS HS2 ⊢
  clear hsh
  have HL := Lib.hid hlaid; clear hlaid
  have HB := Lib.hid (Below.refl w.heap.size w)
  go_enter Tryz.func5, Tryz.ntmps5
  go_upto_region 1 with fail
  have hn := Blk.new w 43 #[.string p.name, .int .i64 p.w, .int .i64 p.h, .slice A p.l.length c]
  have hb : Below w.heap.size w (w.alloc (.cells #[.string p.name, .int .i64 p.w, .int .i64 p.h, .slice A p.l.length c] 43)) := (Below.refl _ _).alloc (Nat.le_refl _) _
  have hge := HB.out.size
  have hsz : (w.alloc (.cells #[.string p.name, .int .i64 p.w, .int .i64 p.h, .slice A p.l.length c] 43)).heap.size = w.heap.size + 1 := by simp only [World.size_alloc]
  obtain ⟨bP, hl⟩ : ∃ b, w.heap.size = b := ⟨_, rfl⟩
  generalize w.alloc (.cells #[.string p.name, .int .i64 p.w, .int .i64 p.h, .slice A p.l.length c] 43) = sa at hn hb hsz ⊢
  rw [hl] at hsz
  replace HB := Lib.hid (HB.out.trans (hb.mono HB.out.size))
  clear hb
  rw [hl] at hn hge
  try rw [hl]
  have HXP := Lib.hid hn; have HGP := Lib.hid hge; clear hn hl hge
  have hn := Blk.new sa 43 #[.string q.name, .int .i64 q.w, .int .i64 q.h, .slice B q.l.length d]
  have hb : Below sa.heap.size sa (sa.alloc (.cells #[.string q.name, .int .i64 q.w, .int .i64 q.h, .slice B q.l.length d] 43)) := (Below.refl _ _).alloc (Nat.le_refl _) _
  have hge := HB.out.size
  have hlt_HXP := HXP.out.lt
  obtain ⟨bQ, hl⟩ : ∃ b, sa.heap.size = b := ⟨_, rfl⟩
  generalize sa.alloc (.cells #[.string q.name, .int .i64 q.w, .int .i64 q.h, .slice B q.l.length d] 43) = s0 at hn hb ⊢
  rw [hl] at hsz
  rw [← hsz]
  clear hsz
  replace HXP := Lib.hid (HXP.out.below hb); replace HB := Lib.hid (HB.out.trans (hb.mono HB.out.size))
  clear hb
  rw [hl] at hn hge hlt_HXP
  try rw [hl]
  have HXQ := Lib.hid hn; have HGQ := Lib.hid hge; clear hn hl hge
  have HNQHXP : RowKit.Hid (¬ bP = bQ) := Lib.hid (by omega)
  clear hlt_HXP
  obtain ⟨cHXP_0, cHXP_1, cHXP_2, cHXP_3⟩ := box4 HXP.out
  go_wp2_with fail
  refine (HS.out _).mono ?_
  rintro e s1 ⟨rfl, hb⟩
  replace HXP := Lib.hid (HXP.out.below hb); replace HXQ := Lib.hid (HXQ.out.below hb); replace HB := Lib.hid (HB.out.trans (hb.mono HB.out.size))
  clear hb
  clear cHXP_0 cHXP_1 cHXP_2 cHXP_3
  go_wp2_with fail
  refine (awake_laid _ (HL.out.below HB.out)).mono ?_
  rintro e uz ⟨rfl, hb⟩
  replace HXP := Lib.hid (HXP.out.below hb); replace HXQ := Lib.hid (HXQ.out.below hb); replace HB := Lib.hid (HB.out.trans (hb.mono HB.out.size))
  clear hb
  go_wp2
  go_ret
  exact trueEnd_mk rfl HB.out

set_option maxHeartbeats 1000000 in
theorem joins_long2 (p q : Pic) (A B : Option Addr) (c d : Nat) (w : World) (hlaid : Laid w) (hsh : narrowB p = true) (hsh2 : narrowB q = false) : Calls Tryz.prog 5 #[p.val A c, q.val B d] w (TrueEnd w) := by
  have HS : RowKit.Hid (∀ w, Calls Tryz.prog 39 #[p.val A c] w (BoolEnd true w)) := Lib.hid (fun w => by have h := narrow_any p A c w; rw [hsh] at h; exact h)
  have HS2 : RowKit.Hid (∀ w, Calls Tryz.prog 39 #[q.val B d] w (BoolEnd false w)) := Lib.hid (fun w => by have h := narrow_any q B d w; rw [hsh2] at h; exact h)
  unfold Pic.val at HS HS2 ⊢
  clear hsh hsh2
  have HL := Lib.hid hlaid; clear hlaid
  have HB := Lib.hid (Below.refl w.heap.size w)
  go_enter Tryz.func5, Tryz.ntmps5
  go_upto_region 1 with fail
  have hn := Blk.new w 43 #[.string p.name, .int .i64 p.w, .int .i64 p.h, .slice A p.l.length c]
  have hb : Below w.heap.size w (w.alloc (.cells #[.string p.name, .int .i64 p.w, .int .i64 p.h, .slice A p.l.length c] 43)) := (Below.refl _ _).alloc (Nat.le_refl _) _
  have hge := HB.out.size
  have hsz : (w.alloc (.cells #[.string p.name, .int .i64 p.w, .int .i64 p.h, .slice A p.l.length c] 43)).heap.size = w.heap.size + 1 := by simp only [World.size_alloc]
  obtain ⟨bP, hl⟩ : ∃ b, w.heap.size = b := ⟨_, rfl⟩
  generalize w.alloc (.cells #[.string p.name, .int .i64 p.w, .int .i64 p.h, .slice A p.l.length c] 43) = sa at hn hb hsz ⊢
  rw [hl] at hsz
  replace HB := Lib.hid (HB.out.trans (hb.mono HB.out.size))
  clear hb
  rw [hl] at hn hge
  try rw [hl]
  have HXP := Lib.hid hn; have HGP := Lib.hid hge; clear hn hl hge
  have hn := Blk.new sa 43 #[.string q.name, .int .i64 q.w, .int .i64 q.h, .slice B q.l.length d]
  have hb : Below sa.heap.size sa (sa.alloc (.cells #[.string q.name, .int .i64 q.w, .int .i64 q.h, .slice B q.l.length d] 43)) := (Below.refl _ _).alloc (Nat.le_refl _) _
  have hge := HB.out.size
  have hlt_HXP := HXP.out.lt
  obtain ⟨bQ, hl⟩ : ∃ b, sa.heap.size = b := ⟨_, rfl⟩
  generalize sa.alloc (.cells #[.string q.name, .int .i64 q.w, .int .i64 q.h, .slice B q.l.length d] 43) = s0 at hn hb ⊢
  rw [hl] at hsz
  rw [← hsz]
  clear hsz
  replace HXP := Lib.hid (HXP.out.below hb); replace HB := Lib.hid (HB.out.trans (hb.mono HB.out.size))
  clear hb
  rw [hl] at hn hge hlt_HXP
  try rw [hl]
  have HXQ := Lib.hid hn; have HGQ := Lib.hid hge; clear hn hl hge
  have HNQHXP : RowKit.Hid (¬ bP = bQ) := Lib.hid (by omega)
  clear hlt_HXP
  obtain ⟨cHXP_0, cHXP_1, cHXP_2, cHXP_3⟩ := box4 HXP.out
  go_wp2_with fail
  refine (HS.out _).mono ?_
  rintro e s1 ⟨rfl, hb⟩
  replace HXP := Lib.hid (HXP.out.below hb); replace HXQ := Lib.hid (HXQ.out.below hb); replace HB := Lib.hid (HB.out.trans (hb.mono HB.out.size))
  clear hb
  clear cHXP_0 cHXP_1 cHXP_2 cHXP_3
  obtain ⟨cHXQ_0, cHXQ_1, cHXQ_2, cHXQ_3⟩ := box4 HXQ.out
  go_wp2_with fail
  refine (HS2.out _).mono ?_
  rintro e s2 ⟨rfl, hb⟩
  replace HXP := Lib.hid (HXP.out.below hb); replace HXQ := Lib.hid (HXQ.out.below hb); replace HB := Lib.hid (HB.out.trans (hb.mono HB.out.size))
  clear hb
  clear cHXQ_0 cHXQ_1 cHXQ_2 cHXQ_3
  go_wp2_with fail
  refine (awake_laid _ (HL.out.below HB.out)).mono ?_
  rintro e uz ⟨rfl, hb⟩
  replace HXP := Lib.hid (HXP.out.below hb); replace HXQ := Lib.hid (HXQ.out.below hb); replace HB := Lib.hid (HB.out.trans (hb.mono HB.out.size))
  clear hb
  go_wp2
  go_ret
  exact trueEnd_mk rfl HB.out

set_option maxHeartbeats 8000000 in
theorem joins_bad (nm nm2 : ByteArray) (X Y X2 Y2 : Int) (l k : List Nat) (zp zq zb : Int) (he1 : (Pic.mk nm X Y l).err = zp) (he2 : (Pic.mk nm2 X2 Y2 k).err = zq) (hzb : firstE [zp, zq] = zb) (hz : zb ≠ 0) (A B : Option Addr) (c d : Nat) (w : World) (hlaid : Laid w) (hsh : narrowB (Pic.mk nm X Y l) = true) (hsh2 : narrowB (Pic.mk nm2 X2 Y2 k) = true) (hA : A = none → l.length = 0 ∧ c = 0) (hB : B = none → k.length = 0 ∧ d = 0) (hcap : l.length ≤ c) (hcap2 : k.length ≤ d) (hr : Rd w A (fl l)) (hr2 : Rd w B (fl k)) : Calls Tryz.prog 5 #[(Pic.mk nm X Y l).val A c, (Pic.mk nm2 X2 Y2 k).val B d] w (TrueEnd w) := by
  obtain ⟨hs0, hl0⟩ := narrow_facts hsh
  obtain ⟨hs20, hl20⟩ := narrow_facts hsh2
  simp only [] at hs0 hl0 hs20 hl20
  have hs : nm.size ≤ maxLen := Nat.le_trans hs0 (by decide)
  have hl : l.length ≤ maxLen := Nat.le_trans hl0 (by decide)
  have hl4 : l.length ≤ 4096 := Nat.le_trans hl0 (by decide)
  have hs2 : nm2.size ≤ maxLen := Nat.le_trans hs20 (by decide)
  have hl2 : k.length ≤ maxLen := Nat.le_trans hl20 (by decide)
  have hl24 : k.length ≤ 4096 := Nat.le_trans hl20 (by decide)
  obtain ⟨n, hn⟩ : ∃ n, l.length = n := ⟨_, rfl⟩
  obtain ⟨m, hm⟩ : ∃ m, k.length = m := ⟨_, rfl⟩
  have HS : RowKit.Hid (∀ w, Calls Tryz.prog 39 #[.agg #[.string nm, .int .i64 X, .int .i64 Y, .slice A n c]] w (BoolEnd true w)) := Lib.hid (fun w => by have h := narrow_any (Pic.mk nm X Y l) A c w; rw [hsh] at h; rw [← hn]; exact h)
  have HS2 : RowKit.Hid (∀ w, Calls Tryz.prog 39 #[.agg #[.string nm2, .int .i64 X2, .int .i64 Y2, .slice B m d]] w (BoolEnd true w)) := Lib.hid (fun w => by have h := narrow_any (Pic.mk nm2 X2 Y2 k) B d w; rw [hsh2] at h; rw [← hm]; exact h)
  have HOWN : RowKit.Hid (∀ w, Rd w A (fl l) → Calls Tryz.prog 30 #[.agg #[.string nm, .int .i64 X, .int .i64 Y, .slice A n c]] w fun e w' => ∃ g c', e = .returned (.agg #[.string nm, .int .i64 X, .int .i64 Y, .slice (some ⟨g, 0, none⟩) n c']) ∧ n ≤ c' ∧ Rd w' (some ⟨g, 0, none⟩) (fl l) ∧ Below w.heap.size w w') := Lib.hid (fun w hr => by have h := own_any (Pic.mk nm X Y l) A c w hl4 hA hr; rw [← hn]; exact h)
  have HOWN2 : RowKit.Hid (∀ w, Rd w B (fl k) → Calls Tryz.prog 30 #[.agg #[.string nm2, .int .i64 X2, .int .i64 Y2, .slice B m d]] w fun e w' => ∃ g c', e = .returned (.agg #[.string nm2, .int .i64 X2, .int .i64 Y2, .slice (some ⟨g, 0, none⟩) m c']) ∧ m ≤ c' ∧ Rd w' (some ⟨g, 0, none⟩) (fl k) ∧ Below w.heap.size w w') := Lib.hid (fun w hr => by have h := own_any (Pic.mk nm2 X2 Y2 k) B d w hl24 hB hr; rw [← hm]; exact h)
  have HCK : RowKit.Hid (∀ w, Rd w A (fl l) → Calls Tryz.prog 32 #[.agg #[.string nm, .int .i64 X, .int .i64 Y, .slice A n c]] w fun e w' => e = .returned (.int .i64 zp) ∧ Below w.heap.size w w') := Lib.hid (fun w hr => by have h := checkPictureR_any (Pic.mk nm X Y l) A c w hs hl4 hr; rw [he1] at h; rw [← hn]; exact h)
  have HCK2 : RowKit.Hid (∀ w, Rd w B (fl k) → Calls Tryz.prog 32 #[.agg #[.string nm2, .int .i64 X2, .int .i64 Y2, .slice B m d]] w fun e w' => e = .returned (.int .i64 zq) ∧ Below w.heap.size w w') := Lib.hid (fun w hr => by have h := checkPictureR_any (Pic.mk nm2 X2 Y2 k) B d w hs2 hl24 hr; rw [he2] at h; rw [← hm]; exact h)
  have HJ1 : RowKit.Hid (∀ (A' B' : Option Addr) (c' d' : Nat) (w : World), n ≤ c' → m ≤ d' → Rd w A' (fl l) → Rd w B' (fl k) → Calls Tryz.prog 40 #[.agg #[.string nm, .int .i64 X, .int .i64 Y, .slice A' n c'], .agg #[.string nm2, .int .i64 X2, .int .i64 Y2, .slice B' m d']] w fun e w' => ∃ A c, e = .returned (.tuple #[.agg #[.string ⟨#[]⟩, .int .i64 0, .int .i64 0, .slice A 0 c], .int .i64 zb]) ∧ Rd w' A (fl []) ∧ Below w.heap.size w w') := Lib.hid (fun A' B' c' d' w h1 h2 h3 h4 => by
    have he : besideErr (Pic.mk nm X Y l) (Pic.mk nm2 X2 Y2 k) = zb := by unfold besideErr; rw [he1, he2, firstE_head (by rw [hzb]; exact hz)]; exact hzb
    have h := beside_err (Pic.mk nm X Y l) (Pic.mk nm2 X2 Y2 k) A' B' c' d' w hs hl hs2 hl2 h3 h4 zb he hz
    unfold Pic.val at h; rw [← hn, ← hm]
    exact h.mono fun e w' ⟨a, b⟩ => ⟨none, 0, a, rd_nil _ _, b⟩)
  have HJ2 : RowKit.Hid (∀ (A' B' : Option Addr) (c' d' : Nat) (w : World), n ≤ c' → m ≤ d' → Rd w A' (fl l) → Rd w B' (fl k) → Calls Tryz.prog 41 #[.agg #[.string nm, .int .i64 X, .int .i64 Y, .slice A' n c'], .agg #[.string nm2, .int .i64 X2, .int .i64 Y2, .slice B' m d']] w fun e w' => ∃ A c, e = .returned (.tuple #[.agg #[.string ⟨#[]⟩, .int .i64 0, .int .i64 0, .slice A 0 c], .int .i64 zb]) ∧ Rd w' A (fl []) ∧ Below w.heap.size w w') := Lib.hid (fun A' B' c' d' w h1 h2 h3 h4 => by
    have he : aboveErr (Pic.mk nm X Y l) (Pic.mk nm2 X2 Y2 k) = zb := by unfold aboveErr; rw [he1, he2, firstE_head (by rw [hzb]; exact hz)]; exact hzb
    have h := above_err (Pic.mk nm X Y l) (Pic.mk nm2 X2 Y2 k) A' B' c' d' w hs hl hs2 hl2 h3 h4 zb he hz
    unfold Pic.val at h; rw [← hn, ← hm]
    exact h.mono fun e w' ⟨a, b⟩ => ⟨none, 0, a, rd_nil _ _, b⟩)
  have HJ3 : RowKit.Hid (∀ (A' B' : Option Addr) (c' d' : Nat) (w : World), n ≤ c' → m ≤ d' → Rd w A' (fl l) → Rd w B' (fl k) → Calls Tryz.prog 42 #[.agg #[.string nm, .int .i64 X, .int .i64 Y, .slice A' n c'], .agg #[.string nm2, .int .i64 X2, .int .i64 Y2, .slice B' m d']] w fun e w' => ∃ A c, e = .returned (.tuple #[.agg #[.string ⟨#[]⟩, .int .i64 0, .int .i64 0, .slice A 0 c], .int .i64 zb]) ∧ Rd w' A (fl []) ∧ Below w.heap.size w w') := Lib.hid (fun A' B' c' d' w h1 h2 h3 h4 => by
    have he : wovenErr (Pic.mk nm X Y l) (Pic.mk nm2 X2 Y2 k) = zb := by unfold wovenErr; rw [he1, he2, firstE_head (by rw [hzb]; exact hz)]; exact hzb
    have h := woven_err (Pic.mk nm X Y l) (Pic.mk nm2 X2 Y2 k) A' B' c' d' w hs hl hs2 hl2 h3 h4 zb he hz
    unfold Pic.val at h; rw [← hn, ← hm]
    exact h.mono fun e w' ⟨a, b⟩ => ⟨none, 0, a, rd_nil _ _, b⟩)
  have HO : RowKit.Hid (∀ (A B : Option Addr) (c d : Nat) (w : World), Calls Tryz.prog 38 #[.agg #[.string ⟨#[]⟩, .int .i64 0, .int .i64 0, .slice A 0 c], .int .i64 zb, .int .i64 zb, .agg #[.string ⟨#[]⟩, .int .i64 0, .int .i64 0, .slice B 0 d]] w fun e w' => e = .returned (.bool true) ∧ Below w.heap.size w w') := Lib.hid (fun A B c d w => by have h := one_any noPic zb (fun _ => rfl) rfl (by decide) A B c d w (rd_nil _ _) (rd_nil _ _); exact h)
  have hzb2 : (zb == 0) = false := by simpa using hz
  have HZB := Lib.hid hzb; clear hzb hz
  rw [show (Pic.mk nm X Y l).val A c = .agg #[.string nm, .int .i64 X, .int .i64 Y, .slice A n c] by unfold Pic.val; rw [hn], show (Pic.mk nm2 X2 Y2 k).val B d = .agg #[.string nm2, .int .i64 X2, .int .i64 Y2, .slice B m d] by unfold Pic.val; rw [hm]]
  clear hs hl hl4 hs0 hl0 hs2 hl2 hl24 hs20 hl20 hsh hsh2 hn hm hcap hcap2 hA hB he1 he2
  have HR := Lib.hid hr; have HR2 := Lib.hid hr2; clear hr hr2
  have HL := Lib.hid hlaid; clear hlaid
  have HB := Lib.hid (Below.refl w.heap.size w)
  go_enter Tryz.func5, Tryz.ntmps5
  go_upto_region 1 with fail
  have hn := Blk.new w 43 #[.string nm, .int .i64 X, .int .i64 Y, .slice A n c]
  have hb : Below w.heap.size w (w.alloc (.cells #[.string nm, .int .i64 X, .int .i64 Y, .slice A n c] 43)) := (Below.refl _ _).alloc (Nat.le_refl _) _
  have hge := HB.out.size
  have hsz : (w.alloc (.cells #[.string nm, .int .i64 X, .int .i64 Y, .slice A n c] 43)).heap.size = w.heap.size + 1 := by simp only [World.size_alloc]
  obtain ⟨bP, hl⟩ : ∃ b, w.heap.size = b := ⟨_, rfl⟩
  generalize w.alloc (.cells #[.string nm, .int .i64 X, .int .i64 Y, .slice A n c] 43) = sa at hn hb hsz ⊢
  rw [hl] at hsz
  replace HR := Lib.hid (HR.out.below hb); replace HR2 := Lib.hid (HR2.out.below hb); replace HB := Lib.hid (HB.out.trans (hb.mono HB.out.size))
  clear hb
  rw [hl] at hn hge
  try rw [hl]
  have HXP := Lib.hid hn; have HGP := Lib.hid hge; clear hn hl hge
  have hn := Blk.new sa 43 #[.string nm2, .int .i64 X2, .int .i64 Y2, .slice B m d]
  have hb : Below sa.heap.size sa (sa.alloc (.cells #[.string nm2, .int .i64 X2, .int .i64 Y2, .slice B m d] 43)) := (Below.refl _ _).alloc (Nat.le_refl _) _
  have hge := HB.out.size
  have hlt_HXP := HXP.out.lt
  obtain ⟨bQ, hl⟩ : ∃ b, sa.heap.size = b := ⟨_, rfl⟩
  generalize sa.alloc (.cells #[.string nm2, .int .i64 X2, .int .i64 Y2, .slice B m d] 43) = s0 at hn hb ⊢
  rw [hl] at hsz
  rw [← hsz]
  clear hsz
  replace HR := Lib.hid (HR.out.below hb); replace HR2 := Lib.hid (HR2.out.below hb); replace HXP := Lib.hid (HXP.out.below hb); replace HB := Lib.hid (HB.out.trans (hb.mono HB.out.size))
  clear hb
  rw [hl] at hn hge hlt_HXP
  try rw [hl]
  have HXQ := Lib.hid hn; have HGQ := Lib.hid hge; clear hn hl hge
  have HNQHXP : RowKit.Hid (¬ bP = bQ) := Lib.hid (by omega)
  clear hlt_HXP
  obtain ⟨cHXP_0, cHXP_1, cHXP_2, cHXP_3⟩ := box4 HXP.out
  go_wp2_with fail
  refine (HS.out _).mono ?_
  rintro e s1 ⟨rfl, hb⟩
  replace HR := Lib.hid (HR.out.below hb); replace HR2 := Lib.hid (HR2.out.below hb); replace HXP := Lib.hid (HXP.out.below hb); replace HXQ := Lib.hid (HXQ.out.below hb)
  replace HB := Lib.hid (HB.out.trans (hb.mono HB.out.size))
  clear hb
  clear cHXP_0 cHXP_1 cHXP_2 cHXP_3
  obtain ⟨cHXQ_0, cHXQ_1, cHXQ_2, cHXQ_3⟩ := box4 HXQ.out
  go_wp2_with fail
  refine (HS2.out _).mono ?_
  rintro e s2 ⟨rfl, hb⟩
  replace HR := Lib.hid (HR.out.below hb); replace HR2 := Lib.hid (HR2.out.below hb); replace HXP := Lib.hid (HXP.out.below hb); replace HXQ := Lib.hid (HXQ.out.below hb)
  replace HB := Lib.hid (HB.out.trans (hb.mono HB.out.size))
  clear hb
  clear cHXQ_0 cHXQ_1 cHXQ_2 cHXQ_3
  go_upto_region 3 with fail
  obtain ⟨cHXP_0, cHXP_1, cHXP_2, cHXP_3⟩ := box4 HXP.out
  obtain ⟨cHXQ_0, cHXQ_1, cHXQ_2, cHXQ_3⟩ := box4 HXQ.out
  have zP := HXP.out.lt; have zQ := HXQ.out.lt
  refine wp_region_box [Fact2.is (.agg #[.string nm, .int .i64 X, .int .i64 Y, .slice A n c]), Fact2.pic (fun x => x) nm X Y n l n, Fact2.is (.agg #[.string nm2, .int .i64 X2, .int .i64 Y2, .slice B m d]), Fact2.pic (fun x => x) nm2 X2 Y2 m k m, Fact2.pic (fun x => .tuple #[x, .int .i64 zb]) ⟨#[]⟩ 0 0 0 [] 0, Fact2.pic (fun x => .tuple #[x, .int .i64 zb]) ⟨#[]⟩ 0 0 0 [] 0, Fact2.pic (fun x => x) ⟨#[]⟩ 0 0 0 [] 0, Fact2.is (.int .i64 (zb)), Fact2.box s2.heap.size 50, Fact2.any, Fact2.is (.int .i64 (zb))] 9 8 (PicBox s2.heap.size 50 ⟨#[]⟩ 0 0 0 []) (fun _ _ _ h hb => h.grow hb) [[], [0], [], [2], [1, 3], [4], [5], [5], [], [6, 8], [7]] [(some 28, 0), (some 29, 1), (some 30, 2), (some 31, 3), (some 32, 4), (some 27, 5), (some 33, 6), (some 34, 7), (some 5, 8), (none, 9), (some 6, 10)] (by kernel_rfl) (by kernel_rfl) (by kernel_rfl) (by kernel_rfl) (by decide) (by decide) (fun _ _ _ _ e h => by have h1 : _ ∧ _ := h; exact ⟨e ▸ h1.1, h1.2⟩) ?hstep ?hsto ?hend (by decide)
  case hstep =>
    intro i hi hne
    match i, hi, hne with
    | 0, _, _ =>
      intro v w' hR hd
      change SpecOp _ _ _ _ 0 (canon _ v _ []) w' _
      simp only [canon_nil]
      have q0 := (hR.cell (p := ⟨bP, 0, none⟩) zP).trans cHXP_0
      have q1 := (hR.cell (p := ⟨bP, 1, none⟩) zP).trans cHXP_1
      have q2 := (hR.cell (p := ⟨bP, 2, none⟩) zP).trans cHXP_2
      have q3 := (hR.cell (p := ⟨bP, 3, none⟩) zP).trans cHXP_3
      refine spec_ofR rfl (fun KK hK => ?_)
      go_simp
      exact hK.out _ _ (Below.refl _ _) rfl
    | 1, _, _ =>
      intro v w' hR hd
      have e0 : v 0 = .agg #[.string nm, .int .i64 X, .int .i64 Y, .slice A n c] := hd 0 (by decide)
      change SpecOp _ _ _ _ 1 (Act.put (canon _ v _ []) (some 28) (v 0)) w' _
      rw [e0]
      simp only [canon_nil, Act.put, List.setIfInBounds_toArray, List.set_cons_zero, List.set_cons_succ]
      refine spec_ofR rfl (fun KK hK => ?_)
      go_simp
      refine (HOWN.out _ (HR.out.below hR)).mono ?_
      rintro e wn ⟨g, c', rfl, hcc, hro, hbn⟩
      exact hK.out _ _ hbn ⟨_, c', rfl, hcc, hro⟩
    | 2, _, _ =>
      intro v w' hR hd
      change SpecOp _ _ _ _ 2 (canon _ v _ []) w' _
      simp only [canon_nil]
      have q0 := (hR.cell (p := ⟨bQ, 0, none⟩) zQ).trans cHXQ_0
      have q1 := (hR.cell (p := ⟨bQ, 1, none⟩) zQ).trans cHXQ_1
      have q2 := (hR.cell (p := ⟨bQ, 2, none⟩) zQ).trans cHXQ_2
      have q3 := (hR.cell (p := ⟨bQ, 3, none⟩) zQ).trans cHXQ_3
      refine spec_ofR rfl (fun KK hK => ?_)
      go_simp
      exact hK.out _ _ (Below.refl _ _) rfl
    | 3, _, _ =>
      intro v w' hR hd
      have e2 : v 2 = .agg #[.string nm2, .int .i64 X2, .int .i64 Y2, .slice B m d] := hd 2 (by decide)
      change SpecOp _ _ _ _ 3 (Act.put (canon _ v _ []) (some 30) (v 2)) w' _
      rw [e2]
      simp only [canon_nil, Act.put, List.setIfInBounds_toArray, List.set_cons_zero, List.set_cons_succ]
      refine spec_ofR rfl (fun KK hK => ?_)
      go_simp
      refine (HOWN2.out _ (HR2.out.below hR)).mono ?_
      rintro e wn ⟨g, c', rfl, hcc, hro, hbn⟩
      exact hK.out _ _ hbn ⟨_, c', rfl, hcc, hro⟩
    | 4, _, _ =>
      intro v w' hR hd
      obtain ⟨A1, k1, e1, m1, r1⟩ : ∃ A c, v 1 = (fun x => x) (.agg #[.string nm, .int .i64 X, .int .i64 Y, .slice A n c]) ∧ n ≤ c ∧ Rd w' A (fl l) := hd 1 (by decide)
      obtain ⟨A3, k3, e3, m3, r3⟩ : ∃ A c, v 3 = (fun x => x) (.agg #[.string nm2, .int .i64 X2, .int .i64 Y2, .slice A m c]) ∧ m ≤ c ∧ Rd w' A (fl k) := hd 3 (by decide)
      change SpecOp _ _ _ _ 4 (Act.put (Act.put (canon _ v _ []) (some 31) (v 3)) (some 29) (v 1)) w' _
      rw [e1, e3]
      simp only [canon_nil, Act.put, List.setIfInBounds_toArray, List.set_cons_zero, List.set_cons_succ]
      refine spec_ofR rfl (fun KK hK => ?_)
      go_simp
      refine (HJ1.out A1 A3 k1 k3 _ m1 m3 r1 r3).mono ?_
      rintro e wn ⟨Ax, cx, rfl, hrx, hbn⟩
      exact hK.out _ _ hbn ⟨Ax, cx, rfl, Nat.zero_le _, hrx⟩
    | 5, _, _ =>
      intro v w' hR hd
      obtain ⟨A4, k4, e4, m4, r4⟩ : ∃ A c, v 4 = (fun x => .tuple #[x, .int .i64 zb]) (.agg #[.string ⟨#[]⟩, .int .i64 0, .int .i64 0, .slice A 0 c]) ∧ 0 ≤ c ∧ Rd w' A (fl []) := hd 4 (by decide)
      change SpecOp _ _ _ _ 5 (Act.put (canon _ v _ []) (some 32) (v 4)) w' _
      rw [e4]
      simp only [canon_nil, Act.put, List.setIfInBounds_toArray, List.set_cons_zero, List.set_cons_succ]
      refine spec_ofR rfl (fun KK hK => ?_)
      go_simp
      exact hK.out _ _ (Below.refl _ _) ⟨A4, k4, rfl, m4, r4⟩
    | 6, _, _ =>
      intro v w' hR hd
      obtain ⟨A5, k5, e5, m5, r5⟩ : ∃ A c, v 5 = (fun x => .tuple #[x, .int .i64 zb]) (.agg #[.string ⟨#[]⟩, .int .i64 0, .int .i64 0, .slice A 0 c]) ∧ 0 ≤ c ∧ Rd w' A (fl []) := hd 5 (by decide)
      change SpecOp _ _ _ _ 6 (Act.put (canon _ v _ []) (some 27) (v 5)) w' _
      rw [e5]
      simp only [canon_nil, Act.put, List.setIfInBounds_toArray, List.set_cons_zero, List.set_cons_succ]
      refine spec_ofR rfl (fun KK hK => ?_)
      go_simp
      exact hK.out _ _ (Below.refl _ _) ⟨A5, k5, rfl, m5, r5⟩
    | 7, _, _ =>
      intro v w' hR hd
      obtain ⟨A5, k5, e5, m5, r5⟩ : ∃ A c, v 5 = (fun x => .tuple #[x, .int .i64 zb]) (.agg #[.string ⟨#[]⟩, .int .i64 0, .int .i64 0, .slice A 0 c]) ∧ 0 ≤ c ∧ Rd w' A (fl []) := hd 5 (by decide)
      change SpecOp _ _ _ _ 7 (Act.put (canon _ v _ []) (some 27) (v 5)) w' _
      rw [e5]
      simp only [canon_nil, Act.put, List.setIfInBounds_toArray, List.set_cons_zero, List.set_cons_succ]
      refine spec_ofR rfl (fun KK hK => ?_)
      go_simp
      exact hK.out _ _ (Below.refl _ _) rfl
    | 8, _, _ =>
      intro v w' hR hd
      change SpecOp _ _ _ _ 8 (canon _ v _ []) w' _
      simp only [canon_nil]
      refine spec_ofR rfl (fun KK hK => ?_)
      go_simp
      exact hK.out _ _ ((Below.refl _ _).alloc (Nat.le_refl _) _) ⟨_, _, rfl, hR.size, Blk.new _ _ _, .four rfl rfl rfl rfl, rfl⟩
    | 9, _, h => exact absurd rfl h
    | 10, _, _ =>
      intro v w' hR hd
      have e7 : v 7 = .int .i64 (zb) := hd 7 (by decide)
      change SpecOp _ _ _ _ 10 (Act.put (canon _ v _ []) (some 34) (v 7)) w' _
      rw [e7]
      simp only [canon_nil, Act.put, List.setIfInBounds_toArray, List.set_cons_zero, List.set_cons_succ]
      refine spec_ofR rfl (fun KK hK => ?_)
      go_simp
      exact hK.out _ _ (Below.refl _ _) rfl
    | i + 11, h, _ => exact absurd h (Nat.not_lt.2 (Nat.le_add_left 11 i))
  case hsto =>
    intro v w' hR hd
    obtain ⟨A6, k6, e6, m6, r6⟩ : ∃ A c, v 6 = (fun x => x) (.agg #[.string ⟨#[]⟩, .int .i64 0, .int .i64 0, .slice A 0 c]) ∧ 0 ≤ c ∧ Rd w' A (fl []) := hd 6 (by decide)
    obtain ⟨bb, cs, e8, hge, hblk, hnf, hcz⟩ : ∃ b cs, v 8 = .pointer (some ⟨b, 0, none⟩) ∧ s2.heap.size ≤ b ∧ Blk w' b 50 cs ∧ NF cs ∧ cs.size = 4 := hd 8 (by decide)
    obtain ⟨x0, x1, x2, x3, rfl⟩ := four_of hcz
    change SpecOp _ _ _ _ 9 (Act.put (Act.put (canon _ v _ []) (some 5) (v 8)) (some 33) (v 6)) w' _
    rw [e6, e8]
    simp only [canon_nil, Act.put, List.setIfInBounds_toArray, List.set_cons_zero, List.set_cons_succ]
    have zb := hblk.lt
    have f0 := hblk.frozen 0; have f1 := hblk.frozen 1; have f2 := hblk.frozen 2; have f3 := hblk.frozen 3
    obtain ⟨y0, y1, y2, y3⟩ := box4 hblk
    refine spec_ofR rfl (fun KK hK => ?_)
    go_simp
    exact hK.out undef _ (rst_set4 hblk hnf hge (.string ⟨#[]⟩) (.int .i64 0) (.int .i64 0) (.slice A6 0 k6) rfl rfl rfl rfl) ⟨bb, A6, k6, rfl, hge, blk_set4' hblk (.string ⟨#[]⟩) (.int .i64 0) (.int .i64 0) (.slice A6 0 k6), rd_set4 r6 hblk hnf (.string ⟨#[]⟩) (.int .i64 0) (.int .i64 0) (.slice A6 0 k6) rfl rfl rfl⟩
  case hend =>
    intro v w' hR hall hfs
    simp only [putL, Act.put, List.setIfInBounds_toArray, List.set_cons_zero, List.set_cons_succ]
    obtain ⟨bX1, AX1, kX1, e8, hge, hx, hrx⟩ := hfs
    have e10 : v 10 = .int .i64 (zb) := hall 10 (by decide) (by decide)
    rw [e8, e10]
    clear hall e8 e10 zP zQ
    clear cHXP_0 cHXP_1 cHXP_2 cHXP_3 cHXQ_0 cHXQ_1 cHXQ_2 cHXQ_3
    have hgB := HB.out.size
    have hlt_HXP := HXP.out.lt
    have hlt_HXQ := HXQ.out.lt
    have HGX1 : RowKit.Hid (w.heap.size ≤ bX1) := Lib.hid (by omega)
    have HNX1HXP : RowKit.Hid (¬ bP = bX1) := Lib.hid (by omega)
    have HNX1HXQ : RowKit.Hid (¬ bQ = bX1) := Lib.hid (by omega)
    clear hgB hge hlt_HXP hlt_HXQ
    replace HR := Lib.hid (HR.out.below hR); replace HR2 := Lib.hid (HR2.out.below hR); replace HXP := Lib.hid (HXP.out.below hR); replace HXQ := Lib.hid (HXQ.out.below hR)
    replace HB := Lib.hid (HB.out.trans (hR.mono HB.out.size))
    clear hR
    have HXX1 := Lib.hid hx; have HLX1 := Lib.hid hrx; clear hx hrx
    obtain ⟨t1, ht⟩ : ∃ s, w' = s := ⟨_, rfl⟩
    rw [ht] at HR HR2 HXP HXQ HXX1 HLX1 HB ⊢
    clear ht
    go_upto_region 4 with fail
    obtain ⟨cHXP_0, cHXP_1, cHXP_2, cHXP_3⟩ := box4 HXP.out
    obtain ⟨cHXQ_0, cHXQ_1, cHXQ_2, cHXQ_3⟩ := box4 HXQ.out
    have zP := HXP.out.lt; have zQ := HXQ.out.lt
    refine wp_region_box [Fact2.is (.agg #[.string nm, .int .i64 X, .int .i64 Y, .slice A n c]), Fact2.pic (fun x => x) nm X Y n l n, Fact2.is (.agg #[.string nm2, .int .i64 X2, .int .i64 Y2, .slice B m d]), Fact2.pic (fun x => x) nm2 X2 Y2 m k m, Fact2.pic (fun x => .tuple #[x, .int .i64 zb]) ⟨#[]⟩ 0 0 0 [] 0, Fact2.pic (fun x => .tuple #[x, .int .i64 zb]) ⟨#[]⟩ 0 0 0 [] 0, Fact2.pic (fun x => x) ⟨#[]⟩ 0 0 0 [] 0, Fact2.is (.int .i64 (zb)), Fact2.box t1.heap.size 50, Fact2.any, Fact2.is (.int .i64 (zb))] 9 8 (PicBox t1.heap.size 50 ⟨#[]⟩ 0 0 0 []) (fun _ _ _ h hb => h.grow hb) [[], [0], [], [2], [1, 3], [4], [5], [5], [], [6, 8], [7]] [(some 36, 0), (some 37, 1), (some 38, 2), (some 39, 3), (some 40, 4), (some 35, 5), (some 41, 6), (some 42, 7), (some 7, 8), (none, 9), (some 8, 10)] (by kernel_rfl) (by kernel_rfl) (by kernel_rfl) (by kernel_rfl) (by decide) (by decide) (fun _ _ _ _ e h => by have h1 : _ ∧ _ := h; exact ⟨e ▸ h1.1, h1.2⟩) ?hstep ?hsto ?hend (by decide)
    case hstep =>
      intro i hi hne
      match i, hi, hne with
      | 0, _, _ =>
        intro v w' hR hd
        change SpecOp _ _ _ _ 0 (canon _ v _ []) w' _
        simp only [canon_nil]
        have q0 := (hR.cell (p := ⟨bP, 0, none⟩) zP).trans cHXP_0
        have q1 := (hR.cell (p := ⟨bP, 1, none⟩) zP).trans cHXP_1
        have q2 := (hR.cell (p := ⟨bP, 2, none⟩) zP).trans cHXP_2
        have q3 := (hR.cell (p := ⟨bP, 3, none⟩) zP).trans cHXP_3
        refine spec_ofR rfl (fun KK hK => ?_)
        go_simp
        exact hK.out _ _ (Below.refl _ _) rfl
      | 1, _, _ =>
        intro v w' hR hd
        have e0 : v 0 = .agg #[.string nm, .int .i64 X, .int .i64 Y, .slice A n c] := hd 0 (by decide)
        change SpecOp _ _ _ _ 1 (Act.put (canon _ v _ []) (some 36) (v 0)) w' _
        rw [e0]
        simp only [canon_nil, Act.put, List.setIfInBounds_toArray, List.set_cons_zero, List.set_cons_succ]
        refine spec_ofR rfl (fun KK hK => ?_)
        go_simp
        refine (HOWN.out _ (HR.out.below hR)).mono ?_
        rintro e wn ⟨g, c', rfl, hcc, hro, hbn⟩
        exact hK.out _ _ hbn ⟨_, c', rfl, hcc, hro⟩
      | 2, _, _ =>
        intro v w' hR hd
        change SpecOp _ _ _ _ 2 (canon _ v _ []) w' _
        simp only [canon_nil]
        have q0 := (hR.cell (p := ⟨bQ, 0, none⟩) zQ).trans cHXQ_0
        have q1 := (hR.cell (p := ⟨bQ, 1, none⟩) zQ).trans cHXQ_1
        have q2 := (hR.cell (p := ⟨bQ, 2, none⟩) zQ).trans cHXQ_2
        have q3 := (hR.cell (p := ⟨bQ, 3, none⟩) zQ).trans cHXQ_3
        refine spec_ofR rfl (fun KK hK => ?_)
        go_simp
        exact hK.out _ _ (Below.refl _ _) rfl
      | 3, _, _ =>
        intro v w' hR hd
        have e2 : v 2 = .agg #[.string nm2, .int .i64 X2, .int .i64 Y2, .slice B m d] := hd 2 (by decide)
        change SpecOp _ _ _ _ 3 (Act.put (canon _ v _ []) (some 38) (v 2)) w' _
        rw [e2]
        simp only [canon_nil, Act.put, List.setIfInBounds_toArray, List.set_cons_zero, List.set_cons_succ]
        refine spec_ofR rfl (fun KK hK => ?_)
        go_simp
        refine (HOWN2.out _ (HR2.out.below hR)).mono ?_
        rintro e wn ⟨g, c', rfl, hcc, hro, hbn⟩
        exact hK.out _ _ hbn ⟨_, c', rfl, hcc, hro⟩
      | 4, _, _ =>
        intro v w' hR hd
        obtain ⟨A1, k1, e1, m1, r1⟩ : ∃ A c, v 1 = (fun x => x) (.agg #[.string nm, .int .i64 X, .int .i64 Y, .slice A n c]) ∧ n ≤ c ∧ Rd w' A (fl l) := hd 1 (by decide)
        obtain ⟨A3, k3, e3, m3, r3⟩ : ∃ A c, v 3 = (fun x => x) (.agg #[.string nm2, .int .i64 X2, .int .i64 Y2, .slice A m c]) ∧ m ≤ c ∧ Rd w' A (fl k) := hd 3 (by decide)
        change SpecOp _ _ _ _ 4 (Act.put (Act.put (canon _ v _ []) (some 39) (v 3)) (some 37) (v 1)) w' _
        rw [e1, e3]
        simp only [canon_nil, Act.put, List.setIfInBounds_toArray, List.set_cons_zero, List.set_cons_succ]
        refine spec_ofR rfl (fun KK hK => ?_)
        go_simp
        refine (HJ2.out A1 A3 k1 k3 _ m1 m3 r1 r3).mono ?_
        rintro e wn ⟨Ax, cx, rfl, hrx, hbn⟩
        exact hK.out _ _ hbn ⟨Ax, cx, rfl, Nat.zero_le _, hrx⟩
      | 5, _, _ =>
        intro v w' hR hd
        obtain ⟨A4, k4, e4, m4, r4⟩ : ∃ A c, v 4 = (fun x => .tuple #[x, .int .i64 zb]) (.agg #[.string ⟨#[]⟩, .int .i64 0, .int .i64 0, .slice A 0 c]) ∧ 0 ≤ c ∧ Rd w' A (fl []) := hd 4 (by decide)
        change SpecOp _ _ _ _ 5 (Act.put (canon _ v _ []) (some 40) (v 4)) w' _
        rw [e4]
        simp only [canon_nil, Act.put, List.setIfInBounds_toArray, List.set_cons_zero, List.set_cons_succ]
        refine spec_ofR rfl (fun KK hK => ?_)
        go_simp
        exact hK.out _ _ (Below.refl _ _) ⟨A4, k4, rfl, m4, r4⟩
      | 6, _, _ =>
        intro v w' hR hd
        obtain ⟨A5, k5, e5, m5, r5⟩ : ∃ A c, v 5 = (fun x => .tuple #[x, .int .i64 zb]) (.agg #[.string ⟨#[]⟩, .int .i64 0, .int .i64 0, .slice A 0 c]) ∧ 0 ≤ c ∧ Rd w' A (fl []) := hd 5 (by decide)
        change SpecOp _ _ _ _ 6 (Act.put (canon _ v _ []) (some 35) (v 5)) w' _
        rw [e5]
        simp only [canon_nil, Act.put, List.setIfInBounds_toArray, List.set_cons_zero, List.set_cons_succ]
        refine spec_ofR rfl (fun KK hK => ?_)
        go_simp
        exact hK.out _ _ (Below.refl _ _) ⟨A5, k5, rfl, m5, r5⟩
      | 7, _, _ =>
        intro v w' hR hd
        obtain ⟨A5, k5, e5, m5, r5⟩ : ∃ A c, v 5 = (fun x => .tuple #[x, .int .i64 zb]) (.agg #[.string ⟨#[]⟩, .int .i64 0, .int .i64 0, .slice A 0 c]) ∧ 0 ≤ c ∧ Rd w' A (fl []) := hd 5 (by decide)
        change SpecOp _ _ _ _ 7 (Act.put (canon _ v _ []) (some 35) (v 5)) w' _
        rw [e5]
        simp only [canon_nil, Act.put, List.setIfInBounds_toArray, List.set_cons_zero, List.set_cons_succ]
        refine spec_ofR rfl (fun KK hK => ?_)
        go_simp
        exact hK.out _ _ (Below.refl _ _) rfl
      | 8, _, _ =>
        intro v w' hR hd
        change SpecOp _ _ _ _ 8 (canon _ v _ []) w' _
        simp only [canon_nil]
        refine spec_ofR rfl (fun KK hK => ?_)
        go_simp
        exact hK.out _ _ ((Below.refl _ _).alloc (Nat.le_refl _) _) ⟨_, _, rfl, hR.size, Blk.new _ _ _, .four rfl rfl rfl rfl, rfl⟩
      | 9, _, h => exact absurd rfl h
      | 10, _, _ =>
        intro v w' hR hd
        have e7 : v 7 = .int .i64 (zb) := hd 7 (by decide)
        change SpecOp _ _ _ _ 10 (Act.put (canon _ v _ []) (some 42) (v 7)) w' _
        rw [e7]
        simp only [canon_nil, Act.put, List.setIfInBounds_toArray, List.set_cons_zero, List.set_cons_succ]
        refine spec_ofR rfl (fun KK hK => ?_)
        go_simp
        exact hK.out _ _ (Below.refl _ _) rfl
      | i + 11, h, _ => exact absurd h (Nat.not_lt.2 (Nat.le_add_left 11 i))
    case hsto =>
      intro v w' hR hd
      obtain ⟨A6, k6, e6, m6, r6⟩ : ∃ A c, v 6 = (fun x => x) (.agg #[.string ⟨#[]⟩, .int .i64 0, .int .i64 0, .slice A 0 c]) ∧ 0 ≤ c ∧ Rd w' A (fl []) := hd 6 (by decide)
      obtain ⟨bb, cs, e8, hge, hblk, hnf, hcz⟩ : ∃ b cs, v 8 = .pointer (some ⟨b, 0, none⟩) ∧ t1.heap.size ≤ b ∧ Blk w' b 50 cs ∧ NF cs ∧ cs.size = 4 := hd 8 (by decide)
      obtain ⟨x0, x1, x2, x3, rfl⟩ := four_of hcz
      change SpecOp _ _ _ _ 9 (Act.put (Act.put (canon _ v _ []) (some 7) (v 8)) (some 41) (v 6)) w' _
      rw [e6, e8]
      simp only [canon_nil, Act.put, List.setIfInBounds_toArray, List.set_cons_zero, List.set_cons_succ]
      have zb := hblk.lt
      have f0 := hblk.frozen 0; have f1 := hblk.frozen 1; have f2 := hblk.frozen 2; have f3 := hblk.frozen 3
      obtain ⟨y0, y1, y2, y3⟩ := box4 hblk
      refine spec_ofR rfl (fun KK hK => ?_)
      go_simp
      exact hK.out undef _ (rst_set4 hblk hnf hge (.string ⟨#[]⟩) (.int .i64 0) (.int .i64 0) (.slice A6 0 k6) rfl rfl rfl rfl) ⟨bb, A6, k6, rfl, hge, blk_set4' hblk (.string ⟨#[]⟩) (.int .i64 0) (.int .i64 0) (.slice A6 0 k6), rd_set4 r6 hblk hnf (.string ⟨#[]⟩) (.int .i64 0) (.int .i64 0) (.slice A6 0 k6) rfl rfl rfl⟩
    case hend =>
      intro v w' hR hall hfs
      simp only [putL, Act.put, List.setIfInBounds_toArray, List.set_cons_zero, List.set_cons_succ]
      obtain ⟨bX2, AX2, kX2, e8, hge, hx, hrx⟩ := hfs
      have e10 : v 10 = .int .i64 (zb) := hall 10 (by decide) (by decide)
      rw [e8, e10]
      clear hall e8 e10 zP zQ
      clear cHXP_0 cHXP_1 cHXP_2 cHXP_3 cHXQ_0 cHXQ_1 cHXQ_2 cHXQ_3
      have hgB := HB.out.size
      have hlt_HXP := HXP.out.lt
      have hlt_HXQ := HXQ.out.lt
      have hlt_HXX1 := HXX1.out.lt
      have HGX2 : RowKit.Hid (w.heap.size ≤ bX2) := Lib.hid (by omega)
      have HNX2HXP : RowKit.Hid (¬ bP = bX2) := Lib.hid (by omega)
      have HNX2HXQ : RowKit.Hid (¬ bQ = bX2) := Lib.hid (by omega)
      have HNX2HXX1 : RowKit.Hid (¬ bX1 = bX2) := Lib.hid (by omega)
      clear hgB hge hlt_HXP hlt_HXQ hlt_HXX1
      replace HR := Lib.hid (HR.out.below hR); replace HR2 := Lib.hid (HR2.out.below hR); replace HLX1 := Lib.hid (HLX1.out.below hR); replace HXP := Lib.hid (HXP.out.below hR)
      replace HXQ := Lib.hid (HXQ.out.below hR); replace HXX1 := Lib.hid (HXX1.out.below hR); replace HB := Lib.hid (HB.out.trans (hR.mono HB.out.size))
      clear hR
      have HXX2 := Lib.hid hx; have HLX2 := Lib.hid hrx; clear hx hrx
      obtain ⟨t2, ht⟩ : ∃ s, w' = s := ⟨_, rfl⟩
      rw [ht] at HR HR2 HLX1 HXP HXQ HXX1 HXX2 HLX2 HB ⊢
      clear ht
      go_upto_region 5 with fail
      obtain ⟨cHXP_0, cHXP_1, cHXP_2, cHXP_3⟩ := box4 HXP.out
      obtain ⟨cHXQ_0, cHXQ_1, cHXQ_2, cHXQ_3⟩ := box4 HXQ.out
      have zP := HXP.out.lt; have zQ := HXQ.out.lt
      refine wp_region_box [Fact2.is (.agg #[.string nm, .int .i64 X, .int .i64 Y, .slice A n c]), Fact2.pic (fun x => x) nm X Y n l n, Fact2.is (.agg #[.string nm2, .int .i64 X2, .int .i64 Y2, .slice B m d]), Fact2.pic (fun x => x) nm2 X2 Y2 m k m, Fact2.pic (fun x => .tuple #[x, .int .i64 zb]) ⟨#[]⟩ 0 0 0 [] 0, Fact2.pic (fun x => .tuple #[x, .int .i64 zb]) ⟨#[]⟩ 0 0 0 [] 0, Fact2.pic (fun x => x) ⟨#[]⟩ 0 0 0 [] 0, Fact2.is (.int .i64 (zb)), Fact2.box t2.heap.size 50, Fact2.any, Fact2.is (.int .i64 (zb))] 9 8 (PicBox t2.heap.size 50 ⟨#[]⟩ 0 0 0 []) (fun _ _ _ h hb => h.grow hb) [[], [0], [], [2], [1, 3], [4], [5], [5], [], [6, 8], [7]] [(some 44, 0), (some 45, 1), (some 46, 2), (some 47, 3), (some 48, 4), (some 43, 5), (some 49, 6), (some 50, 7), (some 9, 8), (none, 9), (some 10, 10)] (by kernel_rfl) (by kernel_rfl) (by kernel_rfl) (by kernel_rfl) (by decide) (by decide) (fun _ _ _ _ e h => by have h1 : _ ∧ _ := h; exact ⟨e ▸ h1.1, h1.2⟩) ?hstep ?hsto ?hend (by decide)
      case hstep =>
        intro i hi hne
        match i, hi, hne with
        | 0, _, _ =>
          intro v w' hR hd
          change SpecOp _ _ _ _ 0 (canon _ v _ []) w' _
          simp only [canon_nil]
          have q0 := (hR.cell (p := ⟨bP, 0, none⟩) zP).trans cHXP_0
          have q1 := (hR.cell (p := ⟨bP, 1, none⟩) zP).trans cHXP_1
          have q2 := (hR.cell (p := ⟨bP, 2, none⟩) zP).trans cHXP_2
          have q3 := (hR.cell (p := ⟨bP, 3, none⟩) zP).trans cHXP_3
          refine spec_ofR rfl (fun KK hK => ?_)
          go_simp
          exact hK.out _ _ (Below.refl _ _) rfl
        | 1, _, _ =>
          intro v w' hR hd
          have e0 : v 0 = .agg #[.string nm, .int .i64 X, .int .i64 Y, .slice A n c] := hd 0 (by decide)
          change SpecOp _ _ _ _ 1 (Act.put (canon _ v _ []) (some 44) (v 0)) w' _
          rw [e0]
          simp only [canon_nil, Act.put, List.setIfInBounds_toArray, List.set_cons_zero, List.set_cons_succ]
          refine spec_ofR rfl (fun KK hK => ?_)
          go_simp
          refine (HOWN.out _ (HR.out.below hR)).mono ?_
          rintro e wn ⟨g, c', rfl, hcc, hro, hbn⟩
          exact hK.out _ _ hbn ⟨_, c', rfl, hcc, hro⟩
        | 2, _, _ =>
          intro v w' hR hd
          change SpecOp _ _ _ _ 2 (canon _ v _ []) w' _
          simp only [canon_nil]
          have q0 := (hR.cell (p := ⟨bQ, 0, none⟩) zQ).trans cHXQ_0
          have q1 := (hR.cell (p := ⟨bQ, 1, none⟩) zQ).trans cHXQ_1
          have q2 := (hR.cell (p := ⟨bQ, 2, none⟩) zQ).trans cHXQ_2
          have q3 := (hR.cell (p := ⟨bQ, 3, none⟩) zQ).trans cHXQ_3
          refine spec_ofR rfl (fun KK hK => ?_)
          go_simp
          exact hK.out _ _ (Below.refl _ _) rfl
        | 3, _, _ =>
          intro v w' hR hd
          have e2 : v 2 = .agg #[.string nm2, .int .i64 X2, .int .i64 Y2, .slice B m d] := hd 2 (by decide)
          change SpecOp _ _ _ _ 3 (Act.put (canon _ v _ []) (some 46) (v 2)) w' _
          rw [e2]
          simp only [canon_nil, Act.put, List.setIfInBounds_toArray, List.set_cons_zero, List.set_cons_succ]
          refine spec_ofR rfl (fun KK hK => ?_)
          go_simp
          refine (HOWN2.out _ (HR2.out.below hR)).mono ?_
          rintro e wn ⟨g, c', rfl, hcc, hro, hbn⟩
          exact hK.out _ _ hbn ⟨_, c', rfl, hcc, hro⟩
        | 4, _, _ =>
          intro v w' hR hd
          obtain ⟨A1, k1, e1, m1, r1⟩ : ∃ A c, v 1 = (fun x => x) (.agg #[.string nm, .int .i64 X, .int .i64 Y, .slice A n c]) ∧ n ≤ c ∧ Rd w' A (fl l) := hd 1 (by decide)
          obtain ⟨A3, k3, e3, m3, r3⟩ : ∃ A c, v 3 = (fun x => x) (.agg #[.string nm2, .int .i64 X2, .int .i64 Y2, .slice A m c]) ∧ m ≤ c ∧ Rd w' A (fl k) := hd 3 (by decide)
          change SpecOp _ _ _ _ 4 (Act.put (Act.put (canon _ v _ []) (some 47) (v 3)) (some 45) (v 1)) w' _
          rw [e1, e3]
          simp only [canon_nil, Act.put, List.setIfInBounds_toArray, List.set_cons_zero, List.set_cons_succ]
          refine spec_ofR rfl (fun KK hK => ?_)
          go_simp
          refine (HJ3.out A1 A3 k1 k3 _ m1 m3 r1 r3).mono ?_
          rintro e wn ⟨Ax, cx, rfl, hrx, hbn⟩
          exact hK.out _ _ hbn ⟨Ax, cx, rfl, Nat.zero_le _, hrx⟩
        | 5, _, _ =>
          intro v w' hR hd
          obtain ⟨A4, k4, e4, m4, r4⟩ : ∃ A c, v 4 = (fun x => .tuple #[x, .int .i64 zb]) (.agg #[.string ⟨#[]⟩, .int .i64 0, .int .i64 0, .slice A 0 c]) ∧ 0 ≤ c ∧ Rd w' A (fl []) := hd 4 (by decide)
          change SpecOp _ _ _ _ 5 (Act.put (canon _ v _ []) (some 48) (v 4)) w' _
          rw [e4]
          simp only [canon_nil, Act.put, List.setIfInBounds_toArray, List.set_cons_zero, List.set_cons_succ]
          refine spec_ofR rfl (fun KK hK => ?_)
          go_simp
          exact hK.out _ _ (Below.refl _ _) ⟨A4, k4, rfl, m4, r4⟩
        | 6, _, _ =>
          intro v w' hR hd
          obtain ⟨A5, k5, e5, m5, r5⟩ : ∃ A c, v 5 = (fun x => .tuple #[x, .int .i64 zb]) (.agg #[.string ⟨#[]⟩, .int .i64 0, .int .i64 0, .slice A 0 c]) ∧ 0 ≤ c ∧ Rd w' A (fl []) := hd 5 (by decide)
          change SpecOp _ _ _ _ 6 (Act.put (canon _ v _ []) (some 43) (v 5)) w' _
          rw [e5]
          simp only [canon_nil, Act.put, List.setIfInBounds_toArray, List.set_cons_zero, List.set_cons_succ]
          refine spec_ofR rfl (fun KK hK => ?_)
          go_simp
          exact hK.out _ _ (Below.refl _ _) ⟨A5, k5, rfl, m5, r5⟩
        | 7, _, _ =>
          intro v w' hR hd
          obtain ⟨A5, k5, e5, m5, r5⟩ : ∃ A c, v 5 = (fun x => .tuple #[x, .int .i64 zb]) (.agg #[.string ⟨#[]⟩, .int .i64 0, .int .i64 0, .slice A 0 c]) ∧ 0 ≤ c ∧ Rd w' A (fl []) := hd 5 (by decide)
          change SpecOp _ _ _ _ 7 (Act.put (canon _ v _ []) (some 43) (v 5)) w' _
          rw [e5]
          simp only [canon_nil, Act.put, List.setIfInBounds_toArray, List.set_cons_zero, List.set_cons_succ]
          refine spec_ofR rfl (fun KK hK => ?_)
          go_simp
          exact hK.out _ _ (Below.refl _ _) rfl
        | 8, _, _ =>
          intro v w' hR hd
          change SpecOp _ _ _ _ 8 (canon _ v _ []) w' _
          simp only [canon_nil]
          refine spec_ofR rfl (fun KK hK => ?_)
          go_simp
          exact hK.out _ _ ((Below.refl _ _).alloc (Nat.le_refl _) _) ⟨_, _, rfl, hR.size, Blk.new _ _ _, .four rfl rfl rfl rfl, rfl⟩
        | 9, _, h => exact absurd rfl h
        | 10, _, _ =>
          intro v w' hR hd
          have e7 : v 7 = .int .i64 (zb) := hd 7 (by decide)
          change SpecOp _ _ _ _ 10 (Act.put (canon _ v _ []) (some 50) (v 7)) w' _
          rw [e7]
          simp only [canon_nil, Act.put, List.setIfInBounds_toArray, List.set_cons_zero, List.set_cons_succ]
          refine spec_ofR rfl (fun KK hK => ?_)
          go_simp
          exact hK.out _ _ (Below.refl _ _) rfl
        | i + 11, h, _ => exact absurd h (Nat.not_lt.2 (Nat.le_add_left 11 i))
      case hsto =>
        intro v w' hR hd
        obtain ⟨A6, k6, e6, m6, r6⟩ : ∃ A c, v 6 = (fun x => x) (.agg #[.string ⟨#[]⟩, .int .i64 0, .int .i64 0, .slice A 0 c]) ∧ 0 ≤ c ∧ Rd w' A (fl []) := hd 6 (by decide)
        obtain ⟨bb, cs, e8, hge, hblk, hnf, hcz⟩ : ∃ b cs, v 8 = .pointer (some ⟨b, 0, none⟩) ∧ t2.heap.size ≤ b ∧ Blk w' b 50 cs ∧ NF cs ∧ cs.size = 4 := hd 8 (by decide)
        obtain ⟨x0, x1, x2, x3, rfl⟩ := four_of hcz
        change SpecOp _ _ _ _ 9 (Act.put (Act.put (canon _ v _ []) (some 9) (v 8)) (some 49) (v 6)) w' _
        rw [e6, e8]
        simp only [canon_nil, Act.put, List.setIfInBounds_toArray, List.set_cons_zero, List.set_cons_succ]
        have zb := hblk.lt
        have f0 := hblk.frozen 0; have f1 := hblk.frozen 1; have f2 := hblk.frozen 2; have f3 := hblk.frozen 3
        obtain ⟨y0, y1, y2, y3⟩ := box4 hblk
        refine spec_ofR rfl (fun KK hK => ?_)
        go_simp
        exact hK.out undef _ (rst_set4 hblk hnf hge (.string ⟨#[]⟩) (.int .i64 0) (.int .i64 0) (.slice A6 0 k6) rfl rfl rfl rfl) ⟨bb, A6, k6, rfl, hge, blk_set4' hblk (.string ⟨#[]⟩) (.int .i64 0) (.int .i64 0) (.slice A6 0 k6), rd_set4 r6 hblk hnf (.string ⟨#[]⟩) (.int .i64 0) (.int .i64 0) (.slice A6 0 k6) rfl rfl rfl⟩
      case hend =>
        intro v w' hR hall hfs
        simp only [putL, Act.put, List.setIfInBounds_toArray, List.set_cons_zero, List.set_cons_succ]
        obtain ⟨bX3, AX3, kX3, e8, hge, hx, hrx⟩ := hfs
        have e10 : v 10 = .int .i64 (zb) := hall 10 (by decide) (by decide)
        rw [e8, e10]
        clear hall e8 e10 zP zQ
        clear cHXP_0 cHXP_1 cHXP_2 cHXP_3 cHXQ_0 cHXQ_1 cHXQ_2 cHXQ_3
        have hgB := HB.out.size
        have hlt_HXP := HXP.out.lt
        have hlt_HXQ := HXQ.out.lt
        have hlt_HXX1 := HXX1.out.lt
        have hlt_HXX2 := HXX2.out.lt
        have HGX3 : RowKit.Hid (w.heap.size ≤ bX3) := Lib.hid (by omega)
        have HNX3HXP : RowKit.Hid (¬ bP = bX3) := Lib.hid (by omega)
        have HNX3HXQ : RowKit.Hid (¬ bQ = bX3) := Lib.hid (by omega)
        have HNX3HXX1 : RowKit.Hid (¬ bX1 = bX3) := Lib.hid (by omega)
        have HNX3HXX2 : RowKit.Hid (¬ bX2 = bX3) := Lib.hid (by omega)
        clear hgB hge hlt_HXP hlt_HXQ hlt_HXX1 hlt_HXX2
        replace HR := Lib.hid (HR.out.below hR); replace HR2 := Lib.hid (HR2.out.below hR); replace HLX1 := Lib.hid (HLX1.out.below hR); replace HLX2 := Lib.hid (HLX2.out.below hR)
        replace HXP := Lib.hid (HXP.out.below hR); replace HXQ := Lib.hid (HXQ.out.below hR); replace HXX1 := Lib.hid (HXX1.out.below hR); replace HXX2 := Lib.hid (HXX2.out.below hR)
        replace HB := Lib.hid (HB.out.trans (hR.mono HB.out.size))
        clear hR
        have HXX3 := Lib.hid hx; have HLX3 := Lib.hid hrx; clear hx hrx
        obtain ⟨t3, ht⟩ : ∃ s, w' = s := ⟨_, rfl⟩
        rw [ht] at HR HR2 HLX1 HLX2 HXP HXQ HXX1 HXX2 HXX3 HLX3 HB ⊢
        clear ht
        go_upto_region 6 with fail
        obtain ⟨cHXP_0, cHXP_1, cHXP_2, cHXP_3⟩ := box4 HXP.out
        obtain ⟨cHXQ_0, cHXQ_1, cHXQ_2, cHXQ_3⟩ := box4 HXQ.out
        have zP := HXP.out.lt; have zQ := HXQ.out.lt
        refine wp_region_facts [Fact.is (.agg #[.string nm, .int .i64 X, .int .i64 Y, .slice A n c]), Fact.is (.int .i64 (zp)), Fact.is (.agg #[.string nm2, .int .i64 X2, .int .i64 Y2, .slice B m d]), Fact.is (.int .i64 (zq)), Fact.ints 2 [zp, zq], Fact.is (.int .i64 (zb)), Fact.is (.int .i64 (zb))] [[], [0], [], [2], [1, 3], [4], [5]] [(some 51, 0), (some 52, 1), (some 53, 2), (some 54, 3), (some 55, 4), (some 56, 5), (some 11, 6)] (by kernel_rfl) (by kernel_rfl) (by kernel_rfl) (by kernel_rfl) (fun _ _ _ _ e h => by have h1 : _ ∧ _ := h; exact ⟨e ▸ h1.1, h1.2⟩) ?hstep ?hend
        case hstep =>
          intro i hi
          match i, hi with
          | 0, _ =>
            intro v w' hR hd
            change SpecOp _ _ _ _ 0 (canon _ v _ []) w' _
            simp only [canon_nil]
            have q0 := (hR.cell (p := ⟨bP, 0, none⟩) zP).trans cHXP_0
            have q1 := (hR.cell (p := ⟨bP, 1, none⟩) zP).trans cHXP_1
            have q2 := (hR.cell (p := ⟨bP, 2, none⟩) zP).trans cHXP_2
            have q3 := (hR.cell (p := ⟨bP, 3, none⟩) zP).trans cHXP_3
            refine spec_of rfl (fun KK hK => ?_)
            go_simp
            exact hK.out _ _ (Below.refl _ _) rfl
          | 1, _ =>
            intro v w' hR hd
            have e0 : v 0 = .agg #[.string nm, .int .i64 X, .int .i64 Y, .slice A n c] := hd 0 (by decide)
            change SpecOp _ _ _ _ 1 (Act.put (canon _ v _ []) (some 51) (v 0)) w' _
            rw [e0]
            simp only [canon_nil, Act.put, List.setIfInBounds_toArray, List.set_cons_zero, List.set_cons_succ]
            refine spec_of rfl (fun KK hK => ?_)
            go_simp
            refine (HCK.out _ (HR.out.below hR)).mono ?_
            rintro e wn ⟨rfl, hbn⟩
            exact hK.out _ _ hbn rfl
          | 2, _ =>
            intro v w' hR hd
            change SpecOp _ _ _ _ 2 (canon _ v _ []) w' _
            simp only [canon_nil]
            have q0 := (hR.cell (p := ⟨bQ, 0, none⟩) zQ).trans cHXQ_0
            have q1 := (hR.cell (p := ⟨bQ, 1, none⟩) zQ).trans cHXQ_1
            have q2 := (hR.cell (p := ⟨bQ, 2, none⟩) zQ).trans cHXQ_2
            have q3 := (hR.cell (p := ⟨bQ, 3, none⟩) zQ).trans cHXQ_3
            refine spec_of rfl (fun KK hK => ?_)
            go_simp
            exact hK.out _ _ (Below.refl _ _) rfl
          | 3, _ =>
            intro v w' hR hd
            have e2 : v 2 = .agg #[.string nm2, .int .i64 X2, .int .i64 Y2, .slice B m d] := hd 2 (by decide)
            change SpecOp _ _ _ _ 3 (Act.put (canon _ v _ []) (some 53) (v 2)) w' _
            rw [e2]
            simp only [canon_nil, Act.put, List.setIfInBounds_toArray, List.set_cons_zero, List.set_cons_succ]
            refine spec_of rfl (fun KK hK => ?_)
            go_simp
            refine (HCK2.out _ (HR2.out.below hR)).mono ?_
            rintro e wn ⟨rfl, hbn⟩
            exact hK.out _ _ hbn rfl
          | 4, _ =>
            intro v w' hR hd
            have e1 : v 1 = .int .i64 (zp) := hd 1 (by decide)
            have e3 : v 3 = .int .i64 (zq) := hd 3 (by decide)
            change SpecOp _ _ _ _ 4 (Act.put (Act.put (canon _ v _ []) (some 54) (v 3)) (some 52) (v 1)) w' _
            rw [e1, e3]
            simp only [canon_nil, Act.put, List.setIfInBounds_toArray, List.set_cons_zero, List.set_cons_succ]
            refine spec_of rfl (fun KK hK => ?_)
            go_simp
            exact hK.out _ _ ((Below.refl _ _).alloc (Nat.le_refl _) _) ⟨_, _, rfl, rd_of_blk (Blk.new _ _ _) rfl⟩
          | 5, _ =>
            intro v w' hR hd
            obtain ⟨A4, k4, e4, r4⟩ : ∃ A c, v 4 = .slice A 2 c ∧ Rd w' A ([zp, zq].map (.int .i64)) := hd 4 (by decide)
            change SpecOp _ _ _ _ 5 (Act.put (canon _ v _ []) (some 55) (v 4)) w' _
            rw [e4]
            simp only [canon_nil, Act.put, List.setIfInBounds_toArray, List.set_cons_zero, List.set_cons_succ]
            refine spec_of rfl (fun KK hK => ?_)
            go_simp
            refine (firstL_n _ _ _ [_, _] _ rfl (by simp [maxLen]) r4).mono ?_
            rintro e wn ⟨rfl, rfl⟩
            exact hK.out _ _ (Below.refl _ _) (congrArg (Value.int .i64) HZB.out)
          | 6, _ =>
            intro v w' hR hd
            have e5 : v 5 = .int .i64 (zb) := hd 5 (by decide)
            change SpecOp _ _ _ _ 6 (Act.put (canon _ v _ []) (some 56) (v 5)) w' _
            rw [e5]
            simp only [canon_nil, Act.put, List.setIfInBounds_toArray, List.set_cons_zero, List.set_cons_succ]
            refine spec_of rfl (fun KK hK => ?_)
            go_simp
            exact hK.out _ _ (Below.refl _ _) rfl
          | i + 7, h => exact absurd h (Nat.not_lt.2 (Nat.le_add_left 7 i))
        case hend =>
          intro v w' hR hall
          simp only [putL, Act.put, List.setIfInBounds_toArray, List.set_cons_zero, List.set_cons_succ]
          have e0 : v 0 = .agg #[.string nm, .int .i64 X, .int .i64 Y, .slice A n c] := hall 0 (by decide)
          have e1 : v 1 = .int .i64 (zp) := hall 1 (by decide)
          have e2 : v 2 = .agg #[.string nm2, .int .i64 X2, .int .i64 Y2, .slice B m d] := hall 2 (by decide)
          have e3 : v 3 = .int .i64 (zq) := hall 3 (by decide)
          obtain ⟨A4, k4, e4, r4⟩ : ∃ A c, v 4 = .slice A 2 c ∧ Rd w' A ([zp, zq].map (.int .i64)) := hall 4 (by decide)
          have e5 : v 5 = .int .i64 (zb) := hall 5 (by decide)
          have e6 : v 6 = .int .i64 (zb) := hall 6 (by decide)
          rw [e6]
          clear e0 e1 e2 e3 e5 e6 r4 e4 hall zP zQ
          clear cHXP_0 cHXP_1 cHXP_2 cHXP_3 cHXQ_0 cHXQ_1 cHXQ_2 cHXQ_3
          replace HR := Lib.hid (HR.out.below hR); replace HR2 := Lib.hid (HR2.out.below hR); replace HLX1 := Lib.hid (HLX1.out.below hR); replace HLX2 := Lib.hid (HLX2.out.below hR)
          replace HLX3 := Lib.hid (HLX3.out.below hR); replace HXP := Lib.hid (HXP.out.below hR); replace HXQ := Lib.hid (HXQ.out.below hR); replace HXX1 := Lib.hid (HXX1.out.below hR)
          replace HXX2 := Lib.hid (HXX2.out.below hR); replace HXX3 := Lib.hid (HXX3.out.below hR); replace HB := Lib.hid (HB.out.trans (hR.mono HB.out.size))
          clear hR
          obtain ⟨s6, ht⟩ : ∃ s, w' = s := ⟨_, rfl⟩
          rw [ht] at HR HR2 HLX1 HLX2 HLX3 HXP HXQ HXX1 HXX2 HXX3 HB ⊢
          clear ht
          go_upto_region 9 with fail
          have h1 := ((Blk.new s6 43 #[.string ⟨#[]⟩, .int .i64 0, .int .i64 0, .slice none 0 0]).alloc (.cells #[.string ⟨#[]⟩, .int .i64 0, .int .i64 0, .slice none 0 0] 43)).alloc (.cells #[.string ⟨#[]⟩, .int .i64 0, .int .i64 0, .slice none 0 0] 43)
          have h2 := (Blk.new (s6.alloc (.cells #[.string ⟨#[]⟩, .int .i64 0, .int .i64 0, .slice none 0 0] 43)) 43 #[.string ⟨#[]⟩, .int .i64 0, .int .i64 0, .slice none 0 0]).alloc (.cells #[.string ⟨#[]⟩, .int .i64 0, .int .i64 0, .slice none 0 0] 43)
          have h3 := Blk.new ((s6.alloc (.cells #[.string ⟨#[]⟩, .int .i64 0, .int .i64 0, .slice none 0 0] 43)).alloc (.cells #[.string ⟨#[]⟩, .int .i64 0, .int .i64 0, .slice none 0 0] 43)) 43 #[.string ⟨#[]⟩, .int .i64 0, .int .i64 0, .slice none 0 0]
          simp only [World.size_alloc] at h2 h3
          have hb : Below s6.heap.size s6 (((s6.alloc (.cells #[.string ⟨#[]⟩, .int .i64 0, .int .i64 0, .slice none 0 0] 43)).alloc (.cells #[.string ⟨#[]⟩, .int .i64 0, .int .i64 0, .slice none 0 0] 43)).alloc (.cells #[.string ⟨#[]⟩, .int .i64 0, .int .i64 0, .slice none 0 0] 43)) := (((Below.refl _ _).alloc (Nat.le_refl _) _).alloc (by simp) _).alloc (by simp only [World.size_alloc]; omega) _
          generalize ((s6.alloc (.cells #[.string ⟨#[]⟩, .int .i64 0, .int .i64 0, .slice none 0 0] 43)).alloc (.cells #[.string ⟨#[]⟩, .int .i64 0, .int .i64 0, .slice none 0 0] 43)).alloc (.cells #[.string ⟨#[]⟩, .int .i64 0, .int .i64 0, .slice none 0 0] 43) = s7 at h1 h2 h3 hb ⊢
          have hgB := HB.out.size
          have hlt_HXP := HXP.out.lt
          have hlt_HXQ := HXQ.out.lt
          have hlt_HXX1 := HXX1.out.lt
          have hlt_HXX2 := HXX2.out.lt
          have hlt_HXX3 := HXX3.out.lt
          replace HR := Lib.hid (HR.out.below hb); replace HR2 := Lib.hid (HR2.out.below hb); replace HLX1 := Lib.hid (HLX1.out.below hb); replace HLX2 := Lib.hid (HLX2.out.below hb)
          replace HLX3 := Lib.hid (HLX3.out.below hb); replace HXP := Lib.hid (HXP.out.below hb); replace HXQ := Lib.hid (HXQ.out.below hb); replace HXX1 := Lib.hid (HXX1.out.below hb)
          replace HXX2 := Lib.hid (HXX2.out.below hb); replace HXX3 := Lib.hid (HXX3.out.below hb); replace HB := Lib.hid (HB.out.trans (hb.mono HB.out.size))
          clear hb
          obtain ⟨bZ1, hz1⟩ : ∃ b, s6.heap.size = b := ⟨_, rfl⟩
          rw [hz1] at h1 h2 h3 hgB ⊢ hlt_HXP hlt_HXQ hlt_HXX1 hlt_HXX2 hlt_HXX3
          obtain ⟨bZ2, hz2⟩ : ∃ b, bZ1 + 1 = b := ⟨_, rfl⟩
          rw [hz2] at h2 h3 ⊢
          obtain ⟨bZ3, hz3⟩ : ∃ b, bZ2 + 1 = b := ⟨_, rfl⟩
          rw [hz3] at h3 ⊢
          have HGZ1 : RowKit.Hid (w.heap.size ≤ bZ1) := Lib.hid (by omega)
          have HNZ1HXP : RowKit.Hid (¬ bP = bZ1) := Lib.hid (by omega)
          have HNZ1HXQ : RowKit.Hid (¬ bQ = bZ1) := Lib.hid (by omega)
          have HNZ1HXX1 : RowKit.Hid (¬ bX1 = bZ1) := Lib.hid (by omega)
          have HNZ1HXX2 : RowKit.Hid (¬ bX2 = bZ1) := Lib.hid (by omega)
          have HNZ1HXX3 : RowKit.Hid (¬ bX3 = bZ1) := Lib.hid (by omega)
          have HGZ2 : RowKit.Hid (w.heap.size ≤ bZ2) := Lib.hid (by omega)
          have HNZ2HXP : RowKit.Hid (¬ bP = bZ2) := Lib.hid (by omega)
          have HNZ2HXQ : RowKit.Hid (¬ bQ = bZ2) := Lib.hid (by omega)
          have HNZ2HXX1 : RowKit.Hid (¬ bX1 = bZ2) := Lib.hid (by omega)
          have HNZ2HXX2 : RowKit.Hid (¬ bX2 = bZ2) := Lib.hid (by omega)
          have HNZ2HXX3 : RowKit.Hid (¬ bX3 = bZ2) := Lib.hid (by omega)
          have HGZ3 : RowKit.Hid (w.heap.size ≤ bZ3) := Lib.hid (by omega)
          have HNZ3HXP : RowKit.Hid (¬ bP = bZ3) := Lib.hid (by omega)
          have HNZ3HXQ : RowKit.Hid (¬ bQ = bZ3) := Lib.hid (by omega)
          have HNZ3HXX1 : RowKit.Hid (¬ bX1 = bZ3) := Lib.hid (by omega)
          have HNZ3HXX2 : RowKit.Hid (¬ bX2 = bZ3) := Lib.hid (by omega)
          have HNZ3HXX3 : RowKit.Hid (¬ bX3 = bZ3) := Lib.hid (by omega)
          have HNZ2HXZ1 : RowKit.Hid (¬ bZ1 = bZ2) := Lib.hid (by omega); have HNZ3HXZ1 : RowKit.Hid (¬ bZ1 = bZ3) := Lib.hid (by omega); have HNZ3HXZ2 : RowKit.Hid (¬ bZ2 = bZ3) := Lib.hid (by omega)
          clear hz1 hz2 hz3 hgB hlt_HXP hlt_HXQ hlt_HXX1 hlt_HXX2 hlt_HXX3
          have HXZ1 := Lib.hid h1; clear h1
          have HXZ2 := Lib.hid h2; clear h2
          have HXZ3 := Lib.hid h3; clear h3
          obtain ⟨cHXX1_0, cHXX1_1, cHXX1_2, cHXX1_3⟩ := box4 HXX1.out
          obtain ⟨cHXZ1_0, cHXZ1_1, cHXZ1_2, cHXZ1_3⟩ := box4 HXZ1.out
          go_wp2_with fail
          refine (HO.out _ _ _ _ _).mono ?_
          rintro e o1 ⟨rfl, hb⟩
          replace HR := Lib.hid (HR.out.below hb); replace HR2 := Lib.hid (HR2.out.below hb); replace HLX1 := Lib.hid (HLX1.out.below hb); replace HLX2 := Lib.hid (HLX2.out.below hb)
          replace HLX3 := Lib.hid (HLX3.out.below hb); replace HXP := Lib.hid (HXP.out.below hb); replace HXQ := Lib.hid (HXQ.out.below hb); replace HXX1 := Lib.hid (HXX1.out.below hb)
          replace HXX2 := Lib.hid (HXX2.out.below hb); replace HXX3 := Lib.hid (HXX3.out.below hb); replace HXZ1 := Lib.hid (HXZ1.out.below hb); replace HXZ2 := Lib.hid (HXZ2.out.below hb)
          replace HXZ3 := Lib.hid (HXZ3.out.below hb); replace HB := Lib.hid (HB.out.trans (hb.mono HB.out.size))
          clear hb
          clear cHXX1_0 cHXX1_1 cHXX1_2 cHXX1_3 cHXZ1_0 cHXZ1_1 cHXZ1_2 cHXZ1_3
          obtain ⟨cHXX2_0, cHXX2_1, cHXX2_2, cHXX2_3⟩ := box4 HXX2.out
          obtain ⟨cHXZ2_0, cHXZ2_1, cHXZ2_2, cHXZ2_3⟩ := box4 HXZ2.out
          go_wp2_with fail
          refine (HO.out _ _ _ _ _).mono ?_
          rintro e o2 ⟨rfl, hb⟩
          replace HR := Lib.hid (HR.out.below hb); replace HR2 := Lib.hid (HR2.out.below hb); replace HLX1 := Lib.hid (HLX1.out.below hb); replace HLX2 := Lib.hid (HLX2.out.below hb)
          replace HLX3 := Lib.hid (HLX3.out.below hb); replace HXP := Lib.hid (HXP.out.below hb); replace HXQ := Lib.hid (HXQ.out.below hb); replace HXX1 := Lib.hid (HXX1.out.below hb)
          replace HXX2 := Lib.hid (HXX2.out.below hb); replace HXX3 := Lib.hid (HXX3.out.below hb); replace HXZ1 := Lib.hid (HXZ1.out.below hb); replace HXZ2 := Lib.hid (HXZ2.out.below hb)
          replace HXZ3 := Lib.hid (HXZ3.out.below hb); replace HB := Lib.hid (HB.out.trans (hb.mono HB.out.size))
          clear hb
          clear cHXX2_0 cHXX2_1 cHXX2_2 cHXX2_3 cHXZ2_0 cHXZ2_1 cHXZ2_2 cHXZ2_3
          obtain ⟨cHXX3_0, cHXX3_1, cHXX3_2, cHXX3_3⟩ := box4 HXX3.out
          obtain ⟨cHXZ3_0, cHXZ3_1, cHXZ3_2, cHXZ3_3⟩ := box4 HXZ3.out
          go_wp2_with fail
          refine (HO.out _ _ _ _ _).mono ?_
          rintro e o3 ⟨rfl, hb⟩
          replace HR := Lib.hid (HR.out.below hb); replace HR2 := Lib.hid (HR2.out.below hb); replace HLX1 := Lib.hid (HLX1.out.below hb); replace HLX2 := Lib.hid (HLX2.out.below hb)
          replace HLX3 := Lib.hid (HLX3.out.below hb); replace HXP := Lib.hid (HXP.out.below hb); replace HXQ := Lib.hid (HXQ.out.below hb); replace HXX1 := Lib.hid (HXX1.out.below hb)
          replace HXX2 := Lib.hid (HXX2.out.below hb); replace HXX3 := Lib.hid (HXX3.out.below hb); replace HXZ1 := Lib.hid (HXZ1.out.below hb); replace HXZ2 := Lib.hid (HXZ2.out.below hb)
          replace HXZ3 := Lib.hid (HXZ3.out.below hb); replace HB := Lib.hid (HB.out.trans (hb.mono HB.out.size))
          clear hb
          clear cHXX3_0 cHXX3_1 cHXX3_2 cHXX3_3 cHXZ3_0 cHXZ3_1 cHXZ3_2 cHXZ3_3
          go_wp2_with fail
          refine (awake_laid _ (HL.out.below HB.out)).mono ?_
          rintro e uz ⟨rfl, hb⟩
          replace HR := Lib.hid (HR.out.below hb); replace HR2 := Lib.hid (HR2.out.below hb); replace HLX1 := Lib.hid (HLX1.out.below hb); replace HLX2 := Lib.hid (HLX2.out.below hb)
          replace HLX3 := Lib.hid (HLX3.out.below hb); replace HXP := Lib.hid (HXP.out.below hb); replace HXQ := Lib.hid (HXQ.out.below hb); replace HXX1 := Lib.hid (HXX1.out.below hb)
          replace HXX2 := Lib.hid (HXX2.out.below hb); replace HXX3 := Lib.hid (HXX3.out.below hb); replace HXZ1 := Lib.hid (HXZ1.out.below hb); replace HXZ2 := Lib.hid (HXZ2.out.below hb)
          replace HXZ3 := Lib.hid (HXZ3.out.below hb); replace HB := Lib.hid (HB.out.trans (hb.mono HB.out.size))
          clear hb
          go_wp2
          go_ret
          exact trueEnd_mk rfl HB.out
end Go.Proofs.YtfgeokeankfplaaGreatDoor
