/- Two woven fields. -/
import Derived.Test.YtkjkjhheckfhbaaGreatDoorPL
namespace Go.Proofs.YtkjkjhheckfhbaaGreatDoor
open Go.RowKit
set_option linter.unusedVariables false
set_option linter.unusedSimpArgs false
attribute [local go_sem] run_store_float
def wovenF (l k : List Nat) (W : Nat) (i : Nat) : Value := if i / W % 2 = 0 then .float .f32 (l.getD (i / W / 2 * W + i % W) 0) else .float .f32 (k.getD (i / W / 2 * W + i % W) 0)
theorem wovenF_at0 (l k : List Nat) (W z j : Nat) (hj : j < W) : wovenF l k W (2 * z * W + j) = .float .f32 (l.getD (z * W + j) 0) := by
  unfold wovenF
  have h1 : (2 * z * W + j) / W = 2 * z := by rw [Nat.mul_comm, Nat.mul_add_div (by omega), Nat.div_eq_of_lt hj, Nat.add_zero]
  have h2 : (2 * z * W + j) % W = j := by rw [Nat.mul_comm, Nat.mul_add_mod, Nat.mod_eq_of_lt hj]
  rw [h1, h2, if_pos (by omega), show 2 * z / 2 = z by omega]
theorem wovenF_at1 (l k : List Nat) (W z j : Nat) (hj : j < W) : wovenF l k W ((2 * z + 1) * W + j) = .float .f32 (k.getD (z * W + j) 0) := by
  unfold wovenF
  have h1 : ((2 * z + 1) * W + j) / W = 2 * z + 1 := by rw [Nat.mul_comm, Nat.mul_add_div (by omega), Nat.div_eq_of_lt hj, Nat.add_zero]
  have h2 : ((2 * z + 1) * W + j) % W = j := by rw [Nat.mul_comm, Nat.mul_add_mod, Nat.mod_eq_of_lt hj]
  rw [h1, h2, if_neg (by omega), show (2 * z + 1) / 2 = z by omega]
theorem blk_far4 {w : World} {g k : Nat} {t : TypeId} {cs : Array Value} (h : Blk w k t cs) (hk : k ≠ g) (a b c d : Value) : Blk ((((w.setCell ⟨g, 0, none⟩ a).setCell ⟨g, 1, none⟩ b).setCell ⟨g, 2, none⟩ c).setCell ⟨g, 3, none⟩ d) k t cs :=
  (((h.far (p := ⟨g, 0, none⟩) hk a).far (p := ⟨g, 1, none⟩) hk b).far (p := ⟨g, 2, none⟩) hk c).far (p := ⟨g, 3, none⟩) hk d
set_option maxRecDepth 100000 in
set_option maxHeartbeats 8000000 in
theorem woven_ok (nm nm2 : ByteArray) (W H1 H2 M : Nat) (hM : H1 + H2 = M) (l k : List Nat) (hp : (Pic.mk nm W H1 l).Ok) (he : (Pic.mk nm W H1 l).err = 0) (hp2 : (Pic.mk nm2 W H2 k).Ok) (he2 : (Pic.mk nm2 W H2 k).err = 0) (hor : H1 = H2 ∨ H1 = H2 + 1) (hM64 : M ≤ 64) (A A2 : Option Addr) (c c2 : Nat) (w : World) (hs : nm.size ≤ maxLen) (hs2 : nm2.size ≤ maxLen) (hcap : l.length ≤ c) (hcap2 : k.length ≤ c2) (hr : Rd w A (fl l)) (hr2 : Rd w A2 (fl k)) :
    Calls Tryz.prog 42 #[.agg #[.string nm, .int .i64 (W : Int), .int .i64 (H1 : Int), .slice A l.length c], .agg #[.string nm2, .int .i64 (W : Int), .int .i64 (H2 : Int), .slice A2 k.length c2]] w fun e w' => ∃ g, e = .returned (.tuple #[.agg #[.string nm, .int .i64 (W : Int), .int .i64 (M : Int), .slice (some ⟨g, 0, none⟩) (W * M) (W * M)], .int .i64 0]) ∧ Blk w' g 23 (maskN (wovenF l k W) (.float .f32 0) (W * M) (fun _ => true)) ∧ Below w.heap.size w w' := by
  have hW : 1 ≤ W ∧ W ≤ 64 := by have h1 := hp.w1; have h2 := hp.w2; simp at h1 h2; omega
  have hH1 : 1 ≤ H1 ∧ H1 ≤ 64 := by have h1 := hp.h1; have h2 := hp.h2; simp at h1 h2; omega
  have hH2 : 1 ≤ H2 ∧ H2 ≤ 64 := by have h1 := hp2.h1; have h2 := hp2.h2; simp at h1 h2; omega
  have hlen : l.length = W * H1 := by have h1 := hp.len; simp only [] at h1; exact_mod_cast h1
  have hlen2 : k.length = W * H2 := by have h1 := hp2.len; simp only [] at h1; exact_mod_cast h1
  have hbig : l.length ≤ 4096 := hp.big
  have hbig2 : k.length ≤ 4096 := hp2.big
  have hpos : 0 < (fl l).length := by have := prod_pos hW.1 hH1.1; simp [fl]; omega
  have hpos2 : 0 < (fl k).length := by have := prod_pos hW.1 hH2.1; simp [fl]; omega
  obtain ⟨ad, rfl, hadb, hadc⟩ := hr.some_ hpos
  obtain ⟨ad2, rfl, hadb2, hadc2⟩ := hr2.some_ hpos2
  have HAD := Lib.hid hadc; have HAD2 := Lib.hid hadc2
  have HLEN := Lib.hid hlen; have HLEN2 := Lib.hid hlen2
  have HR := Lib.hid hr; have HRb := Lib.hid hr2
  have hl : l.length ≤ maxLen := Nat.le_trans hbig (by decide)
  have hl2 : k.length ≤ maxLen := Nat.le_trans hbig2 (by decide)
  have hcp := fun w hr => checkPicture_any (Pic.mk nm W H1 l) (some ad) c w hs hl hr
  have hcp2 := fun w hr => checkPicture_any (Pic.mk nm2 W H2 k) (some ad2) c2 w hs2 hl2 hr
  rw [he] at hcp
  rw [he2] at hcp2
  simp only [Pic.val] at hcp hcp2
  have HCP := Lib.hid hcp; have HCP2 := Lib.hid hcp2
  have hsum : IntKind.i64.wrap ((H1 : Int) + (H2 : Int)) = (M : Int) := by rw [show (H1 : Int) + (H2 : Int) = (M : Int) by omega]; exact IntWalk.i64_in _ (by omega)
  have hsum' : (H1 : Int) + (H2 : Int) = (M : Int) := by omega
  have hgt : decide ((64 : Int) < (M : Int)) = false := by simp; omega
  have hgt2 : ((M : Int) > 64) = False := by simp; omega
  have hsu1 : IntKind.i64.wrap ((H2 : Int) + 1) = (H2 : Int) + 1 := IntWalk.i64_in _ (by omega)
  have hN : W * M ≤ 4096 := Nat.le_trans (Nat.mul_le_mul hW.2 hM64) (by decide)
  have HM := Lib.hid hM
  have HWM := Lib.hid (show IntKind.i64.wrap (M : Int) = (M : Int) from IntWalk.i64_in _ (by omega))
  clear hr hr2 hp he hp2 he2 hcp hcp2 hl hl2 hs hs2 hadc hadc2 hlen hlen2 hpos hpos2 hM
  go_enter Tryz.func42, Tryz.ntmps42
  go_wp2_with fail
  have hbx := (Blk.new w 50 #[.string nm, .int .i64 (W : Int), .int .i64 (H1 : Int), .slice (some ad) l.length c]).alloc (.cells #[.string nm2, .int .i64 (W : Int), .int .i64 (H2 : Int), .slice (some ad2) k.length c2] 50)
  have hby := Blk.new (w.alloc (.cells #[.string nm, .int .i64 (W : Int), .int .i64 (H1 : Int), .slice (some ad) l.length c] 50)) 50 #[.string nm2, .int .i64 (W : Int), .int .i64 (H2 : Int), .slice (some ad2) k.length c2]
  simp only [World.size_alloc] at hby
  have hb0 : Below w.heap.size w ((w.alloc (.cells #[.string nm, .int .i64 (W : Int), .int .i64 (H1 : Int), .slice (some ad) l.length c] 50)).alloc (.cells #[.string nm2, .int .i64 (W : Int), .int .i64 (H2 : Int), .slice (some ad2) k.length c2] 50)) := ((Below.refl _ _).alloc (Nat.le_refl _) _).alloc (by simp) _
  have hsz : ((w.alloc (.cells #[.string nm, .int .i64 (W : Int), .int .i64 (H1 : Int), .slice (some ad) l.length c] 50)).alloc (.cells #[.string nm2, .int .i64 (W : Int), .int .i64 (H2 : Int), .slice (some ad2) k.length c2] 50)).heap.size = w.heap.size + 1 + 1 := by simp only [World.size_alloc]
  generalize ((w.alloc (.cells #[.string nm, .int .i64 (W : Int), .int .i64 (H1 : Int), .slice (some ad) l.length c] 50)).alloc (.cells #[.string nm2, .int .i64 (W : Int), .int .i64 (H2 : Int), .slice (some ad2) k.length c2] 50)) = w0 at hbx hby hb0 hsz ⊢
  have HSZ := Lib.hid hsz; clear hsz
  have z0 := hbx.lt; have z1 := hby.lt
  obtain ⟨c0, c1, c2_, c3⟩ := box4 hbx
  obtain ⟨d0, d1, d2, d3⟩ := box4 hby
  have HB0 := Lib.hid hb0; have HX0 := Lib.hid hbx; have HY0 := Lib.hid hby; clear hb0 hbx hby
  have hg := Blk.new w0 50 #[.string ⟨#[]⟩, .int .i64 0, .int .i64 0, .slice none 0 0]
  rw [HSZ.out] at hg
  have hs1 := sk_alloc (sk_refl w0) (.cells #[.string ⟨#[]⟩, .int .i64 0, .int .i64 0, .slice none 0 0] 50)
  generalize w0.alloc (.cells #[.string ⟨#[]⟩, .int .i64 0, .int .i64 0, .slice none 0 0] 50) = w1 at hg hs1 ⊢
  have hch := hs1
  go_cut [6] (fun s wx => s = .int .i64 0 ∧ SK w0 wx ∧ Blk wx (w.heap.size + 1 + 1) 50 #[.string ⟨#[]⟩, .int .i64 0, .int .i64 0, .slice none 0 0])
  case first =>
    rcases hor with hor | hor
    · have g1 : ((H1 : Int) != (H2 : Int)) = false := by simp; omega
      have g2 : (H1 != H2) = false := by simp; omega
      have g3 : (H1 == H2) = true := by simp; omega
      have g4 : ((H1 : Int) == (H2 : Int)) = true := by simp; omega
      have HOR := Lib.hid hor; clear hor
      refine wp_region_noPanic ?_
      refine wp_region_held_drew (S := SK w0) (by kernel_rfl) (sk_drew hch) (fun hH => ?_)
      refine wpAnyH_take (i := 0) (oi := _) (v := ?v0) rfl (by kernel_rfl) (by kernel_rfl) (by kernel_rfl) (fun _ _ _ h => h) (Or.inl ⟨by kernel_rfl, ?hy0⟩) hH ?rest0
      case hy0 => (intro wz hSw; go_simp) <;> with_reducible rfl
      try simp only [Act.put, List.setIfInBounds_toArray, List.set_cons_zero, List.set_cons_succ]
      refine wpAnyH_take (i := 2) (oi := _) (v := ?v2) rfl (by kernel_rfl) (by kernel_rfl) (by kernel_rfl) (fun _ _ _ h => h) (Or.inl ⟨by kernel_rfl, ?hy2⟩) hH ?rest2
      case hy2 => (intro wz hSw; go_simp) <;> with_reducible rfl
      try simp only [Act.put, List.setIfInBounds_toArray, List.set_cons_zero, List.set_cons_succ]
      refine wpAnyH_take (i := 4) (oi := _) (v := ?v4) rfl (by kernel_rfl) (by kernel_rfl) (by kernel_rfl) (fun _ _ _ h => h) (Or.inl ⟨by kernel_rfl, ?hy4⟩) hH ?rest4
      case hy4 => (intro wz hSw; go_simp) <;> with_reducible rfl
      try simp only [Act.put, List.setIfInBounds_toArray, List.set_cons_zero, List.set_cons_succ]
      refine wpAnyH_take (i := 5) (oi := _) (v := ?v5) rfl (by kernel_rfl) (by kernel_rfl) (by kernel_rfl) (fun _ _ _ h => h) (Or.inl ⟨by kernel_rfl, ?hy5⟩) hH ?rest5
      case hy5 => (intro wz hSw; go_simp) <;> with_reducible rfl
      try simp only [Act.put, List.setIfInBounds_toArray, List.set_cons_zero, List.set_cons_succ]
      refine wpAnyH_take (i := 6) (oi := _) (v := ?v6) rfl (by kernel_rfl) (by kernel_rfl) (by kernel_rfl) (fun _ _ _ h => h) (Or.inl ⟨by kernel_rfl, ?hy6⟩) hH ?rest6
      case hy6 => (intro wz hSw; go_simp) <;> with_reducible rfl
      try simp only [Act.put, List.setIfInBounds_toArray, List.set_cons_zero, List.set_cons_succ]
      refine wpAnyH_take (i := 7) (oi := _) (v := ?v7) rfl (by kernel_rfl) (by kernel_rfl) (by kernel_rfl) (fun _ _ _ h => h) (Or.inl ⟨by kernel_rfl, ?hy7⟩) hH ?rest7
      case hy7 => (intro wz hSw; go_simp) <;> with_reducible rfl
      try simp only [Act.put, List.setIfInBounds_toArray, List.set_cons_zero, List.set_cons_succ]
      refine wpAnyH_take (i := 8) (oi := _) (v := ?v8) rfl (by kernel_rfl) (by kernel_rfl) (by kernel_rfl) (fun _ _ _ h => h) (Or.inl ⟨by kernel_rfl, ?hy8⟩) hH ?rest8
      case hy8 => (intro wz hSw; go_simp) <;> with_reducible rfl
      try simp only [Act.put, List.setIfInBounds_toArray, List.set_cons_zero, List.set_cons_succ]
      refine wpAnyH_take (i := 10) (oi := _) (v := ?v10) rfl (by kernel_rfl) (by kernel_rfl) (by kernel_rfl) (fun _ _ _ h => h) (Or.inl ⟨by kernel_rfl, ?hy10⟩) hH ?rest10
      case hy10 => (intro wz hSw; go_simp) <;> with_reducible rfl
      try simp only [Act.put, List.setIfInBounds_toArray, List.set_cons_zero, List.set_cons_succ]
      refine wpAnyH_take (i := 11) (oi := _) (v := ?v11) rfl (by kernel_rfl) (by kernel_rfl) (by kernel_rfl) (fun _ _ _ h => h) (Or.inl ⟨by kernel_rfl, ?hy11⟩) hH ?rest11
      case hy11 => (intro wz hSw; go_simp) <;> with_reducible rfl
      try simp only [Act.put, List.setIfInBounds_toArray, List.set_cons_zero, List.set_cons_succ]
      refine wpAnyH_take (i := 12) (oi := _) (v := ?v12) rfl (by kernel_rfl) (by kernel_rfl) (by kernel_rfl) (fun _ _ _ h => h) (Or.inl ⟨by kernel_rfl, ?hy12⟩) hH ?rest12
      case hy12 => (intro wz hSw; go_simp) <;> with_reducible rfl
      try simp only [Act.put, List.setIfInBounds_toArray, List.set_cons_zero, List.set_cons_succ]
      refine wpAnyH_take (i := 13) (oi := _) (v := ?v13) rfl (by kernel_rfl) (by kernel_rfl) (by kernel_rfl) (fun _ _ _ h => h) (Or.inl ⟨by kernel_rfl, ?hy13⟩) hH ?rest13
      case hy13 => (intro wz hSw; go_simp) <;> with_reducible rfl
      try simp only [Act.put, List.setIfInBounds_toArray, List.set_cons_zero, List.set_cons_succ]
      refine wpAnyH_take (i := 14) (oi := _) (v := ?v14) rfl (by kernel_rfl) (by kernel_rfl) (by kernel_rfl) (fun _ _ _ h => h) (Or.inl ⟨by kernel_rfl, ?hy14⟩) hH ?rest14
      case hy14 => (intro wz hSw; go_simp) <;> with_reducible rfl
      try simp only [Act.put, List.setIfInBounds_toArray, List.set_cons_zero, List.set_cons_succ]
      refine wpAnyH_take (i := 24) (oi := _) (v := ?v24) rfl (by kernel_rfl) (by kernel_rfl) (by kernel_rfl) (fun _ _ _ h => h) (Or.inl ⟨by kernel_rfl, ?hy24⟩) hH ?rest24
      case hy24 => (intro wz hSw; go_simp) <;> with_reducible rfl
      try simp only [Act.put, List.setIfInBounds_toArray, List.set_cons_zero, List.set_cons_succ]
      refine wpAnyH_take (i := 25) (oi := _) (v := ?v25) rfl (by kernel_rfl) (by kernel_rfl) (by kernel_rfl) (fun _ _ _ h => h) (Or.inl ⟨by kernel_rfl, ?hy25⟩) hH ?rest25
      case hy25 => (intro wz hSw; go_simp) <;> with_reducible rfl
      try simp only [Act.put, List.setIfInBounds_toArray, List.set_cons_zero, List.set_cons_succ]
      refine wpAnyH_take (i := 26) (oi := _) (v := ?v26) rfl (by kernel_rfl) (by kernel_rfl) (by kernel_rfl) (fun _ _ _ h => h) (Or.inl ⟨by kernel_rfl, ?hy26⟩) hH ?rest26
      case hy26 => (intro wz hSw; go_simp) <;> with_reducible rfl
      try simp only [Act.put, List.setIfInBounds_toArray, List.set_cons_zero, List.set_cons_succ]
      refine wpAnyH_take (i := 27) (oi := _) (v := ?v27) rfl (by kernel_rfl) (by kernel_rfl) (by kernel_rfl) (fun _ _ _ h => h) (Or.inl ⟨by kernel_rfl, ?hy27⟩) hH ?rest27
      case hy27 => (intro wz hSw; go_simp) <;> with_reducible rfl
      try simp only [Act.put, List.setIfInBounds_toArray, List.set_cons_zero, List.set_cons_succ]
      refine wpAnyH_take (i := 28) (oi := _) (v := ?v28) rfl (by kernel_rfl) (by kernel_rfl) (by kernel_rfl) (fun _ _ _ h => h) (Or.inl ⟨by kernel_rfl, ?hy28⟩) hH ?rest28
      case hy28 => (intro wz hSw; go_simp) <;> with_reducible rfl
      try simp only [Act.put, List.setIfInBounds_toArray, List.set_cons_zero, List.set_cons_succ]
      refine wpAnyH_take (i := 29) (oi := _) (v := ?v29) rfl (by kernel_rfl) (by kernel_rfl) (by kernel_rfl) (fun _ _ _ h => h) (Or.inl ⟨by kernel_rfl, ?hy29⟩) hH ?rest29
      case hy29 => (intro wz hSw; go_simp) <;> with_reducible rfl
      try simp only [Act.put, List.setIfInBounds_toArray, List.set_cons_zero, List.set_cons_succ]
      refine wpAnyH_ready (rs := [1]) (by kernel_rfl) (by simp) ?_
      refine AllReadyH.cons (o := _) rfl (fun K hK => ?_) AllReadyH.nil
      go_simp
      refine (HCP.out _ (HR.out.below (HB0.out.trans (hH.1.mono HB0.out.size)))).mono ?_; rintro e wn ⟨rfl, hbn⟩; have hch := sk_call hH hbn; have hg := Blk.below (g := w.heap.size + 1 + 1) (by assumption) hbn
      refine hK.out _ _ (hch) (fun hH => ?_)
      clear hK K
      try simp only [Act.put, List.setIfInBounds_toArray, List.set_cons_zero, List.set_cons_succ]
      refine wpAnyH_ready (rs := [3]) (by kernel_rfl) (by simp) ?_
      refine AllReadyH.cons (o := _) rfl (fun K hK => ?_) AllReadyH.nil
      go_simp
      refine (HCP2.out _ (HRb.out.below (HB0.out.trans (hH.1.mono HB0.out.size)))).mono ?_; rintro e wn ⟨rfl, hbn⟩; have hch := sk_call hH hbn; have hg := Blk.below (g := w.heap.size + 1 + 1) (by assumption) hbn
      refine hK.out _ _ (hch) (fun hH => ?_)
      clear hK K
      try simp only [Act.put, List.setIfInBounds_toArray, List.set_cons_zero, List.set_cons_succ]
      refine wpAnyH_ready (rs := [9]) (by kernel_rfl) (by simp) ?_
      refine AllReadyH.cons (o := _) rfl (fun K hK => ?_) AllReadyH.nil
      go_simp
      refine (errorIf_any _ _ _).mono ?_; rintro e wn ⟨rfl, rfl⟩
      refine hK.out _ _ (hH) (fun hH => ?_)
      clear hK K
      try simp only [Act.put, List.setIfInBounds_toArray, List.set_cons_zero, List.set_cons_succ]
      refine wpAnyH_take (i := 15) (oi := _) (v := ?v15) rfl (by kernel_rfl) (by kernel_rfl) (by kernel_rfl) (fun _ _ _ h => h) (Or.inl ⟨by kernel_rfl, ?hy15⟩) hH ?rest15
      case hy15 => (intro wz hSw; go_simp) <;> with_reducible rfl
      try simp only [Act.put, List.setIfInBounds_toArray, List.set_cons_zero, List.set_cons_succ]
      refine wpAnyH_take (i := 16) (oi := _) (v := undef) rfl (by kernel_rfl) (by kernel_rfl) (by kernel_rfl) (fun _ _ _ h => h) (Or.inr ⟨by kernel_rfl, by rfl⟩) hH ?_
      try simp only [Act.put, List.setIfInBounds_toArray, List.set_cons_zero, List.set_cons_succ]
      refine wpAnyH_take (i := 17) (oi := _) (v := undef) rfl (by kernel_rfl) (by kernel_rfl) (by kernel_rfl) (fun _ _ _ h => h) (Or.inr ⟨by kernel_rfl, by rfl⟩) hH ?_
      try simp only [Act.put, List.setIfInBounds_toArray, List.set_cons_zero, List.set_cons_succ]
      refine wpAnyH_take (i := 18) (oi := _) (v := undef) rfl (by kernel_rfl) (by kernel_rfl) (by kernel_rfl) (fun _ _ _ h => h) (Or.inr ⟨by kernel_rfl, by rfl⟩) hH ?_
      try simp only [Act.put, List.setIfInBounds_toArray, List.set_cons_zero, List.set_cons_succ]
      refine wpAnyH_take (i := 19) (oi := _) (v := undef) rfl (by kernel_rfl) (by kernel_rfl) (by kernel_rfl) (fun _ _ _ h => h) (Or.inr ⟨by kernel_rfl, by rfl⟩) hH ?_
      try simp only [Act.put, List.setIfInBounds_toArray, List.set_cons_zero, List.set_cons_succ]
      refine wpAnyH_take (i := 20) (oi := _) (v := undef) rfl (by kernel_rfl) (by kernel_rfl) (by kernel_rfl) (fun _ _ _ h => h) (Or.inr ⟨by kernel_rfl, by rfl⟩) hH ?_
      try simp only [Act.put, List.setIfInBounds_toArray, List.set_cons_zero, List.set_cons_succ]
      refine wpAnyH_take (i := 21) (oi := _) (v := undef) rfl (by kernel_rfl) (by kernel_rfl) (by kernel_rfl) (fun _ _ _ h => h) (Or.inr ⟨by kernel_rfl, by rfl⟩) hH ?_
      try simp only [Act.put, List.setIfInBounds_toArray, List.set_cons_zero, List.set_cons_succ]
      refine wpAnyH_take (i := 22) (oi := _) (v := ?v22) rfl (by kernel_rfl) (by kernel_rfl) (by kernel_rfl) (fun _ _ _ h => h) (Or.inl ⟨by kernel_rfl, ?hy22⟩) hH ?rest22
      case hy22 => (intro wz hSw; go_simp) <;> with_reducible rfl
      try simp only [Act.put, List.setIfInBounds_toArray, List.set_cons_zero, List.set_cons_succ]
      refine wpAnyH_ready (rs := [23]) (by kernel_rfl) (by simp) ?_
      refine AllReadyH.cons (o := _) rfl (fun K hK => ?_) AllReadyH.nil
      go_simp
      refine (errorIf_any _ _ _).mono ?_; rintro e wn ⟨rfl, rfl⟩
      refine hK.out _ _ (hH) (fun hH => ?_)
      clear hK K
      try simp only [Act.put, List.setIfInBounds_toArray, List.set_cons_zero, List.set_cons_succ]
      refine wpAnyH_ready (rs := [30]) (by kernel_rfl) (by simp) ?_
      refine AllReadyH.cons (o := _) rfl (fun K hK => ?_) AllReadyH.nil
      go_simp
      refine (errorIf_any _ _ _).mono ?_; rintro e wn ⟨rfl, rfl⟩
      refine hK.out _ _ (hH) (fun hH => ?_)
      clear hK K
      try simp only [Act.put, List.setIfInBounds_toArray, List.set_cons_zero, List.set_cons_succ]
      refine wpAnyH_ready (rs := [31]) (by kernel_rfl) (by simp) ?_
      refine AllReadyH.cons (o := _) rfl (fun K hK => ?_) AllReadyH.nil
      go_simp
      refine hK.out _ _ (sk_alloc hH _) (fun hH => ?_)
      clear hK K
      try simp only [Act.put, List.setIfInBounds_toArray, List.set_cons_zero, List.set_cons_succ]
      refine wpAnyH_ready (rs := [32]) (by kernel_rfl) (by simp) ?_
      refine AllReadyH.cons (o := _) rfl (fun K hK => ?_) AllReadyH.nil
      go_simp
      refine (first_n _ _ _ [0, 0, errIf _ 2, errIf _ 2, errIf _ 5] _ rfl (by simp [maxLen]) (by exact rd_of_blk (Blk.new _ _ _) rfl)).mono ?_; rintro e wn ⟨rfl, rfl⟩
      refine hK.out _ _ (hH) (fun hH => ?_)
      clear hK K
      try simp only [Act.put, List.setIfInBounds_toArray, List.set_cons_zero, List.set_cons_succ]
      refine wpAnyH_take (i := 33) (oi := _) (v := ?v33) rfl (by kernel_rfl) (by kernel_rfl) (by kernel_rfl) (fun _ _ _ h => h) (Or.inl ⟨by kernel_rfl, ?hy33⟩) hH ?rest33
      case hy33 => (intro wz hSw; go_simp) <;> with_reducible rfl
      try simp only [Act.put, List.setIfInBounds_toArray, List.set_cons_zero, List.set_cons_succ]
      refine wpAnyH_done (by kernel_rfl) ?_ _
      refine NoPanic.normal ?_
      try simp only [Act.put, List.setIfInBounds_toArray, List.set_cons_zero, List.set_cons_succ]
      try go_simp
      go_wp2_with fail
      go_meet
      exact ⟨congrArg (Value.int .i64) (by have := HWM.out; simp [firstE, errIf]; omega), sk_alloc hch _, hg.alloc _⟩
    · have g1 : ((H1 : Int) != (H2 : Int)) = true := by simp; omega
      have g2 : (H1 != H2) = true := by simp; omega
      have g5 : ((H1 : Int) != (H2 : Int) + 1) = false := by simp; omega
      have HOR := Lib.hid hor; clear hor
      go_region_held3 (SK w0)
        (first | with_reducible assumption | with_reducible exact sk_drew (by assumption) | with_reducible exact sk_alloc (by assumption) _ | with_reducible exact sk_drew (sk_alloc (by assumption) _))
        (first
        | (go_at_call 37; (first | (with_reducible refine (HCP.out _ (HR.out.below (HB0.out.trans ((And.left (by assumption : SK w0 _)).mono HB0.out.size)))).mono ?_) | (with_reducible refine (HCP2.out _ (HRb.out.below (HB0.out.trans ((And.left (by assumption : SK w0 _)).mono HB0.out.size)))).mono ?_)); rintro e wn ⟨rfl, hbn⟩; have hch := sk_call (w0 := w0) (by assumption) hbn; have hg := Blk.below (g := w.heap.size + 1 + 1) (by assumption) hbn)
        | (go_at_call 104; refine (errorIf_any _ _ _).mono ?_; rintro e wn ⟨rfl, rfl⟩)
        | (go_at_call 97; refine (first_n _ _ _ [0, 0, errIf _ 2, errIf _ 2, errIf _ 5] _ rfl (by simp [maxLen]) (by exact rd_of_blk (Blk.new _ _ _) rfl)).mono ?_; rintro e wn ⟨rfl, rfl⟩))
      go_wp2_with fail
      go_meet
      exact ⟨congrArg (Value.int .i64) (by have := HWM.out; simp [firstE, errIf]; omega), sk_alloc hch _, hg.alloc _⟩
  case rest =>
    obtain ⟨rfl, hsk, hz⟩ := hcut
    have HX2 := Lib.hid (HX0.out.below hsk.1); have HY2 := Lib.hid (HY0.out.below hsk.1); have HB2 := Lib.hid (HB0.out.trans (hsk.1.mono HB0.out.size)); have HZ2 := Lib.hid hz
    obtain ⟨c0, c1, c2_, c3⟩ := box4 HX2.out
    obtain ⟨d0, d1, d2, d3⟩ := box4 HY2.out
    clear hsk hz z0 z1 hs1 hg
    have y0 := HX2.out.lt; have y1 := HY2.out.lt; have y2 := HZ2.out.lt
    go_wp2_with fail
    have hf := Blk.new wc 67 #[.string nm, .int .i64 (W : Int), .int .i64 (H1 : Int), .slice (some ad) l.length c, .string nm2, .int .i64 (W : Int), .int .i64 (H2 : Int), .slice (some ad2) k.length c2]
    have hz3 := HZ2.out.alloc (.cells #[.string nm, .int .i64 (W : Int), .int .i64 (H1 : Int), .slice (some ad) l.length c, .string nm2, .int .i64 (W : Int), .int .i64 (H2 : Int), .slice (some ad2) k.length c2] 67)
    have hb3 := HB2.out.alloc HB2.out.size (.cells #[.string nm, .int .i64 (W : Int), .int .i64 (H1 : Int), .slice (some ad) l.length c, .string nm2, .int .i64 (W : Int), .int .i64 (H2 : Int), .slice (some ad2) k.length c2] 67)
    obtain ⟨bF, hbF⟩ : ∃ b, wc.heap.size = b := ⟨_, rfl⟩
    rw [hbF] at hf y0 y1 y2 ⊢
    generalize wc.alloc (.cells #[.string nm, .int .i64 (W : Int), .int .i64 (H1 : Int), .slice (some ad) l.length c, .string nm2, .int .i64 (W : Int), .int .i64 (H2 : Int), .slice (some ad2) k.length c2] 67) = w3 at hf hz3 hb3 ⊢
    have HF3 := Lib.hid hf; have HZ3 := Lib.hid hz3; have HB3 := Lib.hid hb3
    clear hf hz3 hb3 hbF c0 c1 c2_ c3 d0 d1 d2 d3
    refine (blank_any nm W M (W * M) _ rfl hN).mono ?_
    rintro e w4 ⟨g, rfl, hg, hgb, hb4⟩
    have hlf := HF3.out.lt
    have HF4 := Lib.hid (HF3.out.below hb4); have HZ4 := Lib.hid (HZ3.out.below hb4); have HB4 := Lib.hid (HB3.out.trans (hb4.mono HB3.out.size)); have HG4 := Lib.hid hgb
    have hgl := hgb.lt
    have hl4 := hb4.size
    clear hb4 hgb
    go_wp2_with fail
    have hbw := Blk.new w4 50 #[.string nm, .int .i64 (W : Int), .int .i64 (M : Int), .slice (some ⟨g, 0, none⟩) (W * M) (W * M)]
    have hf := HF4.out.alloc (.cells #[.string nm, .int .i64 (W : Int), .int .i64 (M : Int), .slice (some ⟨g, 0, none⟩) (W * M) (W * M)] 50); have hz := HZ4.out.alloc (.cells #[.string nm, .int .i64 (W : Int), .int .i64 (M : Int), .slice (some ⟨g, 0, none⟩) (W * M) (W * M)] 50); have hg5 := HG4.out.alloc (.cells #[.string nm, .int .i64 (W : Int), .int .i64 (M : Int), .slice (some ⟨g, 0, none⟩) (W * M) (W * M)] 50)
    have hb5 := HB4.out.alloc HB4.out.size (.cells #[.string nm, .int .i64 (W : Int), .int .i64 (M : Int), .slice (some ⟨g, 0, none⟩) (W * M) (W * M)] 50)
    obtain ⟨bW, hbW⟩ : ∃ b, w4.heap.size = b := ⟨_, rfl⟩
    rw [hbW] at hbw hgl hl4 ⊢
    generalize w4.alloc (.cells #[.string nm, .int .i64 (W : Int), .int .i64 (M : Int), .slice (some ⟨g, 0, none⟩) (W * M) (W * M)] 50) = w5 at hbw hf hz hg5 hb5 ⊢
    have ng1 : bF ≠ g := by omega
    have ng2 : bW ≠ g := by omega
    rw [fill_mask, mask_congr (fun _ => .float .f32 0) (wovenF l k W) _ _ _ (fun i => decide (i < 0 * W)) (by simp) (by simp)] at hg5
    have k2 := hbw.cell 2
    simp only [List.getElem?_toArray, List.getElem?_cons_zero, List.getElem?_cons_succ] at k2
    have HF := Lib.hid hf; have HZ := Lib.hid hz; have HG := Lib.hid hg5; have HB := Lib.hid hb5; have HW := Lib.hid hbw
    clear hf hz hg5 hb5 hbw hbW
    go_wp2_with fail
    go_loopw [62] (fun i wr => ∃ y : Nat, y ≤ M ∧ i = .int .i64 y ∧ Blk wr (w.heap.size + 1 + 1) 50 #[.string ⟨#[]⟩, .int .i64 0, .int .i64 0, .slice none 0 0] ∧ Blk wr bF 67 #[.string nm, .int .i64 (W : Int), .int .i64 (H1 : Int), .slice (some ad) l.length c, .string nm2, .int .i64 (W : Int), .int .i64 (H2 : Int), .slice (some ad2) k.length c2] ∧ Blk wr bW 50 #[.string nm, .int .i64 (W : Int), .int .i64 (M : Int), .slice (some ⟨g, 0, none⟩) (W * M) (W * M)] ∧ Blk wr g 23 (maskN (wovenF l k W) (.float .f32 0) (W * M) (fun i => decide (i < y * W))) ∧ Below w.heap.size w wr) (fun i _ => M - (intOf i).toNat)
    case atStart => exact ⟨0, by omega, rfl, HZ.out, HF.out, HW.out, HG.out, HB.out⟩
    case round =>
      obtain ⟨y, hy, rfl, hz, hbf, hbw, hgm, hbel⟩ := hrel
      obtain ⟨wo, rfl⟩ : ∃ wo : World, wo = wr := ⟨_, rfl⟩
      by_cases hlt : y < M
      · have hM := HM.out
        obtain ⟨z, hzz⟩ : ∃ z, y / 2 = z := ⟨_, rfl⟩
        rcases Nat.mod_two_eq_zero_or_one y with hpar | hpar
        · have hye : y = 2 * z := by omega
          clear hpar hzz

          have hzl : z < H1 := by rcases hor with h | h <;> omega
          have hro : y * W + W ≤ W * M := row_le (W := W) hlt
          have hrs : z * W + W ≤ W * H1 := row_le (W := W) hzl
          obtain ⟨o, ho⟩ : ∃ o, y * W = o := ⟨_, rfl⟩
          obtain ⟨q, hq⟩ : ∃ q, z * W = q := ⟨_, rfl⟩
          have hol : o + W ≤ W * M := by rw [← ho]; exact hro
          have hql : q + W ≤ l.length := by rw [← hq, HLEN.out]; exact hrs
          have m1 : Int.tmod (y : Int) 2 = 0 := by rw [Int.tmod_eq_emod_of_nonneg (by omega)]; omega
          have m2 : Int.tdiv (y : Int) 2 = (z : Int) := by rw [Int.tdiv_eq_ediv_of_nonneg (by omega)]; omega
          have m3 : (y : Int) % 2 = 0 := by omega
          have m4 : (y : Int) / 2 = (z : Int) := by omega
          have m5 : IntKind.i64.wrap (z : Int) = (z : Int) := IntWalk.i64_in _ (by omega)
          obtain ⟨cs, hcs⟩ : ∃ cs, (List.range W).map (fun j => wovenF l k W (o + j)) = cs := ⟨_, rfl⟩
          have hcl : cs.length = W := by rw [← hcs]; simp
          have hcg : ∀ j, j < cs.length → cs[j]? = some (wovenF l k W (o + j)) := fun j hj => by rw [← hcs]; rw [hcl] at hj; simp [hj]
          have hat : ∀ j, j < W → wovenF l k W (o + j) = .float .f32 (l.getD (q + j) 0) := fun j hj => by
            rw [← ho, hye, wovenF_at0 l k W z j hj, ← hq]
          have HONE : RowKit.Hid (∀ v ∈ cs, v.oneCell' = true) := Lib.hid (fun v hv => by
            obtain ⟨j, hj, rfl⟩ := List.getElem_of_mem hv
            have h := hcg j hj
            rw [List.getElem?_eq_getElem hj] at h
            rw [hcl] at hj
            rw [Option.some.inj h, hat j hj]
            rfl)
          have HN := Lib.hid (mask_copy (wovenF l k W) (.float .f32 0) (W * M) (fun i => decide (i < y * W)) (fun i => decide (i < (y + 1) * W)) o cs (by omega) hcg (fun i hi => by rw [Nat.add_mul, Nat.one_mul, ho]; rw [hcl, Bool.eq_iff_iff]; simp; omega))
          have HSRC : RowKit.Hid (∀ j v, cs[j]? = some v → w.cell? ((ad.add q).add j) = some v) := Lib.hid (fun j v hj => by
            have hj1 : j < cs.length := (List.getElem?_eq_some_iff.1 hj).1
            rw [hcg j hj1] at hj
            cases hj
            rw [hcl] at hj1
            rw [add_of_add, HAD.out _ _ (fl_get (by omega)), hat j hj1])
          have HCL := Lib.hid hcl
          have HO := Lib.hid ho; have HQ := Lib.hid hq
          have HR1 := Lib.hid (fun w => row_blk nm W M (W * M) (W * M) o g y w (by omega) HO.out hol (Nat.le_refl _) hN (by omega))
          have HR2 := Lib.hid (fun w => row_any nm W H1 l.length c q ad z w hW.1 HQ.out hql hcap hbig (by omega))
          clear hcl hcg hat hcs ho hq hro hrs
          have HYE := Lib.hid hye; clear hye
          have e0 := hbf.cell 0; have e1 := hbf.cell 1; have e2 := hbf.cell 2; have e3 := hbf.cell 3; have e4 := hbf.cell 4; have e5 := hbf.cell 5; have e6 := hbf.cell 6; have e7 := hbf.cell 7
          have c0 := hbw.cell 0; have c1 := hbw.cell 1; have c2_ := hbw.cell 2; have c3 := hbw.cell 3
          simp only [List.getElem?_toArray, List.getElem?_cons_zero, List.getElem?_cons_succ] at c0 c1 c2_ c3 e0 e1 e2 e3 e4 e5 e6 e7
          have y0 := hbf.lt; have y1 := hbw.lt
          have HZo := Lib.hid hz; have HFo := Lib.hid hbf; have HWo := Lib.hid hbw; have HGo := Lib.hid hgm; have HBo := Lib.hid hbel
          clear hz hbf hbw hgm hbel
          have hch : Below wo.heap.size wo wo.drew := (Below.refl _ _).drew
          have hsx := sx_below (g := g) hch
          go_wp2_with fail
          go_region_held3 (SX g wo)
            (with_reducible assumption)
            (first
              | (go_at_call 109; (first | (with_reducible refine (HR1.out _).mono ?_) | (with_reducible refine (HR2.out _).mono ?_)); rintro e wn ⟨rfl, hbn⟩; have hch := chainB' (wo := wo) (by assumption) hbn; have hsx := sx_below (g := g) hch)
              | (refine upon_copy_blk 41 41 3 23 Tryz.underlying41 info_f32 g o _ _ (ad.add q) _ _ _ 23 (HGo.out.below (by assumption)) cs (by rw [HCL.out]; exact (Nat.min_self _).symm) (by intro j v hj; exact ((HBo.out.trans ((by assumption : Below wo.heap.size wo _).mono HBo.out.size)).cell (by rw [block_of_add, block_of_add]; exact hadb)).trans (HSRC.out j v hj)) (by rw [HCL.out]; simp [maskN]; omega) HONE.out _ HN.out ?_; intro wn2 hbk hon; have hsx := sx_only hsx hon))
          have hxs := And.intro (hon.far (HZo.out.below hch) (by omega)) (And.intro (hon.far (HFo.out.below hch) (by omega)) (And.intro (hon.far (HWo.out.below hch) (by omega)) (hon.below (HBo.out.trans (hch.mono HBo.out.size)) (by omega))))
          have HXS := Lib.hid hxs; clear hxs hch hbn hon
          have HBK := hbk; clear hbk
          go_wp2
          go_roundw
          case rel => exact ⟨y + 1, by omega, by go_num, HXS.out.1, HXS.out.2.1, HXS.out.2.2.1, HBK.out, HXS.out.2.2.2⟩
          case measure => simp [intOf]; omega

        · have hye : y = 2 * z + 1 := by omega
          clear hpar hzz

          have hzl : z < H2 := by rcases hor with h | h <;> omega
          have hro : y * W + W ≤ W * M := row_le (W := W) hlt
          have hrs : z * W + W ≤ W * H2 := row_le (W := W) hzl
          obtain ⟨o, ho⟩ : ∃ o, y * W = o := ⟨_, rfl⟩
          obtain ⟨q, hq⟩ : ∃ q, z * W = q := ⟨_, rfl⟩
          have hol : o + W ≤ W * M := by rw [← ho]; exact hro
          have hql : q + W ≤ k.length := by rw [← hq, HLEN2.out]; exact hrs
          have m1 : Int.tmod (y : Int) 2 = 1 := by rw [Int.tmod_eq_emod_of_nonneg (by omega)]; omega
          have m2 : Int.tdiv (y : Int) 2 = (z : Int) := by rw [Int.tdiv_eq_ediv_of_nonneg (by omega)]; omega
          have m3 : (y : Int) % 2 = 1 := by omega
          have m4 : (y : Int) / 2 = (z : Int) := by omega
          have m5 : IntKind.i64.wrap (z : Int) = (z : Int) := IntWalk.i64_in _ (by omega)
          obtain ⟨cs, hcs⟩ : ∃ cs, (List.range W).map (fun j => wovenF l k W (o + j)) = cs := ⟨_, rfl⟩
          have hcl : cs.length = W := by rw [← hcs]; simp
          have hcg : ∀ j, j < cs.length → cs[j]? = some (wovenF l k W (o + j)) := fun j hj => by rw [← hcs]; rw [hcl] at hj; simp [hj]
          have hat : ∀ j, j < W → wovenF l k W (o + j) = .float .f32 (k.getD (q + j) 0) := fun j hj => by
            rw [← ho, hye, wovenF_at1 l k W z j hj, ← hq]
          have HONE : RowKit.Hid (∀ v ∈ cs, v.oneCell' = true) := Lib.hid (fun v hv => by
            obtain ⟨j, hj, rfl⟩ := List.getElem_of_mem hv
            have h := hcg j hj
            rw [List.getElem?_eq_getElem hj] at h
            rw [hcl] at hj
            rw [Option.some.inj h, hat j hj]
            rfl)
          have HN := Lib.hid (mask_copy (wovenF l k W) (.float .f32 0) (W * M) (fun i => decide (i < y * W)) (fun i => decide (i < (y + 1) * W)) o cs (by omega) hcg (fun i hi => by rw [Nat.add_mul, Nat.one_mul, ho]; rw [hcl, Bool.eq_iff_iff]; simp; omega))
          have HSRC : RowKit.Hid (∀ j v, cs[j]? = some v → w.cell? ((ad2.add q).add j) = some v) := Lib.hid (fun j v hj => by
            have hj1 : j < cs.length := (List.getElem?_eq_some_iff.1 hj).1
            rw [hcg j hj1] at hj
            cases hj
            rw [hcl] at hj1
            rw [add_of_add, HAD2.out _ _ (fl_get (by omega)), hat j hj1])
          have HCL := Lib.hid hcl
          have HO := Lib.hid ho; have HQ := Lib.hid hq
          have HR1 := Lib.hid (fun w => row_blk nm W M (W * M) (W * M) o g y w (by omega) HO.out hol (Nat.le_refl _) hN (by omega))
          have HR2 := Lib.hid (fun w => row_any nm2 W H2 k.length c2 q ad2 z w hW.1 HQ.out hql hcap2 hbig2 (by omega))
          clear hcl hcg hat hcs ho hq hro hrs
          have HYE := Lib.hid hye; clear hye
          have e0 := hbf.cell 0; have e1 := hbf.cell 1; have e2 := hbf.cell 2; have e3 := hbf.cell 3; have e4 := hbf.cell 4; have e5 := hbf.cell 5; have e6 := hbf.cell 6; have e7 := hbf.cell 7
          have c0 := hbw.cell 0; have c1 := hbw.cell 1; have c2_ := hbw.cell 2; have c3 := hbw.cell 3
          simp only [List.getElem?_toArray, List.getElem?_cons_zero, List.getElem?_cons_succ] at c0 c1 c2_ c3 e0 e1 e2 e3 e4 e5 e6 e7
          have y0 := hbf.lt; have y1 := hbw.lt
          have HZo := Lib.hid hz; have HFo := Lib.hid hbf; have HWo := Lib.hid hbw; have HGo := Lib.hid hgm; have HBo := Lib.hid hbel
          clear hz hbf hbw hgm hbel
          have hch : Below wo.heap.size wo wo.drew := (Below.refl _ _).drew
          have hsx := sx_below (g := g) hch
          go_wp2_with fail
          go_region_held3 (SX g wo)
            (with_reducible assumption)
            (first
              | (go_at_call 109; (first | (with_reducible refine (HR1.out _).mono ?_) | (with_reducible refine (HR2.out _).mono ?_)); rintro e wn ⟨rfl, hbn⟩; have hch := chainB' (wo := wo) (by assumption) hbn; have hsx := sx_below (g := g) hch)
              | (refine upon_copy_blk 41 41 3 23 Tryz.underlying41 info_f32 g o _ _ (ad2.add q) _ _ _ 23 (HGo.out.below (by assumption)) cs (by rw [HCL.out]; exact (Nat.min_self _).symm) (by intro j v hj; exact ((HBo.out.trans ((by assumption : Below wo.heap.size wo _).mono HBo.out.size)).cell (by rw [block_of_add, block_of_add]; exact hadb2)).trans (HSRC.out j v hj)) (by rw [HCL.out]; simp [maskN]; omega) HONE.out _ HN.out ?_; intro wn2 hbk hon; have hsx := sx_only hsx hon))
          have hxs := And.intro (hon.far (HZo.out.below hch) (by omega)) (And.intro (hon.far (HFo.out.below hch) (by omega)) (And.intro (hon.far (HWo.out.below hch) (by omega)) (hon.below (HBo.out.trans (hch.mono HBo.out.size)) (by omega))))
          have HXS := Lib.hid hxs; clear hxs hch hbn hon
          have HBK := hbk; clear hbk
          go_wp2
          go_roundw
          case rel => exact ⟨y + 1, by omega, by go_num, HXS.out.1, HXS.out.2.1, HXS.out.2.2.1, HBK.out, HXS.out.2.2.2⟩
          case measure => simp [intOf]; omega

      · have hye : y = M := by omega
        subst hye
        obtain ⟨c0, c1, c2_, c3⟩ := box4 hbw
        obtain ⟨d0, d1, d2, d3⟩ := box4 hz
        have fz := fun i => hz.frozen i
        have HMA := Lib.hid hgm; have HBE := Lib.hid hbel
        clear hz hbf hbw hgm hbel
        go_wp2
        refine bodyPost_ret (v := .tuple #[.agg #[.string nm, .int .i64 (W : Int), .int .i64 (y : Int), .slice (some ⟨g, 0, none⟩) (W * y) (W * y)], .int .i64 0]) (by simp [results, Tryz.results42, go_sem, d0, d1, d2, d3]) rfl ⟨g, rfl, ?_, ?_⟩
        · have h := HMA.out
          rw [mask_congr (wovenF l k W) (wovenF l k W) _ _ _ (fun _ => true) (fun i hi => by rw [Nat.mul_comm] at hi; simp; omega) (fun _ _ _ => rfl)] at h
          exact blk_far4 h (by omega) _ _ _ _
        · exact below_set4 HBE.out (by omega) _ _ _ _

end Go.Proofs.YtkjkjhheckfhbaaGreatDoor
