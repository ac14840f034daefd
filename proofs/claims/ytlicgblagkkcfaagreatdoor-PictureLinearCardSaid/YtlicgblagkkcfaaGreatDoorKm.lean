/- PictureLinear, for any two pictures and any four samples. -/
import Derived.Test.YtlicgblagkkcfaaGreatDoorKe
import Derived.Test.YtlicgblagkkcfaaGreatDoorKh
import Derived.Test.YtlicgblagkkcfaaGreatDoorQB
import Derived.Test.YtlicgblagkkcfaaGreatDoorQB
namespace Go.Proofs.YtlicgblagkkcfaaGreatDoor
open Go.RowKit
set_option linter.unusedVariables false
set_option maxRecDepth 100000
theorem join_lv {f : FuncId} {args : Array Value} {w : World} {nm : ByteArray} {W H : Int} {G : List Int} {n : Nat} (h : Calls Tryz.prog f args w (JoinEnd (lvP nm W H G) (lvZ G) w)) (hg : G.any largeB = false) (hn : G.length = n) :
    Calls Tryz.prog f args w fun e w' => ∃ A' c', e = .returned (.tuple #[.agg #[.string nm, .int .i64 W, .int .i64 H, .slice A' n c'], .int .i64 0]) ∧ 0 ≤ c' ∧ Rd w' A' (fl (G.map smp)) ∧ Below w.heap.size w w' := by
  obtain ⟨h1, h2⟩ := lv_good (nm := nm) (W := W) (H := H) hg
  rw [h1, h2] at h
  refine h.mono fun e w' ⟨A', c', a1, a2, a3⟩ => ⟨A', c', ?_, Nat.zero_le _, a2, a3⟩
  rw [a1]; simp only [List.length_map, hn]
theorem join_lvb {f : FuncId} {args : Array Value} {w : World} {nm : ByteArray} {W H : Int} {G : List Int} (h : Calls Tryz.prog f args w (JoinEnd (lvP nm W H G) (lvZ G) w)) (hg : G.any largeB = true) :
    Calls Tryz.prog f args w fun e w' => ∃ A' c', e = .returned (.tuple #[.agg #[.string ⟨#[]⟩, .int .i64 0, .int .i64 0, .slice A' 0 c'], .int .i64 4]) ∧ 0 ≤ c' ∧ Rd w' A' (fl []) ∧ Below w.heap.size w w' := by
  obtain ⟨h1, h2⟩ := lv_bad (nm := nm) (W := W) (H := H) hg
  rw [h1, h2] at h
  exact h.mono fun e w' ⟨A', c', a1, a2, a3⟩ => ⟨A', c', a1, Nat.zero_le _, a2, a3⟩
theorem mul_bd2 {u v U V : Int} (h1 : -U ≤ u ∧ u ≤ U) (h2 : 0 ≤ v ∧ v ≤ V) (hU : 0 ≤ U) : -(U * V) ≤ u * v ∧ u * v ≤ U * V := by
  have a1 := Int.mul_le_mul_of_nonneg_right h1.2 h2.1
  have a2 := Int.mul_le_mul_of_nonneg_right h1.1 h2.1
  have a3 := Int.mul_le_mul_of_nonneg_left h2.2 hU
  rw [Int.neg_mul] at a2
  omega
theorem v32_512 : V32 1140850688 8192 := ⟨false, 8192, ⟨2 ^ 23, 135, by decide +kernel, by decide +kernel⟩, rfl⟩
theorem v32_m512 : V32 3288334336 (-8192) := ⟨true, 8192, ⟨2 ^ 23, 135, by decide +kernel, by decide +kernel⟩, rfl⟩
def bigL (L : Nat → Nat) (i : Nat) : Bool := FloatKind.f32.format.order (L i) 1140850688 == some .gt || FloatKind.f32.format.order (L i) 3288334336 == some .lt
theorem big_bd (L : Nat → Nat) (hL : ∀ i, i < 4 → chk 1024 (L i) = 0) (i : Nat) (h : i < 4) (hb : bigL L i = false) : (2 * xL L i).natAbs ≤ 1024 * 16 := by
  unfold bigL at hb
  rw [v32_order (v32_lvl (hL i h)) v32_512, v32_order (v32_lvl (hL i h)) v32_m512, cmp_gt, cmp_lt] at hb
  simp at hb
  unfold xL
  omega
def DL (L : Nat → Nat) (i : Nat) : Nat × Nat := (c64Mul 1073741824 0 (PL L i).1 (PL L i).2).getD (0, 0)
theorem DL_v (L : Nat → Nat) (hL : ∀ i, i < 4 → chk 1024 (L i) = 0) (i : Nat) (h : i < 4) : c64Mul 1073741824 0 (PL L i).1 (PL L i).2 = some (DL L i) ∧ V32 (DL L i).1 (2 * pR (xL L) i) ∧ V32 (DL L i).2 (2 * pI (xL L) i) := by
  have hb := PL_bd L hL i h
  obtain ⟨m, hm, h1, h2⟩ := c64_twice (PL_v L hL i).1 (PL_v L hL i).2 (by omega) (by omega)
  have : DL L i = m := by unfold DL; rw [hm]; rfl
  rw [this]; exact ⟨hm, h1, h2⟩
theorem czV_four (P : Nat → Nat × Nat) : czV P 4 = #[.complex .f32 (P 0).1 (P 0).2, .complex .f32 (P 1).1 (P 1).2, .complex .f32 (P 2).1 (P 2).2, .complex .f32 (P 3).1 (P 3).2] := rfl
theorem first_none (L : Nat → Nat) (hL : ∀ i, i < 4 → chk 1024 (L i) = 0) : firstF (chk 1024) [L 0, L 1, L 2, L 3] = 0 := firstF_none fun b hb => by
  simp only [List.mem_cons, List.not_mem_nil, or_false] at hb
  rcases hb with rfl | rfl | rfl | rfl
  · exact hL 0 (by omega)
  · exact hL 1 (by omega)
  · exact hL 2 (by omega)
  · exact hL 3 (by omega)
set_option maxHeartbeats 4000000 in
theorem linear_ok (nm nm2 : ByteArray) (W H : Nat) (l k : List Nat) (hp : (Pic.mk nm W H l).Ok) (hq : (Pic.mk nm2 W H k).Ok) (L : Nat → Nat) (hL : ∀ i, i < 4 → chk 1024 (L i) = 0) (A B : Option Addr) (c c2 : Nat) (w : World) (hlaid : Laid w)
    (hsh : (shortB (Pic.mk nm W H l) && ((Pic.mk nm W H l).err == 0)) = true) (hsh2 : (shortB (Pic.mk nm2 W H k) && ((Pic.mk nm2 W H k).err == 0)) = true) (hra : Rd w A (fl l)) (hrb : Rd w B (fl k)) :
    Calls Tryz.prog 13 #[(Pic.mk nm W H l).val A c, (Pic.mk nm2 W H k).val B c2, .agg #[.float .f32 (L 0), .float .f32 (L 1), .float .f32 (L 2), .float .f32 (L 3)]] w (TrueEnd w) := by
  obtain ⟨hW, hH, hlen, hs, hmax⟩ := ok_sizes hp
  obtain ⟨_, _, hlen2, hs2, hmax2⟩ := ok_sizes hq
  obtain ⟨n, hn⟩ : ∃ n, l.length = n := ⟨_, rfl⟩
  have hn2 : k.length = n := by rw [hlen2, ← hlen, hn]
  have hn4 : n ≤ 4096 := by rw [← hn]; exact hp.big
  have hnm : n ≤ maxLen := Nat.le_trans hn4 (by decide)
  have hn1 : 1 ≤ n := by rw [← hn, hlen]; exact prod_pos hW.1 hH.1
  have hpv : ∀ (m : ByteArray) (z : List Nat), z.length = n → ∀ (A : Option Addr) (c' : Nat), (Pic.mk m W H z).val A c' = .agg #[.string m, .int .i64 (W : Int), .int .i64 (H : Int), .slice A n c'] := fun m z hz A c' => by unfold Pic.val; simp only [hz]
  have hlv : ∀ b ∈ l, -16384 ≤ lvl b ∧ lvl b ≤ 16384 := fun b hb => hp.lv hb
  have hval : ∀ (A : Option Addr) (c : Nat) (w : World), Rd w A (fl l) → _ := fun A c w hr => by have h := valid_any (Pic.mk nm W H l) A c w hr; rw [hsh, hpv nm l hn] at h; exact h
  have hval2 : ∀ (A : Option Addr) (c : Nat) (w : World), Rd w A (fl k) → _ := fun A c w hr => by have h := valid_any (Pic.mk nm2 W H k) A c w hr; rw [hsh2, hpv nm2 k hn2] at h; exact h
  have hfn := first_none L hL
  have hcs : ∀ (g : Nat) (w : World), Rd w (some ⟨g, 0, none⟩) (fl [L 0, L 1, L 2, L 3]) → _ := fun g w hr => by have h := checkSamplesR_any (some ⟨g, 0, none⟩) 4 [L 0, L 1, L 2, L 3] w (by simp) hr; rw [hfn] at h; exact h
  have hown : ∀ (A : Option Addr) (c : Nat) (w : World), Rd w A (fl l) → _ := fun A c w hr => own_v hp hn A c w hr
  have hown2 : ∀ (A : Option Addr) (c : Nat) (w : World), Rd w A (fl k) → _ := fun A c w hr => own_v hq hn2 A c w hr
  have hG1 : (sumL l k).length = n := sumL_take l k n hn hn2
  have hG2 : (sumL l l).length = n := sumL_take l l n hn hn
  have hS1 : ∀ (A B : Option Addr) (c d : Nat) (w : World), Rd w A (fl l) → Rd w B (fl k) → _ := fun A B c d w h1 h2 => sum_lv nm nm2 W H l k n hn hn2 hp hq A B c d w h1 h2
  have hS2 : ∀ (A B : Option Addr) (c d : Nat) (w : World), Rd w A (fl k) → Rd w B (fl l) → _ := fun A B c d w h1 h2 => by have h := sum_lv nm2 nm W H k l n hn2 hn hq hp A B c d w h1 h2; rw [sumL_comm k l] at h; exact h
  -- the picture with the opposite sign, and nothing
  have hgM : (l.map (fun b => -lvl b)).any largeB = false := small_lv fun x hx => by obtain ⟨b, hb, rfl⟩ := List.mem_map.1 hx; have := hlv b hb; omega
  have hpM := smp_ok hp (G := l.map (fun b => -lvl b)) (by simp) hgM
  have hnM : ((l.map (fun b => -lvl b)).map smp).length = n := by simp [hn]
  have hscM : ∀ (A : Option Addr) (c : Nat) (w : World), Rd w A (fl l) → _ := fun A c w hr => by
    have h := scaled_lv nm W H l hp (ok_err hp) (-1) 1 (by omega) (by omega) A c w hs hr
    rw [scaled_minus, hn] at h
    exact join_lv (n := n) h hgM (by simp [hn])
  have hownM : ∀ (A : Option Addr) (c : Nat) (w : World), Rd w A (fl ((l.map (fun b => -lvl b)).map smp)) → _ := fun A c w hr => own_v hpM hnM A c w hr
  have hgZ : (List.replicate n (0 : Int)).any largeB = false := small_lv fun x hx => by have := List.eq_of_mem_replicate hx; omega
  have hpZ := smp_ok hp (G := List.replicate n (0 : Int)) (by simp [hn]) hgZ
  have hsZ : ∀ (A B : Option Addr) (c d : Nat) (w : World), Rd w A (fl l) → Rd w B (fl ((l.map (fun b => -lvl b)).map smp)) → _ := fun A B c d w h1 h2 => by
    have h := sum_lv nm nm W H l _ n hn hnM hp hpM A B c d w h1 h2
    rw [minus_sum hlv, hn] at h
    exact join_lv (n := n) h hgZ (by simp)
  have hpk : ∀ (A : Option Addr) (c : Nat) (w : World), Rd w A (fl ((List.replicate n (0 : Int)).map smp)) → _ := fun A c w hr => by
    have h := peak_ok _ hpZ (ok_err hpZ) A c w hs (ok_sizes hpZ).2.2.2.2 hr
    rw [hpv nm _ (by simp)] at h
    unfold Pic.peak at h
    rw [peak_zero] at h
    exact h
  have hsc2 : ∀ (A : Option Addr) (c : Nat) (w : World), Rd w A (fl l) → _ := fun A c w hr => by
    have h := scaled_lv nm W H l hp (ok_err hp) 2 1 (by omega) (by omega) A c w hs hr
    rw [scaled_twice, hn] at h
    exact h
  have hS3 : ∀ (A B : Option Addr) (c d : Nat) (w : World), Rd w A (fl l) → Rd w B (fl l) → _ := fun A B c d w h1 h2 => sum_lv nm nm W H l l n hn hn hp hp A B c d w h1 h2
  -- the panel
  have hPP : ∀ w1, Below w.heap.size w w1 → Laid w1 := fun w1 hb => hlaid.below hb
  have hfour : ∀ w1, Below w.heap.size w w1 → _ := fun w1 hb => by have h := four_ok L hfn (sumS (zL L) 1) (stepL L hL) w1 (hPP w1 hb).1 (hPP w1 hb).2.1; rw [czV_four] at h; exact h
  have hVc : ∀ i, i < 4 → chk 1024 (VL L i) = 0 := fun i h => v32_chk (VL_v L hL i h).2 1024 (by have := x_bd L hL i h; omega)
  have hunf : ∀ w1, Below w.heap.size w w1 → _ := fun w1 hb => by have h := unfour_ok (PL L) (VL L) (SL L) (stepS L hL) (fun i h => ⟨v32_chk (PL_v L hL i).1 4096 (PL_bd L hL i h).1, v32_chk (PL_v L hL i).2 4096 (PL_bd L hL i h).2⟩) (fun i h => (VL_v L hL i h).1) (fun i h => order_neq (SL_v L hL i h).2 v32_zero) hVc w1 (hPP w1 hb).1 (hPP w1 hb).2.1; rw [czV_four] at h; exact h
  have hfour2 : ∀ w1, Below w.heap.size w w1 → (∀ i, i < 4 → bigL L i = false) → _ := fun w1 hb hbig => by have h := four_ok (dL L) (first_none (dL L) fun i h => v32_chk (dL_v L hL i h).2 1024 (big_bd L hL i h (hbig i h))) (sumS (zL (dL L)) 1) (stepD L hL) w1 (hPP w1 hb).1 (hPP w1 hb).2.1; rw [czV_four] at h; exact h
  have heqV := neq_floats (VL L) L (fun i h => order_eq (VL_v L hL i h).2 (v32_lvl (hL i h)))
  obtain ⟨⟨qa0, qb0⟩, ⟨qa1, qb1⟩, ⟨qa2, qb2⟩, qa3, qb3⟩ := panel (xL L)
  have hp0 := order_neq (by have h := (PL_v L hL 0).2; rw [qb0] at h; exact h) v32_zero
  have hp2 := order_neq (by have h := (PL_v L hL 2).2; rw [qb2] at h; exact h) v32_zero
  have hp13 := order_neq (PL_v L hL 1).1 (by have h := (PL_v L hL 3).1; rw [qa3, ← qa1] at h; exact h)
  have hp13i := order_neq (PL_v L hL 1).2 (by have h := v32_neg (PL_v L hL 3).2; rw [qb3, show -(xL L 1 - xL L 3) = xL L 3 - xL L 1 by omega, ← qb1] at h; exact h)
  have hcr : ∀ i, i < 4 → (FloatKind.f32.format.order (PL (dL L) i).1 (DL L i).1 == some .eq) = true ∧ (FloatKind.f32.format.order (PL (dL L) i).2 (DL L i).2 == some .eq) = true := fun i h => ⟨order_eq (RL_v L hL i h).1 (DL_v L hL i h).2.1, order_eq (RL_v L hL i h).2 (DL_v L hL i h).2.2⟩
  have haw : ∀ w1, Below w.heap.size w w1 → _ := fun w1 hb => awake_laid w1 (hlaid.below hb)
  rw [hpv nm l hn, hpv nm2 k hn2]
  clear hlen hlen2
  have dbd : ∀ {g d : Int}, 1 ≤ g → 1 ≤ d → 16 * (n : Int) = g * d → d ≤ 65536 := fun {g d} h1 h2 h3 => by
    have h4 := Int.mul_le_mul_of_nonneg_right h1 (show 0 ≤ d by omega)
    rw [Int.one_mul, ← h3] at h4
    omega
  have hsameH : ∀ (A B : Option Addr) (c d : Nat) (w : World), Rd w A (fl ((l.map lvl).map smp)) → Rd w B (fl l) → _ := fun A B c d w h1 h2 => samePicture_true nm W H A B n c d ((l.map lvl).map smp) l w (by simp [hn]) hn hnm (same_lvl hp.ok) h1 h2
  cases hgx : (sumL l k).any largeB with
  | false =>
    have hlv2 : ∀ b ∈ k, -16384 ≤ lvl b ∧ lvl b ≤ 16384 := fun b hb => hq.lv hb
    have hpX := smp_ok hp (G := sumL l k) (by rw [hG1, hn]) hgx
    have hnX : ((sumL l k).map smp).length = n := by rw [List.length_map, hG1]
    have hlv3 : ∀ b ∈ ((sumL l k).map smp), -16384 ≤ lvl b ∧ lvl b ≤ 16384 := fun b hb => hpX.lv hb
    have hsum : sumF lvl ((sumL l k).map smp) = sumF lvl l + sumF lvl k := by rw [smp_sum hgx]; exact sumF_sum l k (by rw [hn, hn2])
    have bd1 := sumF_bd lvl 16384 l (by omega) hlv
    have bd2 := sumF_bd lvl 16384 k (by omega) hlv2
    have bd3 := sumF_bd lvl 16384 ((sumL l k).map smp) (by omega) hlv3
    rw [hn] at bd1
    rw [hn2] at bd2
    rw [hnX] at bd3
    obtain ⟨g1, m1, d1, p1, q1, eg1, ea1, eb1, es1, en1, hle1, hge1⟩ := mean_parts (sumF lvl l) n hn1 bd1
    obtain ⟨g2, m2, d2, p2, q2, eg2, ea2, eb2, es2, en2, hle2, hge2⟩ := mean_parts (sumF lvl k) n hn1 bd2
    obtain ⟨g3, m3, d3, p3, q3, eg3, ea3, eb3, es3, en3, hle3, hge3⟩ := mean_parts (sumF lvl ((sumL l k).map smp)) n hn1 bd3
    have hr1 : ∀ w : World, _ := fun w => by have h := checkRatioR_any m1 d1 (by have := dbd p1 q1 en1; omega) (by have := dbd p1 q1 en1; omega) w; rw [ratio_low hn1 p1 q1 eg1 es1 en1 hn4 hle1 hge1] at h; exact h
    have hr2 : ∀ w : World, _ := fun w => by have h := checkRatioR_any m2 d2 (by have := dbd p2 q2 en2; omega) (by have := dbd p2 q2 en2; omega) w; rw [ratio_low hn1 p2 q2 eg2 es2 en2 hn4 hle2 hge2] at h; exact h
    have hr3 : ∀ w : World, _ := fun w => by have h := checkRatioR_any m3 d3 (by have := dbd p3 q3 en3; omega) (by have := dbd p3 q3 en3; omega) w; rw [ratio_low hn1 p3 q3 eg3 es3 en3 hn4 hle3 hge3] at h; exact h
    have D1 := dbd p1 q1 en1
    have D2 := dbd p2 q2 en2
    have D3 := dbd p3 q3 en3
    have e1 := mul_bd2 (u := m3) (v := d1) (U := 67108864) (V := 65536) (by omega) (by omega) (by omega)
    have e2 := mul_bd2 (u := m3 * d1) (v := d2) (U := 4398046511104) (V := 65536) (by omega) (by omega) (by omega)
    have e3 := mul_bd2 (u := m1) (v := d2) (U := 67108864) (V := 65536) (by omega) (by omega) (by omega)
    have e4 := mul_bd2 (u := m2) (v := d1) (U := 67108864) (V := 65536) (by omega) (by omega) (by omega)
    have e5 := mul_bd2 (u := m1 * d2 + m2 * d1) (v := d3) (U := 8796093022208) (V := 65536) (by omega) (by omega) (by omega)
    have hX1 : IntKind.i64.wrap (IntKind.i64.wrap (m3 * d1) * d2) = m3 * d1 * d2 := by rw [IntWalk.i64_in (m3 * d1) (by omega), IntWalk.i64_in _ (by omega)]
    have hX2 : IntKind.i64.wrap (IntKind.i64.wrap (IntKind.i64.wrap (m1 * d2) + IntKind.i64.wrap (m2 * d1)) * d3) = m3 * d1 * d2 := by
      rw [IntWalk.i64_in (m1 * d2) (by omega), IntWalk.i64_in (m2 * d1) (by omega), IntWalk.i64_in (m1 * d2 + m2 * d1) (by omega), IntWalk.i64_in _ (by omega)]
      exact (mean_sum es1 en1 es2 en2 (by rw [← hsum]; exact es3) en3 p1 p2 p3).symm
    have hownX : ∀ (A : Option Addr) (c : Nat) (w : World), Rd w A (fl ((sumL l k).map smp)) → _ := fun A c w hr => own_v hpX hnX A c w hr
    have hmX : ∀ (A : Option Addr) (c : Nat) (w : World), Rd w A (fl ((sumL l k).map smp)) → _ := fun A c w hr => by have h := mean_v hpX hnX A c w _ rfl hr; rw [ea3, eb3] at h; exact h
    have hmA : ∀ (A : Option Addr) (c : Nat) (w : World), Rd w A (fl l) → _ := fun A c w hr => by have h := mean_v hp hn A c w _ rfl hr; rw [ea1, eb1] at h; exact h
    have hmB : ∀ (A : Option Addr) (c : Nat) (w : World), Rd w A (fl k) → _ := fun A c w hr => by have h := mean_v hq hn2 A c w _ rfl hr; rw [ea2, eb2] at h; exact h
    have hss : ∀ (A B : Option Addr) (c d : Nat) (w : World), Rd w A (fl ((sumL l k).map smp)) → Rd w B (fl ((sumL l k).map smp)) → _ := fun A B c d w h1 h2 => by
      have h := sameSamples_any A B c d ((sumL l k).map smp) ((sumL l k).map smp) w (by rw [hnX]; exact hnm) (by rw [hnX]; exact hnm) h1 h2
      rw [hnX, sameF_self hpX.ok] at h
      exact h
    cases hgt : (sumL l l).any largeB with
    | false =>
      have hpY := smp_ok hp (G := sumL l l) (by rw [hG2, hn]) hgt
      have hnY : ((sumL l l).map smp).length = n := by rw [List.length_map, hG2]
      have hsame3 : ∀ (A B : Option Addr) (c d : Nat) (w : World), Rd w A (fl ((sumL l l).map smp)) → Rd w B (fl ((sumL l l).map smp)) → _ := fun A B c d w h1 h2 => samePicture_true nm W H A B n c d ((sumL l l).map smp) ((sumL l l).map smp) w hnY hnY hnm (sameF_self hpY.ok) h1 h2
      have hownY : ∀ (A : Option Addr) (c : Nat) (w : World), Rd w A (fl ((sumL l l).map smp)) → _ := fun A c w hr => own_v hpY hnY A c w hr
      have hgH : (l.map lvl).any largeB = false := small_lv fun x hx => by obtain ⟨b, hb, rfl⟩ := List.mem_map.1 hx; exact hlv b hb
      have hscH : ∀ (A : Option Addr) (c : Nat) (w : World), Rd w A (fl ((sumL l l).map smp)) → _ := fun A c w hr => by
        have h := scaled_lv nm W H ((sumL l l).map smp) hpY (ok_err hpY) 1 2 (by omega) (by omega) A c w hs hr
        rw [scaled_half hgt, hnY] at h
        exact join_lv (n := n) h hgH (by simp [hn])
      exact linear_g nm nm2 W H n l k ((sumL l k).map smp) ((l.map (fun b => -lvl b)).map smp) ((List.replicate n (0 : Int)).map smp) ((sumL l l).map smp) ((l.map lvl).map smp) ((sumL l l).map smp) m1 d1 m2 d2 m3 d3 (m3 * d1 * d2) nm W H 0 n A B c c2 L (dL L) (VL L) (PL L) (PL (dL L)) (DL L) (Op.negFloat .f32 (PL L 3).2) (bigL L) w hval hval2 hcs hown hown2 (fun A B c d w h1 h2 => join_lv (n := n) (hS1 A B c d w h1 h2) hgx hG1) (fun A B c d w h1 h2 => join_lv (n := n) (hS2 A B c d w h1 h2) hgx hG1) hscM hownM hsZ hpk (fun A c w hr => join_lv (n := n) (hsc2 A c w hr) hgt hG2) (fun A B c d w h1 h2 => join_lv (n := n) (hS3 A B c d w h1 h2) hgt hG2) hsame3 (fun _ => ⟨rfl, rfl, rfl, rfl, rfl⟩) (fun _ => hownY) (fun _ => hscH) hsameH hownX hmX hmA hmB hss hr1 hr2 hr3 hX1 hX2 hfour hunf hfour2 heqV hp0 hp2 hp13 rfl hp13i (fun i _ => rfl) (fun i h => (dL_v L hL i h).1) (fun i h => (DL_v L hL i h).1) hcr haw hra hrb
    | true =>
      have hsame3b : ∀ (A B : Option Addr) (c d : Nat) (w : World), Rd w A (fl []) → Rd w B (fl []) → _ := fun A B c d w _ _ => samePicture_true ⟨#[]⟩ 0 0 A B 0 c d [] [] w rfl rfl (by decide) rfl (rd_nil w A) (rd_nil w B)
      exact linear_g nm nm2 W H n l k ((sumL l k).map smp) ((l.map (fun b => -lvl b)).map smp) ((List.replicate n (0 : Int)).map smp) ((sumL l l).map smp) ((l.map lvl).map smp) [] m1 d1 m2 d2 m3 d3 (m3 * d1 * d2) ⟨#[]⟩ 0 0 4 0 A B c c2 L (dL L) (VL L) (PL L) (PL (dL L)) (DL L) (Op.negFloat .f32 (PL L 3).2) (bigL L) w hval hval2 hcs hown hown2 (fun A B c d w h1 h2 => join_lv (n := n) (hS1 A B c d w h1 h2) hgx hG1) (fun A B c d w h1 h2 => join_lv (n := n) (hS2 A B c d w h1 h2) hgx hG1) hscM hownM hsZ hpk (fun A c w hr => join_lvb (hsc2 A c w hr) hgt) (fun A B c d w h1 h2 => join_lvb (hS3 A B c d w h1 h2) hgt) hsame3b (fun h => absurd h (by decide)) (fun h => absurd h (by decide)) (fun h => absurd h (by decide)) hsameH hownX hmX hmA hmB hss hr1 hr2 hr3 hX1 hX2 hfour hunf hfour2 heqV hp0 hp2 hp13 rfl hp13i (fun i _ => rfl) (fun i h => (dL_v L hL i h).1) (fun i h => (DL_v L hL i h).1) hcr haw hra hrb
  | true =>
    cases hgt : (sumL l l).any largeB with
    | false =>
      have hpY := smp_ok hp (G := sumL l l) (by rw [hG2, hn]) hgt
      have hnY : ((sumL l l).map smp).length = n := by rw [List.length_map, hG2]
      have hsame3 : ∀ (A B : Option Addr) (c d : Nat) (w : World), Rd w A (fl ((sumL l l).map smp)) → Rd w B (fl ((sumL l l).map smp)) → _ := fun A B c d w h1 h2 => samePicture_true nm W H A B n c d ((sumL l l).map smp) ((sumL l l).map smp) w hnY hnY hnm (sameF_self hpY.ok) h1 h2
      have hownY : ∀ (A : Option Addr) (c : Nat) (w : World), Rd w A (fl ((sumL l l).map smp)) → _ := fun A c w hr => own_v hpY hnY A c w hr
      have hgH : (l.map lvl).any largeB = false := small_lv fun x hx => by obtain ⟨b, hb, rfl⟩ := List.mem_map.1 hx; exact hlv b hb
      have hscH : ∀ (A : Option Addr) (c : Nat) (w : World), Rd w A (fl ((sumL l l).map smp)) → _ := fun A c w hr => by
        have h := scaled_lv nm W H ((sumL l l).map smp) hpY (ok_err hpY) 1 2 (by omega) (by omega) A c w hs hr
        rw [scaled_half hgt, hnY] at h
        exact join_lv (n := n) h hgH (by simp [hn])
      exact linear_b nm nm2 W H n l k ((l.map (fun b => -lvl b)).map smp) ((List.replicate n (0 : Int)).map smp) ((sumL l l).map smp) ((l.map lvl).map smp) ((sumL l l).map smp) nm W H 0 n A B c c2 L (dL L) (VL L) (PL L) (PL (dL L)) (DL L) (Op.negFloat .f32 (PL L 3).2) (bigL L) w hval hval2 hcs hown hown2 (fun A B c d w h1 h2 => join_lvb (hS1 A B c d w h1 h2) hgx) (fun A B c d w h1 h2 => join_lvb (hS2 A B c d w h1 h2) hgx) hscM hownM hsZ hpk (fun A c w hr => join_lv (n := n) (hsc2 A c w hr) hgt hG2) (fun A B c d w h1 h2 => join_lv (n := n) (hS3 A B c d w h1 h2) hgt hG2) hsame3 (fun _ => ⟨rfl, rfl, rfl, rfl, rfl⟩) (fun _ => hownY) (fun _ => hscH) hsameH hfour hunf hfour2 heqV hp0 hp2 hp13 rfl hp13i (fun i _ => rfl) (fun i h => (dL_v L hL i h).1) (fun i h => (DL_v L hL i h).1) hcr haw hra hrb
    | true =>
      have hsame3b : ∀ (A B : Option Addr) (c d : Nat) (w : World), Rd w A (fl []) → Rd w B (fl []) → _ := fun A B c d w _ _ => samePicture_true ⟨#[]⟩ 0 0 A B 0 c d [] [] w rfl rfl (by decide) rfl (rd_nil w A) (rd_nil w B)
      exact linear_b nm nm2 W H n l k ((l.map (fun b => -lvl b)).map smp) ((List.replicate n (0 : Int)).map smp) ((sumL l l).map smp) ((l.map lvl).map smp) [] ⟨#[]⟩ 0 0 4 0 A B c c2 L (dL L) (VL L) (PL L) (PL (dL L)) (DL L) (Op.negFloat .f32 (PL L 3).2) (bigL L) w hval hval2 hcs hown hown2 (fun A B c d w h1 h2 => join_lvb (hS1 A B c d w h1 h2) hgx) (fun A B c d w h1 h2 => join_lvb (hS2 A B c d w h1 h2) hgx) hscM hownM hsZ hpk (fun A c w hr => join_lvb (hsc2 A c w hr) hgt) (fun A B c d w h1 h2 => join_lvb (hS3 A B c d w h1 h2) hgt) hsame3b (fun h => absurd h (by decide)) (fun h => absurd h (by decide)) (fun h => absurd h (by decide)) hsameH hfour hunf hfour2 heqV hp0 hp2 hp13 rfl hp13i (fun i _ => rfl) (fun i h => (dL_v L hL i h).1) (fun i h => (DL_v L hL i h).1) hcr haw hra hrb
theorem linear_any (p q : Pic) (L : Nat → Nat) (A B : Option Addr) (c c2 : Nat) (w : World) (hlaid : Laid w) (hA : A = none → p.l.length = 0 ∧ c = 0) (hB : B = none → q.l.length = 0 ∧ c2 = 0) (hra : Rd w A (fl p.l)) (hrb : Rd w B (fl q.l)) :
    Calls Tryz.prog 13 #[p.val A c, q.val B c2, .agg #[.float .f32 (L 0), .float .f32 (L 1), .float .f32 (L 2), .float .f32 (L 3)]] w (TrueEnd w) := by
  cases h1 : (shortB p && (p.err == 0)) with
  | false => exact linear_long1 p q L A B c c2 w hlaid hra hrb h1
  | true =>
    cases h2 : (shortB q && (q.err == 0)) with
    | false => exact linear_long2 p q L A B c c2 w hlaid hra hrb h1 h2
    | true =>
      obtain ⟨z, hz⟩ : ∃ z, firstF (chk 1024) [L 0, L 1, L 2, L 3] = z := ⟨_, rfl⟩
      by_cases hz0 : z = 0
      · rw [hz0] at hz
        have hL : ∀ i, i < 4 → chk 1024 (L i) = 0 := fun i hi => by
          have e0 : ∀ {b : Nat} {t : List Nat}, firstF (chk 1024) (b :: t) = 0 → chk 1024 b = 0 ∧ firstF (chk 1024) t = 0 := fun {b t} h => by
            rw [firstF] at h
            by_cases hb : chk 1024 b = 0
            · rw [if_pos hb] at h; exact ⟨hb, h⟩
            · rw [if_neg hb] at h; exact absurd h hb
          obtain ⟨k0, hz⟩ := e0 hz
          obtain ⟨k1, hz⟩ := e0 hz
          obtain ⟨k2, hz⟩ := e0 hz
          obtain ⟨k3, hz⟩ := e0 hz
          have : i = 0 ∨ i = 1 ∨ i = 2 ∨ i = 3 := by omega
          rcases this with rfl | rfl | rfl | rfl <;> assumption
        have g1 := h1; have g2 := h2
        simp only [Bool.and_eq_true, beq_iff_eq] at g1 g2
        have hp := ok_of g1.2
        have hq := ok_of g2.2
        cases hsh : (p.w != q.w || p.h != q.h) with
        | true =>
          have hsh' : (q.w != p.w || q.h != p.h) = true := by
            simp only [Bool.or_eq_true, bne_iff_ne] at hsh ⊢
            rcases hsh with h | h
            · exact .inl fun e => h e.symm
            · exact .inr fun e => h e.symm
          exact linear_shape p q L A B c c2 w hlaid hra hrb h1 h2 hA hB (by unfold sumErr; rw [g1.2, g2.2, hsh]; simp [firstE, errIf]) (by unfold sumErr; rw [g1.2, g2.2, hsh']; simp [firstE, errIf]) hsh hz
        | false =>
          simp only [Bool.or_eq_false_iff, bne_eq_false_iff_eq] at hsh
          obtain ⟨nm, pw, ph, l⟩ := p
          obtain ⟨nm2, qw, qh, k⟩ := q
          simp only [] at hsh
          obtain ⟨rfl, rfl⟩ := hsh
          have w1 := hp.w1; have w2 := hp.h1
          simp only [] at w1 w2
          obtain ⟨W, rfl⟩ : ∃ W : Nat, pw = W := ⟨pw.toNat, by omega⟩
          obtain ⟨H, rfl⟩ : ∃ H : Nat, ph = H := ⟨ph.toNat, by omega⟩
          exact linear_ok nm nm2 W H l k hp hq L hL A B c c2 w hlaid h1 h2 hra hrb
      · exact linear_long3 p q L A B c c2 w hlaid hra hrb h1 h2 z hz hz0
end Go.Proofs.YtlicgblagkkcfaaGreatDoor
