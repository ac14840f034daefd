/- What stays as it is through a drawn region; the check of a ratio. -/
import Derived.Test.YtlicgblagkkcfaaGreatDoorG
namespace Go.Proofs.YtlicgblagkkcfaaGreatDoor
open Go.RowKit
set_option linter.unusedVariables false
/-- What was there is as it was. -/
abbrev SK (w0 w : World) : Prop := Below w0.heap.size w0 w ∧ (∀ b o, b < w0.heap.size → w.cell? ⟨b, o, none⟩ = w0.cell? ⟨b, o, none⟩) ∧ (∀ b o, b < w0.heap.size → w.frozen? ⟨b, o, none⟩ = w0.frozen? ⟨b, o, none⟩)
theorem sk_of {w0 w : World} (h : Below w0.heap.size w0 w) : SK w0 w := ⟨h, fun b o hb => h.cell (p := ⟨b, o, none⟩) hb, fun b o hb => h.frozen (p := ⟨b, o, none⟩) hb⟩
theorem sk_refl (w0 : World) : SK w0 w0 := sk_of (Below.refl _ _)
theorem sk_drew0 (w0 : World) : SK w0 w0.drew := sk_of (Below.refl _ _).drew
theorem sk_drew {w0 w : World} (h : SK w0 w) : SK w0 w.drew := sk_of h.1.drew
theorem sk_call {w0 w w' : World} (h : SK w0 w) (hb : Below w.heap.size w w') : SK w0 w' := sk_of (h.1.trans (hb.mono h.1.size))
theorem sk_alloc {w0 w : World} (h : SK w0 w) (o : Obj) : SK w0 (w.alloc o) := sk_of (h.1.alloc h.1.size o)
theorem sk_set {w0 w : World} (h : SK w0 w) {p : Addr} (hp : w0.heap.size ≤ p.block) (v : Value) : SK w0 (w.setCell p v) := sk_of (h.1.setCell hp v)
theorem bcell {W w1 : World} (hb : Below W.heap.size W w1) : (∀ b o, b < W.heap.size → w1.cell? ⟨b, o, none⟩ = W.cell? ⟨b, o, none⟩) ∧ (∀ b o, b < W.heap.size → w1.frozen? ⟨b, o, none⟩ = W.frozen? ⟨b, o, none⟩) :=
  ⟨fun b o h => hb.cell (p := ⟨b, o, none⟩) h, fun b o h => hb.frozen (p := ⟨b, o, none⟩) h⟩
theorem checkRatio_any (a b : Int) (ha : -9223372036854775808 ≤ a ∧ a ≤ 9223372036854775807) (hb : -9223372036854775808 ≤ b ∧ b ≤ 9223372036854775807) (w : World) :
    Calls Tryz.prog 24 #[.agg #[.int .i64 a, .int .i64 b]] w fun e w' => e = .returned (.int .i64 (firstE [outs a (-999999999) 999999999, outs b 1 999999999, errIf (decide (1 < wrap64 (Int.gcd a b))) 1])) ∧ Below w.heap.size w w' := by
  go_enter Tryz.func24, Tryz.ntmps24
  go_wp2_with fail
  have hbx := Blk.new w 33 #[.int .i64 a, .int .i64 b]
  have hb0 : Below w.heap.size w (w.alloc (.cells #[.int .i64 a, .int .i64 b] 33)) := (Below.refl _ _).alloc (Nat.le_refl _) _
  generalize w.alloc (.cells #[.int .i64 a, .int .i64 b] 33) = w0 at hbx hb0 ⊢
  have c0 : w0.cell? ⟨w.heap.size, 0, none⟩ = some (.int .i64 a) := hbx.cell 0
  have c1 : w0.cell? ⟨w.heap.size, 1, none⟩ = some (.int .i64 b) := hbx.cell 1
  have hz := hbx.lt
  have HB0 := Lib.hid hb0; clear hb0 hbx
  go_region_held3 (SK w0)
    (first | exact sk_drew0 _ | assumption | exact sk_call (by assumption) (by assumption) | exact sk_alloc (by assumption) _)
    (first
      | (go_at_call 98; refine (outside_any _ _ _ _).mono ?_; rintro e wn ⟨rfl, rfl⟩)
      | (go_at_call 104; refine (errorIf_any _ _ _).mono ?_; rintro e wn ⟨rfl, rfl⟩)
      | (go_at_call 105; refine (divisor_any _ _ ha hb _).mono ?_; rintro e wn ⟨rfl, hbn⟩; have hch := sk_call (w0 := w0) (by assumption) hbn)
      | (go_at_call 97; refine (first_n _ _ _ [_, _, _] _ rfl (by simp [maxLen]) (by exact rd_of_blk (Blk.new _ _ _) rfl)).mono ?_; rintro e wn ⟨rfl, rfl⟩))
  go_wp2
  go_ret
  exact ⟨rfl, HB0.out.trans ((sk_alloc hch _).1.mono HB0.out.size)⟩

end Go.Proofs.YtlicgblagkkcfaaGreatDoor
