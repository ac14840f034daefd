/- Two packets compared. -/
import Derived.Test.YtlicgblagkkcfaaGreatDoorAb
import Derived.Test.YtlicgblagkkcfaaGreatDoorAh
namespace Go.Proofs.YtlicgblagkkcfaaGreatDoor
open Go.RowKit
set_option linter.unusedVariables false
def Pk.data (p : Pk) : List Int := [p.d0, p.d1, p.d2, p.d3, p.d4, p.d5, p.d6, p.d7, p.d8, p.d9]
def pkEq (p q : Pk) : Bool := (p.k == q.k) && ((p.c == q.c) && decide (p.data = q.data))
theorem packet_fields : (Tryz.prog.fieldsOf 92).toList = [{ name := "Kind", type := 3, offset := 0, embedded := false, tag := "", pkgPath := "", byteOffset := 0 }, { name := "Counter", type := 3, offset := 1, embedded := false, tag := "", pkgPath := "", byteOffset := 8 }, { name := "Data", type := 87, offset := 2, embedded := false, tag := "", pkgPath := "", byteOffset := 16 }] := by kernel_rfl
theorem run_equalIn_data (p q : Pk) (d : Nat) (w : World) : (Op.equalIn (d + 2) 87 (.agg #[.int .u8 p.d0, .int .u8 p.d1, .int .u8 p.d2, .int .u8 p.d3, .int .u8 p.d4, .int .u8 p.d5, .int .u8 p.d6, .int .u8 p.d7, .int .u8 p.d8, .int .u8 p.d9]) (.agg #[.int .u8 q.d0, .int .u8 q.d1, .int .u8 q.d2, .int .u8 q.d3, .int .u8 q.d4, .int .u8 q.d5, .int .u8 q.d6, .int .u8 q.d7, .int .u8 q.d8, .int .u8 q.d9])).run Tryz.prog w = .ok (decide (p.data = q.data)) w := by
  have hn := Tryz.sizeOf5
  have h := eqElems_u8 d p.data q.data 10 rfl rfl 10 0 rfl w
  rw [run_equalIn_array w (d + 1) 87 5 10 1 _ _ Tryz.underlying87 hn]
  exact h
theorem run_equalIn_packet (p q : Pk) (w : World) : (Op.equalIn 10000 92 (.agg #[.int .i64 p.k, .int .i64 p.c, .int .u8 p.d0, .int .u8 p.d1, .int .u8 p.d2, .int .u8 p.d3, .int .u8 p.d4, .int .u8 p.d5, .int .u8 p.d6, .int .u8 p.d7, .int .u8 p.d8, .int .u8 p.d9]) (.agg #[.int .i64 q.k, .int .i64 q.c, .int .u8 q.d0, .int .u8 q.d1, .int .u8 q.d2, .int .u8 q.d3, .int .u8 q.d4, .int .u8 q.d5, .int .u8 q.d6, .int .u8 q.d7, .int .u8 q.d8, .int .u8 q.d9])).run Tryz.prog w = .ok (pkEq p q) w := by
  have h87 := Tryz.isAgg87
  have hs := Tryz.sizeOf87
  have h3 := Tryz.isAgg3
  rw [show (10000 : Nat) = 9999 + 1 from rfl, run_equalIn_struct w 9999 92 _ _ (by kernel_rfl) (by kernel_rfl), packet_fields]
  have hd := run_equalIn_data p q 9997 w
  simp only [Op.eqFields, Sem.run_bind, Sem.run_ite]
  unfold pkEq
  cases hk : p.k == q.k <;> cases hc : p.c == q.c
  all_goals simp [part, h3, h87, hs, run_equalIn_int w 9998 3 .i64 .i64 _ _ Tryz.underlying3, hk, hc, Result.andThen_ok]
  rw [hd]
  by_cases h : p.data = q.data <;> simp [h]

end Go.Proofs.YtlicgblagkkcfaaGreatDoor
