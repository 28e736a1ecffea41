/- '==' at structs of integers, as one Bool. -/
import Derived.Test.YteblkheodjibbaaDoorBase
import Derived.Test.YteblkheodjibbaaDoorProg
import Derived.Laws.StructEq
namespace Go.Proofs.YteblkheodjibbaaDoor
open Go.RowKit
set_option linter.unusedVariables false
set_option maxRecDepth 20000
theorem eq_prefix (x1 x2 y1 y2 : Int) (w : World) : Sem.run Tryd.prog (Op.equalIn 10000 34 (.agg #[.int .u32 x1, .int .u8 x2]) (.agg #[.int .u32 y1, .int .u8 y2])) w = .ok (x1 == y1 && x2 == y2) w := by
  have u1 := Tryd.underlying22
  have a1 := Tryd.isAgg22
  have z1 := Tryd.sizeOf22
  have u2 := Tryd.underlying5
  have a2 := Tryd.isAgg5
  have z2 := Tryd.sizeOf5
  have hS : Tryd.prog.underlying 34 = some (.struct (Tryd.prog.fieldsOf 34)) := by kernel_rfl
  have hp : Tryd.prog.stoodInHeld 34 = false := by kernel_rfl
  rw [show (10000 : Nat) = 9999 + 1 from rfl, run_equalIn_agg w 9999 34 _ _ hS hp]
  simp only [Program.fieldsOf, Tryd.underlying34]
  go_simp
  by_cases h1 : x1 = y1 <;> by_cases h2 : x2 = y2 <;> simp [h1, h2]
theorem eq_key (x1 x2 x3 x4 x5 y1 y2 y3 y4 y5 : Int) (w : World) : Sem.run Tryd.prog (Op.equalIn 10000 27 (.agg #[.int .u8 x1, .int .u32 x2, .int .u32 x3, .int .u16 x4, .int .u16 x5]) (.agg #[.int .u8 y1, .int .u32 y2, .int .u32 y3, .int .u16 y4, .int .u16 y5])) w = .ok (x1 == y1 && (x2 == y2 && (x3 == y3 && (x4 == y4 && x5 == y5)))) w := by
  have u1 := Tryd.underlying22
  have a1 := Tryd.isAgg22
  have z1 := Tryd.sizeOf22
  have u2 := Tryd.underlying5
  have a2 := Tryd.isAgg5
  have z2 := Tryd.sizeOf5
  have u3 := Tryd.underlying23
  have a3 := Tryd.isAgg23
  have z3 := Tryd.sizeOf23
  have hS : Tryd.prog.underlying 27 = some (.struct (Tryd.prog.fieldsOf 27)) := by kernel_rfl
  have hp : Tryd.prog.stoodInHeld 27 = false := by kernel_rfl
  rw [show (10000 : Nat) = 9999 + 1 from rfl, run_equalIn_agg w 9999 27 _ _ hS hp]
  simp only [Program.fieldsOf, Tryd.underlying27]
  go_simp
  by_cases h1 : x1 = y1 <;> by_cases h2 : x2 = y2 <;> by_cases h3 : x3 = y3 <;> by_cases h4 : x4 = y4 <;> by_cases h5 : x5 = y5 <;> simp [h1, h2, h3, h4, h5]
theorem eq_range (x1 x2 y1 y2 : Int) (w : World) : Sem.run Tryd.prog (Op.equalIn 10000 25 (.agg #[.int .u16 x1, .int .u16 x2]) (.agg #[.int .u16 y1, .int .u16 y2])) w = .ok (x1 == y1 && x2 == y2) w := by
  have u1 := Tryd.underlying23
  have a1 := Tryd.isAgg23
  have z1 := Tryd.sizeOf23
  have hS : Tryd.prog.underlying 25 = some (.struct (Tryd.prog.fieldsOf 25)) := by kernel_rfl
  have hp : Tryd.prog.stoodInHeld 25 = false := by kernel_rfl
  rw [show (10000 : Nat) = 9999 + 1 from rfl, run_equalIn_agg w 9999 25 _ _ hS hp]
  simp only [Program.fieldsOf, Tryd.underlying25]
  go_simp
  by_cases h1 : x1 = y1 <;> by_cases h2 : x2 = y2 <;> simp [h1, h2]
end Go.Proofs.YteblkheodjibbaaDoor
