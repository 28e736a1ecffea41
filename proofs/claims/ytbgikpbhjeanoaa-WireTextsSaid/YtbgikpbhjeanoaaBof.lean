/- bytesOf: a number taken apart. -/
import Derived.Test.YtbgikpbhjeanoaaBase
import Derived.Test.YtbgikpbhjeanoaaProg
namespace Go.Proofs.Ytbgikpbhjeanoaa
open Go.RowKit

theorem mk1 (w : World) : Sem.run Try.prog (Instr.makeSlice 22 (Value.int IntKind.i64 1) (Value.int IntKind.i64 1)) w = .ok (.slice (some ⟨w.heap.size, 0, none⟩) 1 1) (w.alloc (.cells #[.int .u8 0] 5)) := by kernel_rfl
theorem mk2 (w : World) : Sem.run Try.prog (Instr.makeSlice 22 (Value.int IntKind.i64 2) (Value.int IntKind.i64 2)) w = .ok (.slice (some ⟨w.heap.size, 0, none⟩) 2 2) (w.alloc (.cells #[.int .u8 0, .int .u8 0] 5)) := by kernel_rfl
theorem mk4 (w : World) : Sem.run Try.prog (Instr.makeSlice 22 (Value.int IntKind.i64 4) (Value.int IntKind.i64 4)) w = .ok (.slice (some ⟨w.heap.size, 0, none⟩) 4 4) (w.alloc (.cells #[.int .u8 0, .int .u8 0, .int .u8 0, .int .u8 0] 5)) := by kernel_rfl

set_option maxRecDepth 20000 in
set_option maxHeartbeats 400000 in
theorem bof8 (v : Int) (w : World) (h0 : 0 ≤ v) (h1 : v < 256) :
    Calls Try.prog 51 #[.int .u8 v, .int .i64 1] w fun e w' => e = .returned (.slice (some ⟨w.heap.size, 0, none⟩) 1 1) ∧ w' = w.alloc (.cells #[.int .u8 v] 5) := by
  have hm := mk1 w
  go_enter Try.func51, Try.ntmps51
  go_wp2
  go_rounds 2
  go_ret
  exact ⟨rfl, rfl⟩

set_option maxRecDepth 20000 in
set_option maxHeartbeats 400000 in
theorem bof16 (v : Int) (w : World) (h0 : 0 ≤ v) (h1 : v < 65536) :
    Calls Try.prog 52 #[.int .u16 v, .int .i64 2] w fun e w' => e = .returned (.slice (some ⟨w.heap.size, 0, none⟩) 2 2) ∧ w' = w.alloc (.cells #[.int .u8 (v / 256), .int .u8 (v % 256)] 5) := by
  have hm := mk2 w
  go_enter Try.func52, Try.ntmps52
  go_wp2
  go_rounds 3
  go_ret
  exact ⟨rfl, rfl⟩

set_option maxRecDepth 20000 in
set_option maxHeartbeats 400000 in
theorem bof32 (v : Int) (w : World) (h0 : 0 ≤ v) (h1 : v < 4294967296) :
    Calls Try.prog 53 #[.int .u32 v, .int .i64 4] w fun e w' => e = .returned (.slice (some ⟨w.heap.size, 0, none⟩) 4 4) ∧ w' = w.alloc (.cells #[.int .u8 (v / 16777216), .int .u8 (v / 65536 % 256), .int .u8 (v / 256 % 256), .int .u8 (v % 256)] 5) := by
  have hm := mk4 w
  go_enter Try.func53, Try.ntmps53
  go_wp2
  go_rounds 5
  go_ret
  exact ⟨rfl, rfl⟩

end Go.Proofs.Ytbgikpbhjeanoaa
