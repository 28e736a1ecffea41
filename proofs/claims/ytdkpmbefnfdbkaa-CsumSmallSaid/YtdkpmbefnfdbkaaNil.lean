/- The flat functions of nothing. -/
import Derived.Test.YtdkpmbefnfdbkaaMk
namespace Go.Proofs.Ytdkpmbefnfdbkaa
open Go.RowKit

theorem mk_Ints (w : World) : Sem.run Try.prog (Instr.makeSlice 74 (Value.int IntKind.i64 0) (Value.int IntKind.i64 0)) w = .ok (.slice (some ⟨w.heap.size, 0, none⟩) 0 0) (w.alloc (.cells #[] 103)) := by kernel_rfl
set_option maxRecDepth 100000 in
set_option maxHeartbeats 2000000 in
theorem nil_Ints (w : World) : Calls Try.prog 56 #[.slice none 0 0] w fun e w' => e = .returned (.bool true) ∧ Fr [] w w' := by
  go_enter Try.func56, Try.ntmps56
  go_wp2
  go_loopw [3, 4] (fun kk _ wr => kk = .int .i64 0 ∧ Fr [] w wr) (fun _ _ _ => 0)
  case atStart => exact ⟨rfl, Fr.refl _ _⟩
  case round =>
    obtain ⟨rfl, hF⟩ := hrel
    have hm := mk_Ints wr
    go_wp2
    go_loopw [6, 7, 8] (fun kk _ _ wr => kk = .int .i64 0 ∧ Fr [] w wr) (fun _ _ _ _ => 0)
    case atStart => exact ⟨rfl, hF.alloc _⟩
    case round =>
      obtain ⟨rfl, hF⟩ := hrel
      go_wp2
      go_loopw [9, 10] (fun kk _ wr => kk = .int .i64 0 ∧ Fr [] w wr) (fun _ _ _ => 0)
      case atStart => exact ⟨rfl, hF⟩
      case round =>
        obtain ⟨rfl, hF⟩ := hrel
        go_wp2
        go_loopw [11, 12, 13] (fun kk _ _ wr => kk = .int .i64 0 ∧ Fr [] w wr) (fun _ _ _ _ => 0)
        case atStart => exact ⟨rfl, hF⟩
        case round =>
          obtain ⟨rfl, hF⟩ := hrel
          go_wp2
          go_loopw [14, 15] (fun kk _ wr => kk = .int .i64 0 ∧ Fr [] w wr) (fun _ _ _ => 0)
          case atStart => exact ⟨rfl, hF⟩
          case round =>
            obtain ⟨rfl, hF⟩ := hrel
            go_wp2
            go_ret
            exact ⟨rfl, hF⟩

theorem mk_Texts (w : World) : Sem.run Try.prog (Instr.makeSlice 75 (Value.int IntKind.i64 0) (Value.int IntKind.i64 0)) w = .ok (.slice (some ⟨w.heap.size, 0, none⟩) 0 0) (w.alloc (.cells #[] 104)) := by kernel_rfl
set_option maxRecDepth 100000 in
set_option maxHeartbeats 2000000 in
theorem nil_Texts (w : World) : Calls Try.prog 57 #[.slice none 0 0] w fun e w' => e = .returned (.bool true) ∧ Fr [] w w' := by
  go_enter Try.func57, Try.ntmps57
  go_wp2
  go_loopw [3, 4] (fun kk _ wr => kk = .int .i64 0 ∧ Fr [] w wr) (fun _ _ _ => 0)
  case atStart => exact ⟨rfl, Fr.refl _ _⟩
  case round =>
    obtain ⟨rfl, hF⟩ := hrel
    have hm := mk_Texts wr
    go_wp2
    go_loopw [6, 7, 8] (fun kk _ _ wr => kk = .int .i64 0 ∧ Fr [] w wr) (fun _ _ _ _ => 0)
    case atStart => exact ⟨rfl, hF.alloc _⟩
    case round =>
      obtain ⟨rfl, hF⟩ := hrel
      go_wp2
      go_loopw [9, 10] (fun kk _ wr => kk = .int .i64 0 ∧ Fr [] w wr) (fun _ _ _ => 0)
      case atStart => exact ⟨rfl, hF⟩
      case round =>
        obtain ⟨rfl, hF⟩ := hrel
        go_wp2
        go_loopw [11, 12, 13] (fun kk _ _ wr => kk = .int .i64 0 ∧ Fr [] w wr) (fun _ _ _ _ => 0)
        case atStart => exact ⟨rfl, hF⟩
        case round =>
          obtain ⟨rfl, hF⟩ := hrel
          go_wp2
          go_loopw [14, 15] (fun kk _ wr => kk = .int .i64 0 ∧ Fr [] w wr) (fun _ _ _ => 0)
          case atStart => exact ⟨rfl, hF⟩
          case round =>
            obtain ⟨rfl, hF⟩ := hrel
            go_wp2
            go_ret
            exact ⟨rfl, hF⟩

theorem mk_Words (w : World) : Sem.run Try.prog (Instr.makeSlice 76 (Value.int IntKind.i64 0) (Value.int IntKind.i64 0)) w = .ok (.slice (some ⟨w.heap.size, 0, none⟩) 0 0) (w.alloc (.cells #[] 106)) := by kernel_rfl
set_option maxRecDepth 100000 in
set_option maxHeartbeats 2000000 in
theorem nil_Words (w : World) : Calls Try.prog 59 #[.slice none 0 0] w fun e w' => e = .returned (.bool true) ∧ Fr [] w w' := by
  go_enter Try.func59, Try.ntmps59
  go_wp2
  go_loopw [3, 4] (fun kk _ wr => kk = .int .i64 0 ∧ Fr [] w wr) (fun _ _ _ => 0)
  case atStart => exact ⟨rfl, Fr.refl _ _⟩
  case round =>
    obtain ⟨rfl, hF⟩ := hrel
    have hm := mk_Words wr
    go_wp2
    go_loopw [6, 7, 8] (fun kk _ _ wr => kk = .int .i64 0 ∧ Fr [] w wr) (fun _ _ _ _ => 0)
    case atStart => exact ⟨rfl, hF.alloc _⟩
    case round =>
      obtain ⟨rfl, hF⟩ := hrel
      go_wp2
      go_loopw [9, 10] (fun kk _ wr => kk = .int .i64 0 ∧ Fr [] w wr) (fun _ _ _ => 0)
      case atStart => exact ⟨rfl, hF⟩
      case round =>
        obtain ⟨rfl, hF⟩ := hrel
        go_wp2
        go_loopw [11, 12, 13] (fun kk _ _ wr => kk = .int .i64 0 ∧ Fr [] w wr) (fun _ _ _ _ => 0)
        case atStart => exact ⟨rfl, hF⟩
        case round =>
          obtain ⟨rfl, hF⟩ := hrel
          go_wp2
          go_loopw [14, 15] (fun kk _ wr => kk = .int .i64 0 ∧ Fr [] w wr) (fun _ _ _ => 0)
          case atStart => exact ⟨rfl, hF⟩
          case round =>
            obtain ⟨rfl, hF⟩ := hrel
            go_wp2
            go_ret
            exact ⟨rfl, hF⟩

theorem mk_Keys (w : World) : Sem.run Try.prog (Instr.makeSlice 77 (Value.int IntKind.i64 0) (Value.int IntKind.i64 0)) w = .ok (.slice (some ⟨w.heap.size, 0, none⟩) 0 0) (w.alloc (.cells #[] 108)) := by kernel_rfl
set_option maxRecDepth 100000 in
set_option maxHeartbeats 2000000 in
theorem nil_Keys (w : World) : Calls Try.prog 60 #[.slice none 0 0] w fun e w' => e = .returned (.bool true) ∧ Fr [] w w' := by
  go_enter Try.func60, Try.ntmps60
  go_wp2
  go_loopw [3, 4] (fun kk _ wr => kk = .int .i64 0 ∧ Fr [] w wr) (fun _ _ _ => 0)
  case atStart => exact ⟨rfl, Fr.refl _ _⟩
  case round =>
    obtain ⟨rfl, hF⟩ := hrel
    have hm := mk_Keys wr
    go_wp2
    go_loopw [6, 7, 8] (fun kk _ _ wr => kk = .int .i64 0 ∧ Fr [] w wr) (fun _ _ _ _ => 0)
    case atStart => exact ⟨rfl, hF.alloc _⟩
    case round =>
      obtain ⟨rfl, hF⟩ := hrel
      go_wp2
      go_loopw [9, 10] (fun kk _ wr => kk = .int .i64 0 ∧ Fr [] w wr) (fun _ _ _ => 0)
      case atStart => exact ⟨rfl, hF⟩
      case round =>
        obtain ⟨rfl, hF⟩ := hrel
        go_wp2
        go_loopw [11, 12, 13] (fun kk _ _ wr => kk = .int .i64 0 ∧ Fr [] w wr) (fun _ _ _ _ => 0)
        case atStart => exact ⟨rfl, hF⟩
        case round =>
          obtain ⟨rfl, hF⟩ := hrel
          go_wp2
          go_loopw [14, 15] (fun kk _ wr => kk = .int .i64 0 ∧ Fr [] w wr) (fun _ _ _ => 0)
          case atStart => exact ⟨rfl, hF⟩
          case round =>
            obtain ⟨rfl, hF⟩ := hrel
            go_wp2
            go_ret
            exact ⟨rfl, hF⟩

theorem mk_FactsLists (w : World) : Sem.run Try.prog (Instr.makeSlice 78 (Value.int IntKind.i64 0) (Value.int IntKind.i64 0)) w = .ok (.slice (some ⟨w.heap.size, 0, none⟩) 0 0) (w.alloc (.cells #[] 112)) := by kernel_rfl
set_option maxRecDepth 100000 in
set_option maxHeartbeats 2000000 in
theorem nil_FactsLists (w : World) : Calls Try.prog 61 #[.slice none 0 0] w fun e w' => e = .returned (.bool true) ∧ Fr [] w w' := by
  go_enter Try.func61, Try.ntmps61
  go_wp2
  go_loopw [3, 4] (fun kk _ wr => kk = .int .i64 0 ∧ Fr [] w wr) (fun _ _ _ => 0)
  case atStart => exact ⟨rfl, Fr.refl _ _⟩
  case round =>
    obtain ⟨rfl, hF⟩ := hrel
    have hm := mk_FactsLists wr
    go_wp2
    go_loopw [6, 7, 8] (fun kk _ _ wr => kk = .int .i64 0 ∧ Fr [] w wr) (fun _ _ _ _ => 0)
    case atStart => exact ⟨rfl, hF.alloc _⟩
    case round =>
      obtain ⟨rfl, hF⟩ := hrel
      go_wp2
      go_loopw [9, 10] (fun kk _ wr => kk = .int .i64 0 ∧ Fr [] w wr) (fun _ _ _ => 0)
      case atStart => exact ⟨rfl, hF⟩
      case round =>
        obtain ⟨rfl, hF⟩ := hrel
        go_wp2
        go_loopw [11, 12, 13] (fun kk _ _ wr => kk = .int .i64 0 ∧ Fr [] w wr) (fun _ _ _ _ => 0)
        case atStart => exact ⟨rfl, hF⟩
        case round =>
          obtain ⟨rfl, hF⟩ := hrel
          go_wp2
          go_loopw [14, 15] (fun kk _ wr => kk = .int .i64 0 ∧ Fr [] w wr) (fun _ _ _ => 0)
          case atStart => exact ⟨rfl, hF⟩
          case round =>
            obtain ⟨rfl, hF⟩ := hrel
            go_wp2
            go_ret
            exact ⟨rfl, hF⟩

theorem mk_Prefixes (w : World) : Sem.run Try.prog (Instr.makeSlice 79 (Value.int IntKind.i64 0) (Value.int IntKind.i64 0)) w = .ok (.slice (some ⟨w.heap.size, 0, none⟩) 0 0) (w.alloc (.cells #[] 116)) := by kernel_rfl
set_option maxRecDepth 100000 in
set_option maxHeartbeats 2000000 in
theorem nil_Prefixes (w : World) : Calls Try.prog 62 #[.slice none 0 0] w fun e w' => e = .returned (.bool true) ∧ Fr [] w w' := by
  go_enter Try.func62, Try.ntmps62
  go_wp2
  go_loopw [3, 4] (fun kk _ wr => kk = .int .i64 0 ∧ Fr [] w wr) (fun _ _ _ => 0)
  case atStart => exact ⟨rfl, Fr.refl _ _⟩
  case round =>
    obtain ⟨rfl, hF⟩ := hrel
    have hm := mk_Prefixes wr
    go_wp2
    go_loopw [6, 7, 8] (fun kk _ _ wr => kk = .int .i64 0 ∧ Fr [] w wr) (fun _ _ _ _ => 0)
    case atStart => exact ⟨rfl, hF.alloc _⟩
    case round =>
      obtain ⟨rfl, hF⟩ := hrel
      go_wp2
      go_loopw [9, 10] (fun kk _ wr => kk = .int .i64 0 ∧ Fr [] w wr) (fun _ _ _ => 0)
      case atStart => exact ⟨rfl, hF⟩
      case round =>
        obtain ⟨rfl, hF⟩ := hrel
        go_wp2
        go_loopw [11, 12, 13] (fun kk _ _ wr => kk = .int .i64 0 ∧ Fr [] w wr) (fun _ _ _ _ => 0)
        case atStart => exact ⟨rfl, hF⟩
        case round =>
          obtain ⟨rfl, hF⟩ := hrel
          go_wp2
          go_loopw [14, 15] (fun kk _ wr => kk = .int .i64 0 ∧ Fr [] w wr) (fun _ _ _ => 0)
          case atStart => exact ⟨rfl, hF⟩
          case round =>
            obtain ⟨rfl, hF⟩ := hrel
            go_wp2
            go_ret
            exact ⟨rfl, hF⟩

theorem mk_Ranges (w : World) : Sem.run Try.prog (Instr.makeSlice 80 (Value.int IntKind.i64 0) (Value.int IntKind.i64 0)) w = .ok (.slice (some ⟨w.heap.size, 0, none⟩) 0 0) (w.alloc (.cells #[] 120)) := by kernel_rfl
set_option maxRecDepth 100000 in
set_option maxHeartbeats 2000000 in
theorem nil_Ranges (w : World) : Calls Try.prog 63 #[.slice none 0 0] w fun e w' => e = .returned (.bool true) ∧ Fr [] w w' := by
  go_enter Try.func63, Try.ntmps63
  go_wp2
  go_loopw [3, 4] (fun kk _ wr => kk = .int .i64 0 ∧ Fr [] w wr) (fun _ _ _ => 0)
  case atStart => exact ⟨rfl, Fr.refl _ _⟩
  case round =>
    obtain ⟨rfl, hF⟩ := hrel
    have hm := mk_Ranges wr
    go_wp2
    go_loopw [6, 7, 8] (fun kk _ _ wr => kk = .int .i64 0 ∧ Fr [] w wr) (fun _ _ _ _ => 0)
    case atStart => exact ⟨rfl, hF.alloc _⟩
    case round =>
      obtain ⟨rfl, hF⟩ := hrel
      go_wp2
      go_loopw [9, 10] (fun kk _ wr => kk = .int .i64 0 ∧ Fr [] w wr) (fun _ _ _ => 0)
      case atStart => exact ⟨rfl, hF⟩
      case round =>
        obtain ⟨rfl, hF⟩ := hrel
        go_wp2
        go_loopw [11, 12, 13] (fun kk _ _ wr => kk = .int .i64 0 ∧ Fr [] w wr) (fun _ _ _ _ => 0)
        case atStart => exact ⟨rfl, hF⟩
        case round =>
          obtain ⟨rfl, hF⟩ := hrel
          go_wp2
          go_loopw [14, 15] (fun kk _ wr => kk = .int .i64 0 ∧ Fr [] w wr) (fun _ _ _ => 0)
          case atStart => exact ⟨rfl, hF⟩
          case round =>
            obtain ⟨rfl, hF⟩ := hrel
            go_wp2
            go_ret
            exact ⟨rfl, hF⟩

theorem mk_Rules (w : World) : Sem.run Try.prog (Instr.makeSlice 81 (Value.int IntKind.i64 0) (Value.int IntKind.i64 0)) w = .ok (.slice (some ⟨w.heap.size, 0, none⟩) 0 0) (w.alloc (.cells #[] 124)) := by kernel_rfl
set_option maxRecDepth 100000 in
set_option maxHeartbeats 2000000 in
theorem nil_Rules (w : World) : Calls Try.prog 64 #[.slice none 0 0] w fun e w' => e = .returned (.bool true) ∧ Fr [] w w' := by
  go_enter Try.func64, Try.ntmps64
  go_wp2
  go_loopw [3, 4] (fun kk _ wr => kk = .int .i64 0 ∧ Fr [] w wr) (fun _ _ _ => 0)
  case atStart => exact ⟨rfl, Fr.refl _ _⟩
  case round =>
    obtain ⟨rfl, hF⟩ := hrel
    have hm := mk_Rules wr
    go_wp2
    go_loopw [6, 7, 8] (fun kk _ _ wr => kk = .int .i64 0 ∧ Fr [] w wr) (fun _ _ _ _ => 0)
    case atStart => exact ⟨rfl, hF.alloc _⟩
    case round =>
      obtain ⟨rfl, hF⟩ := hrel
      go_wp2
      go_loopw [9, 10] (fun kk _ wr => kk = .int .i64 0 ∧ Fr [] w wr) (fun _ _ _ => 0)
      case atStart => exact ⟨rfl, hF⟩
      case round =>
        obtain ⟨rfl, hF⟩ := hrel
        go_wp2
        go_loopw [11, 12, 13] (fun kk _ _ wr => kk = .int .i64 0 ∧ Fr [] w wr) (fun _ _ _ _ => 0)
        case atStart => exact ⟨rfl, hF⟩
        case round =>
          obtain ⟨rfl, hF⟩ := hrel
          go_wp2
          go_loopw [14, 15] (fun kk _ wr => kk = .int .i64 0 ∧ Fr [] w wr) (fun _ _ _ => 0)
          case atStart => exact ⟨rfl, hF⟩
          case round =>
            obtain ⟨rfl, hF⟩ := hrel
            go_wp2
            go_ret
            exact ⟨rfl, hF⟩

theorem mk_IntLists (w : World) : Sem.run Try.prog (Instr.makeSlice 82 (Value.int IntKind.i64 0) (Value.int IntKind.i64 0)) w = .ok (.slice (some ⟨w.heap.size, 0, none⟩) 0 0) (w.alloc (.cells #[] 74)) := by kernel_rfl
set_option maxRecDepth 100000 in
set_option maxHeartbeats 2000000 in
theorem nil_IntLists (w : World) : Calls Try.prog 65 #[.slice none 0 0] w fun e w' => e = .returned (.bool true) ∧ Fr [] w w' := by
  go_enter Try.func65, Try.ntmps65
  go_wp2
  go_loopw [3, 4] (fun kk _ wr => kk = .int .i64 0 ∧ Fr [] w wr) (fun _ _ _ => 0)
  case atStart => exact ⟨rfl, Fr.refl _ _⟩
  case round =>
    obtain ⟨rfl, hF⟩ := hrel
    have hm := mk_IntLists wr
    go_wp2
    go_loopw [6, 7, 8] (fun kk _ _ wr => kk = .int .i64 0 ∧ Fr [] w wr) (fun _ _ _ _ => 0)
    case atStart => exact ⟨rfl, hF.alloc _⟩
    case round =>
      obtain ⟨rfl, hF⟩ := hrel
      go_wp2
      go_loopw [9, 10] (fun kk _ wr => kk = .int .i64 0 ∧ Fr [] w wr) (fun _ _ _ => 0)
      case atStart => exact ⟨rfl, hF⟩
      case round =>
        obtain ⟨rfl, hF⟩ := hrel
        go_wp2
        go_loopw [11, 12, 13] (fun kk _ _ wr => kk = .int .i64 0 ∧ Fr [] w wr) (fun _ _ _ _ => 0)
        case atStart => exact ⟨rfl, hF⟩
        case round =>
          obtain ⟨rfl, hF⟩ := hrel
          go_wp2
          go_loopw [14, 15] (fun kk _ wr => kk = .int .i64 0 ∧ Fr [] w wr) (fun _ _ _ => 0)
          case atStart => exact ⟨rfl, hF⟩
          case round =>
            obtain ⟨rfl, hF⟩ := hrel
            go_wp2
            go_ret
            exact ⟨rfl, hF⟩

theorem mk_TextLists (w : World) : Sem.run Try.prog (Instr.makeSlice 83 (Value.int IntKind.i64 0) (Value.int IntKind.i64 0)) w = .ok (.slice (some ⟨w.heap.size, 0, none⟩) 0 0) (w.alloc (.cells #[] 75)) := by kernel_rfl
set_option maxRecDepth 100000 in
set_option maxHeartbeats 2000000 in
theorem nil_TextLists (w : World) : Calls Try.prog 66 #[.slice none 0 0] w fun e w' => e = .returned (.bool true) ∧ Fr [] w w' := by
  go_enter Try.func66, Try.ntmps66
  go_wp2
  go_loopw [3, 4] (fun kk _ wr => kk = .int .i64 0 ∧ Fr [] w wr) (fun _ _ _ => 0)
  case atStart => exact ⟨rfl, Fr.refl _ _⟩
  case round =>
    obtain ⟨rfl, hF⟩ := hrel
    have hm := mk_TextLists wr
    go_wp2
    go_loopw [6, 7, 8] (fun kk _ _ wr => kk = .int .i64 0 ∧ Fr [] w wr) (fun _ _ _ _ => 0)
    case atStart => exact ⟨rfl, hF.alloc _⟩
    case round =>
      obtain ⟨rfl, hF⟩ := hrel
      go_wp2
      go_loopw [9, 10] (fun kk _ wr => kk = .int .i64 0 ∧ Fr [] w wr) (fun _ _ _ => 0)
      case atStart => exact ⟨rfl, hF⟩
      case round =>
        obtain ⟨rfl, hF⟩ := hrel
        go_wp2
        go_loopw [11, 12, 13] (fun kk _ _ wr => kk = .int .i64 0 ∧ Fr [] w wr) (fun _ _ _ _ => 0)
        case atStart => exact ⟨rfl, hF⟩
        case round =>
          obtain ⟨rfl, hF⟩ := hrel
          go_wp2
          go_loopw [14, 15] (fun kk _ wr => kk = .int .i64 0 ∧ Fr [] w wr) (fun _ _ _ => 0)
          case atStart => exact ⟨rfl, hF⟩
          case round =>
            obtain ⟨rfl, hF⟩ := hrel
            go_wp2
            go_ret
            exact ⟨rfl, hF⟩

theorem mk_ByteLists (w : World) : Sem.run Try.prog (Instr.makeSlice 84 (Value.int IntKind.i64 0) (Value.int IntKind.i64 0)) w = .ok (.slice (some ⟨w.heap.size, 0, none⟩) 0 0) (w.alloc (.cells #[] 52)) := by kernel_rfl
set_option maxRecDepth 100000 in
set_option maxHeartbeats 2000000 in
theorem nil_ByteLists (w : World) : Calls Try.prog 67 #[.slice none 0 0] w fun e w' => e = .returned (.bool true) ∧ Fr [] w w' := by
  go_enter Try.func67, Try.ntmps67
  go_wp2
  go_loopw [3, 4] (fun kk _ wr => kk = .int .i64 0 ∧ Fr [] w wr) (fun _ _ _ => 0)
  case atStart => exact ⟨rfl, Fr.refl _ _⟩
  case round =>
    obtain ⟨rfl, hF⟩ := hrel
    have hm := mk_ByteLists wr
    go_wp2
    go_loopw [6, 7, 8] (fun kk _ _ wr => kk = .int .i64 0 ∧ Fr [] w wr) (fun _ _ _ _ => 0)
    case atStart => exact ⟨rfl, hF.alloc _⟩
    case round =>
      obtain ⟨rfl, hF⟩ := hrel
      go_wp2
      go_loopw [9, 10] (fun kk _ wr => kk = .int .i64 0 ∧ Fr [] w wr) (fun _ _ _ => 0)
      case atStart => exact ⟨rfl, hF⟩
      case round =>
        obtain ⟨rfl, hF⟩ := hrel
        go_wp2
        go_loopw [11, 12, 13] (fun kk _ _ wr => kk = .int .i64 0 ∧ Fr [] w wr) (fun _ _ _ _ => 0)
        case atStart => exact ⟨rfl, hF⟩
        case round =>
          obtain ⟨rfl, hF⟩ := hrel
          go_wp2
          go_loopw [14, 15] (fun kk _ wr => kk = .int .i64 0 ∧ Fr [] w wr) (fun _ _ _ => 0)
          case atStart => exact ⟨rfl, hF⟩
          case round =>
            obtain ⟨rfl, hF⟩ := hrel
            go_wp2
            go_ret
            exact ⟨rfl, hF⟩

theorem mk_RuleLists (w : World) : Sem.run Try.prog (Instr.makeSlice 85 (Value.int IntKind.i64 0) (Value.int IntKind.i64 0)) w = .ok (.slice (some ⟨w.heap.size, 0, none⟩) 0 0) (w.alloc (.cells #[] 81)) := by kernel_rfl
set_option maxRecDepth 100000 in
set_option maxHeartbeats 2000000 in
theorem nil_RuleLists (w : World) : Calls Try.prog 68 #[.slice none 0 0] w fun e w' => e = .returned (.bool true) ∧ Fr [] w w' := by
  go_enter Try.func68, Try.ntmps68
  go_wp2
  go_loopw [3, 4] (fun kk _ wr => kk = .int .i64 0 ∧ Fr [] w wr) (fun _ _ _ => 0)
  case atStart => exact ⟨rfl, Fr.refl _ _⟩
  case round =>
    obtain ⟨rfl, hF⟩ := hrel
    have hm := mk_RuleLists wr
    go_wp2
    go_loopw [6, 7, 8] (fun kk _ _ wr => kk = .int .i64 0 ∧ Fr [] w wr) (fun _ _ _ _ => 0)
    case atStart => exact ⟨rfl, hF.alloc _⟩
    case round =>
      obtain ⟨rfl, hF⟩ := hrel
      go_wp2
      go_loopw [9, 10] (fun kk _ wr => kk = .int .i64 0 ∧ Fr [] w wr) (fun _ _ _ => 0)
      case atStart => exact ⟨rfl, hF⟩
      case round =>
        obtain ⟨rfl, hF⟩ := hrel
        go_wp2
        go_loopw [11, 12, 13] (fun kk _ _ wr => kk = .int .i64 0 ∧ Fr [] w wr) (fun _ _ _ _ => 0)
        case atStart => exact ⟨rfl, hF⟩
        case round =>
          obtain ⟨rfl, hF⟩ := hrel
          go_wp2
          go_loopw [14, 15] (fun kk _ wr => kk = .int .i64 0 ∧ Fr [] w wr) (fun _ _ _ => 0)
          case atStart => exact ⟨rfl, hF⟩
          case round =>
            obtain ⟨rfl, hF⟩ := hrel
            go_wp2
            go_ret
            exact ⟨rfl, hF⟩

end Go.Proofs.Ytdkpmbefnfdbkaa
