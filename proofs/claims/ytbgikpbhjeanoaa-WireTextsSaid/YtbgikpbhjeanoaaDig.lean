/- digit. -/
import Derived.Test.YtbgikpbhjeanoaaBase
import Derived.Test.YtbgikpbhjeanoaaProg
import Derived.Lib.Bytealg
namespace Go.Proofs.Ytbgikpbhjeanoaa
open Go.RowKit

def hexd : List UInt8 := [48, 49, 50, 51, 52, 53, 54, 55, 56, 57, 97, 98, 99, 100, 101, 102]
/-- The number of a digit, -1 for what is none. -/
def dg (c : UInt8) : Int := Lib.indexByte hexd c
theorem idx_lt (l : List UInt8) (c : UInt8) : Lib.indexByte l c < l.length ∨ Lib.indexByte l c = -1 := by
  induction l with
  | nil => right; rfl
  | cons b l ih =>
    unfold Lib.indexByte
    split
    · left; simp
    · split
      · right; rfl
      · left
        rename_i h
        rcases ih with ih | ih
        · simp; omega
        · simp [ih] at h
theorem dg_lt (c : UInt8) : dg c < 16 := by
  rcases idx_lt hexd c with h | h
  · exact h
  · unfold dg; rw [h]; decide
theorem dg_ge (c : UInt8) : -1 ≤ dg c := Lib.indexByte_ge _ _

theorem hexd_run (c : UInt8) (w : World) : Sem.run Try.prog (callFunc 98 #[Value.string ⟨#[48, 49, 50, 51, 52, 53, 54, 55, 56, 57, 97, 98, 99, 100, 101, 102]⟩, Value.int IntKind.u8 c.toNat]) w = .ok (.value (.int .i64 (dg c))) w := by
  rw [run_callFunc_extern Try.func98 (by kernel_rfl) (by kernel_rfl) (by kernel_rfl) (e := Extern.BytealgIndexByte.indexByte) (by kernel_rfl), Lib.run_indexByteString]
  have h : ((c.toNat : Int)).toNat.toUInt8 = c := by simp
  rw [h]
  rfl

set_option maxRecDepth 20000 in
set_option maxHeartbeats 400000 in
theorem digit_yes (c : UInt8) (w : World) (h : 0 ≤ dg c) :
    Calls Try.prog 63 #[.int .u8 c.toNat] w fun e w' => e = .returned (.int .u8 (dg c)) ∧ w = w' := by
  have hr := hexd_run c w
  have hlt := dg_lt c
  go_enter Try.func63, Try.ntmps63
  go_wp2
  go_ret
  exact ⟨rfl, rfl⟩

set_option maxRecDepth 20000 in
set_option maxHeartbeats 400000 in
theorem digit_no (c : UInt8) (w : World) (h : dg c < 0) :
    Calls Try.prog 63 #[.int .u8 c.toNat] w fun e w' => e = .panicked [{ v := .iface 35 (.int .i64 10), recovered := false }] ∧ w = w' := by
  have hr := hexd_run c w
  go_enter Try.func63, Try.ntmps63
  go_wp2
  exact ⟨rfl, rfl, rfl⟩
end Go.Proofs.Ytbgikpbhjeanoaa
