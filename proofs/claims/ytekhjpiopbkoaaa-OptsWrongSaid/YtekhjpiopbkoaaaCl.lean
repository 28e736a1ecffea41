/- slices.Clone at []byte. -/
import Derived.Test.YtekhjpiopbkoaaaApp
import Derived.Test.YtekhjpiopbkoaaaProg
namespace Go.Proofs.Ytekhjpiopbkoaaa
open Go.RowKit

theorem info8 : (Try.prog.info? 5).map (fun i => (i.zero, i.size, i.bytes)) = some (some (.int .u8 0), 1, 1) := by kernel_rfl
theorem el8 : El Try.prog 27 5 1 1 := .of (z := .int .u8 0) Try.underlying27 info8 rfl (by decide)

theorem nil_of_rd {w : World} {bs : List UInt8} (h : Rd w none (B8 bs)) : bs = [] := by
  cases bs with
  | nil => rfl
  | cons x _ => obtain ⟨_, h, _⟩ := h 0 _ rfl; cases h

end Go.Proofs.Ytekhjpiopbkoaaa
