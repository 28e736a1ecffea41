/- Numbers and their texts: decimal, number. -/
import Derived.Test.YtjfadoealhlccaaGreatDoorVars
namespace Go.Proofs.YtjfadoealhlccaaGreatDoor
open Go.RowKit
set_option linter.unusedVariables false
set_option maxRecDepth 20000

theorem neq_str {l : List UInt8} {s : ByteArray} (h : ¬ (⟨l.toArray⟩ : ByteArray) = s) : (l == s.toList) = false := by
  rw [beq_eq_false_iff_ne]
  intro e
  apply h
  rw [e, Lib.toList_data]
/-- The number whose text a string is. -/
def NumP (K : Nat) (k : IntKind) (W : World) (s : ByteArray) (e : Ending) (w' : World) : Prop :=
  Fr [] W w' ∧ ((∃ n, n < K ∧ s.data.toList = dec n ∧ e = .returned (.tuple #[.int k n, .bool true])) ∨ ((∀ n, n < K → s.data.toList ≠ dec n) ∧ e = .returned (.tuple #[.int k 0, .bool false])))
end Go.Proofs.YtjfadoealhlccaaGreatDoor
