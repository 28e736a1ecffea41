/- Keys turned and compared; ranges. -/
import Derived.Test.YteblkheodjibbaaDoorKey
import Derived.Laws.Rows
namespace Go.Proofs.YteblkheodjibbaaDoor
open Go.RowKit
set_option linter.unusedVariables false
set_option linter.unnecessarySimpa false
set_option maxRecDepth 20000

theorem last_block (w : World) (o : Obj) : (w.alloc o).heap[w.heap.size]? = some o := by
  show (w.heap.push o)[w.heap.size]? = some o
  simp
set_option maxHeartbeats 1000000 in
theorem turn_any (k a b p q : Nat) (W : World) : Calls Tryd.prog 21 #[KV k a b p q] W fun e w' => e = .returned (KV k b a q p) ∧ Fr [] W w' := by
  unfold KV
  go_enter Tryd.func21, Tryd.ntmps21
  go_wp2
  (try simp only [Exit.inBlock, Exit.then])
  have hl := last_block (W.alloc (.cells #[.int .u8 k, .int .u32 a, .int .u32 b, .int .u16 p, .int .u16 q] 27)) (.cells #[.int .u8 k, .int .u32 b, .int .u32 a, .int .u16 q, .int .u16 p] 27)
  refine bodyPost_ret (results_cell_row rfl _ _ (W.heap.size + 1) _ _ _ _ rfl (by simpa using hl) Tryd.underlying27 rfl (by kernel_rfl)) rfl ⟨rfl, ((Fr.refl _ _).alloc _).alloc _⟩

theorem rightRange_any (a b : Nat) (W : World) : Calls Tryd.prog 29 #[.agg #[.int .u16 a, .int .u16 b]] W fun e w' => e = .returned (.bool (decide (a ≤ b))) ∧ Fr [] W w' := by
  go_enter Tryd.func29, Tryd.ntmps29
  go_wp2
  go_ret
  exact ⟨rfl, (Fr.refl _ _).alloc _⟩

def cmpN (x y : Nat) : Int := if x < y then -1 else if y < x then 1 else 0
theorem cmpN_self (x : Nat) : cmpN x x = 0 := by simp [cmpN]

/-- One part more. -/
def thenC (o c : Int) : Int := if o = 0 then c else o
/-- The box that holds the order so far. -/
def OB (w : World) (g : Nat) (o : Int) : Prop := w.cell? ⟨g, 0, none⟩ = some (.int .i64 o) ∧ w.frozen? ⟨g, 0, none⟩ = false
end Go.Proofs.YteblkheodjibbaaDoor
