/- Keys turned and compared; ranges. -/
import Derived.Test.YtjfadoealhlccaaGreatDoorKey
import Derived.Laws.Rows
namespace Go.Proofs.YtjfadoealhlccaaGreatDoor
open Go.RowKit
set_option linter.unusedVariables false
set_option linter.unnecessarySimpa false
set_option maxRecDepth 20000

theorem last_block (w : World) (o : Obj) : (w.alloc o).heap[w.heap.size]? = some o := by
  show (w.heap.push o)[w.heap.size]? = some o
  simp
def cmpN (x y : Nat) : Int := if x < y then -1 else if y < x then 1 else 0
theorem cmpN_self (x : Nat) : cmpN x x = 0 := by simp [cmpN]
theorem nan_any (x : Nat) (W : World) : Calls Tryz.prog 61 #[.int .u32 x] W fun e w' => e = .returned (.bool false) ∧ w' = W := by
  go_enter Tryz.func61, Tryz.ntmps61
  go_wp2
  go_ret
  exact ⟨by simp, rfl⟩
theorem cmp_any (x y : Nat) (W : World) : Calls Tryz.prog 45 #[.int .u32 x, .int .u32 y] W fun e w' => e = .returned (.int .i64 (cmpN x y)) ∧ w' = W := by
  have g1 : cmpN x y = if (x : Int) < y then -1 else if (y : Int) < x then 1 else 0 := by unfold cmpN; simp only [Int.ofNat_lt]
  rw [g1]
  by_cases h1 : (x : Int) < y
  · rw [if_pos h1]
    have h2 : x < y := by omega
    go_enter Tryz.func45, Tryz.ntmps45
    go_wp2_with (first | (go_at_call 61; refine (nan_any _ _).mono ?_; rintro e w' ⟨rfl, rfl⟩))
    go_ret
    exact ⟨rfl, rfl⟩
  · rw [if_neg h1]
    have h2 : ¬ x < y := by omega
    by_cases h3 : (y : Int) < x
    · rw [if_pos h3]
      have h4 : y < x := by omega
      go_enter Tryz.func45, Tryz.ntmps45
      go_wp2_with (first | (go_at_call 61; refine (nan_any _ _).mono ?_; rintro e w' ⟨rfl, rfl⟩))
      go_ret
      exact ⟨rfl, rfl⟩
    · rw [if_neg h3]
      have h4 : ¬ y < x := by omega
      go_enter Tryz.func45, Tryz.ntmps45
      go_wp2_with (first | (go_at_call 61; refine (nan_any _ _).mono ?_; rintro e w' ⟨rfl, rfl⟩))
      go_ret
      exact ⟨rfl, rfl⟩

/-- One part more. -/
def thenC (o c : Int) : Int := if o = 0 then c else o
/-- The box that holds the order so far. -/
def OB (w : World) (g : Nat) (o : Int) : Prop := w.cell? ⟨g, 0, none⟩ = some (.int .i64 o) ∧ w.frozen? ⟨g, 0, none⟩ = false
end Go.Proofs.YtjfadoealhlccaaGreatDoor
