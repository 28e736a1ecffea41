/- Inside, Meet. -/
import Derived.Test.YteblkheodjibbaaDoorPre
namespace Go.Proofs.YteblkheodjibbaaDoor
open Go.RowKit
set_option linter.unusedVariables false
set_option linter.unnecessarySimpa false
set_option maxRecDepth 20000

set_option maxHeartbeats 1000000 in
theorem inside_any (a m b n : Nat) (ha : a < 4294967296) (hm : m < 256) (hb : b < 4294967296) (hn : n < 256) (W : World) : Calls Tryd.prog 19 #[.agg #[.int .u32 a, .int .u8 m], .agg #[.int .u32 b, .int .u8 n]] W fun e w' => e = .returned (.bool (decide (PI a m b n))) ∧ Fr [] W w' := by
  have hR := fun W => right_any a m ha hm W
  by_cases hp : PR a m
  · rw [decide_eq_true hp] at hR
    by_cases hmn : n ≤ m
    · have hH := fun W => has_any b n a hb hn ha W
      have hd : decide (PI a m b n) = decide (PH b n a) := by
        rw [Bool.eq_iff_iff, decide_eq_true_iff, decide_eq_true_iff]
        exact ⟨fun h => h.2.2, fun h => ⟨hp, hmn, h⟩⟩
      rw [hd]
      generalize decide (PH b n a) = B at hH ⊢
      clear hd
      have g1 : decide (n ≤ m) = true := decide_eq_true hmn
      have g2 : decide ((n : Int) ≤ (m : Int)) = true := by rw [decide_eq_true_iff]; omega
      have g3 : (n : Int) ≤ (m : Int) := by omega
      go_enter Tryd.func19, Tryd.ntmps19
      go_wp2_with fail
      refine (hR _).mono ?_
      rintro e w1 ⟨rfl, hF1⟩
      have hc1 : w1.cell? ⟨W.heap.size, 1, none⟩ = some (.int .u8 m) := hF1.cell (old_cell (new_cell _ _ _ 1 _ rfl) _) (by simp)
      have hc0 : w1.cell? ⟨W.heap.size, 0, none⟩ = some (.int .u32 a) := hF1.cell (old_cell (new_cell _ _ _ 0 _ rfl) _) (by simp)
      have hd0 : w1.cell? ⟨W.heap.size + 1, 0, none⟩ = some (.int .u32 b) := hF1.cell (by have := new_cell (W.alloc (.cells #[.int .u32 a, .int .u8 m] 34)) #[.int .u32 b, .int .u8 n] 34 0 _ rfl; simpa using this) (by simp)
      have hd1 : w1.cell? ⟨W.heap.size + 1, 1, none⟩ = some (.int .u8 n) := hF1.cell (by have := new_cell (W.alloc (.cells #[.int .u32 a, .int .u8 m] 34)) #[.int .u32 b, .int .u8 n] 34 1 _ rfl; simpa using this) (by simp)
      replace hF1 := (((Fr.refl [] W).alloc _).alloc _).trans hF1
      go_wp2_with fail
      refine (hH _).mono ?_
      rintro e w2 ⟨rfl, hF2⟩
      go_wp2_with fail
      go_ret
      exact ⟨rfl, hF1.trans hF2⟩
    · have hd : decide (PI a m b n) = false := decide_eq_false fun h => hmn h.2.1
      rw [hd]
      have g1 : decide (n ≤ m) = false := decide_eq_false hmn
      have g2 : decide ((n : Int) ≤ (m : Int)) = false := by rw [decide_eq_false_iff_not]; omega
      have g3 : ¬ (n : Int) ≤ (m : Int) := by omega
      go_enter Tryd.func19, Tryd.ntmps19
      go_wp2_with fail
      refine (hR _).mono ?_
      rintro e w1 ⟨rfl, hF1⟩
      have hc1 : w1.cell? ⟨W.heap.size, 1, none⟩ = some (.int .u8 m) := hF1.cell (old_cell (new_cell _ _ _ 1 _ rfl) _) (by simp)
      have hd1 : w1.cell? ⟨W.heap.size + 1, 1, none⟩ = some (.int .u8 n) := hF1.cell (by have := new_cell (W.alloc (.cells #[.int .u32 a, .int .u8 m] 34)) #[.int .u32 b, .int .u8 n] 34 1 _ rfl; simpa using this) (by simp)
      replace hF1 := (((Fr.refl [] W).alloc _).alloc _).trans hF1
      go_wp2_with fail
      go_ret
      exact ⟨rfl, hF1⟩
  · rw [decide_eq_false hp] at hR
    have hd : decide (PI a m b n) = false := decide_eq_false fun h => hp h.1
    rw [hd]
    go_enter Tryd.func19, Tryd.ntmps19
    go_wp2_with fail
    refine (hR _).mono ?_
    rintro e w1 ⟨rfl, hF1⟩
    replace hF1 := (((Fr.refl [] W).alloc _).alloc _).trans hF1
    go_wp2_with fail
    go_ret
    exact ⟨rfl, hF1⟩

end Go.Proofs.YteblkheodjibbaaDoor
