/- demands: the map of closures; Right. -/
import Derived.Test.YtekhjpiopbkoaaaOmp
import Derived.Deep.QuietTactic
namespace Go.Proofs.Ytekhjpiopbkoaaa
open Go.RowKit
set_option linter.unusedVariables false
set_option maxRecDepth 100000

def demE : Array MapEntry := #[⟨.int .u8 0, (.func (.func 45) #[] #[]), 0⟩, ⟨.int .u8 1, (.func (.func 46) #[] #[]), 1⟩, ⟨.int .u8 7, (.func (.func 43) #[] #[]), 2⟩, ⟨.int .u8 131, (.func (.func 43) #[] #[]), 3⟩, ⟨.int .u8 137, (.func (.func 43) #[] #[]), 4⟩, ⟨.int .u8 68, (.func (.func 47) #[] #[]), 5⟩, ⟨.int .u8 148, (.func (.func 49) #[] #[]), 6⟩]
def DemP (w : World) (e : Ending) (w' : World) : Prop := e = .returned (.map (some w.heap.size)) ∧ w'.heap[w.heap.size]? = some (.map demE 7) ∧ Fr [] w w'
set_option maxHeartbeats 1000000 in
theorem demands_any (w : World) : Calls Try.prog 26 #[] w (DemP w) := by
  have hmk := @run_makeMap Try.prog
  have hb0 : (w.alloc (.map #[] 0)).heap[w.heap.size]? = some (.map #[] 0) := heap_alloc_new w _
  have hF0 : Fr [] w (w.alloc (.map #[] 0)) := (Fr.refl _ _).alloc _
  obtain ⟨w1, hr0, hb1, hG0⟩ := ins_run Try.underlying68 Try.underlying5 (w.alloc (.map #[] 0)) w.heap.size (#[] : Array MapEntry) 0 hb0 0 (.func (.func 45) #[] #[]) rfl
  have hF1 := hF0.trans2 hG0 (by simp)
  obtain ⟨w2, hr1, hb2, hG1⟩ := ins_run Try.underlying68 Try.underlying5 w1 w.heap.size (#[⟨.int .u8 0, (.func (.func 45) #[] #[]), 0⟩] : Array MapEntry) 1 hb1 1 (.func (.func 46) #[] #[]) rfl
  have hF2 := hF1.trans2 hG1 (by simp)
  obtain ⟨w3, hr2, hb3, hG2⟩ := ins_run Try.underlying68 Try.underlying5 w2 w.heap.size (#[⟨.int .u8 0, (.func (.func 45) #[] #[]), 0⟩, ⟨.int .u8 1, (.func (.func 46) #[] #[]), 1⟩] : Array MapEntry) 2 hb2 7 (.func (.func 43) #[] #[]) rfl
  have hF3 := hF2.trans2 hG2 (by simp)
  obtain ⟨w4, hr3, hb4, hG3⟩ := ins_run Try.underlying68 Try.underlying5 w3 w.heap.size (#[⟨.int .u8 0, (.func (.func 45) #[] #[]), 0⟩, ⟨.int .u8 1, (.func (.func 46) #[] #[]), 1⟩, ⟨.int .u8 7, (.func (.func 43) #[] #[]), 2⟩] : Array MapEntry) 3 hb3 131 (.func (.func 43) #[] #[]) rfl
  have hF4 := hF3.trans2 hG3 (by simp)
  obtain ⟨w5, hr4, hb5, hG4⟩ := ins_run Try.underlying68 Try.underlying5 w4 w.heap.size (#[⟨.int .u8 0, (.func (.func 45) #[] #[]), 0⟩, ⟨.int .u8 1, (.func (.func 46) #[] #[]), 1⟩, ⟨.int .u8 7, (.func (.func 43) #[] #[]), 2⟩, ⟨.int .u8 131, (.func (.func 43) #[] #[]), 3⟩] : Array MapEntry) 4 hb4 137 (.func (.func 43) #[] #[]) rfl
  have hF5 := hF4.trans2 hG4 (by simp)
  obtain ⟨w6, hr5, hb6, hG5⟩ := ins_run Try.underlying68 Try.underlying5 w5 w.heap.size (#[⟨.int .u8 0, (.func (.func 45) #[] #[]), 0⟩, ⟨.int .u8 1, (.func (.func 46) #[] #[]), 1⟩, ⟨.int .u8 7, (.func (.func 43) #[] #[]), 2⟩, ⟨.int .u8 131, (.func (.func 43) #[] #[]), 3⟩, ⟨.int .u8 137, (.func (.func 43) #[] #[]), 4⟩] : Array MapEntry) 5 hb5 68 (.func (.func 47) #[] #[]) rfl
  have hF6 := hF5.trans2 hG5 (by simp)
  obtain ⟨w7, hr6, hb7, hG6⟩ := ins_run Try.underlying68 Try.underlying5 w6 w.heap.size (#[⟨.int .u8 0, (.func (.func 45) #[] #[]), 0⟩, ⟨.int .u8 1, (.func (.func 46) #[] #[]), 1⟩, ⟨.int .u8 7, (.func (.func 43) #[] #[]), 2⟩, ⟨.int .u8 131, (.func (.func 43) #[] #[]), 3⟩, ⟨.int .u8 137, (.func (.func 43) #[] #[]), 4⟩, ⟨.int .u8 68, (.func (.func 47) #[] #[]), 5⟩] : Array MapEntry) 6 hb6 148 (.func (.func 49) #[] #[]) rfl
  have hF7 := hF6.trans2 hG6 (by simp)
  have HB := Lib.hid hb7
  have HF := Lib.hid hF7
  clear hb0 hF0 hG0 hb1 hF1 hG1 hb2 hF2 hG2 hb3 hF3 hG3 hb4 hF4 hG4 hb5 hF5 hG5 hb6 hF6 hG6 hb7 hF7
  go_enter Try.func26, Try.ntmps26
  go_wp2
  go_ret
  exact ⟨rfl, HB.out, HF.out⟩
end Go.Proofs.Ytekhjpiopbkoaaa
