/- routes: is an option right, and has it addresses? -/
import Derived.Test.YtekhjpiopbkoaaaOro
namespace Go.Proofs.Ytekhjpiopbkoaaa
open Go.RowKit
set_option linter.unusedVariables false
set_option maxRecDepth 100000

def rtsB (k : Nat) (xs : List UInt8) : Bool := if k = 7 ∨ k = 131 ∨ k = 137 then rightO k xs else false
set_option maxHeartbeats 1000000 in
theorem routes_any (k : Nat) (A : Option Addr) (n c : Nat) (xs : List UInt8) (w : World) (hl : xs.length = n) (hrd : Rd w A (B8 xs)) (hn : n ≤ 140737488351232) (hk : k < 256) :
    Calls Try.prog 27 #[OV k A n c] w fun e w' => e = .returned (.bool (rtsB k xs)) ∧ Fr [] w w' := by
  have hF : Fr [] w (w.alloc (.cells #[.int .u8 k, .slice A n c] 35)) := (Fr.refl _ _).alloc _
  have cR := right6_any k A n c xs (w.alloc (.cells #[.int .u8 k, .slice A n c] 35)) hl (hrd.fr hF (by simp)) hn hk
  unfold rtsB
  by_cases h : k = 7 ∨ k = 131 ∨ k = 137
  · rw [if_pos h]
    generalize rightO k xs = r at cR ⊢
    unfold OV at cR ⊢
    have CR := Lib.hid cR
    have HF := Lib.hid hF
    clear cR hl hrd hF
    rcases h with rfl | rfl | rfl
    all_goals
      go_enter Try.func27, Try.ntmps27
      go_wp2_with fail
      refine CR.out.mono ?_
      rintro e w' ⟨rfl, hF1⟩
      go_wp2
      go_ret
      exact ⟨rfl, HF.out.trans hF1⟩
  · rw [if_neg h]
    have e7 : ((k : Int) == 7) = false := by rw [beq_eq_false_iff_ne]; omega
    have e131 : ((k : Int) == 131) = false := by rw [beq_eq_false_iff_ne]; omega
    have e137 : ((k : Int) == 137) = false := by rw [beq_eq_false_iff_ne]; omega
    have HF := Lib.hid hF
    clear cR hl hrd hF h
    unfold OV
    go_enter Try.func27, Try.ntmps27
    go_wp2_with fail
    go_ret
    exact ⟨rfl, HF.out⟩
end Go.Proofs.Ytekhjpiopbkoaaa
