/- A region that draws its order and whose callees make memory: walked once, at the class 'nothing that was there has turned'. No program's text is named here. -/
import Derived.Test.YtekhjpiopbkoaaaBase
namespace Go.Proofs.Ytekhjpiopbkoaaa
open Go.RowKit

/-- Worlds in which all that was there is as it was. -/
def QC (w w' : World) : Prop := Fr [] w w'
theorem QC.of {w w' : World} (h : QC w w') : Fr [] w w' := h
theorem wp_region_quiet_fr {P : Program} {id : Nat} {Q : Exit → Act → World → Prop} {a : Act} {w : World} {l : List Oper} (hm : P.follows .mixedOrders = true) (hB : Region.lexB .any l.toArray = true)
    (h : wpQuiet P l.toArray (QC w) (fun a' => ∀ w', QC w w' → Q .normal a' w') l a) : (Code.region id l.toArray true).wp P Q a w :=
  wp_region_quiet (C := QC w) hm hB ⟨rfl, rfl, rfl, Nat.le_refl _, fun _ _ _ => rfl⟩ (by simpa using h)
theorem Calls.qc {P : Program} {f : FuncId} {args : Array Value} {w W : World} {v : Value} (h : Calls P f args W fun e w' => e = .returned v ∧ Fr [] W w') (hW : QC w W) : Calls P f args W fun e w' => e = .returned v ∧ QC w w' :=
  h.mono fun _ _ h' => ⟨h'.1, Fr.trans (QC.of hW) h'.2⟩
/-- min(n, k), as the walk spells it: lay it ahead, and the walk does not part. -/
theorem min_is {n m : Nat} {M : Int} {k : Nat} (hM : M = k) (hm : (n ≤ k ∧ m = n) ∨ (¬ n ≤ k ∧ m = k)) : (if M < (n : Int) then M else (n : Int)) = (m : Int) := by
  subst hM
  rcases hm with ⟨h, rfl⟩ | ⟨h, rfl⟩
  · rw [if_neg (by omega)]
  · rw [if_pos (by omega)]
end Go.Proofs.Ytekhjpiopbkoaaa
