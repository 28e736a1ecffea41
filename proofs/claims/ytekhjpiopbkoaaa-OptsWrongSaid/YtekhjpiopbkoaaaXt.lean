/- A region that draws its order, reads memory, and whose callees make memory: walked once, over all worlds in which what was there is as it was. No program's text is named here. -/
import Derived.Test.YtekhjpiopbkoaaaQfr
namespace Go.Proofs.Ytekhjpiopbkoaaa
open Go.RowKit
set_option linter.unusedVariables false

/-- The worlds in which all that was there is as it was. -/
def Xt (w0 : World) : Type := {u : World // Fr [] w0 u}
def xt {w0 : World} (x : Xt w0) : World := x.1
instance (w0 : World) : Inhabited (Xt w0) := ⟨⟨w0, Fr.refl _ _⟩⟩
theorem xt_fr {w0 : World} (x : Xt w0) : Fr [] w0 (xt x) := x.2
theorem wp_region_xt {P : Program} {id : Nat} {Q : Exit → Act → World → Prop} {a : Act} {w : World} {l : List Oper} (hm : P.follows .mixedOrders = true) (hB : Region.lexB .any l.toArray = true)
    (h : wpQuiet P l.toArray (fun w' => ∃ x : Xt w, w' = xt x) (fun a' => ∀ w', (∃ x : Xt w, w' = xt x) → Q .normal a' w') l a) : (Code.region id l.toArray true).wp P Q a w :=
  wp_region_quiet (C := fun w' => ∃ x : Xt w, w' = xt x) hm hB ⟨⟨w.drew, (Fr.refl [] w).drew⟩, rfl⟩ (by rw [List.toList_toArray]; exact h)
theorem Calls.xt {P : Program} {f : FuncId} {args : Array Value} {w0 : World} {v : Value} (h : ∀ W, Fr [] w0 W → Calls P f args W fun e w' => e = .returned v ∧ Fr [] W w') (x : Xt w0) :
    Calls P f args (Go.Proofs.Ytekhjpiopbkoaaa.xt x) fun e w' => e = .returned v ∧ ∃ y : Xt w0, w' = Go.Proofs.Ytekhjpiopbkoaaa.xt y :=
  (h _ x.2).mono fun _ _ h' => ⟨h'.1, ⟨_, x.2.trans h'.2⟩, rfl⟩
theorem xt_cell {w0 : World} {p : Addr} {v : Value} (h : w0.cell? p = some v) : ∀ x : Xt w0, (xt x).cell? p = some v := fun x => x.2.cell h (by simp)
/-- Two and more cells of a new block. -/
theorem new_cell (w : World) (cs : Array Value) (t : TypeId) (j : Nat) (v : Value) (h : cs[j]? = some v) : (w.alloc (.cells cs t)).cell? ⟨w.heap.size, j, none⟩ = some v := by
  rw [World.cell?_alloc_at _ _ _ _ rfl]
  simpa using h
theorem old_cell {w : World} {p : Addr} {v : Value} (h : w.cell? p = some v) (o : Obj) : (w.alloc o).cell? p = some v := ((Fr.refl [] w).alloc o).cell h (by simp)
end Go.Proofs.Ytekhjpiopbkoaaa
