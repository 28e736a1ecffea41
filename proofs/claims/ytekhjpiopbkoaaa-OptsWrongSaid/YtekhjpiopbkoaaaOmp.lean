/- Maps whose keys are small numbers and whose values are whatever: made, filled, asked. -/
import Derived.Test.YtekhjpiopbkoaaaOlf
import Derived.MapKept
namespace Go.Proofs.Ytekhjpiopbkoaaa
open Go.RowKit Go.MapKept
set_option linter.unusedVariables false
set_option maxRecDepth 100000

section
variable {P : Program} {t kt et : TypeId}
theorem key8 (k : Int) : IsKey (.int .u8) (.int .u8 k) := by simp [IsKey]
theorem ins_run (hu : P.underlying t = some (.map kt et)) (hk : P.underlying kt = some (.int .u8)) (w : World) (r : Nat) (es : Array MapEntry) (cl : Nat) (hb : w.heap[r]? = some (.map es cl)) (k : Int) (v : Value) (hf : Instr.findNow (.int .u8) (.int .u8 k) es.toList 0 = some none) :
    ∃ w', (Instr.mapUpdate t (.map (some r)) (.int .u8 k) v).run P w = .ok () w' ∧ w'.heap[r]? = some (.map (es.push ⟨.int .u8 k, v, cl⟩) (cl + 1)) ∧ Fr [r] w w' := by
  obtain ⟨h1, h2⟩ := heap_set (o' := .map (es.push ⟨.int .u8 k, v, cl⟩) (cl + 1)) hb
  refine ⟨{ w with heap := w.heap.setIfInBounds r (.map (es.push ⟨.int .u8 k, v, cl⟩) (cl + 1)) }, ?_, h1, ⟨rfl, rfl, rfl, by simp, fun i hi hs => h2 i (by simpa using hs)⟩⟩
  simp only [Instr.mapUpdate, Sem.run_bind, run_underlying hu, Go.MapKept.run_getObj_map hb, Go.MapKept.run_checkKey hk (key8 k) false 9999, Go.MapKept.run_findKey hk hf, Go.MapKept.run_setObj_map _ hb, Result.andThen]
/-- A key that is there already. -/
theorem upd_run (hu : P.underlying t = some (.map kt et)) (hk : P.underlying kt = some (.int .u8)) (w : World) (r : Nat) (es : Array MapEntry) (cl : Nat) (hb : w.heap[r]? = some (.map es cl)) (k : Int) (v v0 : Value) (i : Nat) (hf : Instr.findNow (.int .u8) (.int .u8 k) es.toList 0 = some (some (i, v0))) (he : (es[i]?).map (·.key) = some (.int .u8 k)) :
    ∃ w', (Instr.mapUpdate t (.map (some r)) (.int .u8 k) v).run P w = .ok () w' ∧ w'.heap[r]? = some (.map (es.modify i fun e => { e with key := .int .u8 k, val := v }) cl) ∧ Fr [r] w w' := by
  obtain ⟨h1, h2⟩ := heap_set (o' := .map (es.modify i fun e => { e with key := .int .u8 k, val := v }) cl) hb
  refine ⟨{ w with heap := w.heap.setIfInBounds r (.map (es.modify i fun e => { e with key := .int .u8 k, val := v }) cl) }, ?_, h1, ⟨rfl, rfl, rfl, by simp, fun i hi hs => h2 i (by simpa using hs)⟩⟩
  simp only [Instr.mapUpdate, Sem.run_bind, run_underlying hu, Go.MapKept.run_getObj_map hb, Go.MapKept.run_checkKey hk (key8 k) false 9999, Go.MapKept.run_findKey hk hf, Go.MapKept.run_setObj_map _ hb, Result.andThen, he, Option.getD_some, run_keyThatStays (key8 k)]
theorem look_yes (hu : P.underlying t = some (.map kt et)) (hk : P.underlying kt = some (.int .u8)) (w : World) (r : Nat) (es : Array MapEntry) (cl : Nat) (hb : w.heap[r]? = some (.map es cl)) (k : Int) (v : Value) (i : Nat) (hf : Instr.findNow (.int .u8) (.int .u8 k) es.toList 0 = some (some (i, v))) :
    (Instr.lookup t (.map (some r)) (.int .u8 k) true).run P w = .ok (.tuple #[v, .bool true]) w := by
  simp only [Instr.lookup, Sem.run_bind, run_underlying hu, Go.MapKept.run_getObj_map hb, Go.MapKept.run_checkKey hk (key8 k) _ 9999, Go.MapKept.run_findKey hk hf, Result.andThen, Sem.run_pure, if_true]
theorem look_no (hu : P.underlying t = some (.map kt et)) (hk : P.underlying kt = some (.int .u8)) (w : World) (r : Nat) (es : Array MapEntry) (cl : Nat) (hb : w.heap[r]? = some (.map es cl)) (k : Int) (z : Value) (hz : (zeroValue et).run P w = .ok z w) (hf : Instr.findNow (.int .u8) (.int .u8 k) es.toList 0 = some none) :
    (Instr.lookup t (.map (some r)) (.int .u8 k) true).run P w = .ok (.tuple #[z, .bool false]) w := by
  simp only [Instr.lookup, Sem.run_bind, run_underlying hu, Go.MapKept.run_getObj_map hb, Go.MapKept.run_checkKey hk (key8 k) _ 9999, Go.MapKept.run_findKey hk hf, Result.andThen, Sem.run_pure, hz, if_true]
/-- The same without 'ok'. -/
theorem look1_yes (hu : P.underlying t = some (.map kt et)) (hk : P.underlying kt = some (.int .u8)) (w : World) (r : Nat) (es : Array MapEntry) (cl : Nat) (hb : w.heap[r]? = some (.map es cl)) (k : Int) (v : Value) (i : Nat) (hf : Instr.findNow (.int .u8) (.int .u8 k) es.toList 0 = some (some (i, v))) :
    (Instr.lookup t (.map (some r)) (.int .u8 k) false).run P w = .ok v w := by
  simp only [Instr.lookup, Sem.run_bind, run_underlying hu, Go.MapKept.run_getObj_map hb, Go.MapKept.run_checkKey hk (key8 k) _ 9999, Go.MapKept.run_findKey hk hf, Result.andThen, Sem.run_pure]
  rfl
theorem look1_no (hu : P.underlying t = some (.map kt et)) (hk : P.underlying kt = some (.int .u8)) (w : World) (r : Nat) (es : Array MapEntry) (cl : Nat) (hb : w.heap[r]? = some (.map es cl)) (k : Int) (z : Value) (hz : (zeroValue et).run P w = .ok z w) (hf : Instr.findNow (.int .u8) (.int .u8 k) es.toList 0 = some none) :
    (Instr.lookup t (.map (some r)) (.int .u8 k) false).run P w = .ok z w := by
  simp only [Instr.lookup, Sem.run_bind, run_underlying hu, Go.MapKept.run_getObj_map hb, Go.MapKept.run_checkKey hk (key8 k) _ 9999, Go.MapKept.run_findKey hk hf, Result.andThen, Sem.run_pure, hz]
  rfl
end
end Go.Proofs.Ytekhjpiopbkoaaa
