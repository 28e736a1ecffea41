/- An argument that is a slice of words, opened. -/
import Derived.Test.YtekhjpiopbkoaaaOrc
import Derived.Test.YtekhjpiopbkoaaaOps
import Derived.ChangeSlices
namespace Go.Proofs.Ytekhjpiopbkoaaa
open Go.RowKit Go.WideShapes Go.ChangeShapes
set_option linter.unusedVariables false
set_option maxRecDepth 100000
variable {H : Type} {enc : TypeId × Value → H} {w : World} {held : Bool}
theorem U32_get' (l : List Nat) (j : Nat) : (U32 l)[j]? = l[j]?.map fun x => Value.int .u32 (x : Nat) := by simp [U32]
theorem open_words {b0 : Nat} {v : Value} {d : DataW H} {p : List MemPlace} {r : Reach} (hv : Value.okWide Try.prog w r b0 39 v) (h : DataW.Trod enc Try.prog w 0 (fun _ => true) held 39 v d p) :
    ∃ (A : Option Addr) (n c : Nat) (l : List Nat), v = .slice A n c ∧ l.length = n ∧ (∀ x ∈ l, x < 4294967296) ∧ Rd w A (U32 l) ∧ n ≤ 9223372036854775807 := by
  obtain ⟨A, n, c, rfl⟩ := okWide_slice Try.underlying39 hv
  obtain ⟨fuel, hf⟩ := h
  have hf' : DataW.trod enc Try.prog w 0 (fun _ => true) held fuel 39 [.slice A n c] = some (d, p) := by simpa [Value.cells] using hf
  refine ⟨A, n, c, ?_⟩
  rcases open_ints Try.underlying39 Try.underlying44 (by kernel_rfl) hf' with ⟨hcs, _⟩ | ⟨x, len, cap, zs, hcs, _, hl, hm, hz, _, hcell, hwz⟩
  · simp only [List.cons.injEq, Value.slice.injEq, and_true] at hcs
    obtain ⟨rfl, rfl, rfl⟩ := hcs
    exact ⟨[], rfl, rfl, by simp, Rd.nil _ _, by decide⟩
  · simp only [List.cons.injEq, Value.slice.injEq, and_true] at hcs
    obtain ⟨rfl, rfl, rfl⟩ := hcs
    simp only [if_true] at hz
    refine ⟨(zs.take n).map Int.toNat, rfl, by simp; omega, ?_, ?_, by simp only [maxLen] at hm; omega⟩
    · intro k hk
      obtain ⟨z, hz', rfl⟩ := List.mem_map.1 hk
      have hb := bounds_u32 (hwz z (List.mem_of_mem_take hz'))
      omega
    · intro j u hu
      rw [U32_get', List.getElem?_map] at hu
      have hj : j < n := by
        rcases Nat.lt_or_ge j n with h | h
        · exact h
        · rw [List.getElem?_eq_none (by simp; omega)] at hu; simp at hu
      have hjz : j < zs.length := by omega
      rw [List.getElem?_take, if_pos hj, List.getElem?_eq_getElem hjz] at hu
      simp only [Option.map_some, Option.some.injEq] at hu
      refine ⟨x, rfl, ?_⟩
      have hb := bounds_u32 (hwz zs[j] (List.getElem_mem hjz))
      rw [hcell j hjz, ← hu]
      simp only [List.getD, List.getElem?_eq_getElem hjz, Option.getD_some]
      congr 2
      omega
end Go.Proofs.Ytekhjpiopbkoaaa
