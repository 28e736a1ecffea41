/- An argument that is a slice of numbers, opened. -/
import Derived.Test.YtjfadoealhlccaaGreatDoorAlg
import Derived.Test.YtjfadoealhlccaaGreatDoorOpq
import Derived.ChangeSlices
namespace Go.Proofs.YtjfadoealhlccaaGreatDoor
open Go.RowKit Go.WideShapes Go.ChangeShapes
set_option linter.unusedVariables false
set_option maxRecDepth 100000
variable {H : Type} {enc : TypeId × Value → H} {w : World} {held : Bool}
theorem open_u32s {b0 : Nat} {v : Value} {d : DataW H} {p : List MemPlace} {r : Reach} (hv : Value.okWide Tryz.prog w r b0 23 v) (h : DataW.Trod enc Tryz.prog w 0 (fun _ => true) held 23 v d p) :
    ∃ (A : Option Addr) (n c : Nat) (l : List Nat), v = .slice A n c ∧ ArgU w A n c l := by
  obtain ⟨A, n, c, rfl⟩ := okWide_slice Tryz.underlying23 hv
  obtain ⟨fuel, hf⟩ := h
  have hf' : DataW.trod enc Tryz.prog w 0 (fun _ => true) held fuel 23 [.slice A n c] = some (d, p) := by simpa [Value.cells] using hf
  refine ⟨A, n, c, ?_⟩
  rcases open_ints Tryz.underlying23 Tryz.underlying37 (by kernel_rfl) hf' with ⟨hcs, _⟩ | ⟨x, len, cap, zs, hcs, _, hl, hm, hz, _, hcell, hwz⟩
  · simp only [List.cons.injEq, Value.slice.injEq, and_true] at hcs
    obtain ⟨rfl, rfl, rfl⟩ := hcs
    exact ⟨[], rfl, rfl, by simp, Rd.nil _ _, Nat.le_refl _, by decide, fun _ => rfl⟩
  · simp only [List.cons.injEq, Value.slice.injEq, and_true] at hcs
    obtain ⟨rfl, rfl, rfl⟩ := hcs
    simp only [if_true] at hz
    refine ⟨(zs.take n).map Int.toNat, rfl, by simp; omega, ?_, ?_, hl, by simp only [maxLen] at hm; omega, by simp⟩
    · intro k hk
      obtain ⟨z, hz', rfl⟩ := List.mem_map.1 hk
      have hb := bounds_u32 (hwz z (List.mem_of_mem_take hz'))
      omega
    · intro j u hu
      rw [U4_get, List.getElem?_map] at hu
      have hj : j < n := by
        rcases Nat.lt_or_ge j n with h | h
        · exact h
        · rw [List.getElem?_eq_none (by simp; omega)] at hu; simp at hu
      have hjz : j < zs.length := by omega
      rw [List.getElem?_take, if_pos hj, List.getElem?_eq_getElem hjz] at hu
      simp only [Option.map_some, Option.some.injEq] at hu
      refine ⟨x, rfl, ?_⟩
      have hb := bounds_u32 (hwz zs[j] (List.getElem_mem hjz))
      rw [hcell j hjz, ← hu]
      simp only [List.getD, List.getElem?_eq_getElem hjz, Option.getD_some]
      congr 2
      omega
end Go.Proofs.YtjfadoealhlccaaGreatDoor
