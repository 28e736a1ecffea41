/- What a law is told of its arguments, in our words. -/
import Derived.Test.YtekhjpiopbkoaaaCs
import Derived.OpenShut
namespace Go.Proofs.Ytekhjpiopbkoaaa
open Go.RowKit

def n8 (v : Int) : UInt8 := UInt8.ofNat v.toNat
theorem n8_cell {v : Int} (h0 : 0 ≤ v) (h1 : v < 256) : Value.int .u8 v = Value.int .u8 ((n8 v).toNat : Int) := by
  congr 1
  simp only [n8, UInt8.toNat_ofNat']
  omega
/-- A slice of bytes that came in. -/
theorem row8 {w : World} {a : Option Addr} {n c : Nat} {zs : List Int} (h : (a = none ∧ n = 0 ∧ c = 0 ∧ zs = []) ∨ ∃ x, a = some x ∧ n ≤ c ∧ c ≤ maxLen ∧ zs.length = c ∧ (∀ i, i < zs.length → w.cell? (x.add i) = some (.int .u8 (zs.getD i 0))) ∧ ∀ z ∈ zs, (Lit.int .u8 z).wf = true) :
    ∃ xs : List UInt8, xs.length = n ∧ Rd w a (B8 xs) ∧ (a = none → c = 0) ∧ n ≤ c ∧ c ≤ maxLen := by
  rcases h with ⟨rfl, rfl, rfl, rfl⟩ | ⟨x, rfl, h1, h2, h3, h4, h5⟩
  · exact ⟨[], rfl, Rd.nil _ _, fun _ => rfl, Nat.le_refl _, Nat.zero_le _⟩
  · refine ⟨(zs.take n).map n8, by simp; omega, ?_, by simp, h1, h2⟩
    intro j u hu
    rw [B8_get, List.getElem?_map] at hu
    have hj : j < n := by
      rcases Nat.lt_or_ge j n with h | h
      · exact h
      · rw [List.getElem?_eq_none (by simp; omega)] at hu; simp at hu
    have hjz : j < zs.length := by omega
    rw [List.getElem?_take, if_pos hj, List.getElem?_eq_getElem hjz] at hu
    simp only [Option.map_some, Option.some.injEq] at hu
    refine ⟨x, rfl, ?_⟩
    have hb := bounds_u8 (h5 zs[j] (List.getElem_mem hjz))
    rw [h4 j hjz, ← hu, ← n8_cell hb.1 (by omega)]
    simp [List.getD, List.getElem?_eq_getElem hjz]

/-- A slice of words that came in. -/
theorem row16 {w : World} {a : Option Addr} {n c : Nat} {zs : List Int} (h : (a = none ∧ n = 0 ∧ c = 0 ∧ zs = []) ∨ ∃ x, a = some x ∧ n ≤ c ∧ c ≤ maxLen ∧ zs.length = c ∧ (∀ i, i < zs.length → w.cell? (x.add i) = some (.int .u16 (zs.getD i 0))) ∧ ∀ z ∈ zs, (Lit.int .u16 z).wf = true) :
    ∃ xs : List Nat, xs.length = n ∧ (∀ x ∈ xs, x < 65536) ∧ Rd w a (W16 xs) ∧ (a = none → c = 0) ∧ n ≤ c ∧ c ≤ maxLen := by
  rcases h with ⟨rfl, rfl, rfl, rfl⟩ | ⟨x, rfl, h1, h2, h3, h4, h5⟩
  · exact ⟨[], rfl, by simp, Rd.nil _ _, fun _ => rfl, Nat.le_refl _, Nat.zero_le _⟩
  · refine ⟨(zs.take n).map Int.toNat, by simp; omega, ?_, ?_, by simp, h1, h2⟩
    · intro k hk
      obtain ⟨z, hz, rfl⟩ := List.mem_map.1 hk
      have hb := bounds_u16 (h5 z (List.mem_of_mem_take hz))
      omega
    · intro j u hu
      rw [W16_get, List.getElem?_map] at hu
      have hj : j < n := by
        rcases Nat.lt_or_ge j n with h | h
        · exact h
        · rw [List.getElem?_eq_none (by simp; omega)] at hu; simp at hu
      have hjz : j < zs.length := by omega
      rw [List.getElem?_take, if_pos hj, List.getElem?_eq_getElem hjz] at hu
      simp only [Option.map_some, Option.some.injEq] at hu
      refine ⟨x, rfl, ?_⟩
      have hb := bounds_u16 (h5 zs[j] (List.getElem_mem hjz))
      rw [h4 j hjz, ← hu]
      simp only [List.getD, List.getElem?_eq_getElem hjz, Option.getD_some]
      congr 2
      omega

/-- A number that came in, as a natural one. -/
theorem u16_row {z : Int} (h : (Lit.int .u16 z).wf = true) : ∃ k : Nat, z = k ∧ k < 65536 := by
  have hb := bounds_u16 h
  exact ⟨z.toNat, by omega, by omega⟩
theorem u32_row {z : Int} (h : (Lit.int .u32 z).wf = true) : ∃ k : Nat, z = k ∧ k < 4294967296 := by
  have hb := bounds_u32 h
  exact ⟨z.toNat, by omega, by omega⟩
theorem u8_row {z : Int} (h : (Lit.int .u8 z).wf = true) : ∃ k : Nat, z = k ∧ k < 256 := by
  have hb := bounds_u8 h
  exact ⟨z.toNat, by omega, by omega⟩
end Go.Proofs.Ytekhjpiopbkoaaa
