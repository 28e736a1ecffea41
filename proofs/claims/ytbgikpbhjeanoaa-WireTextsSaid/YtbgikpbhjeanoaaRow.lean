/- What a law is told of its arguments, in our words. -/
import Derived.Test.YtbgikpbhjeanoaaWn
import Derived.OpenShut
namespace Go.Proofs.Ytbgikpbhjeanoaa
open Go.RowKit

/-- A slice of bytes that came in. -/
theorem row8 {w : World} {a : Option Addr} {n c : Nat} {zs : List Int} (h : (a = none ∧ n = 0 ∧ c = 0 ∧ zs = []) ∨ ∃ x, a = some x ∧ n ≤ c ∧ c ≤ maxLen ∧ zs.length = c ∧ (∀ i, i < zs.length → w.cell? (x.add i) = some (.int .u8 (zs.getD i 0))) ∧ ∀ z ∈ zs, (Lit.int .u8 z).wf = true) :
    ∃ xs : List UInt8, xs.length = n ∧ Rd w a (B8 xs) ∧ (a = none → c = 0) ∧ n ≤ c ∧ c ≤ maxLen := by
  rcases h with ⟨rfl, rfl, rfl, rfl⟩ | ⟨x, rfl, h1, h2, h3, h4, h5⟩
  · exact ⟨[], rfl, Rd.nil _ _, fun _ => rfl, Nat.le_refl _, Nat.zero_le _⟩
  · refine ⟨(zs.take n).map n8, by simp; omega, ?_, by simp, h1, h2⟩
    intro j u hu
    rw [B8_get, List.getElem?_map] at hu
    have hj : j < n := by
      rcases Nat.lt_or_ge j n with h | h
      · exact h
      · rw [List.getElem?_eq_none (by simp; omega)] at hu; simp at hu
    have hjz : j < zs.length := by omega
    rw [List.getElem?_take, if_pos hj, List.getElem?_eq_getElem hjz] at hu
    simp only [Option.map_some, Option.some.injEq] at hu
    refine ⟨x, rfl, ?_⟩
    have hb := bounds_u8 (h5 zs[j] (List.getElem_mem hjz))
    rw [h4 j hjz, ← hu, ← n8_cell hb.1 (by omega)]
    simp [List.getD, List.getElem?_eq_getElem hjz]

/-- b[:min(len(b), 2000)]. -/
theorem cut2000 {w : World} {A : Option Addr} {n : Nat} {xs : List UInt8} (hl : xs.length = n) (hrd : Rd w A (B8 xs)) : ∃ m ys, ((n ≤ 2000 ∧ m = n) ∨ (¬ n ≤ 2000 ∧ m = 2000)) ∧ List.length ys = m ∧ Rd w A (B8 ys) := by
  by_cases hn : n ≤ 2000
  · exact ⟨n, xs, .inl ⟨hn, rfl⟩, hl, hrd⟩
  · exact ⟨2000, xs.take 2000, .inr ⟨hn, rfl⟩, by rw [List.length_take]; omega, by rw [← B8_take]; exact hrd.take _⟩
end Go.Proofs.Ytbgikpbhjeanoaa
