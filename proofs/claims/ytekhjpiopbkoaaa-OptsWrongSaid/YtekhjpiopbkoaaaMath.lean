/- The plain mathematics of sums: words of bytes, folding. No program's text is named here. -/
import Derived.Test.YtekhjpiopbkoaaaBase
namespace Go.Proofs.Ytekhjpiopbkoaaa
open Go.RowKit

/-- The words of some bytes, added up. -/
def wsum : List UInt8 → Nat
  | [] => 0
  | [x] => 256 * x.toNat
  | x :: y :: r => 256 * x.toNat + y.toNat + wsum r
/-- The words as pairs. -/
def pairs : List UInt8 → List (UInt8 × UInt8)
  | [] => []
  | [x] => [(x, 0)]
  | x :: y :: r => (x, y) :: pairs r
def wv (p : UInt8 × UInt8) : Nat := 256 * p.1.toNat + p.2.toNat
def psum (l : List (UInt8 × UInt8)) : Nat := (l.map wv).sum
def fold (s : Nat) : Nat := if s = 0 then 0 else 1 + (s - 1) % 65535

theorem wv_lt (p : UInt8 × UInt8) : wv p < 65536 := by have := p.1.toNat_lt; have := p.2.toNat_lt; unfold wv; omega
theorem psum_snoc (l : List (UInt8 × UInt8)) (p : UInt8 × UInt8) : psum (l ++ [p]) = psum l + wv p := by simp [psum]
theorem psum_le (l : List (UInt8 × UInt8)) : psum l ≤ 65535 * l.length := by
  induction l with
  | nil => simp [psum]
  | cons p l ih => have := wv_lt p; simp only [psum, List.map_cons, List.sum_cons, List.length_cons] at ih ⊢; omega
theorem psum_pairs : ∀ xs, psum (pairs xs) = wsum xs
  | [] => rfl
  | [x] => by simp [psum, pairs, wsum, wv]
  | x :: y :: r => by
    have := psum_pairs r
    simp only [psum, pairs, wsum, List.map_cons, List.sum_cons, wv] at this ⊢
    omega
theorem pairs_length : ∀ xs, (pairs xs).length = (xs.length + 1) / 2
  | [] => rfl
  | [x] => by simp [pairs]
  | x :: y :: r => by have := pairs_length r; simp only [pairs, List.length_cons, this]; omega
theorem pairs_append : ∀ (a b : List UInt8), a.length % 2 = 0 → pairs (a ++ b) = pairs a ++ pairs b
  | [], b, _ => rfl
  | [x], b, h => by simp at h
  | x :: y :: r, b, h => by
    have := pairs_append r b (by simp only [List.length_cons] at h; omega)
    simp only [List.cons_append, pairs, this]
theorem pairs_two {xs : List UInt8} {k : Nat} {x y : UInt8} (hk : k % 2 = 0) (hx : xs[k]? = some x) (hy : xs[k + 1]? = some y) : pairs (xs.take (k + 2)) = pairs (xs.take k) ++ [(x, y)] := by
  have h1 : xs.take (k + 2) = xs.take k ++ [x, y] := by
    rw [List.take_add_one, hy, List.take_add_one, hx]; simp
  have hl : k < xs.length := by
    rcases Nat.lt_or_ge k xs.length with h | h
    · exact h
    · rw [List.getElem?_eq_none h] at hx; cases hx
  rw [h1, pairs_append _ _ (by simp; omega)]
  rfl
theorem pairs_one {xs : List UInt8} {k : Nat} {x : UInt8} (hk : k % 2 = 0) (hx : xs[k]? = some x) : pairs (xs.take (k + 1)) = pairs (xs.take k) ++ [(x, 0)] := by
  have h1 : xs.take (k + 1) = xs.take k ++ [x] := by rw [List.take_add_one, hx]; rfl
  have hl : k < xs.length := by
    rcases Nat.lt_or_ge k xs.length with h | h
    · exact h
    · rw [List.getElem?_eq_none h] at hx; cases hx
  rw [h1, pairs_append _ _ (by simp; omega)]
  rfl

theorem wsum_snoc (x : UInt8) : ∀ l : List UInt8, wsum (l ++ [x]) = wsum l + if l.length % 2 = 0 then 256 * x.toNat else x.toNat
  | [] => by simp [wsum]
  | [y] => by simp [wsum]
  | a :: b :: r => by
    have h := wsum_snoc x r
    have e : (a :: b :: r).length % 2 = r.length % 2 := by simp only [List.length_cons]; omega
    simp only [List.cons_append, wsum, e, h]
    omega
theorem wsum_append : ∀ (a b : List UInt8), a.length % 2 = 0 → wsum (a ++ b) = wsum a + wsum b
  | [], b, _ => by simp [wsum]
  | [x], b, h => by simp at h
  | x :: y :: r, b, h => by
    have := wsum_append r b (by simp only [List.length_cons] at h; omega)
    simp only [List.cons_append, wsum, this]
    omega
theorem wsum_le : ∀ l : List UInt8, wsum l ≤ 65535 * ((l.length + 1) / 2)
  | [] => by simp [wsum]
  | [x] => by have := x.toNat_lt; simp [wsum]; omega
  | x :: y :: r => by
    have := wsum_le r
    have := x.toNat_lt
    have := y.toNat_lt
    simp only [wsum, List.length_cons]
    omega
theorem wsum_zero : ∀ l : List UInt8, wsum l = 0 ↔ ∀ x ∈ l, x = 0
  | [] => by simp [wsum]
  | [x] => by
    simp only [wsum, List.mem_singleton, forall_eq]
    exact ⟨fun h => UInt8.toNat.inj (by simp; omega), fun h => by subst h; rfl⟩
  | x :: y :: r => by
    have ih := wsum_zero r
    simp only [wsum, List.mem_cons, forall_eq_or_imp]
    rw [← ih]
    refine ⟨fun h => ⟨UInt8.toNat.inj (by simp; omega), UInt8.toNat.inj (by simp; omega), by omega⟩, ?_⟩
    rintro ⟨rfl, rfl, h⟩
    rw [h]; rfl
/-- Two bytes replaced at an even index. -/
theorem wsum_put {xs : List UInt8} {k : Nat} {x y a b : UInt8} (hk : k % 2 = 0) (hx : xs[k]? = some x) (hy : xs[k + 1]? = some y) :
    wsum (xs.take k ++ [a, b] ++ xs.drop (k + 2)) + (256 * x.toNat + y.toNat) = wsum xs + (256 * a.toNat + b.toNat) := by
  have hl : k + 1 < xs.length := by
    rcases Nat.lt_or_ge (k + 1) xs.length with h | h
    · exact h
    · rw [List.getElem?_eq_none h] at hy; cases hy
  have h1 : xs = xs.take k ++ [x, y] ++ xs.drop (k + 2) := by
    have e : xs.take (k + 2) = xs.take k ++ [x, y] := by rw [List.take_add_one, hy, List.take_add_one, hx]; simp
    rw [← e, List.take_append_drop]
  have hl2 : (xs.take k).length % 2 = 0 := by simp; omega
  generalize hA : xs.take k = A at h1 hl2 ⊢
  generalize hB : xs.drop (k + 2) = B at h1 ⊢
  rw [h1, List.append_assoc, List.append_assoc, wsum_append _ _ hl2, wsum_append _ _ hl2, wsum_append _ B (by simp), wsum_append _ B (by simp)]
  simp only [wsum]
  omega

theorem fold_le (s : Nat) : fold s ≤ 65535 := by unfold fold; split <;> omega
theorem fold_zero {s : Nat} : fold s = 0 ↔ s = 0 := by unfold fold; split <;> omega
theorem fold_small {s : Nat} (h : s ≤ 65535) : fold s = s := by unfold fold; split <;> omega
theorem fold_add (a b : Nat) : fold (fold a + b) = fold (a + b) := by unfold fold; split <;> split <;> (try split) <;> omega
theorem fold_full {s : Nat} : fold s = 65535 ↔ 0 < s ∧ s % 65535 = 0 := by unfold fold; split <;> omega
theorem fold_eq {a b : Nat} (h : a % 65535 = b % 65535) (hz : a = 0 ↔ b = 0) : fold a = fold b := by unfold fold; split <;> split <;> omega
theorem fold_mod (s : Nat) : fold s % 65535 = s % 65535 := by unfold fold; split <;> omega
end Go.Proofs.Ytekhjpiopbkoaaa
