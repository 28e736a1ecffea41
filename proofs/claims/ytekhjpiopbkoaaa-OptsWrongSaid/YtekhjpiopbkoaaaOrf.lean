/- What Read gives, in mathematics: from some bytes on, some groups being taken. -/
import Derived.Test.YtekhjpiopbkoaaaOpq
import Derived.Test.YtekhjpiopbkoaaaOwr
namespace Go.Proofs.Ytekhjpiopbkoaaa
open Go.RowKit
set_option linter.unusedVariables false
set_option maxRecDepth 100000

/-- What is wrong (0: nothing), and the options as pairs of kind and data. -/
def rdF (gs : List Nat) (ys : List UInt8) : Nat × List (Nat × List UInt8) :=
  if h0 : ys.length = 0 ∨ bt ys 0 = 0 then (if ys.any (fun x => x != 0) then 62 else 0, [])
  else if h1 : (firK ys).2.2 = 0 then
    if grp (firK ys).1 ≠ 0 ∧ grp (firK ys).1 ∈ gs then (63, [])
    else ((rdF (if grp (firK ys).1 = 0 then gs else gs ++ [grp (firK ys).1]) (ys.drop (firK ys).2.1)).1,
      if (rdF (if grp (firK ys).1 = 0 then gs else gs ++ [grp (firK ys).1]) (ys.drop (firK ys).2.1)).1 = 0 then ((firK ys).1, firD ys) :: (rdF (if grp (firK ys).1 = 0 then gs else gs ++ [grp (firK ys).1]) (ys.drop (firK ys).2.1)).2 else [])
  else ((firK ys).2.2, [])
termination_by ys.length
decreasing_by
  all_goals
    have := fir_size (xs := ys) (by omega) h1
    rw [List.length_drop]; omega
theorem rdF_end {gs : List Nat} {ys : List UInt8} (h0 : ys.length = 0 ∨ bt ys 0 = 0) : rdF gs ys = (if ys.any (fun x => x != 0) then 62 else 0, []) := by
  rw [rdF, dif_pos h0]
theorem rdF_bad {gs : List Nat} {ys : List UInt8} (h0 : ¬ (ys.length = 0 ∨ bt ys 0 = 0)) (h1 : (firK ys).2.2 ≠ 0) : rdF gs ys = ((firK ys).2.2, []) := by
  rw [rdF, dif_neg h0, dif_neg h1]
theorem rdF_twice {gs : List Nat} {ys : List UInt8} (h0 : ¬ (ys.length = 0 ∨ bt ys 0 = 0)) (h1 : (firK ys).2.2 = 0) (h2 : grp (firK ys).1 ≠ 0 ∧ grp (firK ys).1 ∈ gs) : rdF gs ys = (63, []) := by
  rw [rdF, dif_neg h0, dif_pos h1, if_pos h2]
def gs' (gs : List Nat) (k : Nat) : List Nat := if grp k = 0 then gs else gs ++ [grp k]
theorem rdF_more {gs : List Nat} {ys : List UInt8} (h0 : ¬ (ys.length = 0 ∨ bt ys 0 = 0)) (h1 : (firK ys).2.2 = 0) (h2 : ¬ (grp (firK ys).1 ≠ 0 ∧ grp (firK ys).1 ∈ gs)) :
    rdF gs ys = ((rdF (gs' gs (firK ys).1) (ys.drop (firK ys).2.1)).1, if (rdF (gs' gs (firK ys).1) (ys.drop (firK ys).2.1)).1 = 0 then ((firK ys).1, firD ys) :: (rdF (gs' gs (firK ys).1) (ys.drop (firK ys).2.1)).2 else []) := by
  rw [rdF, dif_neg h0, dif_pos h1, if_neg h2]
  rfl
/-- With an error there are no options. -/
theorem rdF_nil {gs : List Nat} {ys : List UInt8} (h : (rdF gs ys).1 ≠ 0) : (rdF gs ys).2 = [] := by
  by_cases h0 : ys.length = 0 ∨ bt ys 0 = 0
  · rw [rdF_end h0]
  · by_cases h1 : (firK ys).2.2 = 0
    · by_cases h2 : grp (firK ys).1 ≠ 0 ∧ grp (firK ys).1 ∈ gs
      · rw [rdF_twice h0 h1 h2]
      · rw [rdF_more h0 h1 h2] at h ⊢
        simp only at h ⊢
        rw [if_neg h]
    · rw [rdF_bad h0 h1]
/-- Somewhere in the middle: these options have been read, these groups are taken. -/
def RdAt (xs : List UInt8) (i : Nat) (gs : List Nat) (pre : List (Nat × List UInt8)) : Prop :=
  (rdF [] xs).1 = (rdF gs (xs.drop i)).1 ∧ ((rdF [] xs).1 = 0 → (rdF [] xs).2 = pre ++ (rdF gs (xs.drop i)).2)
theorem RdAt.zero (xs : List UInt8) : RdAt xs 0 [] [] := ⟨rfl, fun _ => rfl⟩
theorem RdAt.done {xs : List UInt8} {i : Nat} {gs : List Nat} {pre : List (Nat × List UInt8)} (h : RdAt xs i gs pre) (h0 : (xs.drop i).length = 0 ∨ bt (xs.drop i) 0 = 0) (ha : (xs.drop i).any (fun x => x != 0) = false) : rdF [] xs = (0, pre) := by
  obtain ⟨e1, e2⟩ := h
  rw [rdF_end h0, ha] at e1 e2
  simp only [Bool.false_eq_true, if_false, List.append_nil] at e1 e2
  exact Prod.ext e1 (e2 e1)
theorem RdAt.err {xs : List UInt8} {i : Nat} {gs : List Nat} {pre : List (Nat × List UInt8)} (h : RdAt xs i gs pre) {e : Nat} (he : e ≠ 0) (hr : rdF gs (xs.drop i) = (e, [])) : rdF [] xs = (e, []) := by
  obtain ⟨e1, e2⟩ := h
  rw [hr] at e1
  have h0 : (rdF [] xs).1 ≠ 0 := by rw [e1]; exact he
  exact Prod.ext e1 (rdF_nil h0)
theorem RdAt.step {xs : List UInt8} {i : Nat} {gs : List Nat} {pre : List (Nat × List UInt8)} (h : RdAt xs i gs pre) (h0 : ¬ ((xs.drop i).length = 0 ∨ bt (xs.drop i) 0 = 0)) (h1 : (firK (xs.drop i)).2.2 = 0) (h2 : ¬ (grp (firK (xs.drop i)).1 ≠ 0 ∧ grp (firK (xs.drop i)).1 ∈ gs)) :
    RdAt xs (i + (firK (xs.drop i)).2.1) (gs' gs (firK (xs.drop i)).1) (pre ++ [((firK (xs.drop i)).1, firD (xs.drop i))]) := by
  obtain ⟨e1, e2⟩ := h
  rw [rdF_more h0 h1 h2] at e1 e2
  simp only [List.drop_drop] at e1 e2
  refine ⟨e1, fun hz => ?_⟩
  have h3 := e2 hz
  rw [hz] at e1
  rw [if_pos e1.symm] at h3
  rw [h3, List.append_assoc]
  rfl
end Go.Proofs.Ytekhjpiopbkoaaa
