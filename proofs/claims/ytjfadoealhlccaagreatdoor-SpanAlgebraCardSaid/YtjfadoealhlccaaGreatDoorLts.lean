/- The examples of the chapter, as sets: what each call gives. -/
import Derived.Test.YtjfadoealhlccaaGreatDoorSps
namespace Go.Proofs.YtjfadoealhlccaaGreatDoor
open Go.RowKit
set_option linter.unusedVariables false
set_option maxRecDepth 100000

theorem comb_is {tk : Bool → Bool → Bool} {a b r c : List Sp} (h : Comb tk a b r) (hc : RSf 0 c) (hs : SB c) (hh : ∀ n, hasS c n ↔ (n < 4294967296 ∧ tk (decide (hasS a n)) (decide (hasS b n)) = true)) : r = c := comb_uniq h ⟨hc, hs, hh⟩
theorem sb_of {c : List Sp} (h : c.all (fun x => decide (x.1 < 4294967296) && decide (x.2 < 4294967296)) = true) : SB c := fun x hx => by
  have := List.all_eq_true.1 h x hx
  simpa using this
theorem ex_of {l : List Sp} (h : RSf 0 l) (hh : ∀ n, hasS l n ↔ hasS [(5, 7), (1, 2), (3, 3), (7, 9)] n) : l = [(1, 3), (5, 9)] :=
  rsf_uniq h (c := 0) (by decide) fun n => by rw [hh]; simp [hasS_cons, hasS_nil]; omega
theorem ex_union {r : List Sp} (h : Comb (fun p q => p || q) [(1, 3)] [(4, 6)] r) : r = [(1, 6)] := comb_is h (by decide) (sb_of (by decide)) fun n => by
  simp [hasS_cons, hasS_nil]; omega
theorem ex_common {r : List Sp} (h : Comb (fun p q => p && q) [(1, 5), (9, 9)] [(4, 9)] r) : r = [(4, 5), (9, 9)] := comb_is h (by decide) (sb_of (by decide)) fun n => by
  simp [hasS_cons, hasS_nil]; omega
theorem ex_without {r : List Sp} (h : Comb (fun p q => p && !q) [(1, 5), (9, 9)] [(4, 9)] r) : r = [(1, 3)] := comb_is h (by decide) (sb_of (by decide)) fun n => by
  simp [hasS_cons, hasS_nil]; omega
theorem ex_others {r : List Sp} (h : Comb (fun p q => p && !q) [(0, 4294967295)] [(1, 3)] r) : r = [(0, 0), (4, 4294967295)] := comb_is h (by decide) (sb_of (by decide)) fun n => by
  simp [hasS_cons, hasS_nil]; omega
theorem ex_all {r : List Sp} (h : Comb (fun p q => p && !q) [(0, 4294967295)] [] r) : r = [(0, 4294967295)] := comb_is h (by decide) (sb_of (by decide)) fun n => by
  simp [hasS_cons, hasS_nil]; omega
theorem dec_small : dec 1 = [49] ∧ dec 3 = [51] ∧ dec 7 = [55] ∧ dec 2 = [50] := ⟨dec_lo (by decide), dec_lo (by decide), dec_lo (by decide), dec_lo (by decide)⟩
theorem ex_text : settext [(1, 3), (7, 7)] = [49, 45, 51, 44, 55] := by
  obtain ⟨d1, d3, d7, _⟩ := dec_small
  simp [settext, Lib.join, List.intercalate, stext, d1, d3, d7]
theorem ex_size : szS [(1, 3), (5, 9)] = 8 := by decide

/-- Texts that are no sets. -/
def NoSet (l : List UInt8) : Prop := ∀ L, rdText l = some L → RSf 0 L → settext L ≠ l
theorem no1 : NoSet [51, 45, 49] := fun L h hr => by
  have e : rdText [51, 45, 49] = some [(3, 1)] := by decide
  rw [e] at h; injection h with h; subst h
  exact absurd hr (by decide)
theorem no2 : NoSet [49, 45, 50, 44, 51] := fun L h hr => by
  have e : rdText [49, 45, 50, 44, 51] = some [(1, 2), (3, 3)] := by decide
  rw [e] at h; injection h with h; subst h
  exact absurd hr (by decide)
theorem no3 : NoSet [55, 44, 49] := fun L h hr => by
  have e : rdText [55, 44, 49] = some [(7, 7), (1, 1)] := by decide
  rw [e] at h; injection h with h; subst h
  exact absurd hr (by decide)
theorem no4 : NoSet [49, 45, 49] := fun L h hr => by
  have e : rdText [49, 45, 49] = some [(1, 1)] := by decide
  rw [e] at h; injection h with h; subst h
  simp [settext, Lib.join, List.intercalate, stext, dec_small.1]
theorem no5 : NoSet [48, 49] := fun L h hr => by
  have e : rdText [48, 49] = some [(1, 1)] := by decide
  rw [e] at h; injection h with h; subst h
  simp [settext, Lib.join, List.intercalate, stext, dec_small.1]
theorem no6 : NoSet [49, 44] := fun L h hr => by
  have e : rdText [49, 44] = none := by decide
  rw [e] at h; cases h
/-- The prefixes of 1 to 6 are four. -/
theorem cov_same {t f : Nat} {L M : List (Nat × Nat)} (h : Cov t f L) (k : Cov t f M) : L = M := by
  induction h generalizing M with
  | last h e =>
    cases k with
    | last h' e' => rw [isW_uniq h h']
    | more h' e' r' => have := isW_uniq h h'; subst this; omega
  | more h e r ih =>
    cases k with
    | last h' e' => have := isW_uniq h h'; subst this; omega
    | more h' e' r' => have := isW_uniq h h'; subst this; rw [ih r']
theorem cov16 : Cov 6 1 [(1, 32), (2, 31), (4, 31), (6, 32)] :=
  .more (by unfold IsW PR; decide) (by decide) (.more (by unfold IsW PR; decide) (by decide) (.more (by unfold IsW PR; decide) (by decide) (.last (by unfold IsW PR; decide) (by decide))))
theorem ex_prefixes {L : List (Nat × Nat)} (h : Covs [(1, 6)] L) : L.length = 4 := by
  obtain ⟨l, hl⟩ : ∃ l : List Sp, l = [(1, 6)] := ⟨_, rfl⟩
  rw [← hl] at h
  cases h with
  | nil => cases hl
  | @snoc l' x L' C h hC =>
    have h1 : l' = [] ∧ x = (1, 6) := by
      have := congrArg List.length hl
      simp at this
      subst this
      simp at hl
      exact ⟨rfl, hl⟩
    obtain ⟨rfl, rfl⟩ := h1
    cases cov_same hC cov16
    obtain ⟨l2, hl2⟩ : ∃ l2 : List Sp, l2 = [] := ⟨_, rfl⟩
    rw [← hl2] at h
    cases h with
    | nil => rfl
    | snoc h hC => simp at hl2
end Go.Proofs.YtjfadoealhlccaaGreatDoor
