/- How many prefixes cover a range: at most 62; neighbours are not one prefix. Plain facts. -/
import Derived.Test.YtjfadoealhlccaaGreatDoorCov
namespace Go.Proofs.YtjfadoealhlccaaGreatDoor
open Go.RowKit
set_option linter.unusedVariables false

theorem psize_anti {m n : Nat} (h : psize m < psize n) : n < m := by
  rcases Nat.lt_or_ge n m with h1 | h1
  · exact h1
  · have := Nat.le_of_dvd (psize_pos m) (psize_dvd h1)
    omega
theorem mod_of_dvd {s u g : Nat} (h : s ∣ u) (hg : g % u = 0) : g % s = 0 :=
  Nat.mod_eq_zero_of_dvd (Nat.dvd_trans h (Nat.dvd_of_mod_eq_zero hg))
theorem psize_pred {m : Nat} (h : 1 ≤ m) (h2 : m ≤ 32) : psize (m - 1) = 2 * psize m := by
  have := psize_succ (n := m - 1) (by omega)
  rwa [show m - 1 + 1 = m by omega] at this
theorem add_self_mod {g s : Nat} (h : g % s = 0) : (g + s) % s = 0 := by rw [Nat.add_mod_right]; exact h
theorem cov_tail {t g : Nat} {L : List (Nat × Nat)} (h : Cov t g L) : ∀ n, n ≤ 32 → g % psize n = 0 → t + 1 - g < psize n → L.length + n ≤ 32 := by
  induction h with
  | @last g m hw e =>
    intro n hn ha hr
    have hp := psize_pos m
    have : n < m := psize_anti (by omega)
    have := hw.1.1
    simp only [List.length_cons, List.length_nil]
    omega
  | @more g m l hw e r ih =>
    intro n hn ha hr
    have hp := psize_pos m
    have hnm : n < m := psize_anti (by have := hw.2.1; omega)
    have hm := hw.1.1
    have hd := psize_pred (m := m) (by omega) hm
    have hno : t < g + (psize (m - 1) - 1) := by
      rcases hw.2.2 with h0 | h0
      · omega
      · rcases Nat.lt_or_ge t (g + (psize (m - 1) - 1)) with h1 | h1
        · exact h1
        · exact absurd ⟨⟨by omega, mod_of_dvd (psize_dvd (show n ≤ m - 1 by omega)) ha⟩, h1⟩ h0
    have := ih m hm (add_self_mod hw.1.2) (by omega)
    simp only [List.length_cons]
    omega
theorem half_of {g : Nat} (h : g % psize 1 = 0) (h0 : 0 < g) : 2147483648 ≤ g := by
  have e : psize 1 = 2147483648 := rfl
  rw [e] at h
  omega
theorem cov_head {t g : Nat} {L : List (Nat × Nat)} (h : Cov t g L) (ht : t < 4294967296) : ∀ n, 1 ≤ n → n ≤ 32 → 0 < g → g % psize n = 0 → L.length ≤ n + 30 := by
  induction h with
  | @last g m hw e =>
    intro n hn hn2 h0 ha
    simp only [List.length_cons, List.length_nil]
    omega
  | @more g m l hw e r ih =>
    intro n hn hn2 h0 ha
    have hp := psize_pos m
    have hm := hw.1.1
    have hm2 : 2 ≤ m := by
      rcases Nat.lt_or_ge m 2 with h1 | h1
      · exfalso
        have h2 := half_of (mod_of_dvd (psize_dvd (show m ≤ 1 by omega)) hw.1.2) h0
        have h3 := Nat.le_of_dvd hp (psize_dvd (show m ≤ 1 by omega))
        have e1 : psize 1 = 2147483648 := rfl
        omega
      · exact h1
    have hd := psize_pred (m := m) (by omega) hm
    simp only [List.length_cons]
    by_cases hpr : PR g (m - 1)
    · have hno : t < g + (psize (m - 1) - 1) := by
        rcases hw.2.2 with h1 | h1
        · omega
        · rcases Nat.lt_or_ge t (g + (psize (m - 1) - 1)) with h2 | h2
          · exact h2
          · exact absurd ⟨hpr, h2⟩ h1
      have := cov_tail r m hm (add_self_mod hw.1.2) (by omega)
      omega
    · have hmn : m ≤ n := by
        rcases Nat.lt_or_ge n m with h1 | h1
        · exact absurd ⟨by omega, mod_of_dvd (psize_dvd (show n ≤ m - 1 by omega)) ha⟩ hpr
        · exact h1
      have hg2 : (g + psize m) % psize (m - 1) = 0 := by
        have h1 : g % psize m = 0 := hw.1.2
        have h2 : ¬ g % psize (m - 1) = 0 := fun h => hpr ⟨by omega, h⟩
        rw [hd] at h2 ⊢
        obtain ⟨q, hq⟩ := Nat.dvd_of_mod_eq_zero h1
        generalize psize m = s at *
        subst hq
        rcases Nat.mod_two_eq_zero_or_one q with hq | hq
        · exfalso
          apply h2
          obtain ⟨p, rfl⟩ : ∃ p, q = 2 * p := ⟨q / 2, by omega⟩
          rw [show s * (2 * p) = 2 * s * p by rw [Nat.mul_left_comm, Nat.mul_assoc]]
          exact Nat.mul_mod_right _ _
        · obtain ⟨p, rfl⟩ : ∃ p, q = 2 * p + 1 := ⟨q / 2, by omega⟩
          rw [show s * (2 * p + 1) + s = 2 * s * (p + 1) by rw [Nat.mul_add, Nat.mul_add, Nat.mul_left_comm, Nat.mul_assoc]; omega]
          exact Nat.mul_mod_right _ _
      have := ih (m - 1) (by omega) (by omega) (by omega) hg2
      omega
theorem cov_62 {t f : Nat} {L : List (Nat × Nat)} (h : Cov t f L) (ht : t < 4294967296) : L.length ≤ 62 := by
  rcases Nat.eq_zero_or_pos f with h0 | h0
  · subst h0
    cases h with
    | last hw e => simp
    | @more _ m l hw e r =>
      have hp := psize_pos m
      have hm := hw.1.1
      have hm1 : 1 ≤ m := by
        rcases Nat.eq_zero_or_pos m with h1 | h1
        · subst h1
          rw [psize_zero] at e
          omega
        · exact h1
      have hd := psize_pred (m := m) hm1 hm
      have hno : t < 0 + (psize (m - 1) - 1) := by
        rcases hw.2.2 with h1 | h1
        · omega
        · rcases Nat.lt_or_ge t (0 + (psize (m - 1) - 1)) with h2 | h2
          · exact h2
          · exact absurd ⟨⟨by omega, Nat.zero_mod _⟩, h2⟩ h1
      have := cov_tail r m hm (add_self_mod hw.1.2) (by omega)
      simp only [List.length_cons]
      omega
  · have := cov_head h ht 32 (by decide) (by decide) h0 (by rw [psize_big (by decide)]; omega)
    omega
theorem cov_ne {t f : Nat} {L : List (Nat × Nat)} (h : Cov t f L) : 0 < L.length := by cases h <;> simp

/-- Where the k-th prefix of a cover begins. -/
def CovAt (t : Nat) (L : List (Nat × Nat)) (k g : Nat) : Prop := Cov t g (L.drop k) ∨ (k = L.length ∧ g = t + 1)
theorem covAt_start {t f : Nat} {L : List (Nat × Nat)} (h : Cov t f L) : CovAt t L 0 f := .inl h
theorem covAt_step {t g k : Nat} {L : List (Nat × Nat)} (h : CovAt t L k g) (hk : k < L.length) : ∃ n, L[k]? = some (g, n) ∧ IsW g t n ∧ CovAt t L (k + 1) (g + psize n) := by
  rcases h with h | h
  · have hd : L.drop k = L[k] :: L.drop (k + 1) := List.drop_eq_getElem_cons hk
    rw [hd] at h
    generalize hx : L[k] = x at h
    generalize hr : L.drop (k + 1) = l at h
    have hs : L[k]? = some x := by rw [List.getElem?_eq_getElem hk, hx]
    cases h with
    | @last _ n hw e =>
      refine ⟨n, hs, hw, .inr ⟨?_, ?_⟩⟩
      · have := congrArg List.length hr
        simp at this
        omega
      · have := psize_pos n
        omega
    | @more _ n l' hw e r => exact ⟨n, hs, hw, .inl (by rw [hr]; exact r)⟩
  · omega
theorem covAt_end {t g k : Nat} {L : List (Nat × Nat)} (h : CovAt t L k g) (hk : k = L.length) : g = t + 1 := by
  rcases h with h | h
  · rw [hk, List.drop_length] at h
    cases h
  · exact h.2
/-- Two neighbours of one length are not together one prefix. -/
theorem cov_apart {t g n : Nat} (h : IsW g t n) (hn : 1 ≤ n) (h2 : g + psize n + (psize n - 1) ≤ t) : ¬ PI g n (pcut (g + psize n) (n - 1)) (n - 1) := by
  rintro ⟨h3, h4, h5, h6⟩
  have hp := psize_pos n
  have hd := psize_pred hn h.1.1
  have h7 := h.2.2
  rcases h7 with h7 | h7
  · omega
  · apply h7
    have e1 := pcut_add g (n - 1)
    have e2 := pcut_add (g + psize n) (n - 1)
    have l1 := Nat.mod_lt g (psize_pos (n - 1))
    have l2 := Nat.mod_lt (g + psize n) (psize_pos (n - 1))
    have a1 : g % psize n = 0 := h.1.2
    have : g % psize (n - 1) = 0 := by
      have c1 := pcut_mod g (n - 1)
      have hdv : psize n ∣ psize (n - 1) := psize_dvd (by omega)
      have hz : (g % psize (n - 1)) % psize n = 0 := by rw [Nat.mod_mod_of_dvd _ hdv]; exact a1
      have hz2 := Nat.div_add_mod (g % psize (n - 1)) (psize n)
      rw [hz] at hz2
      rcases Nat.eq_zero_or_pos (g % psize (n - 1) / psize n) with h0 | h0
      · rw [h0] at hz2; omega
      · have := Nat.mul_le_mul_left (psize n) h0
        omega
    have hn32 := h.1.1
    exact ⟨⟨by omega, this⟩, by omega⟩
end Go.Proofs.YtjfadoealhlccaaGreatDoor
