/- Prefixes as numbers: plain facts. No program's text is named here. -/
import Derived.Test.YtjfadoealhlccaaGreatDoorBase
namespace Go.Proofs.YtjfadoealhlccaaGreatDoor
open Go.RowKit
set_option linter.unusedVariables false

/-- How many addresses a prefix of n bits has; the number whose first n bits are 1. -/
def psize (n : Nat) : Nat := 2 ^ (32 - n)
def pmask (n : Nat) : Nat := 4294967296 - psize n
theorem psize_pos (n : Nat) : 0 < psize n := Nat.pow_pos (by decide)
theorem psize_le (n : Nat) : psize n ≤ 4294967296 := by
  have : 2 ^ (32 - n) ≤ 2 ^ 32 := Nat.pow_le_pow_right (by decide) (by omega)
  unfold psize; omega
theorem psize_big {n : Nat} (h : 32 ≤ n) : psize n = 1 := by unfold psize; rw [show 32 - n = 0 by omega]
theorem psize_zero : psize 0 = 4294967296 := rfl
theorem psize_succ {n : Nat} (h : n < 32) : psize n = 2 * psize (n + 1) := by
  unfold psize
  rw [show 32 - n = (32 - (n + 1)) + 1 by omega, Nat.pow_succ]; omega
theorem psize_dvd {m n : Nat} (h : m ≤ n) : psize n ∣ psize m := by
  unfold psize
  exact Nat.pow_dvd_pow 2 (by omega)
theorem psize_dvd32 (n : Nat) : psize n ∣ 4294967296 := psize_dvd (m := 0) (Nat.zero_le n)
theorem pmask_lt (n : Nat) : pmask n < 4294967296 := by have := psize_pos n; unfold pmask; omega

/-- The prefix's first address for a. -/
def pcut (a n : Nat) : Nat := a / psize n * psize n
theorem pcut_le (a n : Nat) : pcut a n ≤ a := Nat.div_mul_le_self _ _
theorem pcut_mod (a n : Nat) : pcut a n % psize n = 0 := Nat.mul_mod_left _ _
theorem pcut_add (a n : Nat) : pcut a n + a % psize n = a := by unfold pcut; rw [Nat.mul_comm]; exact Nat.div_add_mod a (psize n)
theorem pcut_self {a n : Nat} (h : a % psize n = 0) : pcut a n = a := by have := pcut_add a n; omega

theorem and_mask {a k : Nat} (ha : a < 4294967296) (hk : k ≤ 32) : a &&& (4294967296 - 2 ^ k) = a / 2 ^ k * 2 ^ k := by
  have h2 : 2 ^ k ≤ 2 ^ 32 := Nat.pow_le_pow_right (by decide) hk
  have hp : 0 < 2 ^ k := Nat.pow_pos (by decide)
  have e : 4294967296 - 2 ^ k = 2 ^ 32 - (2 ^ k - 1 + 1) := by omega
  rw [e]
  apply Nat.eq_of_testBit_eq
  intro i
  rw [Nat.testBit_and, Nat.testBit_two_pow_sub_succ (by omega), Nat.testBit_two_pow_sub_one, ← Nat.shiftLeft_eq, Nat.testBit_shiftLeft, Nat.testBit_div_two_pow]
  by_cases hi : i < 32
  · by_cases hki : k ≤ i
    · rw [show i - k + k = i by omega]; simp [hi, hki, Nat.not_lt.2 hki]
    · simp [hi, hki]; omega
  · have hf : a.testBit i = false := Nat.testBit_lt_two_pow (Nat.lt_of_lt_of_le ha (by have : 2 ^ 32 ≤ 2 ^ i := Nat.pow_le_pow_right (by decide) (by omega); omega))
    by_cases hki : k ≤ i
    · rw [show i - k + k = i by omega]; simp [hf]
    · omega
theorem and_pmask {a : Nat} (ha : a < 4294967296) (n : Nat) : a &&& pmask n = pcut a n := and_mask ha (by omega)
/-- a without the first n bits. -/
theorem andnot_pmask {a : Nat} (ha : a < 4294967296) (n : Nat) : a &&& (4294967295 - pmask n) = a % psize n := by
  have h1 := psize_le n
  have h2 := psize_pos n
  rw [show 4294967295 - pmask n = psize n - 1 by unfold pmask; omega]
  unfold psize
  rw [Nat.and_two_pow_sub_one_eq_mod]
/-- The last address: all further bits set. -/
theorem or_pmask {a : Nat} (n : Nat) (hr : a % psize n = 0) : a ||| (4294967295 - pmask n) = a + (psize n - 1) := by
  have h1 := psize_le n
  have h2 := psize_pos n
  rw [show 4294967295 - pmask n = psize n - 1 by unfold pmask; omega]
  obtain ⟨q, hq⟩ : psize n ∣ a := Nat.dvd_of_mod_eq_zero hr
  have e := Nat.two_pow_add_eq_or_of_lt (i := 32 - n) (b := psize n - 1) (by unfold psize at *; omega) q
  rw [hq]
  exact e.symm
/-- The greatest address of a right prefix fits. -/
theorem plast_lt {a n : Nat} (ha : a < 4294967296) (hr : a % psize n = 0) : a + (psize n - 1) < 4294967296 := by
  obtain ⟨q, hq⟩ : psize n ∣ a := Nat.dvd_of_mod_eq_zero hr
  obtain ⟨r, hr2⟩ := psize_dvd32 n
  have hp := psize_pos n
  have hqr : q < r := by
    rcases Nat.lt_or_ge q r with h | h
    · exact h
    · have := Nat.mul_le_mul_left (psize n) h
      omega
  have := Nat.mul_le_mul_left (psize n) (show q + 1 ≤ r from hqr)
  rw [Nat.mul_add] at this
  omega

/-- A prefix is right. -/
def PR (a n : Nat) : Prop := n ≤ 32 ∧ a % psize n = 0
instance (a n : Nat) : Decidable (PR a n) := by unfold PR; infer_instance
/-- A right prefix has an address. -/
def PH (a n x : Nat) : Prop := PR a n ∧ pcut x n = a
instance (a n x : Nat) : Decidable (PH a n x) := by unfold PH; infer_instance
theorem ph_iff {a n x : Nat} (h : PR a n) : PH a n x ↔ a ≤ x ∧ x ≤ a + (psize n - 1) := by
  have hp := psize_pos n
  have hc := pcut_add x n
  have hm := Nat.mod_lt x hp
  unfold PH
  constructor
  · rintro ⟨_, e⟩; omega
  · rintro ⟨h1, h2⟩
    refine ⟨h, ?_⟩
    obtain ⟨q, hq⟩ : psize n ∣ a := Nat.dvd_of_mod_eq_zero h.2
    unfold pcut
    have : x / psize n = q := by
      apply Nat.div_eq_of_lt_le
      · rw [Nat.mul_comm]; omega
      · rw [Nat.mul_comm, Nat.mul_add]; omega
    rw [this, hq, Nat.mul_comm]
/-- One prefix is inside another one. -/
def PI (a m b n : Nat) : Prop := PR a m ∧ n ≤ m ∧ PH b n a
instance (a m b n : Nat) : Decidable (PI a m b n) := by unfold PI; infer_instance
theorem pi_refl {a n : Nat} (h : PR a n) : PI a n a n := ⟨h, Nat.le_refl _, h, pcut_self h.2⟩
/-- What is cut at m bits and then at fewer is cut at fewer. -/
theorem pcut_pcut {x m n : Nat} (h : n ≤ m) : pcut (pcut x m) n = pcut x n := by
  obtain ⟨q, hq⟩ := psize_dvd h
  have hp := psize_pos m
  have hn := psize_pos n
  unfold pcut
  congr 1
  rw [hq, ← Nat.div_div_eq_div_mul, ← Nat.div_div_eq_div_mul, Nat.mul_div_cancel _ hp]
theorem pi_has {a m b n x : Nat} (h : PI a m b n) (hx : PH a m x) : PH b n x := by
  obtain ⟨_, h2, h3, h4⟩ := h
  refine ⟨h3, ?_⟩
  rw [← h4, ← hx.2, pcut_pcut h2]
theorem meet_pi {a m b n x : Nat} (h1 : PH a m x) (h2 : PH b n x) (h : n ≤ m) : PI a m b n := by
  refine ⟨h1.1, h, h2.1, ?_⟩
  rw [← h1.2, pcut_pcut h, h2.2]
theorem pr_cut (a : Nat) {n : Nat} (h : n ≤ 32) : PR (pcut a n) n := ⟨h, pcut_mod _ _⟩
theorem ph_cut (a : Nat) {n : Nat} (h : n ≤ 32) : PH (pcut a n) n a := ⟨pr_cut a h, rfl⟩
end Go.Proofs.YtjfadoealhlccaaGreatDoor
