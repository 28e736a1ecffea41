/- Decimal texts, and the texts of addresses, prefixes, ranges and keys: plain facts on lists of bytes. No program's text is named here. -/
import Derived.Test.YtjfadoealhlccaaGreatDoorBase
import Derived.Lib.ItoaNum
import Derived.Lib.ItoaMem
import Derived.Lib.ParseIntB
import Derived.Lib.ParseIntBCases
namespace Go.Proofs.YtjfadoealhlccaaGreatDoor
open Go.RowKit
set_option linter.unusedVariables false

def Dg (c : UInt8) : Prop := 48 ≤ c.toNat ∧ c.toNat ≤ 57
instance (c : UInt8) : Decidable (Dg c) := by unfold Dg; infer_instance
def dec (n : Nat) : List UInt8 := Lib.decDigits n
theorem dec_lo {n : Nat} (h : n < 10) : dec n = [UInt8.ofNat (48 + n)] := Lib.decDigits_one h
theorem dec_hi {n : Nat} (h : ¬ n < 10) : dec n = dec (n / 10) ++ [UInt8.ofNat (48 + n % 10)] := by unfold dec; rw [Lib.decDigits, dif_neg h]
theorem dg_of {d : Nat} (h : d < 10) : (UInt8.ofNat (48 + d)).toNat = 48 + d := by simp only [UInt8.toNat_ofNat']; omega
theorem dec_dg (n : Nat) : ∀ c ∈ dec n, Dg c := by
  induction n using Nat.strongRecOn with
  | ind n ih =>
    intro c hc
    by_cases h : n < 10
    · rw [dec_lo h] at hc
      simp only [List.mem_singleton] at hc
      subst hc
      unfold Dg
      rw [dg_of h]; omega
    · rw [dec_hi h, List.mem_append, List.mem_singleton] at hc
      rcases hc with hc | rfl
      · exact ih _ (by omega) c hc
      · unfold Dg
        rw [dg_of (Nat.mod_lt _ (by omega))]; omega
theorem dec_ne (n : Nat) : dec n ≠ [] := by
  by_cases h : n < 10
  · rw [dec_lo h]; simp
  · rw [dec_hi h]; simp
theorem dec_len_le {n : Nat} (h : n < 1000000000000000000) : (dec n).length ≤ 18 := by
  unfold dec
  rw [Lib.decDigits_length]
  have h2 : ∀ (k u : Nat), u < 10 ^ (k + 1) → Lib.nDigits u ≤ k + 1 := by
    intro k
    induction k with
    | zero => intro u hu; rw [Lib.nDigits_small (by simpa using hu)]; omega
    | succ k ih =>
      intro u hu
      by_cases hs : u < 10
      · rw [Lib.nDigits_small hs]; omega
      · rw [Lib.nDigits_big hs]
        have := ih (u / 10) (by rw [Nat.pow_succ] at hu; omega)
        omega
  exact h2 17 n (by simpa using h)
theorem dec_len3 {n : Nat} (h : n < 256) : (dec n).length ≤ 3 := by
  by_cases h1 : n < 10
  · rw [dec_lo h1]; simp
  · rw [dec_hi h1]
    by_cases h2 : n / 10 < 10
    · rw [dec_lo h2]; simp
    · rw [dec_hi h2, dec_lo (by omega)]; simp
theorem dec_len5 {n : Nat} (h : n < 65536) : (dec n).length ≤ 5 := by
  by_cases h1 : n < 2560
  · by_cases h0 : n < 10
    · rw [dec_lo h0]; simp
    · rw [dec_hi h0]
      have := dec_len3 (n := n / 10) (by omega)
      simp; omega
  · rw [dec_hi (by omega), dec_hi (by omega)]
    have := dec_len3 (n := n / 10 / 10) 
    by_cases h2 : n / 10 / 10 < 256
    · have := this h2; simp; omega
    · rw [dec_hi (by omega)]
      have := dec_len3 (n := n / 10 / 10 / 10) (by omega)
      by_cases h3 : n / 10 / 10 / 10 < 10
      · rw [dec_lo h3]; simp
      · have h4 : (dec (n / 10 / 10 / 10)).length ≤ 2 := by rw [dec_hi h3, dec_lo (by omega)]; simp
        simp; omega

theorem parse_dec_app (M : Nat) (hM : M ≤ 1000000000000000000) (r : List UInt8) : ∀ (n : Nat), n ≤ M → ∀ r, Lib.parseUintM M 0 (dec n ++ r) = Lib.parseUintM M n r := by
  intro n
  induction n using Nat.strongRecOn with
  | ind n ih =>
    intro hn r
    by_cases h : n < 10
    · rw [dec_lo h]
      simp only [List.cons_append, List.nil_append]
      rw [Lib.parseUintM, dg_of h, if_pos (by omega), if_neg (by omega), if_neg (by omega)]
      congr 1
      omega
    · rw [dec_hi h, List.append_assoc, ih _ (by omega) (by omega)]
      simp only [List.cons_append, List.nil_append]
      rw [Lib.parseUintM, dg_of (Nat.mod_lt _ (by omega)), if_pos (by omega), if_neg (by omega), if_neg (by omega)]
      congr 1
      omega
theorem parse_dec {n : Nat} (h : n < 65536) : Lib.parseUintB 16 (dec n) = .ok n := by
  unfold Lib.parseUintB
  rw [if_neg (dec_ne n)]
  have := parse_dec_app 65535 (by decide) [] n (by omega) []
  rw [List.append_nil] at this
  exact this
theorem parse_dec64 {n : Nat} (h : n ≤ 1000000000000000000) : Lib.parseUintM 1000000000000000000 0 (dec n) = .ok n := by
  have := parse_dec_app 1000000000000000000 (by decide) [] n (by omega) []
  rw [List.append_nil] at this
  exact this
theorem dec_inj {a b : Nat} (ha : a ≤ 1000000000000000000) (hb : b ≤ 1000000000000000000) (h : dec a = dec b) : a = b := by
  have h1 := parse_dec64 ha
  rw [h, parse_dec64 hb] at h1
  injection h1 with h1
  exact h1.symm

/-- What stands before and after the first c. -/
def Free (c : UInt8) (l : List UInt8) : Prop := c ∉ l
theorem dec_free {c : UInt8} (hc : ¬ Dg c) (n : Nat) : c ∉ dec n := fun h => hc (dec_dg n c h)
theorem first_unique {c : UInt8} : ∀ {a b x y : List UInt8}, c ∉ a → c ∉ b → a ++ c :: x = b ++ c :: y → a = b ∧ x = y
  | [], [], x, y, _, _, h => by simpa using h
  | [], d :: b, x, y, _, hb, h => by
    simp only [List.nil_append, List.cons_append, List.cons.injEq] at h
    exact absurd (by rw [h.1]; simp) hb
  | d :: a, [], x, y, ha, _, h => by
    simp only [List.nil_append, List.cons_append, List.cons.injEq] at h
    exact absurd (by rw [h.1]; simp) ha
  | d :: a, e :: b, x, y, ha, hb, h => by
    simp only [List.cons_append, List.cons.injEq] at h
    have := first_unique (fun hh => ha (by simp [hh])) (fun hh => hb (by simp [hh])) h.2
    exact ⟨by rw [h.1, this.1], this.2⟩

/-- The text of an address of four bytes. -/
def quad (p q r s : Nat) : List UInt8 := dec p ++ 46 :: (dec q ++ 46 :: (dec r ++ 46 :: dec s))
def atext (a : Nat) : List UInt8 := quad (a / 16777216) (a / 65536 % 256) (a / 256 % 256) (a % 256)
theorem dot_dg : ¬ Dg 46 := by decide
theorem quad_inj {p q r s p' q' r' s' : Nat} (h1 : p < 256) (h2 : q < 256) (h3 : r < 256) (h4 : s < 256) (k1 : p' < 256) (k2 : q' < 256) (k3 : r' < 256) (k4 : s' < 256) (h : quad p q r s = quad p' q' r' s') : p = p' ∧ q = q' ∧ r = r' ∧ s = s' := by
  unfold quad at h
  obtain ⟨e1, h⟩ := first_unique (dec_free dot_dg _) (dec_free dot_dg _) h
  obtain ⟨e2, h⟩ := first_unique (dec_free dot_dg _) (dec_free dot_dg _) h
  obtain ⟨e3, e4⟩ := first_unique (dec_free dot_dg _) (dec_free dot_dg _) h
  exact ⟨dec_inj (by omega) (by omega) e1, dec_inj (by omega) (by omega) e2, dec_inj (by omega) (by omega) e3, dec_inj (by omega) (by omega) e4⟩
theorem atext_inj {a b : Nat} (ha : a < 4294967296) (hb : b < 4294967296) (h : atext a = atext b) : a = b := by
  have := quad_inj (by omega) (by omega) (by omega) (by omega) (by omega) (by omega) (by omega) (by omega) h
  omega
theorem quad_atext {p q r s : Nat} (h1 : p < 256) (h2 : q < 256) (h3 : r < 256) (h4 : s < 256) : quad p q r s = atext (((p * 256 + q) * 256 + r) * 256 + s) ∧ ((p * 256 + q) * 256 + r) * 256 + s < 4294967296 := by
  unfold atext
  refine ⟨?_, by omega⟩
  congr 1 <;> omega
/-- The signs of an address's text. -/
theorem quad_free {c : UInt8} (hc : ¬ Dg c) (hd : c ≠ 46) (p q r s : Nat) : c ∉ quad p q r s := by
  unfold quad
  simp only [List.mem_append, List.mem_cons, not_or]
  exact ⟨dec_free hc _, hd, dec_free hc _, hd, dec_free hc _, hd, dec_free hc _⟩
theorem atext_free {c : UInt8} (hc : ¬ Dg c) (hd : c ≠ 46) (a : Nat) : c ∉ atext a := quad_free hc hd _ _ _ _
theorem atext_len {a : Nat} (h : a < 4294967296) : (atext a).length ≤ 15 := by
  unfold atext quad
  have h1 := dec_len3 (n := a / 16777216) (by omega)
  have h2 := dec_len3 (n := a / 65536 % 256) (by omega)
  have h3 := dec_len3 (n := a / 256 % 256) (by omega)
  have h4 := dec_len3 (n := a % 256) (by omega)
  simp only [List.length_append, List.length_cons]
  omega

/-- The text of a prefix. -/
def ptext (a n : Nat) : List UInt8 := atext a ++ 47 :: dec n
theorem ptext_inj {a b m n : Nat} (ha : a < 4294967296) (hb : b < 4294967296) (hm : m < 256) (hn : n < 256) (h : ptext a m = ptext b n) : a = b ∧ m = n := by
  obtain ⟨e1, e2⟩ := first_unique (atext_free (by decide) (by decide) _) (atext_free (by decide) (by decide) _) h
  exact ⟨atext_inj ha hb e1, dec_inj (by omega) (by omega) e2⟩
/-- The text of a right range. -/
def rtext (a b : Nat) : List UInt8 := if a = 0 ∧ b = 65535 then [42] else if a = b then dec a else dec a ++ 45 :: dec b
theorem star_ne_dec (n : Nat) : dec n ≠ [42] := fun h => by
  have := dec_dg n 42 (by rw [h]; simp)
  revert this; decide
theorem star_ne_two (l r : List UInt8) : l ++ 45 :: r ≠ [42] := fun h => by
  have : (45 : UInt8) ∈ [(42 : UInt8)] := by rw [← h]; simp
  simp at this
theorem rtext_inj {a b c d : Nat} (ha : a < 65536) (hb : b < 65536) (hc : c < 65536) (hd : d < 65536) (h : rtext a b = rtext c d) : a = c ∧ b = d := by
  have nd : ¬ Dg 45 := by decide
  have key : ∀ x y, (x = 0 ∧ y = 65535 ∧ rtext x y = [42]) ∨ (x = y ∧ rtext x y = dec x ∧ rtext x y ≠ [42]) ∨ (rtext x y = dec x ++ 45 :: dec y ∧ rtext x y ≠ [42]) := by
    intro x y
    unfold rtext
    by_cases h1 : x = 0 ∧ y = 65535
    · rw [if_pos h1]; exact .inl ⟨h1.1, h1.2, rfl⟩
    · rw [if_neg h1]
      by_cases h2 : x = y
      · rw [if_pos h2]; exact .inr (.inl ⟨h2, rfl, star_ne_dec _⟩)
      · rw [if_neg h2]; exact .inr (.inr ⟨rfl, star_ne_two _ _⟩)
  rcases key a b with ⟨e1, e2, e3⟩ | ⟨e1, e2, e3⟩ | ⟨e2, e3⟩ <;> rcases key c d with ⟨f1, f2, f3⟩ | ⟨f1, f2, f3⟩ | ⟨f2, f3⟩
  · omega
  · exact absurd (h.symm.trans e3) f3
  · exact absurd (h.symm.trans e3) f3
  · exact absurd (h.trans f3) e3
  · have := dec_inj (by omega) (by omega) (e2.symm.trans (h.trans f2)); omega
  · have e := e2.symm.trans (h.trans f2)
    exact absurd (by rw [e]; simp) (dec_free nd a)
  · exact absurd (h.trans f3) e3
  · have e := f2.symm.trans (h.symm.trans e2)
    exact absurd (by rw [e]; simp) (dec_free nd c)
  · obtain ⟨g1, g2⟩ := first_unique (dec_free nd _) (dec_free nd _) (e2.symm.trans (h.trans f2))
    exact ⟨dec_inj (by omega) (by omega) g1, dec_inj (by omega) (by omega) g2⟩
/-- The text of one end of a key, and of a key. -/
def etext (a p : Nat) : List UInt8 := atext a ++ 58 :: dec p
def ktext (k a p b q : Nat) : List UInt8 := dec k ++ 32 :: (etext a p ++ 32 :: etext b q)
theorem etext_free {c : UInt8} (hc : ¬ Dg c) (hd : c ≠ 46) (he : c ≠ 58) (a p : Nat) : c ∉ etext a p := by
  unfold etext
  simp only [List.mem_append, List.mem_cons, not_or]
  exact ⟨atext_free hc hd _, he, dec_free hc _⟩
theorem etext_inj {a b p q : Nat} (ha : a < 4294967296) (hb : b < 4294967296) (hp : p < 65536) (hq : q < 65536) (h : etext a p = etext b q) : a = b ∧ p = q := by
  obtain ⟨e1, e2⟩ := first_unique (atext_free (by decide) (by decide) _) (atext_free (by decide) (by decide) _) h
  exact ⟨atext_inj ha hb e1, dec_inj (by omega) (by omega) e2⟩
theorem ktext_inj {k a p b q k' a' p' b' q' : Nat} (h1 : k < 256) (h2 : a < 4294967296) (h3 : p < 65536) (h4 : b < 4294967296) (h5 : q < 65536) (j1 : k' < 256) (j2 : a' < 4294967296) (j3 : p' < 65536) (j4 : b' < 4294967296) (j5 : q' < 65536) (h : ktext k a p b q = ktext k' a' p' b' q') : k = k' ∧ a = a' ∧ p = p' ∧ b = b' ∧ q = q' := by
  unfold ktext at h
  obtain ⟨e1, h⟩ := first_unique (dec_free (by decide) _) (dec_free (by decide) _) h
  obtain ⟨e2, e3⟩ := first_unique (etext_free (by decide) (by decide) (by decide) _ _) (etext_free (by decide) (by decide) (by decide) _ _) h
  obtain ⟨f1, f2⟩ := etext_inj h2 j2 h3 j3 e2
  obtain ⟨g1, g2⟩ := etext_inj h4 j4 h5 j5 e3
  exact ⟨dec_inj (by omega) (by omega) e1, f1, f2, g1, g2⟩
end Go.Proofs.YtjfadoealhlccaaGreatDoor
