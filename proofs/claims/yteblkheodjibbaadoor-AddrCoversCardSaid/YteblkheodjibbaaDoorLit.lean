/- The examples' texts: which they are, and which no text is. SamePrefixes. -/
import Derived.Test.YteblkheodjibbaaDoorRdr
import Derived.Test.YteblkheodjibbaaDoorCol
namespace Go.Proofs.YteblkheodjibbaaDoor
open Go.RowKit
set_option linter.unusedVariables false
set_option maxRecDepth 20000

theorem dec_val {n v : Nat} {d : List UInt8} (hn : n ≤ 1000000000000000000) (h : d = dec n) (hp : Lib.parseUintM 1000000000000000000 0 d = .ok v) : n = v := by
  have h1 := parse_dec64 hn
  rw [← h, hp] at h1
  injection h1 with h1
  exact h1.symm
theorem quad_count (p q r s : Nat) : (quad p q r s).count 46 = 3 := by
  have e : ∀ n, (dec n).count (46 : UInt8) = 0 := fun n => List.count_eq_zero.2 (dec_free dot_dg n)
  unfold quad
  simp [List.count_append, e]
theorem ne_atext {l : List UInt8} (h : l.count 46 ≠ 3) (a : Nat) : l ≠ atext a := fun e => h (by rw [e]; exact quad_count _ _ _ _)
theorem ne_atext' {l : List UInt8} {c : UInt8} (hc : c ∈ l) (h : ¬ Dg c ∧ c ≠ 46) (a : Nat) : l ≠ atext a := fun e => atext_free h.1 h.2 a (e ▸ hc)
theorem ne_ptext {l : List UInt8} (h : (47 : UInt8) ∉ l) (a n : Nat) : l ≠ ptext a n := fun e => h (by rw [e]; simp [ptext])
theorem ne_ptext' {l : List UInt8} {c : UInt8} (hc : c ∈ l) (h : ¬ Dg c ∧ c ≠ 46 ∧ c ≠ 47) (a n : Nat) : l ≠ ptext a n := fun e => by
  rw [e] at hc
  unfold ptext at hc
  rcases List.mem_append.1 hc with hc | hc
  · exact atext_free h.1 h.2.1 a hc
  · rcases List.mem_cons.1 hc with hc | hc
    · exact h.2.2 hc
    · exact dec_free h.1 n hc
theorem ne_rtext {l : List UInt8} {c : UInt8} (hc : c ∈ l) (h : ¬ Dg c ∧ c ≠ 42 ∧ c ≠ 45) (a b : Nat) : l ≠ rtext a b := fun e => by
  rw [e] at hc
  unfold rtext at hc
  split at hc
  · simp at hc; exact h.2.1 hc
  · split at hc
    · exact dec_free h.1 _ hc
    · rcases List.mem_append.1 hc with hc | hc
      · exact dec_free h.1 _ hc
      · rcases List.mem_cons.1 hc with hc | hc
        · exact h.2.2 hc
        · exact dec_free h.1 _ hc
/-- None of the three texts. -/
def Bad (l : List UInt8) : Prop := (∀ a, a < 4294967296 → l ≠ atext a) ∧ (∀ a n, a < 4294967296 → n < 256 → PR a n → l ≠ ptext a n) ∧ (∀ a b, a ≤ b → b < 65536 → l ≠ rtext a b)
def x1L : List UInt8 := [49, 48, 46, 48, 46, 48, 46, 48, 49]
theorem quad_is {p q r s : Nat} {x1 x2 x3 x4 : List UInt8} (g1 : (46 : UInt8) ∉ x1) (g2 : (46 : UInt8) ∉ x2) (g3 : (46 : UInt8) ∉ x3) {a : Nat} (h : x1 ++ 46 :: (x2 ++ 46 :: (x3 ++ 46 :: x4)) = atext a) : x4 = dec (a % 256) := by
  have := parts_uniq g1 g2 g3 h
  simp at this
  exact this.2.2.2
theorem d0 : dec 0 = [48] := dec_lo (by decide)
theorem d1 : dec 1 = [49] := dec_lo (by decide)
theorem d10 : dec 10 = [49, 48] := by rw [dec_hi (by decide), dec_lo (by decide)]; rfl
theorem d8 : dec 8 = [56] := dec_lo (by decide)
theorem a1001 : atext 167772161 = [49, 48, 46, 48, 46, 48, 46, 49] := by
  show quad 10 0 0 1 = _
  unfold quad
  rw [d0, d1, d10]; rfl
theorem a1000 : atext 167772160 = [49, 48, 46, 48, 46, 48, 46, 48] := by
  show quad 10 0 0 0 = _
  unfold quad
  rw [d0, d10]; rfl
theorem a1002 : atext 167772162 = [49, 48, 46, 48, 46, 48, 46, 50] := by
  show quad 10 0 0 2 = _
  unfold quad
  rw [d0, d10, dec_lo (by decide)]; rfl
theorem a1123 : atext 167838211 = [49, 48, 46, 49, 46, 50, 46, 51] := by
  show quad 10 1 2 3 = _
  unfold quad
  rw [d1, d10, dec_lo (n := 2) (by decide), dec_lo (n := 3) (by decide)]; rfl
theorem p10 : ptext 167772160 8 = [49, 48, 46, 48, 46, 48, 46, 48, 47, 56] := by
  unfold ptext
  rw [a1000, d8]; rfl

theorem bad1 : Bad [49, 48, 46, 48, 46, 48, 46, 48, 49] := by
  refine ⟨fun a ha e => ?_, fun a n _ _ _ => ne_ptext (by decide) a n, fun a b _ _ => ne_rtext (c := 46) (by decide) (by decide) a b⟩
  have h4 := quad_is (p := 0) (q := 0) (r := 0) (s := 0) (x1 := [49, 48]) (x2 := [48]) (x3 := [48]) (x4 := [48, 49]) (by decide) (by decide) (by decide) e
  have := dec_val (by omega) h4 (v := 1) (by rfl)
  rw [this, d1] at h4
  exact absurd h4 (by decide)
theorem bad2 : Bad [49, 48, 46, 48, 46, 48] :=
  ⟨fun a _ => ne_atext (by decide) a, fun a n _ _ _ => ne_ptext (by decide) a n, fun a b _ _ => ne_rtext (c := 46) (by decide) (by decide) a b⟩
theorem bad3 : Bad [49, 48, 46, 48, 46, 48, 46, 50, 53, 54] := by
  refine ⟨fun a ha e => ?_, fun a n _ _ _ => ne_ptext (by decide) a n, fun a b _ _ => ne_rtext (c := 46) (by decide) (by decide) a b⟩
  have h4 := quad_is (p := 0) (q := 0) (r := 0) (s := 0) (x1 := [49, 48]) (x2 := [48]) (x3 := [48]) (x4 := [50, 53, 54]) (by decide) (by decide) (by decide) e
  have := dec_val (by omega) h4 (v := 256) (by rfl)
  omega
theorem bad4 : Bad [49, 48, 46, 48, 46, 48, 46, 49, 46] :=
  ⟨fun a _ => ne_atext (by decide) a, fun a n _ _ _ => ne_ptext (by decide) a n, fun a b _ _ => ne_rtext (c := 46) (by decide) (by decide) a b⟩
theorem bad5 : Bad [] := by
  refine ⟨fun a _ => ne_atext (by decide) a, fun a n _ _ _ => ne_ptext (by decide) a n, fun a b _ _ e => ?_⟩
  unfold rtext at e
  split at e
  · cases e
  · split at e
    · exact dec_ne _ e.symm
    · have := congrArg List.length e
      simp at this
theorem bad6 : Bad [49, 48, 46, 48, 46, 48, 46, 49, 47, 56] := by
  refine ⟨fun a _ => ne_atext' (c := 47) (by decide) (by decide) a, fun a n ha hn hp e => ?_, fun a b _ _ => ne_rtext (c := 46) (by decide) (by decide) a b⟩
  have h : ptext 167772161 8 = ptext a n := by rw [← e]; unfold ptext; rw [a1001, d8]; rfl
  obtain ⟨rfl, rfl⟩ := ptext_inj (by decide) ha (by decide) hn h
  exact absurd hp (by decide)
theorem bad7 : Bad [49, 48, 46, 48, 46, 48, 46, 48, 47, 51, 51] := by
  refine ⟨fun a _ => ne_atext' (c := 47) (by decide) (by decide) a, fun a n ha hn hp e => ?_, fun a b _ _ => ne_rtext (c := 46) (by decide) (by decide) a b⟩
  have h : ptext 167772160 33 = ptext a n := by rw [← e]; unfold ptext; rw [a1000, dec_hi (by decide), dec_lo (by decide)]; rfl
  obtain ⟨rfl, rfl⟩ := ptext_inj (by decide) ha (by decide) hn h
  exact absurd hp.1 (by decide)
theorem dec_split {x y : List UInt8} {a b v u : Nat} (ha : a < 65536) (hb : b < 65536) (gx : (45 : UInt8) ∉ x) (h : x ++ 45 :: y = dec a ++ 45 :: dec b) (hx : Lib.parseUintM 1000000000000000000 0 x = .ok v) (hy : Lib.parseUintM 1000000000000000000 0 y = .ok u) : a = v ∧ b = u := by
  obtain ⟨e1, e2⟩ := first_unique gx (dec_free (by decide) _) h
  exact ⟨dec_val (by omega) e1 hx, dec_val (by omega) e2 hy⟩
theorem rng_bad {x y : List UInt8} {v u : Nat} (gx : (45 : UInt8) ∉ x) (hx : Lib.parseUintM 1000000000000000000 0 x = .ok v) (hy : Lib.parseUintM 1000000000000000000 0 y = .ok u) (hb : (v = 0 ∧ u = 65535) ∨ v = u ∨ u < v) (h42 : x ++ 45 :: y ≠ [42]) : ∀ a b, a ≤ b → b < 65536 → x ++ 45 :: y ≠ rtext a b := by
  intro a b hab hb2 e
  unfold rtext at e
  split at e
  · exact h42 e
  · rename_i h1
    split at e
    · exact dec_free (c := 45) (by decide) a (by rw [← e]; simp)
    · rename_i h2
      obtain ⟨rfl, rfl⟩ := dec_split (by omega) hb2 gx e hx hy
      rcases hb with hb | hb | hb
      · exact h1 hb
      · exact h2 hb
      · omega
theorem bad8 : Bad [48, 45, 54, 53, 53, 51, 53] :=
  ⟨fun a _ => ne_atext' (c := 45) (by decide) (by decide) a, fun a n _ _ _ => ne_ptext' (c := 45) (by decide) (by decide) a n, rng_bad (x := [48]) (y := [54, 53, 53, 51, 53]) (v := 0) (u := 65535) (by decide) (by rfl) (by rfl) (by decide) (by decide)⟩
theorem bad9 : Bad [56, 48, 45, 56, 48] :=
  ⟨fun a _ => ne_atext' (c := 45) (by decide) (by decide) a, fun a n _ _ _ => ne_ptext' (c := 45) (by decide) (by decide) a n, rng_bad (x := [56, 48]) (y := [56, 48]) (v := 80) (u := 80) (by decide) (by rfl) (by rfl) (by decide) (by decide)⟩
theorem bad10 : Bad [57, 45, 56] :=
  ⟨fun a _ => ne_atext' (c := 45) (by decide) (by decide) a, fun a n _ _ _ => ne_ptext' (c := 45) (by decide) (by decide) a n, rng_bad (x := [57]) (y := [56]) (v := 9) (u := 8) (by decide) (by rfl) (by rfl) (by decide) (by decide)⟩

theorem k1T : ktext 6 167772161 80 167772162 90 = [54, 32, 49, 48, 46, 48, 46, 48, 46, 49, 58, 56, 48, 32, 49, 48, 46, 48, 46, 48, 46, 50, 58, 57, 48] := by
  unfold ktext etext
  rw [a1001, a1002, dec_lo (n := 6) (by decide), dec_hi (n := 80) (by decide), dec_hi (n := 90) (by decide), dec_lo (n := 80 / 10) (by decide), dec_lo (n := 90 / 10) (by decide)]; rfl
theorem k2T : ktext 6 167772162 90 167772161 80 = [54, 32, 49, 48, 46, 48, 46, 48, 46, 50, 58, 57, 48, 32, 49, 48, 46, 48, 46, 48, 46, 49, 58, 56, 48] := by
  unfold ktext etext
  rw [a1001, a1002, dec_lo (n := 6) (by decide), dec_hi (n := 80) (by decide), dec_hi (n := 90) (by decide), dec_lo (n := 80 / 10) (by decide), dec_lo (n := 90 / 10) (by decide)]; rfl

theorem isW_mk {f t n : Nat} (h : PR f n ∧ f + (psize n - 1) ≤ t ∧ (n = 0 ∨ ¬ (PR f (n - 1) ∧ f + (psize (n - 1) - 1) ≤ t))) : IsW f t n := ⟨h.1, h.2.1, h.2.2⟩
theorem covA : Cov 167772166 167772161 [(167772161, 32), (167772162, 31), (167772164, 31), (167772166, 32)] := by
  refine .more (isW_mk (by decide)) (by decide) (.more (f := 167772162) (isW_mk (by decide)) (by decide) (.more (f := 167772164) (isW_mk (by decide)) (by decide) (.last (f := 167772166) (isW_mk (by decide)) (by decide))))
theorem covB : Cov 4294967295 0 [(0, 0)] := .last (isW_mk (by decide)) (by decide)
end Go.Proofs.YteblkheodjibbaaDoor
