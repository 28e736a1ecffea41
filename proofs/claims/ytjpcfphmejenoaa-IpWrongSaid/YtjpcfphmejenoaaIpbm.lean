/- The plain mathematics of one bit of a packet. -/
import Derived.Test.YtjpcfphmejenoaaIpc
namespace Go.Proofs.Ytjpcfphmejenoaa
open Go.RowKit
set_option linter.unusedVariables false
set_option maxRecDepth 100000

theorem flip8 : ∀ x < 256, ∀ j < 8, x ^^^ 2 ^ j < 256 ∧ ((x ^^^ 2 ^ j) = x + 2 ^ j ∨ x = (x ^^^ 2 ^ j) + 2 ^ j) ∧ (4 ≤ j → (x ^^^ 2 ^ j) / 16 ≠ x / 16) := by decide +kernel
theorem xor8 (a b : Nat) (ha : a < 256) (hb : b < 256) : bits .xor .u8 (a : Int) (b : Int) = ((a ^^^ b : Nat) : Int) := by
  have hx : a ^^^ b < 2 ^ 8 := Nat.xor_lt_two_pow (by omega) (by omega)
  have h1 : (BitVec.ofInt 8 (a : Int)).toNat = a := by
    rw [BitVec.ofInt_natCast, BitVec.toNat_ofNat]; exact Nat.mod_eq_of_lt (by omega)
  have h2 : (BitVec.ofInt 8 (b : Int)).toNat = b := by
    rw [BitVec.ofInt_natCast, BitVec.toNat_ofNat]; exact Nat.mod_eq_of_lt (by omega)
  show IntKind.u8.wrap ((BitVec.ofInt 8 (a : Int) ^^^ BitVec.ofInt 8 (b : Int)).toNat : Int) = _
  rw [BitVec.toNat_xor, h1, h2, u8_mod]
  omega
theorem bt_set {xs : List UInt8} {k i : Nat} (y : UInt8) (hk : k < xs.length) : bt (xs.set k y) i = if i = k then y.toNat else bt xs i := by
  unfold bt
  rw [List.getD_eq_getElem?_getD, List.getElem?_set]
  by_cases h : k = i
  · subst h; simp [hk]
  · rw [if_neg h, if_neg (by omega), List.getD_eq_getElem?_getD]
theorem wsum_set (y : UInt8) : ∀ (xs : List UInt8) (k : Nat), k < xs.length → wsum (xs.set k y) + (if k % 2 = 0 then 256 else 1) * bt xs k = wsum xs + (if k % 2 = 0 then 256 else 1) * y.toNat
  | [], k, h => by simp at h
  | [x], k, h => by
    obtain rfl : k = 0 := by simp at h; omega
    simp [wsum, bt]; omega
  | x :: z :: r, 0, h => by simp [wsum, bt]; omega
  | x :: z :: r, 1, h => by simp [wsum, bt]; omega
  | x :: z :: r, k + 2, h => by
    have ih := wsum_set y r k (by simpa using h)
    have e : bt (x :: z :: r) (k + 2) = bt r k := rfl
    have e2 : (x :: z :: r).set (k + 2) y = x :: z :: r.set k y := rfl
    rw [e, e2, show (k + 2) % 2 = k % 2 by omega]
    simp only [wsum]
    omega
/-- One bit of the version. -/
theorem bit_version {xs : List UInt8} (g : Good xs) {j : Nat} (h4 : 4 ≤ j) (h8 : j < 8) : faultN (xs.set 0 (UInt8.ofNat (bt xs 0 ^^^ 2 ^ j))) = 51 := by
  obtain ⟨f1, f2, f3⟩ := flip8 (bt xs 0) (bt_lt _ _) j h8
  have hl := g.len
  have h0 : bad0 (xs.set 0 (UInt8.ofNat (bt xs 0 ^^^ 2 ^ j))) = false := by simp only [bad0, decide_eq_false_iff_not, List.length_set]; omega
  have h1 : bad1 (xs.set 0 (UInt8.ofNat (bt xs 0 ^^^ 2 ^ j))) = true := by
    simp only [bad1, decide_eq_true_eq]
    rw [bt_set _ (by omega), if_pos rfl, u8_nat f1]
    have := g.ver
    have := f3 h4
    omega
  simp only [faultN, h0, h1]; rfl
/-- One bit of the header, but for the first byte. -/
theorem bit_head {xs : List UInt8} (g : Good xs) {k j : Nat} (h8 : j < 8) (h1 : 1 ≤ k) (hk : k < szN xs) :
    faultN (xs.set k (UInt8.ofNat (bt xs k ^^^ 2 ^ j))) = 54 ∨ (faultN (xs.set k (UInt8.ofNat (bt xs k ^^^ 2 ^ j))) = 53 ∧ 2 ≤ k ∧ k < 4) := by
  obtain ⟨f1, f2, f3⟩ := flip8 (bt xs k) (bt_lt _ _) j h8
  have hl := g.len
  have hs := g.sz
  have ht := g.tot
  have hp : 1 ≤ 2 ^ j ∧ 2 ^ j ≤ 128 := by
    have : ∀ j < 8, 1 ≤ 2 ^ j ∧ 2 ^ j ≤ 128 := by decide
    exact this j h8
  generalize 2 ^ j = q at *
  obtain ⟨y, hy⟩ : ∃ y, y = UInt8.ofNat (bt xs k ^^^ q) := ⟨_, rfl⟩
  have hyn : y.toNat = bt xs k ^^^ q := by rw [hy]; exact u8_nat f1
  rw [← hy]
  have hb := fun i => bt_set (i := i) y (show k < xs.length by omega)
  have e0 : bt (xs.set k y) 0 = bt xs 0 := by rw [hb, if_neg (by omega)]
  have es : szN (xs.set k y) = szN xs := by unfold szN; rw [e0]
  have h0 : bad0 (xs.set k y) = false := by simp only [bad0, decide_eq_false_iff_not, List.length_set]; omega
  have h1' : bad1 (xs.set k y) = false := by simp only [bad1, decide_eq_false_iff_not]; rw [e0]; have := g.ver; omega
  have h2 : bad2 (xs.set k y) = false := by simp only [bad2, decide_eq_false_iff_not, List.length_set]; rw [es]; omega
  have h4 : bad4 (xs.set k y) = true := by
    unfold bad4
    rw [es, List.take_set]
    have hw := wsum_set y (xs.take (szN xs)) k (by rw [List.length_take]; omega)
    rw [bt_take hk, hyn] at hw
    have hsm := fold_full.1 g.sum
    have : fold (wsum ((xs.take (szN xs)).set k y)) ≠ 65535 := by
      intro e
      have he := fold_full.1 e
      generalize wsum ((xs.take (szN xs)).set k y) = s2 at *
      generalize wsum (xs.take (szN xs)) = s1 at *
      generalize bt xs k ^^^ q = y2 at *
      generalize bt xs k = x2 at *
      split at hw <;> rcases f2 with f2 | f2 <;> omega
    simp [this]
  by_cases h3 : bad3 (xs.set k y) = true
  · refine .inr ⟨by simp only [faultN, h0, h1', h2, h3]; rfl, ?_⟩
    simp only [bad3, decide_eq_true_eq, List.length_set] at h3
    rw [es] at h3
    rcases Nat.lt_or_ge k 2 with hk2 | hk2
    · exfalso
      have : totN (xs.set k y) = totN xs := by unfold totN wd; rw [hb, hb, if_neg (by omega), if_neg (by omega)]
      omega
    · refine ⟨hk2, ?_⟩
      rcases Nat.lt_or_ge k 4 with hk4 | hk4
      · exact hk4
      · exfalso
        have : totN (xs.set k y) = totN xs := by unfold totN wd; rw [hb, hb, if_neg (by omega), if_neg (by omega)]
        omega
  · have h3' : bad3 (xs.set k y) = false := by simpa using h3
    exact .inl (by simp only [faultN, h0, h1', h2, h3', h4]; rfl)
/-- One byte of the data. -/
theorem set_data (h : Hd) (d : List UInt8) {k : Nat} (y : UInt8) (hk : 20 + h.o.length ≤ k) : (wrN h d).set k y = wrN h (d.set (k - (20 + h.o.length)) y) := by
  unfold wrN
  rw [List.length_set, List.set_append, if_neg (by rw [hdrN_length]; omega), hdrN_length]
end Go.Proofs.Ytjpcfphmejenoaa
