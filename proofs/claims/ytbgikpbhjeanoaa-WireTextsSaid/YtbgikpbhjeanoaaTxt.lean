/- Texts and bytes belong to one another: plain facts. -/
import Derived.Test.YtbgikpbhjeanoaaAw
namespace Go.Proofs.Ytbgikpbhjeanoaa
open Go.RowKit

theorem dg_hx (k : Nat) (hk : k < 16) : dg (hx k) = k := by
  have h' : k = 0 ∨ k = 1 ∨ k = 2 ∨ k = 3 ∨ k = 4 ∨ k = 5 ∨ k = 6 ∨ k = 7 ∨ k = 8 ∨ k = 9 ∨ k = 10 ∨ k = 11 ∨ k = 12 ∨ k = 13 ∨ k = 14 ∨ k = 15 := by omega
  rcases h' with rfl | rfl | rfl | rfl | rfl | rfl | rfl | rfl | rfl | rfl | rfl | rfl | rfl | rfl | rfl | rfl <;> decide
theorem idx_get (l : List UInt8) (c : UInt8) (h : 0 ≤ Lib.indexByte l c) : l[(Lib.indexByte l c).toNat]? = some c := by
  induction l with
  | nil => simp [Lib.indexByte] at h
  | cons b l ih =>
    unfold Lib.indexByte at h ⊢
    by_cases hb : (b == c) = true
    · rw [if_pos hb]
      simpa using hb
    · rw [if_neg hb] at h ⊢
      by_cases h1 : (Lib.indexByte l c == -1) = true
      · rw [if_pos h1] at h; omega
      · rw [if_neg h1] at h ⊢
        have h2 := Lib.indexByte_ge l c
        have h3 : Lib.indexByte l c ≠ -1 := by simpa using h1
        have h4 : 0 ≤ Lib.indexByte l c := by omega
        have e : (Lib.indexByte l c + 1).toNat = (Lib.indexByte l c).toNat + 1 := by omega
        rw [e, List.getElem?_cons_succ]
        exact ih h4
theorem hx_dg (c : UInt8) (h : 0 ≤ dg c) : hx (dg c).toNat = c := by
  have := idx_get hexd c h
  unfold hx dg
  rw [List.getD, this]
  rfl
theorem pb_hx (x : UInt8) : pb (hx (x.toNat / 16)) (hx (x.toNat % 16)) = x := by
  have hlt := x.toNat_lt
  unfold pb
  rw [dg_hx _ (by omega), dg_hx _ (by omega)]
  apply UInt8.toNat.inj
  simp only [Int.toNat_natCast, UInt8.toNat_ofNat']
  omega
theorem hx_pb1 (a b : UInt8) (ha : 0 ≤ dg a) (hb : 0 ≤ dg b) : hx ((pb a b).toNat / 16) = a ∧ hx ((pb a b).toNat % 16) = b := by
  have h1 := dg_lt a
  have h2 := dg_lt b
  have e : (pb a b).toNat = 16 * (dg a).toNat + (dg b).toNat := by
    unfold pb
    simp only [UInt8.toNat_ofNat']
    omega
  rw [e]
  constructor
  · rw [show (16 * (dg a).toNat + (dg b).toNat) / 16 = (dg a).toNat from by omega]; exact hx_dg a ha
  · rw [show (16 * (dg a).toNat + (dg b).toNat) % 16 = (dg b).toNat from by omega]; exact hx_dg b hb

theorem allDig_cons {a : UInt8} {L : List UInt8} : AllDig (a :: L) ↔ 0 ≤ dg a ∧ AllDig L := by
  constructor
  · intro h
    exact ⟨h 0 (by simp), fun i hi => by have := h (i + 1) (by simp; omega); simpa using this⟩
  · rintro ⟨h1, h2⟩ i hi
    cases i with
    | zero => exact h1
    | succ i => have := h2 i (by simp at hi; omega); simpa using this
theorem allDig_hexOf (b : List UInt8) : AllDig (hexOf b) := by
  induction b with
  | nil => intro i hi; simp [hexOf] at hi
  | cons x l ih =>
    have e : hexOf (x :: l) = hx (x.toNat / 16) :: hx (x.toNat % 16) :: hexOf l := rfl
    have hlt := x.toNat_lt
    rw [e, allDig_cons, allDig_cons, dg_hx _ (by omega), dg_hx _ (by omega)]
    exact ⟨by omega, by omega, ih⟩
theorem decK_cons (a b : UInt8) (L : List UInt8) (k : Nat) : decK (a :: b :: L) (k + 1) = pb a b :: decK L k := by
  unfold decK
  rw [List.range_succ_eq_map]
  simp only [List.map_cons, List.map_map]
  congr 1
theorem decK_hexOf (b : List UInt8) : decK (hexOf b) b.length = b := by
  induction b with
  | nil => rfl
  | cons x l ih =>
    have e : hexOf (x :: l) = hx (x.toNat / 16) :: hx (x.toNat % 16) :: hexOf l := rfl
    rw [e, List.length_cons, decK_cons, pb_hx, ih]
theorem hexOf_decK : ∀ (m : Nat) (L : List UInt8), AllDig L → L.length = 2 * m → hexOf (decK L m) = L
  | 0, L, _, hl => by
    obtain rfl : L = [] := List.eq_nil_of_length_eq_zero hl
    rfl
  | m + 1, L, h, hl => by
    match L, hl with
    | a :: b :: L, hl =>
      rw [allDig_cons, allDig_cons] at h
      obtain ⟨ha, hb, hL⟩ := h
      rw [decK_cons]
      obtain ⟨e1, e2⟩ := hx_pb1 a b ha hb
      have e : hexOf (pb a b :: decK L m) = hx ((pb a b).toNat / 16) :: hx ((pb a b).toNat % 16) :: hexOf (decK L m) := rfl
      rw [e, e1, e2, hexOf_decK m L hL (by simp at hl; omega)]
theorem size_list (s : ByteArray) : s.data.toList.length = s.size := by rw [Array.length_toList]; rfl
theorem mk_size (l : List UInt8) : (⟨l.toArray⟩ : ByteArray).size = l.length := by simp [ByteArray.size]
end Go.Proofs.Ytbgikpbhjeanoaa
