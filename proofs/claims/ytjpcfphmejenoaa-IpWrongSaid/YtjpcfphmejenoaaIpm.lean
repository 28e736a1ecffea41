/- The plain mathematics of packets: the bytes of a header, and what is wrong with bytes. No program's text is named here. -/
import Derived.Test.YtjpcfphmejenoaaFx
namespace Go.Proofs.Ytjpcfphmejenoaa
open Go.RowKit
set_option linter.unusedVariables false

/-- A header, in numbers. -/
structure Hd where
  tos : Nat
  id : Nat
  df : Bool
  mf : Bool
  off : Int
  ttl : Nat
  proto : Nat
  src : Nat
  dst : Nat
  o : List UInt8
/-- What its fields' types allow. -/
structure HdB (h : Hd) : Prop where
  tos : h.tos < 256
  id : h.id < 65536
  off : -9223372036854775808 ≤ h.off ∧ h.off ≤ 9223372036854775807
  ttl : h.ttl < 256
  proto : h.proto < 256
  src : h.src < 4294967296
  dst : h.dst < 4294967296

def roomB (k : Nat) (n : Int) : Bool := decide (k ≤ 40 ∧ k % 4 = 0 ∧ 0 ≤ n ∧ n ≤ 65515 - (k : Int))
def placeB (off n : Int) : Bool := decide (0 ≤ off ∧ off % 8 = 0 ∧ n ≤ 65515 - off)
def partB (mf : Bool) (n : Int) : Bool := !mf || decide (0 < n ∧ n % 8 = 0)
/-- Right(h, n). -/
def rightB (h : Hd) (n : Int) : Bool := roomB h.o.length n && (placeB h.off n && partB h.mf n)
theorem rightB_true {h : Hd} {n : Int} : rightB h n = true ↔ (h.o.length ≤ 40 ∧ h.o.length % 4 = 0 ∧ 0 ≤ n ∧ n ≤ 65515 - (h.o.length : Int)) ∧ (0 ≤ h.off ∧ h.off % 8 = 0 ∧ n ≤ 65515 - h.off) ∧ (h.mf = true → 0 < n ∧ n % 8 = 0) := by
  simp only [rightB, roomB, placeB, partB, Bool.and_eq_true, decide_eq_true_eq, Bool.or_eq_true, Bool.not_eq_true']
  cases h.mf <;> simp

/-- The number of DF, MF and Offset. -/
def flN (h : Hd) : Nat := h.off.toNat / 8 + (if h.df then 16384 else 0) + (if h.mf then 8192 else 0)
def w2 (v : Nat) : List UInt8 := [hi8 v, lo8 v]
/-- The bytes of a header, with a checksum. -/
def pk (h : Hd) (tot c : Nat) : List UInt8 :=
  UInt8.ofNat (64 + (20 + h.o.length) / 4) :: UInt8.ofNat h.tos :: hi8 tot :: lo8 tot :: hi8 h.id :: lo8 h.id :: hi8 (flN h) :: lo8 (flN h) :: UInt8.ofNat h.ttl :: UInt8.ofNat h.proto :: hi8 c :: lo8 c ::
    hi8 (h.src / 65536) :: lo8 (h.src / 65536) :: hi8 (h.src % 65536) :: lo8 (h.src % 65536) :: hi8 (h.dst / 65536) :: lo8 (h.dst / 65536) :: hi8 (h.dst % 65536) :: lo8 (h.dst % 65536) :: h.o
theorem pk_length (h : Hd) (tot c : Nat) : (pk h tot c).length = 20 + h.o.length := by simp [pk]; omega
theorem pk_put (h : Hd) (tot c v : Nat) : put2 (pk h tot c) 10 v = pk h tot v := rfl
/-- What Write makes of it. -/
def ckN (h : Hd) (tot : Nat) : Nat := fixC (pk h tot 0) 10
def hdrN (h : Hd) (tot : Nat) : List UInt8 := pk h tot (ckN h tot)
theorem fixed_pk (h : Hd) (tot : Nat) : fixed (pk h tot 0) 10 = hdrN h tot := rfl
/-- The packet that Write returns. -/
def wrN (h : Hd) (d : List UInt8) : List UInt8 := hdrN h (20 + h.o.length + d.length) ++ d
theorem hdrN_length (h : Hd) (tot : Nat) : (hdrN h tot).length = 20 + h.o.length := pk_length _ _ _
theorem wrN_length (h : Hd) (d : List UInt8) : (wrN h d).length = 20 + h.o.length + d.length := by simp [wrN, hdrN_length]

/-- Numbers out of bytes. -/
def bt (xs : List UInt8) (k : Nat) : Nat := (xs.getD k 0).toNat
def wd (xs : List UInt8) (k : Nat) : Nat := 256 * bt xs k + bt xs (k + 1)
def lg (xs : List UInt8) (k : Nat) : Nat := 65536 * wd xs k + wd xs (k + 2)
def szN (xs : List UInt8) : Nat := bt xs 0 % 16 * 4
def totN (xs : List UInt8) : Nat := wd xs 2
theorem bt_lt (xs : List UInt8) (k : Nat) : bt xs k < 256 := (xs.getD k 0).toNat_lt
theorem wd_lt (xs : List UInt8) (k : Nat) : wd xs k < 65536 := by have := bt_lt xs k; have := bt_lt xs (k + 1); unfold wd; omega
theorem lg_lt (xs : List UInt8) (k : Nat) : lg xs k < 4294967296 := by have := wd_lt xs k; have := wd_lt xs (k + 2); unfold lg; omega
theorem szN_le (xs : List UInt8) : szN xs ≤ 60 := by unfold szN; omega
theorem bt_get {xs : List UInt8} {k : Nat} (h : k < xs.length) : ∃ x, xs[k]? = some x ∧ x.toNat = bt xs k :=
  ⟨xs[k], List.getElem?_eq_getElem h, by simp [bt, List.getD, List.getElem?_eq_getElem h]⟩
theorem bt_append {xs ys : List UInt8} {k : Nat} (h : k < xs.length) : bt (xs ++ ys) k = bt xs k := by
  simp [bt, List.getD, List.getElem?_append_left h]
theorem bt_take {xs : List UInt8} {k n : Nat} (h : k < n) : bt (xs.take n) k = bt xs k := by
  simp [bt, List.getD, h]
/-- The header that is read. -/
def hdOf (xs : List UInt8) : Hd :=
  { tos := bt xs 1, id := wd xs 4, df := decide (wd xs 6 / 16384 % 2 = 1), mf := decide (wd xs 6 / 8192 % 2 = 1), off := ((wd xs 6 % 8192 * 8 : Nat) : Int), ttl := bt xs 8, proto := bt xs 9, src := lg xs 12, dst := lg xs 16,
    o := (xs.take (szN xs)).drop 20 }
theorem hdOf_b (xs : List UInt8) : HdB (hdOf xs) :=
  ⟨bt_lt _ _, wd_lt _ _, by show _ ≤ ((wd xs 6 % 8192 * 8 : Nat) : Int) ∧ ((wd xs 6 % 8192 * 8 : Nat) : Int) ≤ _; omega, bt_lt _ _, bt_lt _ _, lg_lt _ _, lg_lt _ _⟩
/-- The seven things that may be wrong. -/
def bad0 (xs : List UInt8) : Bool := decide (xs.length < 20)
def bad1 (xs : List UInt8) : Bool := decide (bt xs 0 / 16 ≠ 4)
def bad2 (xs : List UInt8) : Bool := decide (szN xs < 20 ∨ xs.length < szN xs)
def bad3 (xs : List UInt8) : Bool := decide (totN xs < szN xs ∨ xs.length < totN xs)
def bad4 (xs : List UInt8) : Bool := !decide (fold (wsum (xs.take (szN xs))) = 65535)
def bad5 (xs : List UInt8) : Bool := decide (32768 ≤ wd xs 6)
def bad6 (xs : List UInt8) : Bool := !rightB (hdOf xs) ((totN xs : Int) - szN xs)
def faultN (xs : List UInt8) : Nat :=
  if bad0 xs then 50 else if bad1 xs then 51 else if bad2 xs then 52 else if bad3 xs then 53 else if bad4 xs then 54 else if bad5 xs then 55 else if bad6 xs then 56 else 0
/-- What a packet without a fault is. -/
structure Good (xs : List UInt8) : Prop where
  len : 20 ≤ xs.length
  ver : bt xs 0 / 16 = 4
  sz : 20 ≤ szN xs ∧ szN xs ≤ xs.length
  tot : szN xs ≤ totN xs ∧ totN xs ≤ xs.length
  sum : fold (wsum (xs.take (szN xs))) = 65535
  fl : wd xs 6 < 32768
  right : rightB (hdOf xs) ((totN xs : Int) - szN xs) = true
theorem good_of {xs : List UInt8} (h : faultN xs = 0) : Good xs := by
  unfold faultN at h
  repeat (split at h; · simp at h)
  rename_i h0 h1 h2 h3 h4 h5 h6
  simp only [bad0, bad1, bad2, bad3, bad4, bad5, bad6, decide_eq_true_eq, Bool.not_eq_true', decide_eq_false_iff_not, Decidable.not_not, Bool.not_eq_false] at h0 h1 h2 h3 h4 h5 h6
  exact ⟨by omega, by omega, by omega, by omega, h4, by omega, h6⟩
theorem fault_of {xs : List UInt8} (h : Good xs) : faultN xs = 0 := by
  have h0 : bad0 xs = false := by simp only [bad0, decide_eq_false_iff_not]; have := h.len; omega
  have h1 : bad1 xs = false := by simp only [bad1, decide_eq_false_iff_not]; have := h.ver; omega
  have h2 : bad2 xs = false := by simp only [bad2, decide_eq_false_iff_not]; have := h.sz; omega
  have h3 : bad3 xs = false := by simp only [bad3, decide_eq_false_iff_not]; have := h.tot; omega
  have h4 : bad4 xs = false := by simp only [bad4, h.sum, decide_true, Bool.not_true]
  have h5 : bad5 xs = false := by simp only [bad5, decide_eq_false_iff_not]; have := h.fl; omega
  have h6 : bad6 xs = false := by simp only [bad6, h.right, Bool.not_true]
  simp only [faultN, h0, h1, h2, h3, h4, h5, h6]; rfl

theorem hi_lo {v : Nat} (h : v < 65536) : 256 * (hi8 v).toNat + (lo8 v).toNat = v := by rw [hi8_val h, lo8_val]; omega
theorem u8_nat {v : Nat} (h : v < 256) : (UInt8.ofNat v).toNat = v := by simp; omega
theorem flN_lt {h : Hd} (h0 : 0 ≤ h.off) (h1 : h.off ≤ 65515) : flN h < 32768 := by unfold flN; cases h.df <;> cases h.mf <;> simp <;> omega
/-- The header of bytes that begin with a header's. -/
theorem hdOf_pk {h : Hd} {tot c : Nat} (rest : List UInt8) (hb : HdB h) (ho : h.o.length ≤ 40 ∧ h.o.length % 4 = 0) (hf : 0 ≤ h.off ∧ h.off % 8 = 0 ∧ h.off ≤ 65515) (ht : tot < 65536) :
    hdOf (pk h tot c ++ rest) = h ∧ szN (pk h tot c ++ rest) = 20 + h.o.length ∧ totN (pk h tot c ++ rest) = tot ∧ bt (pk h tot c ++ rest) 0 / 16 = 4 ∧ wd (pk h tot c ++ rest) 6 = flN h := by
  have hfl := flN_lt hf.1 hf.2.2
  have e0 : bt (pk h tot c ++ rest) 0 = 64 + (20 + h.o.length) / 4 := u8_nat (by omega)
  have es : szN (pk h tot c ++ rest) = 20 + h.o.length := by unfold szN; rw [e0]; omega
  have e1 : bt (pk h tot c ++ rest) 1 = h.tos := u8_nat hb.tos
  have e2 : wd (pk h tot c ++ rest) 2 = tot := hi_lo ht
  have e4 : wd (pk h tot c ++ rest) 4 = h.id := hi_lo hb.id
  have e6 : wd (pk h tot c ++ rest) 6 = flN h := hi_lo (by omega)
  have e8 : bt (pk h tot c ++ rest) 8 = h.ttl := u8_nat hb.ttl
  have e9 : bt (pk h tot c ++ rest) 9 = h.proto := u8_nat hb.proto
  have hs := hb.src
  have hd := hb.dst
  have e12 : lg (pk h tot c ++ rest) 12 = h.src := by
    have a1 : wd (pk h tot c ++ rest) 12 = h.src / 65536 := hi_lo (by omega)
    have a2 : wd (pk h tot c ++ rest) 14 = h.src % 65536 := hi_lo (by omega)
    show 65536 * wd _ 12 + wd _ 14 = _
    rw [a1, a2]; omega
  have e16 : lg (pk h tot c ++ rest) 16 = h.dst := by
    have a1 : wd (pk h tot c ++ rest) 16 = h.dst / 65536 := hi_lo (by omega)
    have a2 : wd (pk h tot c ++ rest) 18 = h.dst % 65536 := hi_lo (by omega)
    show 65536 * wd _ 16 + wd _ 18 = _
    rw [a1, a2]; omega
  refine ⟨?_, es, e2, by rw [e0]; omega, e6⟩
  have eo : ((pk h tot c ++ rest).take (szN (pk h tot c ++ rest))).drop 20 = h.o := by
    rw [es, ← pk_length h tot c, List.take_left]; rfl
  have ef : flN h % 8192 * 8 = h.off.toNat := by
    unfold flN; cases h.df <;> cases h.mf <;> simp <;> omega
  have ed : decide (flN h / 16384 % 2 = 1) = h.df := by unfold flN; cases h.df <;> cases h.mf <;> simp <;> omega
  have em : decide (flN h / 8192 % 2 = 1) = h.mf := by unfold flN; cases h.df <;> cases h.mf <;> simp <;> omega
  unfold hdOf
  rw [e1, e4, e6, e8, e9, e12, e16, eo, ef, ed, em]
  obtain ⟨a, b, d, m, off, t, p, s, d2, o⟩ := h
  simp only [Hd.mk.injEq, true_and, and_true]
  simp only at hf
  omega
end Go.Proofs.Ytjpcfphmejenoaa
