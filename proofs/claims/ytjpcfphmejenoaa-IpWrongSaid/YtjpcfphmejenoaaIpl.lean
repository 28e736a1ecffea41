/- More of the mathematics of packets: what is written is right, and is read as it was; what is read is written as it was. No program's text is named here. -/
import Derived.Test.YtjpcfphmejenoaaIpm
namespace Go.Proofs.Ytjpcfphmejenoaa
open Go.RowKit
set_option linter.unusedVariables false

/-- The sum of a header's words, but for the checksum. -/
def sm (h : Hd) (tot : Nat) : Nat := 256 * (64 + (20 + h.o.length) / 4) + h.tos + tot + h.id + flN h + (256 * h.ttl + h.proto) + (h.src / 65536 + h.src % 65536) + (h.dst / 65536 + h.dst % 65536) + wsum h.o
theorem wsum_pk {h : Hd} {tot c : Nat} (hb : HdB h) (ho : h.o.length ≤ 40) (hf : flN h < 65536) (ht : tot < 65536) (hc : c < 65536) : wsum (pk h tot c) = sm h tot + c := by
  have hs := hb.src
  have hd := hb.dst
  have h1 := u8_nat (v := 64 + (20 + h.o.length) / 4) (by omega)
  have h2 := u8_nat hb.tos
  have h3 := hi_lo ht
  have h4 := hi_lo hb.id
  have h5 := hi_lo hf
  have h6 := u8_nat hb.ttl
  have h7 := u8_nat hb.proto
  have h8 := hi_lo hc
  have h9 := hi_lo (v := h.src / 65536) (by omega)
  have h10 := hi_lo (v := h.src % 65536) (by omega)
  have h11 := hi_lo (v := h.dst / 65536) (by omega)
  have h12 := hi_lo (v := h.dst % 65536) (by omega)
  unfold pk sm
  simp only [wsum]
  omega
theorem ckN_eq {h : Hd} {tot : Nat} (hb : HdB h) (ho : h.o.length ≤ 40) (hf : flN h < 65536) (ht : tot < 65536) : ckN h tot = 65535 - fold (sm h tot) := by
  show 65535 - fold (wsum (put2 (pk h tot 0) 10 0)) = _
  rw [pk_put, wsum_pk hb ho hf ht (by decide), Nat.add_zero]
theorem ckN_lt (h : Hd) (tot : Nat) : ckN h tot < 65536 := fixC_lt _ _
theorem sm_pos (h : Hd) (tot : Nat) : 16384 ≤ sm h tot := by unfold sm; omega
theorem sum_hdrN {h : Hd} {tot : Nat} (hb : HdB h) (ho : h.o.length ≤ 40) (hf : flN h < 65536) (ht : tot < 65536) : fold (wsum (hdrN h tot)) = 65535 := by
  have h1 := ckN_eq hb ho hf ht
  have h2 := wsum_pk hb ho hf ht (ckN_lt h tot)
  have h3 := fold_mod (sm h tot)
  have h4 := fold_le (sm h tot)
  have h5 := sm_pos h tot
  show fold (wsum (pk h tot (ckN h tot))) = 65535
  rw [h2, fold_full]
  generalize fold (sm h tot) = f at *
  generalize sm h tot = s at *
  omega
/-- The data that a right header goes with. -/
structure Fits (h : Hd) (m : Nat) : Prop where
  b : HdB h
  o : h.o.length ≤ 40 ∧ h.o.length % 4 = 0
  off : 0 ≤ h.off ∧ h.off % 8 = 0
  n : (m : Int) ≤ 65515 - (h.o.length : Int) ∧ (m : Int) ≤ 65515 - h.off
  mf : h.mf = true → 0 < m ∧ m % 8 = 0
theorem Fits.right {h : Hd} {m : Nat} (f : Fits h m) : rightB h m = true := by
  rw [rightB_true]
  have := f.o; have := f.off; have := f.n
  refine ⟨by omega, by omega, fun hm => ?_⟩
  have := f.mf hm
  omega
theorem Fits.of {h : Hd} {m : Nat} (b : HdB h) (hr : rightB h m = true) : Fits h m := by
  obtain ⟨h1, h2, h3⟩ := rightB_true.1 hr
  exact ⟨b, by omega, by omega, by omega, fun hm => by have := h3 hm; omega⟩
theorem Fits.fl {h : Hd} {m : Nat} (f : Fits h m) : flN h < 32768 := flN_lt f.off.1 (by have := f.n; omega)
/-- A written header, whatever follows the data. -/
theorem good_wr {h : Hd} {d : List UInt8} (f : Fits h d.length) (rest : List UInt8) :
    Good (wrN h d ++ rest) ∧ hdOf (wrN h d ++ rest) = h ∧ szN (wrN h d ++ rest) = 20 + h.o.length ∧ totN (wrN h d ++ rest) = 20 + h.o.length + d.length := by
  have hn := f.n
  have ho := f.off
  have hoo := f.o
  have ht : 20 + h.o.length + d.length < 65536 := by omega
  obtain ⟨e1, e2, e3, e4, e5⟩ := hdOf_pk (c := ckN h (20 + h.o.length + d.length)) (d ++ rest) f.b f.o ⟨f.off.1, f.off.2, by omega⟩ ht
  have ea : wrN h d ++ rest = pk h (20 + h.o.length + d.length) (ckN h (20 + h.o.length + d.length)) ++ (d ++ rest) := by unfold wrN hdrN; rw [List.append_assoc]
  rw [ea]
  refine ⟨⟨?_, e4, ?_, ?_, ?_, ?_, ?_⟩, e1, e2, e3⟩
  · rw [List.length_append, pk_length]; omega
  · rw [e2, List.length_append, pk_length]; omega
  · rw [e2, e3, List.length_append, pk_length, List.length_append]; omega
  · have el := List.take_left (l₁ := pk h (20 + h.o.length + d.length) (ckN h (20 + h.o.length + d.length))) (l₂ := d ++ rest)
    rw [pk_length] at el
    rw [e2, el]
    exact sum_hdrN f.b (by omega) (by have := f.fl; omega) ht
  · rw [e5]; exact f.fl
  · rw [e1, e2, e3, show (((20 + h.o.length + d.length : Nat) : Int) - (20 + h.o.length : Nat)) = d.length by omega]
    exact f.right

theorem cons_of {l : List UInt8} {n : Nat} (h : n + 1 ≤ l.length) : ∃ x r, l = x :: r ∧ n ≤ r.length := by
  cases l with
  | nil => simp at h
  | cons x r => exact ⟨x, r, rfl, by simpa using h⟩
theorem twenty {l : List UInt8} (h : 20 ≤ l.length) : ∃ a b c d e f g i j k m n p q r s t u v y o, l = a :: b :: c :: d :: e :: f :: g :: i :: j :: k :: m :: n :: p :: q :: r :: s :: t :: u :: v :: y :: o := by
  obtain ⟨a, l0, z0, h0⟩ := cons_of h
  obtain ⟨b, l1, z1, h1⟩ := cons_of h0
  obtain ⟨c, l2, z2, h2⟩ := cons_of h1
  obtain ⟨d, l3, z3, h3⟩ := cons_of h2
  obtain ⟨e, l4, z4, h4⟩ := cons_of h3
  obtain ⟨f, l5, z5, h5⟩ := cons_of h4
  obtain ⟨g, l6, z6, h6⟩ := cons_of h5
  obtain ⟨i, l7, z7, h7⟩ := cons_of h6
  obtain ⟨j, l8, z8, h8⟩ := cons_of h7
  obtain ⟨k, l9, z9, h9⟩ := cons_of h8
  obtain ⟨m, l10, z10, h10⟩ := cons_of h9
  obtain ⟨n, l11, z11, h11⟩ := cons_of h10
  obtain ⟨p, l12, z12, h12⟩ := cons_of h11
  obtain ⟨q, l13, z13, h13⟩ := cons_of h12
  obtain ⟨r, l14, z14, h14⟩ := cons_of h13
  obtain ⟨s, l15, z15, h15⟩ := cons_of h14
  obtain ⟨t, l16, z16, h16⟩ := cons_of h15
  obtain ⟨u, l17, z17, h17⟩ := cons_of h16
  obtain ⟨v, l18, z18, h18⟩ := cons_of h17
  obtain ⟨y, l19, z19, h19⟩ := cons_of h18
  subst z0 z1 z2 z3 z4 z5 z6 z7 z8 z9 z10 z11 z12 z13 z14 z15 z16 z17 z18 z19
  exact ⟨a, b, c, d, e, f, g, i, j, k, m, n, p, q, r, s, t, u, v, y, l19, rfl⟩
theorem u8_eq {x : UInt8} {v : Nat} (h : v = x.toNat) : UInt8.ofNat v = x := by subst h; simp
theorem hi8_eq (a b : UInt8) : hi8 (256 * a.toNat + b.toNat) = a := u8_eq (by have := b.toNat_lt; omega)
theorem lo8_eq (a b : UInt8) : lo8 (256 * a.toNat + b.toNat) = b := u8_eq (by have := b.toNat_lt; omega)
/-- A right packet's header is made of the numbers that are read of it. -/
theorem pk_of {xs : List UInt8} (g : Good xs) : xs.take (szN xs) = pk (hdOf xs) (totN xs) (wd xs 10) ∧ (hdOf xs).o.length = szN xs - 20 := by
  have hs := g.sz
  have hlo : (hdOf xs).o.length = szN xs - 20 := by
    show ((xs.take (szN xs)).drop 20).length = _
    rw [List.length_drop, List.length_take]; omega
  refine ⟨?_, hlo⟩
  have hv := g.ver
  have hfl := g.fl
  have hz := szN_le xs
  have hzd : szN xs = bt xs 0 % 16 * 4 := rfl
  obtain ⟨a, b, c, d, e, f, gg, i, j, k, m, n, p, q, r, s, t, u, v, y, o, rfl⟩ := twenty g.len
  generalize hxs : (a :: b :: c :: d :: e :: f :: gg :: i :: j :: k :: m :: n :: p :: q :: r :: s :: t :: u :: v :: y :: o) = xs at *
  have e0 : bt xs 0 = a.toNat := by subst hxs; rfl
  have e1 : bt xs 1 = b.toNat := by subst hxs; rfl
  have e2 : totN xs = 256 * c.toNat + d.toNat := by subst hxs; rfl
  have e4 : wd xs 4 = 256 * e.toNat + f.toNat := by subst hxs; rfl
  have e6 : wd xs 6 = 256 * gg.toNat + i.toNat := by subst hxs; rfl
  have e8 : bt xs 8 = j.toNat := by subst hxs; rfl
  have e9 : bt xs 9 = k.toNat := by subst hxs; rfl
  have e10 : wd xs 10 = 256 * m.toNat + n.toNat := by subst hxs; rfl
  have e12 : lg xs 12 = 65536 * (256 * p.toNat + q.toNat) + (256 * r.toNat + s.toNat) := by subst hxs; rfl
  have e16 : lg xs 16 = 65536 * (256 * t.toNat + u.toNat) + (256 * v.toNat + y.toNat) := by subst hxs; rfl
  have et : xs.take (szN xs) = a :: b :: c :: d :: e :: f :: gg :: i :: j :: k :: m :: n :: p :: q :: r :: s :: t :: u :: v :: y :: o.take (szN xs - 20) := by
    obtain ⟨z, hz20⟩ : ∃ z, szN xs = z + 20 := ⟨szN xs - 20, by omega⟩
    rw [hz20, Nat.add_sub_cancel]
    subst hxs
    rfl
  have ho : (hdOf xs).o = o.take (szN xs - 20) := by
    show (xs.take (szN xs)).drop 20 = _
    rw [et]; rfl
  have hff : flN (hdOf xs) = wd xs 6 := by
    show (((wd xs 6 % 8192 * 8 : Nat) : Int).toNat / 8 + (if decide (wd xs 6 / 16384 % 2 = 1) = true then 16384 else 0) + if decide (wd xs 6 / 8192 % 2 = 1) = true then 8192 else 0) = _
    simp only [decide_eq_true_eq]
    split <;> split <;> omega
  have ea : UInt8.ofNat (64 + (20 + (hdOf xs).o.length) / 4) = a := u8_eq (by rw [hlo]; omega)
  have hr1 : lg xs 12 / 65536 = 256 * p.toNat + q.toNat := by have := s.toNat_lt; have := r.toNat_lt; omega
  have hr2 : lg xs 12 % 65536 = 256 * r.toNat + s.toNat := by have := s.toNat_lt; have := r.toNat_lt; omega
  have hr3 : lg xs 16 / 65536 = 256 * t.toNat + u.toNat := by have := v.toNat_lt; have := y.toNat_lt; omega
  have hr4 : lg xs 16 % 65536 = 256 * v.toNat + y.toNat := by have := v.toNat_lt; have := y.toNat_lt; omega
  rw [et]
  unfold pk
  rw [ea, hff, ho]
  show _ = a :: UInt8.ofNat (bt xs 1) :: hi8 (totN xs) :: lo8 (totN xs) :: hi8 (wd xs 4) :: lo8 (wd xs 4) :: hi8 (wd xs 6) :: lo8 (wd xs 6) :: UInt8.ofNat (bt xs 8) :: UInt8.ofNat (bt xs 9) :: hi8 (wd xs 10) :: lo8 (wd xs 10) :: hi8 (lg xs 12 / 65536) :: lo8 (lg xs 12 / 65536) :: hi8 (lg xs 12 % 65536) :: lo8 (lg xs 12 % 65536) :: hi8 (lg xs 16 / 65536) :: lo8 (lg xs 16 / 65536) :: hi8 (lg xs 16 % 65536) :: lo8 (lg xs 16 % 65536) :: _
  rw [hr1, hr2, hr3, hr4, e1, e2, e4, e6, e8, e9, e10, u8_eq rfl, u8_eq rfl, u8_eq rfl]
  simp only [hi8_eq, lo8_eq]
theorem fits_of {xs : List UInt8} (g : Good xs) : Fits (hdOf xs) (totN xs - szN xs) := by
  have ht := g.tot
  have hr := g.right
  rw [show ((totN xs : Int) - szN xs) = ((totN xs - szN xs : Nat) : Int) by omega] at hr
  exact .of (hdOf_b xs) hr
/-- The checksum that Write gives is the one that was there, but for 65535. -/
theorem ck_of {xs : List UInt8} (g : Good xs) : (wd xs 10 ≠ 65535 ∧ ckN (hdOf xs) (totN xs) = wd xs 10) ∨ (wd xs 10 = 65535 ∧ ckN (hdOf xs) (totN xs) = 0) := by
  have f := fits_of g
  have ho := f.o.1
  have hfl := f.fl
  have ht : totN xs < 65536 := wd_lt _ _
  have h1 := ckN_eq f.b ho (by omega) ht
  have h2 := wsum_pk f.b ho (by omega) ht (wd_lt xs 10)
  have h3 := g.sum
  rw [(pk_of g).1, h2, fold_full] at h3
  have h4 := sm_pos (hdOf xs) (totN xs)
  have h5 := fold_mod (sm (hdOf xs) (totN xs))
  have h6 := fold_le (sm (hdOf xs) (totN xs))
  have h7 := fold_zero (s := sm (hdOf xs) (totN xs))
  have h8 := wd_lt xs 10
  generalize fold (sm (hdOf xs) (totN xs)) = f at *
  generalize sm (hdOf xs) (totN xs) = s at *
  omega
end Go.Proofs.Ytjpcfphmejenoaa
