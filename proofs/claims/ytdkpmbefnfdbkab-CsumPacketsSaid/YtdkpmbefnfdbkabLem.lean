/- Lemmas for CsumWrong and CsumPackets (the same words as in Fixed, for the seat that lacks CsumFixed). -/
import Derived.Test.YtdkpmbefnfdbkabAwk
import Derived.Test.YtdkpmbefnfdbkabQfr
namespace Go.Proofs.Ytdkpmbefnfdbkab
open Go.RowKit

/-- b[:min(len(b), m)]. -/
theorem cut_at (M : Nat) {w : World} {A : Option Addr} {n : Nat} {xs : List UInt8} (hl : xs.length = n) (hrd : Rd w A (B8 xs)) : ∃ m ys, ((n ≤ M ∧ m = n) ∨ (¬ n ≤ M ∧ m = M)) ∧ List.length ys = m ∧ Rd w A (B8 ys) := by
  by_cases hn : n ≤ M
  · exact ⟨n, xs, .inl ⟨hn, rfl⟩, hl, hrd⟩
  · exact ⟨M, xs.take M, .inr ⟨hn, rfl⟩, by rw [List.length_take]; omega, by rw [← B8_take]; exact hrd.take _⟩

theorem w64 {z : Int} (h0 : 0 ≤ z) (h1 : z ≤ 9223372036854775807) : wrap64 z = z := IntWalk.wrap64_in z (by omega)
theorem wsum_put2 {xs : List UInt8} {k v : Nat} {x y : UInt8} (hk : k % 2 = 0) (hv : v < 65536) (hx : xs[k]? = some x) (hy : xs[k + 1]? = some y) : wsum (put2 xs k v) + (256 * x.toNat + y.toNat) = wsum xs + v := by
  have h := wsum_put (a := hi8 v) (b := lo8 v) hk hx hy
  rw [hi8_val hv, lo8_val] at h
  unfold put2
  omega
theorem get_ex {xs : List UInt8} {k : Nat} (h : k < xs.length) : ∃ x, xs[k]? = some x := ⟨_, List.getElem?_eq_getElem h⟩
end Go.Proofs.Ytdkpmbefnfdbkab
