/- The reference: Sum, Of, Over, Fix. -/
import Derived.Test.YtdkpmbefnfdbkaaRefs
import Derived.Test.YtdkpmbefnfdbkaaMk
namespace Go.Proofs.Ytdkpmbefnfdbkaa
open Go.RowKit

theorem wsum_even {xs : List UInt8} {k : Nat} {x : UInt8} (hx : xs[k]? = some x) (hk : k % 2 = 0) : wsum (xs.take (k + 1)) = wsum (xs.take k) + 256 * x.toNat := by
  have hl : k < xs.length := by
    rcases Nat.lt_or_ge k xs.length with h | h
    · exact h
    · rw [List.getElem?_eq_none h] at hx; cases hx
  rw [take_snoc hx, wsum_snoc, if_pos (by rw [List.length_take]; omega)]
theorem wsum_odd {xs : List UInt8} {k : Nat} {x : UInt8} (hx : xs[k]? = some x) (hk : ¬ k % 2 = 0) : wsum (xs.take (k + 1)) = wsum (xs.take k) + x.toNat := by
  have hl : k < xs.length := by
    rcases Nat.lt_or_ge k xs.length with h | h
    · exact h
    · rw [List.getElem?_eq_none h] at hx; cases hx
  rw [take_snoc hx, wsum_snoc, if_neg (by rw [List.length_take]; omega)]

set_option maxRecDepth 20000 in
set_option maxHeartbeats 1000000 in
theorem rsum_any (A : Option Addr) (n c : Nat) (xs : List UInt8) (w : World) (hl : xs.length = n) (hrd : Rd w A (B8 xs)) (hn : n ≤ 140737488351232) :
    Calls Try.prog 29 #[.slice A n c] w fun e w' => e = .returned (.int .i64 (fold (wsum xs))) ∧ w = w' := by
  have Hl := Lib.hid hl
  clear hl
  go_enter Try.func29, Try.ntmps29
  go_wp2
  go_loop [3, 4] (fun s i => ∃ k : Nat, k ≤ n ∧ i = .int .i64 k ∧ s = .int .i64 (wsum (xs.take k))) (fun _ i => n - (intOf i).toNat)
  case atStart => exact ⟨0, Nat.zero_le _, rfl, by simp [wsum]⟩
  case round =>
    obtain ⟨k, hk, rfl, rfl⟩ := hrel
    have hsl : wsum (xs.take k) ≤ 65535 * ((k + 1) / 2) := by
      have h := wsum_le (xs.take k)
      have h2 : ((xs.take k).length + 1) / 2 ≤ (k + 1) / 2 := by rw [List.length_take]; omega
      exact Nat.le_trans h (Nat.mul_le_mul_left _ h2)
    by_cases hlt : k < n
    · have hkx : k < xs.length := by have := Hl.out; omega
      obtain ⟨b, o, rfl⟩ := rd_addr hrd (by rw [B8_length]; omega)
      obtain ⟨x, hx0⟩ : ∃ x, xs[k]? = some x := ⟨_, List.getElem?_eq_getElem hkx⟩
      have hcell := rdc hrd k (.int .u8 x.toNat) (by rw [B8_get, hx0]; rfl)
      have hxl : x.toNat < 256 := x.toNat_lt
      have hw1 : IntKind.i64.wrap (x.toNat : Int) = x.toNat := i64_nat (by omega)
      by_cases hev : k % 2 = 0
      · have HS := Lib.hid (wsum_even hx0 hev)
        have hm : (k : Int) % 2 = 0 := by omega
        generalize hS : wsum (xs.take k) = S at hsl HS ⊢
        generalize x.toNat = y at *
        have hw3 : IntKind.i64.wrap (256 * (y : Int)) = 256 * (y : Int) := IntWalk.i64_in _ (by omega)
        have hw2 : IntKind.i64.wrap ((S : Int) + 256 * (y : Int)) = (S : Int) + 256 * (y : Int) := IntWalk.i64_in _ (by omega)
        clear hS hx0 hrd
        go_wp2
        go_round
        case rel => exact ⟨k + 1, by omega, by go_num, by rw [HS.out]; go_num⟩
        case measure => simp [intOf]; omega
      · have HS := Lib.hid (wsum_odd hx0 hev)
        have hm : (k : Int) % 2 = 1 := by omega
        generalize hS : wsum (xs.take k) = S at hsl HS ⊢
        generalize x.toNat = y at *
        have hw2 : IntKind.i64.wrap ((S : Int) + (y : Int)) = (S : Int) + (y : Int) := IntWalk.i64_in _ (by omega)
        clear hS hx0 hrd
        go_wp2
        go_round
        case rel => exact ⟨k + 1, by omega, by go_num, by rw [HS.out]; go_num⟩
        case measure => simp [intOf]; omega
    · obtain rfl : k = n := by omega
      have htk : xs.take k = xs := List.take_of_length_le (by rw [Hl.out]; exact Nat.le_refl _)
      rw [htk] at hsl ⊢
      clear htk
      go_wp2_with (go_at_call 50; refine (rfold_any _ (by omega) _).mono ?_; rintro e w' ⟨rfl, rfl⟩)
      go_ret
      exact ⟨rfl, rfl⟩

set_option maxRecDepth 20000 in
set_option maxHeartbeats 400000 in
theorem rof_any (A : Option Addr) (n c : Nat) (xs : List UInt8) (w : World) (hl : xs.length = n) (hrd : Rd w A (B8 xs)) (hn : n ≤ 140737488351232) :
    Calls Try.prog 30 #[.slice A n c] w fun e w' => e = .returned (.int .i64 (65535 - fold (wsum xs) : Nat)) ∧ w = w' := by
  have hS := rsum_any A n c xs w hl hrd hn
  have hf := fold_le (wsum xs)
  generalize fold (wsum xs) = r at hf hS ⊢
  have hw : IntKind.i64.wrap (65535 - (r : Int)) = 65535 - (r : Int) := IntWalk.i64_in _ (by omega)
  clear hrd hl
  go_enter Try.func30, Try.ntmps30
  go_wp2_with fail
  refine hS.mono ?_
  clear hS
  rintro e w' ⟨rfl, rfl⟩
  go_wp2_with fail
  go_ret
  exact ⟨ret_int (by omega), rfl⟩

set_option maxRecDepth 20000 in
set_option maxHeartbeats 400000 in
theorem rover_any (p : Nat) (A : Option Addr) (n c : Nat) (xs : List UInt8) (w : World) (hp : p < 65536) (hl : xs.length = n) (hrd : Rd w A (B8 xs)) (hn : n ≤ 140737488351232) :
    Calls Try.prog 32 #[.int .i64 p, .slice A n c] w fun e w' => e = .returned (.int .i64 (65535 - fold (p + fold (wsum xs)) : Nat)) ∧ w = w' := by
  have hS := rsum_any A n c xs w hl hrd hn
  have hf := fold_le (wsum xs)
  generalize fold (wsum xs) = r at hf hS ⊢
  have hw : IntKind.i64.wrap ((p : Int) + (r : Int)) = ((p + r : Nat) : Int) := by rw [IntWalk.i64_in _ (by omega)]; omega
  have hR := fun W => rfold_any (p + r) (by omega) W
  have hf2 := fold_le (p + r)
  generalize fold (p + r) = q at hf2 hR ⊢
  have hw2 : IntKind.i64.wrap (65535 - (q : Int)) = 65535 - (q : Int) := IntWalk.i64_in _ (by omega)
  generalize hpr : p + r = pr at hw hR
  clear hrd hl hpr
  go_enter Try.func32, Try.ntmps32
  go_wp2_with fail
  refine hS.mono ?_
  clear hS
  rintro e w' ⟨rfl, rfl⟩
  go_wp2_with fail
  refine (hR _).mono ?_
  clear hR
  rintro e w' ⟨rfl, rfl⟩
  go_wp2_with fail
  go_ret
  exact ⟨ret_int (by omega), rfl⟩
end Go.Proofs.Ytdkpmbefnfdbkaa
