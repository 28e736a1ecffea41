/- The reference: numbers. -/
import Derived.Test.YtdkpmbefnfdbkaaFx
namespace Go.Proofs.Ytdkpmbefnfdbkaa
open Go.RowKit

theorem i64_nat {z : Nat} (h : z ≤ 9223372036854775807) : IntKind.i64.wrap (z : Int) = z := IntWalk.i64_in _ (by omega)

set_option maxRecDepth 20000 in
set_option maxHeartbeats 400000 in
theorem rfold_any (s : Nat) (hs : s ≤ 9223372036854775000) (w : World) :
    Calls Try.prog 50 #[.int .i64 s] w fun e w' => e = .returned (.int .i64 (fold s)) ∧ w = w' := by
  by_cases h : s = 0
  · subst h
    go_enter Try.func50, Try.ntmps50
    go_wp2
    go_ret
    exact ⟨rfl, rfl⟩
  · have h0 : ((s : Int) == 0) = false := by rw [beq_eq_false_iff_ne]; omega
    have hw1 : IntKind.i64.wrap ((s : Int) - 1) = (s : Int) - 1 := IntWalk.i64_in _ (by omega)
    have hlt : (s - 1) % 65535 < 65535 := Nat.mod_lt _ (by decide)
    have hf : (fold s : Int) = 1 + ((s - 1) % 65535 : Nat) := by unfold fold; rw [if_neg h]; omega
    have HF := Lib.hid hf
    have hw2 : ((s : Int) - 1) % 65535 = (((s - 1) % 65535 : Nat) : Int) := by omega
    have hge : (0 : Int) ≤ (s : Int) - 1 := by omega
    generalize (s - 1) % 65535 = r at hw2 hlt HF
    have hw4 : IntKind.i64.wrap (1 + (r : Int)) = 1 + (r : Int) := IntWalk.i64_in _ (by omega)
    clear hf
    go_enter Try.func50, Try.ntmps50
    go_wp2
    go_ret
    exact ⟨ret_int HF.out.symm, rfl⟩

set_option maxRecDepth 20000 in
set_option maxHeartbeats 1000000 in
theorem rjoin_any (A : Option Addr) (n c : Nat) (ns : List Nat) (w : World) (hl : ns.length = n) (hb : ∀ x ∈ ns, x < 65536) (hrd : Rd w A (W16 ns)) (hn : n ≤ 70368744177600) :
    Calls Try.prog 37 #[.slice A n c] w fun e w' => e = .returned (.int .i64 (fold ns.sum)) ∧ w = w' := by
  have Hl := Lib.hid hl
  clear hl
  go_enter Try.func37, Try.ntmps37
  go_wp2
  go_loop [3, 4] (fun s i => ∃ k : Nat, k ≤ n ∧ i = .int .i64 k ∧ s = .int .i64 (ns.take k).sum) (fun _ i => n - (intOf i).toNat)
  case atStart => exact ⟨0, Nat.zero_le _, rfl, by simp⟩
  case round =>
    obtain ⟨k, hk, rfl, rfl⟩ := hrel
    have hsl : (ns.take k).sum ≤ 65535 * k := by
      have h := sum_le (ns := ns.take k) (fun x hx => hb x (List.mem_of_mem_take hx))
      rw [List.length_take] at h
      have : min k ns.length ≤ k := Nat.min_le_left _ _
      omega
    by_cases hlt : k < n
    · have hkx : k < ns.length := by have := Hl.out; omega
      obtain ⟨b, o, rfl⟩ := rd_addr hrd (by rw [W16_length]; omega)
      obtain ⟨x, hx0⟩ : ∃ x, ns[k]? = some x := ⟨_, List.getElem?_eq_getElem hkx⟩
      have hcell := rdc hrd k (.int .u16 x) (by rw [W16_get, hx0]; rfl)
      have hxl : x < 65536 := hb x (List.mem_of_getElem? hx0)
      have HS := Lib.hid (sum_take_succ hx0)
      generalize hS : (ns.take k).sum = S at hsl HS ⊢
      have hw1 : IntKind.i64.wrap (x : Int) = x := i64_nat (by omega)
      have hw2 : IntKind.i64.wrap ((S : Int) + (x : Int)) = (S : Int) + (x : Int) := IntWalk.i64_in _ (by omega)
      clear hS hx0
      go_wp2
      go_round
      case rel => exact ⟨k + 1, by omega, by go_num, by rw [HS.out]; go_num⟩
      case measure => simp [intOf]; omega
    · obtain rfl : k = n := by omega
      have htk : ns.take k = ns := List.take_of_length_le (by rw [Hl.out]; exact Nat.le_refl _)
      rw [htk] at hsl ⊢
      clear htk
      go_wp2_with (go_at_call 50; refine (rfold_any _ (by omega) _).mono ?_; rintro e w' ⟨rfl, rfl⟩)
      go_ret
      exact ⟨rfl, rfl⟩

set_option maxRecDepth 20000 in
set_option maxHeartbeats 400000 in
theorem rupdate_any (check old new : Nat) (w : World) (h1 : check < 65536) (h2 : old < 65536) (h3 : new < 65536) :
    Calls Try.prog 38 #[.int .i64 check, .int .i64 old, .int .i64 new] w fun e w' => e = .returned (.int .i64 (upd check old new)) ∧ w = w' := by
  have hR := rfold_any (65535 - check + (65535 - old) + new) (by omega) w
  have hf := fold_le (65535 - check + (65535 - old) + new)
  have hu : ((upd check old new : Nat) : Int) = 65535 - ((fold (65535 - check + (65535 - old) + new) : Nat) : Int) := by unfold upd; omega
  generalize fold (65535 - check + (65535 - old) + new) = r at hf hu hR
  have HU := Lib.hid hu
  clear hu
  have hw1 : IntKind.i64.wrap (65535 - (check : Int)) = 65535 - (check : Int) := IntWalk.i64_in _ (by omega)
  have hw2 : IntKind.i64.wrap (65535 - (check : Int) + 65535) = 65535 - (check : Int) + 65535 := IntWalk.i64_in _ (by omega)
  have hw3 : IntKind.i64.wrap (65535 - (check : Int) + 65535 - (old : Int)) = 65535 - (check : Int) + 65535 - (old : Int) := IntWalk.i64_in _ (by omega)
  have hw4 : IntKind.i64.wrap (65535 - (check : Int) + 65535 - (old : Int) + (new : Int)) = 65535 - (check : Int) + 65535 - (old : Int) + (new : Int) := IntWalk.i64_in _ (by omega)
  have hw5 : IntKind.i64.wrap (65535 - (r : Int)) = 65535 - (r : Int) := IntWalk.i64_in _ (by omega)
  rw [show (((65535 - check + (65535 - old) + new : Nat)) : Int) = 65535 - (check : Int) + 65535 - (old : Int) + (new : Int) by omega] at hR
  go_enter Try.func38, Try.ntmps38
  go_wp2_with fail
  refine hR.mono ?_
  rintro e w' ⟨rfl, rfl⟩
  clear hR
  go_wp2_with fail
  go_ret
  exact ⟨ret_int HU.out.symm, rfl⟩

set_option maxRecDepth 20000 in
set_option maxHeartbeats 400000 in
theorem rupdate32_any (check old new : Nat) (w : World) (h1 : check < 65536) (h2 : old < 4294967296) (h3 : new < 4294967296) :
    Calls Try.prog 39 #[.int .i64 check, .int .i64 old, .int .i64 new] w fun e w' => e = .returned (.int .i64 (upd32 check old new)) ∧ w = w' := by
  have ho1 : (old : Int) / 65536 = ((old / 65536 : Nat) : Int) := by omega
  have ho2 : (old : Int) % 65536 = ((old % 65536 : Nat) : Int) := by omega
  have hn1 : (new : Int) / 65536 = ((new / 65536 : Nat) : Int) := by omega
  have hn2 : (new : Int) % 65536 = ((new % 65536 : Nat) : Int) := by omega
  have hR1 := rupdate_any check (old / 65536) (new / 65536) w h1 (by omega) (by omega)
  have hR2 := rupdate_any (upd check (old / 65536) (new / 65536)) (old % 65536) (new % 65536) w (upd_lt _ _ _) (by omega) (by omega)
  have HU : Hid (upd (upd check (old / 65536) (new / 65536)) (old % 65536) (new % 65536) = upd32 check old new) := rfl
  generalize old / 65536 = o1 at *
  generalize old % 65536 = o2 at *
  generalize new / 65536 = n1 at *
  generalize new % 65536 = n2 at *
  go_enter Try.func39, Try.ntmps39
  go_wp2_with fail
  refine hR1.mono ?_
  rintro e w' ⟨rfl, rfl⟩
  clear hR1
  go_wp2_with fail
  refine hR2.mono ?_
  rintro e w' ⟨rfl, rfl⟩
  clear hR2
  go_wp2_with fail
  go_ret
  exact ⟨ret_int (by rw [HU.out]), rfl⟩

theorem rpseudo_no (src dst proto length : Int) (w : World) (hb : length < 0 ∨ 65535 < length) :
    Calls Try.prog 36 #[.int .i64 src, .int .i64 dst, .int .i64 proto, .int .i64 length] w fun e w' => e = .returned (.tuple #[.int .i64 0, .int .i64 2]) ∧ w = w' := by
  by_cases h1 : length < 0
  · have hd : decide (length < 0) = true := by simpa using h1
    go_enter Try.func36, Try.ntmps36
    go_wp2
    go_ret2
    exact ⟨rfl, rfl⟩
  · have hd : decide (length < 0) = false := by simpa using h1
    have hd2 : decide (65535 < length) = true := by simp; omega
    clear hb
    go_enter Try.func36, Try.ntmps36
    go_wp2
    go_ret2
    exact ⟨rfl, rfl⟩
set_option maxRecDepth 20000 in
set_option maxHeartbeats 400000 in
theorem rpseudo_yes (src dst proto length : Nat) (w : World) (h1 : src < 4294967296) (h2 : dst < 4294967296) (h3 : proto < 256) (h4 : length < 65536) :
    Calls Try.prog 36 #[.int .i64 src, .int .i64 dst, .int .i64 proto, .int .i64 length] w fun e w' => e = .returned (.tuple #[.int .i64 (psd src dst proto length), .int .i64 0]) ∧ w = w' := by
  have hd : decide ((length : Int) < 0) = false := by simp
  have hd2 : decide ((65535 : Int) < (length : Int)) = false := by simp; omega
  have hd3 : decide (65535 < length) = false := by simp; omega
  have ho1 : (src : Int) / 65536 = ((src / 65536 : Nat) : Int) := by omega
  have ho2 : (src : Int) % 65536 = ((src % 65536 : Nat) : Int) := by omega
  have hn1 : (dst : Int) / 65536 = ((dst / 65536 : Nat) : Int) := by omega
  have hn2 : (dst : Int) % 65536 = ((dst % 65536 : Nat) : Int) := by omega
  have hR := rfold_any (src / 65536 + src % 65536 + dst / 65536 + dst % 65536 + proto + length) (by omega) w
  have HU : Hid (fold (src / 65536 + src % 65536 + dst / 65536 + dst % 65536 + proto + length) = psd src dst proto length) := rfl
  have b1 : src / 65536 < 65536 := by omega
  have b2 : src % 65536 < 65536 := by omega
  have b3 : dst / 65536 < 65536 := by omega
  have b4 : dst % 65536 < 65536 := by omega
  generalize src / 65536 = o1 at *
  generalize src % 65536 = o2 at *
  generalize dst / 65536 = n1 at *
  generalize dst % 65536 = n2 at *
  have hw1 : IntKind.i64.wrap ((o1 : Int) + (o2 : Int)) = (o1 : Int) + (o2 : Int) := IntWalk.i64_in _ (by omega)
  have hw2 : IntKind.i64.wrap ((o1 : Int) + (o2 : Int) + (n1 : Int)) = (o1 : Int) + (o2 : Int) + (n1 : Int) := IntWalk.i64_in _ (by omega)
  have hw3 : IntKind.i64.wrap ((o1 : Int) + (o2 : Int) + (n1 : Int) + (n2 : Int)) = (o1 : Int) + (o2 : Int) + (n1 : Int) + (n2 : Int) := IntWalk.i64_in _ (by omega)
  have hw4 : IntKind.i64.wrap ((o1 : Int) + (o2 : Int) + (n1 : Int) + (n2 : Int) + (proto : Int)) = (o1 : Int) + (o2 : Int) + (n1 : Int) + (n2 : Int) + (proto : Int) := IntWalk.i64_in _ (by omega)
  have hw5 : IntKind.i64.wrap ((o1 : Int) + (o2 : Int) + (n1 : Int) + (n2 : Int) + (proto : Int) + (length : Int)) = (o1 : Int) + (o2 : Int) + (n1 : Int) + (n2 : Int) + (proto : Int) + (length : Int) := IntWalk.i64_in _ (by omega)
  rw [show (((o1 + o2 + n1 + n2 + proto + length : Nat)) : Int) = (o1 : Int) + (o2 : Int) + (n1 : Int) + (n2 : Int) + (proto : Int) + (length : Int) by omega] at hR
  go_enter Try.func36, Try.ntmps36
  go_wp2_with fail
  refine hR.mono ?_
  rintro e w' ⟨rfl, rfl⟩
  clear hR
  go_wp2_with fail
  go_ret2
  exact ⟨by rw [HU.out]; rfl, rfl⟩
end Go.Proofs.Ytdkpmbefnfdbkaa
