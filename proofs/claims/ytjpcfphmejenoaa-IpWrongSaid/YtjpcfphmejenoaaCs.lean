/- fold, Join, upper, lower, Never. -/
import Derived.Test.YtjpcfphmejenoaaMath
import Derived.Test.YtjpcfphmejenoaaCl
import Derived.Test.YtjpcfphmejenoaaProg
import Derived.IntWalk
namespace Go.Proofs.Ytjpcfphmejenoaa
open Go.RowKit

theorem ret_int {k : IntKind} {a b : Int} (h : a = b) : Ending.returned (.int k a) = .returned (.int k b) := by rw [h]
theorem u64_in {z : Int} (h0 : 0 ≤ z) (h1 : z < 18446744073709551616) : IntKind.u64.wrap z = z := by
  simp only [IntKind.wrap, IntKind.bits, IntKind.signed]; simp; omega
theorem u16_in {z : Int} (h0 : 0 ≤ z) (h1 : z < 65536) : IntKind.u16.wrap z = z := by
  simp only [IntKind.wrap, IntKind.bits, IntKind.signed]; simp; omega
theorem u32_in {z : Int} (h0 : 0 ≤ z) (h1 : z < 4294967296) : IntKind.u32.wrap z = z := by
  simp only [IntKind.wrap, IntKind.bits, IntKind.signed]; simp; omega
theorem u8_in {z : Int} (h0 : 0 ≤ z) (h1 : z < 256) : IntKind.u8.wrap z = z := by
  simp only [IntKind.wrap, IntKind.bits, IntKind.signed]; simp; omega
theorem u8_mod {z : Int} : IntKind.u8.wrap z = z % 256 := by
  simp only [IntKind.wrap, IntKind.bits, IntKind.signed]; simp
theorem u16_mod {z : Int} : IntKind.u16.wrap z = z % 65536 := by
  simp only [IntKind.wrap, IntKind.bits, IntKind.signed]; simp

theorem addr_of {w : World} {ad : Addr} {u : Value} (h : w.cell? ad = some u) : ∃ b o, ad = ⟨b, o, none⟩ := by
  obtain ⟨b, o, s⟩ := ad
  cases s with
  | none => exact ⟨b, o, rfl⟩
  | some s =>
    exfalso
    unfold World.cell? at h
    split at h <;> simp at h
theorem add_lit (b o j : Nat) : (⟨b, o, none⟩ : Addr).add j = ⟨b, o + j, none⟩ := by unfold Addr.add; split <;> simp_all
theorem rd_addr {w : World} {A : Option Addr} {xs : List Value} (h : Rd w A xs) (hx : 0 < xs.length) : ∃ b o, A = some ⟨b, o, none⟩ := by
  obtain ⟨ad, e, hc⟩ := h 0 xs[0] (List.getElem?_eq_getElem hx)
  obtain ⟨b, o, e2⟩ := addr_of hc
  obtain ⟨b', o', s⟩ := ad
  cases s with
  | none => exact ⟨b', o', e⟩
  | some s =>
    exfalso
    unfold Addr.add at e2
    simp at e2
theorem rdc {w : World} {b o : Nat} {l : List Value} (h : Rd w (some ⟨b, o, none⟩) l) (j : Nat) (u : Value) (hx : l[j]? = some u) : w.cell? ⟨b, o + j, none⟩ = some u := by
  have := h.get (j := j) (u := u) hx
  rwa [add_lit] at this
theorem rdj {w : World} {b o : Nat} {l : List UInt8} (h : Rd w (some ⟨b, o, none⟩) (B8 l)) (j : Nat) (x : UInt8) (hx : l[j]? = some x) : w.cell? ⟨b, o + j, none⟩ = some (.int .u8 x.toNat) :=
  rdc h j _ (by rw [B8_get, hx]; rfl)

theorem rd_addr8 {w : World} {A : Option Addr} {l : List UInt8} (h : Rd w A (B8 l)) (hx : 0 < l.length) : ∃ b o, A = some ⟨b, o, none⟩ := rd_addr h (by rw [B8_length]; exact hx)

/-- Words as cells. -/
def W16 (ns : List Nat) : List Value := ns.map fun x : Nat => Value.int .u16 (x : Int)
theorem W16_get (ns : List Nat) (j : Nat) : (W16 ns)[j]? = ns[j]?.map fun x : Nat => Value.int .u16 (x : Int) := by simp [W16]
theorem W16_length (ns : List Nat) : (W16 ns).length = ns.length := by simp [W16]
theorem sum_take_succ {ns : List Nat} {k x : Nat} (h : ns[k]? = some x) : (ns.take (k + 1)).sum = (ns.take k).sum + x := by
  rw [List.take_add_one, h]; simp
theorem sum_le {ns : List Nat} (h : ∀ x ∈ ns, x < 65536) : ns.sum ≤ 65535 * ns.length := by
  induction ns with
  | nil => simp
  | cons a l ih =>
    have h1 := h a (by simp)
    have h2 := ih fun x hx => h x (by simp [hx])
    simp only [List.sum_cons, List.length_cons]
    omega

set_option maxRecDepth 20000 in
set_option maxHeartbeats 400000 in
theorem fold_any (s : Nat) (hs : s < 18446744073709551616) (w : World) :
    Calls Try.prog 41 #[.int .u64 s] w fun e w' => e = .returned (.int .u16 (fold s)) ∧ w = w' := by
  by_cases h : s = 0
  · subst h
    go_enter Try.func41, Try.ntmps41
    go_wp2
    go_ret
    exact ⟨rfl, rfl⟩
  · have h0 : ((s : Int) == 0) = false := by rw [beq_eq_false_iff_ne]; omega
    have hw1 : IntKind.u64.wrap ((s : Int) - 1) = (s : Int) - 1 := u64_in (by omega) (by omega)
    have hw2 : Int.tmod ((s : Int) - 1) 65535 = ((s - 1) % 65535 : Nat) := by
      rw [Int.tmod_eq_emod_of_nonneg (by omega)]; omega
    have hlt : (s - 1) % 65535 < 65535 := Nat.mod_lt _ (by decide)
    have hf : (fold s : Int) = 1 + ((s - 1) % 65535 : Nat) := by unfold fold; rw [if_neg h]; omega
    have HF := Lib.hid hf
    generalize (s - 1) % 65535 = r at hw2 hlt HF
    have hw3 : IntKind.u64.wrap ((r : Int)) = (r : Int) := u64_in (by omega) (by omega)
    have hw4 : IntKind.u64.wrap (1 + (r : Int)) = 1 + (r : Int) := u64_in (by omega) (by omega)
    have hw5 : IntKind.u16.wrap (1 + (r : Int)) = 1 + (r : Int) := u16_in (by omega) (by omega)
    clear hf
    go_enter Try.func41, Try.ntmps41
    go_wp2
    go_ret
    exact ⟨ret_int HF.out.symm, rfl⟩

set_option maxRecDepth 20000 in
set_option maxHeartbeats 1000000 in
theorem join_any (A : Option Addr) (n c : Nat) (ns : List Nat) (w : World) (hl : ns.length = n) (hb : ∀ x ∈ ns, x < 65536) (hrd : Rd w A (W16 ns)) (hn : n ≤ 70368744177600) :
    Calls Try.prog 52 #[.slice A n c] w fun e w' => e = .returned (.int .u16 (fold ns.sum)) ∧ w = w' := by
  have Hl := Lib.hid hl
  clear hl
  go_enter Try.func52, Try.ntmps52
  go_wp2
  go_loop [3, 8] (fun s i => ∃ k : Nat, k ≤ n ∧ i = .int .i64 k ∧ s = .int .u64 (ns.take k).sum) (fun _ i => n - (intOf i).toNat)
  case atStart => exact ⟨0, Nat.zero_le _, rfl, by simp⟩
  case round =>
    obtain ⟨k, hk, rfl, rfl⟩ := hrel
    have hsl : (ns.take k).sum ≤ 65535 * k := by
      have h := sum_le (ns := ns.take k) (fun x hx => hb x (List.mem_of_mem_take hx))
      rw [List.length_take] at h
      have : min k ns.length ≤ k := Nat.min_le_left _ _
      omega
    by_cases hlt : k < n
    · have hkx : k < ns.length := by have := Hl.out; omega
      obtain ⟨b, o, rfl⟩ := rd_addr hrd (by rw [W16_length]; omega)
      obtain ⟨x, hx0⟩ : ∃ x, ns[k]? = some x := ⟨_, List.getElem?_eq_getElem hkx⟩
      have hcell := rdc hrd k (.int .u16 x) (by rw [W16_get, hx0]; rfl)
      have hxl : x < 65536 := hb x (List.mem_of_getElem? hx0)
      have HS := Lib.hid (sum_take_succ hx0)
      generalize hS : (ns.take k).sum = S at hsl HS ⊢
      have hw1 : IntKind.u64.wrap (x : Int) = x := u64_in (by omega) (by omega)
      have hw2 : IntKind.u64.wrap ((S : Int) + (x : Int)) = (S : Int) + (x : Int) := u64_in (by omega) (by omega)
      clear hS hx0
      go_wp2
      go_round
      case rel => exact ⟨k + 1, by omega, by go_num, by rw [HS.out]; go_num⟩
      case measure => simp [intOf]; omega
    · obtain rfl : k = n := by omega
      have htk : ns.take k = ns := List.take_of_length_le (by rw [Hl.out]; exact Nat.le_refl _)
      rw [htk] at hsl ⊢
      clear htk
      go_wp2_with (go_at_call 41; refine (fold_any _ (by omega) _).mono ?_; rintro e w' ⟨rfl, rfl⟩)
      go_ret
      exact ⟨rfl, rfl⟩

end Go.Proofs.Ytjpcfphmejenoaa
