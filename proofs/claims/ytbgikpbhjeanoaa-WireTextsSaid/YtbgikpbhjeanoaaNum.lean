/- numberOf: bytes put together. -/
import Derived.Test.YtbgikpbhjeanoaaBase
import Derived.Test.YtbgikpbhjeanoaaProg
namespace Go.Proofs.Ytbgikpbhjeanoaa
open Go.RowKit

theorem b8lt (x : UInt8) : (x.toNat : Int) < 256 := by have := x.toNat_lt; omega
theorem ret_int {k : IntKind} {a b : Int} (h : a = b) : Ending.returned (.int k a) = .returned (.int k b) := by rw [h]

set_option maxRecDepth 20000 in
set_option maxHeartbeats 400000 in
theorem num8_0 (A : Option Addr) (c : Nat) (w : World) :
    Calls Try.prog 58 #[.slice A 0 c] w fun e w' => e = .returned (.int .u8 0) ∧ w = w' := by
  go_enter Try.func58, Try.ntmps58
  go_wp2
  go_rounds 1
  go_ret
  exact ⟨rfl, rfl⟩

set_option maxRecDepth 20000 in
set_option maxHeartbeats 400000 in
theorem num16_0 (A : Option Addr) (c : Nat) (w : World) :
    Calls Try.prog 60 #[.slice A 0 c] w fun e w' => e = .returned (.int .u16 0) ∧ w = w' := by
  go_enter Try.func60, Try.ntmps60
  go_wp2
  go_rounds 1
  go_ret
  exact ⟨rfl, rfl⟩

set_option maxRecDepth 20000 in
set_option maxHeartbeats 400000 in
theorem num32_0 (A : Option Addr) (c : Nat) (w : World) :
    Calls Try.prog 61 #[.slice A 0 c] w fun e w' => e = .returned (.int .u32 0) ∧ w = w' := by
  go_enter Try.func61, Try.ntmps61
  go_wp2
  go_rounds 1
  go_ret
  exact ⟨rfl, rfl⟩

theorem or8 (x : Nat) (h : x < 256) : bits BinOp.or IntKind.u8 0 ((x : Int) % 256) = x := by
  rw [Int.emod_eq_of_lt (by omega) (by omega)]
  have := u8_or_nat 0 x (by omega) h
  simpa using this

set_option maxRecDepth 20000 in
set_option maxHeartbeats 400000 in
theorem num8 (b o : Nat) (x : UInt8) (c : Nat) (w : World) (h0 : w.cell? ⟨b, o, none⟩ = some (.int .u8 x.toNat)) :
    Calls Try.prog 58 #[.slice (some ⟨b, o, none⟩) 1 c] w fun e w' => e = .returned (.int .u8 x.toNat) ∧ w = w' := by
  go_enter Try.func58, Try.ntmps58
  go_wp2
  go_rounds 2
  go_ret
  exact ⟨ret_int (or8 _ x.toNat_lt), rfl⟩

theorem join16 (i : Nat) (a b : Nat) {A B : Int} (hA : A = a) (hB : B = b) (ha : a % 2 ^ i = 0) (hb : b < 2 ^ i) (h : a + b < 65536) : bits BinOp.or IntKind.u16 A B = (a + b : Nat) := by
  subst hA hB
  rw [u16_or_nat a b (by omega) (by omega), nat_join i a b ha hb]
theorem join32 (i : Nat) (a b : Nat) {A B : Int} (hA : A = a) (hB : B = b) (ha : a % 2 ^ i = 0) (hb : b < 2 ^ i) (h : a + b < 4294967296) : bits BinOp.or IntKind.u32 A B = (a + b : Nat) := by
  subst hA hB
  rw [u32_or_nat a b (by omega) (by omega), nat_join i a b ha hb]

set_option maxRecDepth 20000 in
set_option maxHeartbeats 400000 in
theorem num16 (b o : Nat) (x y : UInt8) (c : Nat) (w : World) (h0 : w.cell? ⟨b, o, none⟩ = some (.int .u8 x.toNat)) (h1 : w.cell? ⟨b, o + 1, none⟩ = some (.int .u8 y.toNat)) :
    Calls Try.prog 60 #[.slice (some ⟨b, o, none⟩) 2 c] w fun e w' => e = .returned (.int .u16 (256 * x.toNat + y.toNat : Nat)) ∧ w = w' := by
  have hx := b8lt x
  have hy := b8lt y
  go_enter Try.func60, Try.ntmps60
  go_wp2
  go_rounds 3
  go_ret
  refine ⟨ret_int (k := .u16) ?_, rfl⟩
  have hx' : x.toNat < 256 := x.toNat_lt
  have hy' : y.toNat < 256 := y.toNat_lt
  rw [join16 (A := 0) 16 0 (x.toNat * 256) rfl (by omega) (by omega) (by omega) (by omega)]
  rw [join16 8 (0 + x.toNat * 256) y.toNat rfl rfl (by omega) (by omega) (by omega)]
  omega

set_option maxRecDepth 20000 in
set_option maxHeartbeats 400000 in
theorem num32 (b o : Nat) (x y z u : UInt8) (c : Nat) (w : World) (h0 : w.cell? ⟨b, o, none⟩ = some (.int .u8 x.toNat)) (h1 : w.cell? ⟨b, o + 1, none⟩ = some (.int .u8 y.toNat))
   (h2 : w.cell? ⟨b, o + 2, none⟩ = some (.int .u8 z.toNat)) (h3 : w.cell? ⟨b, o + 3, none⟩ = some (.int .u8 u.toNat)) :
    Calls Try.prog 61 #[.slice (some ⟨b, o, none⟩) 4 c] w fun e w' => e = .returned (.int .u32 (256 * (256 * (256 * x.toNat + y.toNat) + z.toNat) + u.toNat : Nat)) ∧ w = w' := by
  have hx := b8lt x
  have hy := b8lt y
  have hz := b8lt z
  have hu := b8lt u
  go_enter Try.func61, Try.ntmps61
  go_wp2
  go_rounds 5
  go_ret
  refine ⟨ret_int (k := .u32) ?_, rfl⟩
  have hx' : x.toNat < 256 := x.toNat_lt
  have hy' : y.toNat < 256 := y.toNat_lt
  have hz' : z.toNat < 256 := z.toNat_lt
  have hu' : u.toNat < 256 := u.toNat_lt
  rw [join32 (A := 0) 32 0 (x.toNat * 16777216) rfl (by omega) (by omega) (by omega) (by omega)]
  rw [join32 24 (0 + x.toNat * 16777216) (y.toNat * 65536) rfl (by omega) (by omega) (by omega) (by omega)]
  rw [join32 16 (0 + x.toNat * 16777216 + y.toNat * 65536) (z.toNat * 256) rfl (by omega) (by omega) (by omega) (by omega)]
  rw [join32 8 (0 + x.toNat * 16777216 + y.toNat * 65536 + z.toNat * 256) u.toNat rfl rfl (by omega) (by omega) (by omega)]
  omega
end Go.Proofs.Ytbgikpbhjeanoaa
