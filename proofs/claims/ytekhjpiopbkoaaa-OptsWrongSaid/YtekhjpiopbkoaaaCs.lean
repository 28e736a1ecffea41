/- fold, Join, upper, lower, Never. -/
import Derived.Test.YtekhjpiopbkoaaaMath
import Derived.Test.YtekhjpiopbkoaaaCl
import Derived.Test.YtekhjpiopbkoaaaProg
import Derived.IntWalk
namespace Go.Proofs.Ytekhjpiopbkoaaa
open Go.RowKit

theorem ret_int {k : IntKind} {a b : Int} (h : a = b) : Ending.returned (.int k a) = .returned (.int k b) := by rw [h]
theorem u64_in {z : Int} (h0 : 0 ≤ z) (h1 : z < 18446744073709551616) : IntKind.u64.wrap z = z := by
  simp only [IntKind.wrap, IntKind.bits, IntKind.signed]; simp; omega
theorem u16_in {z : Int} (h0 : 0 ≤ z) (h1 : z < 65536) : IntKind.u16.wrap z = z := by
  simp only [IntKind.wrap, IntKind.bits, IntKind.signed]; simp; omega
theorem u32_in {z : Int} (h0 : 0 ≤ z) (h1 : z < 4294967296) : IntKind.u32.wrap z = z := by
  simp only [IntKind.wrap, IntKind.bits, IntKind.signed]; simp; omega
theorem u8_in {z : Int} (h0 : 0 ≤ z) (h1 : z < 256) : IntKind.u8.wrap z = z := by
  simp only [IntKind.wrap, IntKind.bits, IntKind.signed]; simp; omega
theorem u8_mod {z : Int} : IntKind.u8.wrap z = z % 256 := by
  simp only [IntKind.wrap, IntKind.bits, IntKind.signed]; simp
theorem u16_mod {z : Int} : IntKind.u16.wrap z = z % 65536 := by
  simp only [IntKind.wrap, IntKind.bits, IntKind.signed]; simp

theorem addr_of {w : World} {ad : Addr} {u : Value} (h : w.cell? ad = some u) : ∃ b o, ad = ⟨b, o, none⟩ := by
  obtain ⟨b, o, s⟩ := ad
  cases s with
  | none => exact ⟨b, o, rfl⟩
  | some s =>
    exfalso
    unfold World.cell? at h
    split at h <;> simp at h
theorem add_lit (b o j : Nat) : (⟨b, o, none⟩ : Addr).add j = ⟨b, o + j, none⟩ := by unfold Addr.add; split <;> simp_all
theorem rd_addr {w : World} {A : Option Addr} {xs : List Value} (h : Rd w A xs) (hx : 0 < xs.length) : ∃ b o, A = some ⟨b, o, none⟩ := by
  obtain ⟨ad, e, hc⟩ := h 0 xs[0] (List.getElem?_eq_getElem hx)
  obtain ⟨b, o, e2⟩ := addr_of hc
  obtain ⟨b', o', s⟩ := ad
  cases s with
  | none => exact ⟨b', o', e⟩
  | some s =>
    exfalso
    unfold Addr.add at e2
    simp at e2
theorem rdc {w : World} {b o : Nat} {l : List Value} (h : Rd w (some ⟨b, o, none⟩) l) (j : Nat) (u : Value) (hx : l[j]? = some u) : w.cell? ⟨b, o + j, none⟩ = some u := by
  have := h.get (j := j) (u := u) hx
  rwa [add_lit] at this
theorem rdj {w : World} {b o : Nat} {l : List UInt8} (h : Rd w (some ⟨b, o, none⟩) (B8 l)) (j : Nat) (x : UInt8) (hx : l[j]? = some x) : w.cell? ⟨b, o + j, none⟩ = some (.int .u8 x.toNat) :=
  rdc h j _ (by rw [B8_get, hx]; rfl)

theorem rd_addr8 {w : World} {A : Option Addr} {l : List UInt8} (h : Rd w A (B8 l)) (hx : 0 < l.length) : ∃ b o, A = some ⟨b, o, none⟩ := rd_addr h (by rw [B8_length]; exact hx)

/-- Words as cells. -/
def W16 (ns : List Nat) : List Value := ns.map fun x : Nat => Value.int .u16 (x : Int)
theorem W16_get (ns : List Nat) (j : Nat) : (W16 ns)[j]? = ns[j]?.map fun x : Nat => Value.int .u16 (x : Int) := by simp [W16]
theorem W16_length (ns : List Nat) : (W16 ns).length = ns.length := by simp [W16]
theorem sum_take_succ {ns : List Nat} {k x : Nat} (h : ns[k]? = some x) : (ns.take (k + 1)).sum = (ns.take k).sum + x := by
  rw [List.take_add_one, h]; simp
theorem sum_le {ns : List Nat} (h : ∀ x ∈ ns, x < 65536) : ns.sum ≤ 65535 * ns.length := by
  induction ns with
  | nil => simp
  | cons a l ih =>
    have h1 := h a (by simp)
    have h2 := ih fun x hx => h x (by simp [hx])
    simp only [List.sum_cons, List.length_cons]
    omega

end Go.Proofs.Ytekhjpiopbkoaaa
