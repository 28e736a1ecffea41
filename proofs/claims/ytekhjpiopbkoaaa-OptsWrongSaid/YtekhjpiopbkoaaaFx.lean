/- Fix, Pseudo, Update, Update32. -/
import Derived.Test.YtekhjpiopbkoaaaSm
namespace Go.Proofs.Ytekhjpiopbkoaaa
open Go.RowKit

theorem i64_2 {n : Nat} (h : n ≤ 140737488351232) : IntKind.i64.wrap ((n : Int) - 2) = (n : Int) - 2 := IntWalk.i64_in _ (by omega)

def FixNo (w : World) (e : Ending) (w' : World) : Prop := e = .returned (.tuple #[.slice none 0 0, .int .i64 2]) ∧ w = w'
/-- What Fix makes of bytes. -/
def fixC (xs : List UInt8) (k : Nat) : Nat := 65535 - fold (wsum (put2 xs k 0))
def fixed (xs : List UInt8) (k : Nat) : List UInt8 := put2 xs k (fixC xs k)
theorem put2_put2 (xs : List UInt8) (k u v : Nat) (h : k + 2 ≤ xs.length) : put2 (put2 xs k u) k v = put2 xs k v := by
  unfold put2
  have hl : (xs.take k).length = k := by simp; omega
  have h1 : (xs.take k ++ [hi8 u, lo8 u] ++ xs.drop (k + 2)).take k = xs.take k := by
    rw [List.append_assoc, List.take_append_of_le_length (by omega), List.take_take, Nat.min_self]
  have h2 : (xs.take k ++ [hi8 u, lo8 u] ++ xs.drop (k + 2)).drop (k + 2) = xs.drop (k + 2) := by
    have e : k + 2 = (xs.take k ++ [hi8 u, lo8 u]).length := by simp; omega
    rw [e, List.drop_left, ← e]
  rw [h1, h2]
theorem fixC_lt (xs : List UInt8) (k : Nat) : fixC xs k < 65536 := by unfold fixC; omega

def FixYes (w : World) (xs : List UInt8) (k n : Nat) (e : Ending) (w' : World) : Prop :=
  ∃ g c, e = .returned (.tuple #[.slice (some ⟨g, 0, none⟩) n c, .int .i64 0]) ∧ w'.ownsRow w.heap.size 5 1 (.slice (some ⟨g, 0, none⟩) n c) n (B8 (fixed xs k)) ∧ Fr [] w w'

def psd (src dst proto length : Nat) : Nat := fold (src / 65536 + src % 65536 + dst / 65536 + dst % 65536 + proto + length)
/-- What Update makes. -/
def upd (check old new : Nat) : Nat := 65535 - fold (65535 - check + (65535 - old) + new)
theorem upd_lt (check old new : Nat) : upd check old new < 65536 := by unfold upd; omega
theorem W16_3 {a b c : Nat} {A B : Int} (hA : A = a) (hB : B = b) : #[Value.int .u16 A, .int .u16 B, .int .u16 c] = (W16 [a, b, c]).toArray := by subst hA hB; rfl

end Go.Proofs.Ytekhjpiopbkoaaa
