/- Read: the address of a text. -/
import Derived.Test.YtjfadoealhlccaaGreatDoorSpl
import Derived.Test.YtjfadoealhlccaaGreatDoorText
import Derived.Laws.BitsAllLaws
import Derived.Test.YtjfadoealhlccaaGreatDoorXt
namespace Go.Proofs.YtjfadoealhlccaaGreatDoor
open Go.RowKit
set_option linter.unusedVariables false
set_option maxRecDepth 20000

theorem pieces4 (l : List UInt8) (N : Nat) (hN : N = min 4 (l.length + 1)) :
    ((Lib.splitB ⟨#[46]⟩ 0 (N - 1) ⟨l.toArray⟩).length ≠ 4 ∧ ∀ a, l ≠ atext a) ∨
    ∃ x1 x2 x3 x4 : List UInt8, N = 4 ∧ Lib.splitB ⟨#[46]⟩ 0 (N - 1) ⟨l.toArray⟩ = [⟨x1.toArray⟩, ⟨x2.toArray⟩, ⟨x3.toArray⟩, ⟨x4.toArray⟩] ∧ l = x1 ++ 46 :: (x2 ++ 46 :: (x3 ++ 46 :: x4)) ∧ 46 ∉ x1 ∧ 46 ∉ x2 ∧ 46 ∉ x3 := by
  by_cases hL : (Lib.splitB ⟨#[46]⟩ 0 (N - 1) ⟨l.toArray⟩).length = 4
  · have hle := Lib.splitB_length_le ⟨#[46]⟩ 0 (N - 1) ⟨l.toArray⟩
    have hN4 : N = 4 := by omega
    subst hN4
    refine .inr ?_
    rw [show 4 - 1 = 2 + 1 from rfl] at hL ⊢
    rcases split_cases l 46 2 with h | ⟨x1, y1, h1, g1, e1⟩
    · rw [h] at hL; simp at hL
    · rw [e1] at hL ⊢
      rcases split_cases y1 46 1 with h | ⟨x2, y2, h2, g2, e2⟩
      · rw [h] at hL; simp at hL
      · rw [e2] at hL ⊢
        rcases split_cases y2 46 0 with h | ⟨x3, y3, h3, g3, e3⟩
        · rw [h] at hL; simp at hL
        · exact ⟨x1, x2, x3, y3, rfl, by rw [e3]; rfl, by rw [h1, h2, h3], g1, g2, g3⟩
  · refine .inl ⟨hL, fun a e => hL ?_⟩
    have hlen : 7 ≤ l.length := by
      have h1 : ∀ n, 1 ≤ (dec n).length := fun n => by
        have := dec_ne n
        rcases Nat.eq_zero_or_pos (dec n).length with h | h
        · exact absurd (List.eq_nil_of_length_eq_zero h) this
        · exact h
      rw [e]
      unfold atext quad
      have a1 := h1 (a / 16777216)
      have a2 := h1 (a / 65536 % 256)
      have a3 := h1 (a / 256 % 256)
      have a4 := h1 (a % 256)
      simp only [List.length_append, List.length_cons]
      omega
    have hN4 : N = 4 := by omega
    subst hN4
    rw [e]
    unfold atext quad
    rw [show 4 - 1 = 2 + 1 from rfl, split_hit 2 (dec_free dot_dg _), split_hit 1 (dec_free dot_dg _), split_hit 0 (dec_free dot_dg _)]
    rfl

def ReadP (W : World) (s : ByteArray) (e : Ending) (w' : World) : Prop :=
  Fr [] W w' ∧ ((∃ a, a < 4294967296 ∧ s.data.toList = atext a ∧ e = .returned (.tuple #[.int .u32 a, .int .i64 0])) ∨ ((∀ a, a < 4294967296 → s.data.toList ≠ atext a) ∧ e = .returned (.tuple #[.int .u32 0, .int .i64 30])))

/-- The first k of four parts are numbers, and what they make. -/
def Parts (xs : List (List UInt8)) (k a : Nat) : Prop := ∃ ns : List Nat, ns.length = k ∧ (∀ n ∈ ns, n < 256) ∧ xs.take k = ns.map dec ∧ a = ns.foldl (fun a n => a * 256 + n) 0
theorem parts_lt {xs : List (List UInt8)} {k a : Nat} (h : Parts xs k a) : a < 256 ^ k := by
  obtain ⟨ns, rfl, h2, _, rfl⟩ := h
  have : ∀ (ns : List Nat) (b c : Nat), (∀ n ∈ ns, n < 256) → b < c → ns.foldl (fun a n => a * 256 + n) b < c * 256 ^ ns.length := by
    intro ns
    induction ns with
    | nil => intro b c _ h; simpa using h
    | cons n ns ih =>
      intro b c hn hb
      have hn1 := hn n (by simp)
      have := ih (b * 256 + n) (c * 256) (fun m hm => hn m (by simp [hm])) (by omega)
      simp only [List.foldl_cons, List.length_cons]
      rw [Nat.pow_succ, Nat.mul_comm (256 ^ ns.length), ← Nat.mul_assoc]
      exact this
  have := this ns 0 1 h2 (by decide)
  simpa using this
theorem parts_zero (xs : List (List UInt8)) : Parts xs 0 0 := ⟨[], rfl, by simp, by simp, rfl⟩
theorem parts_succ {xs : List (List UInt8)} {k a n : Nat} {x : List UInt8} (h : Parts xs k a) (hx : xs[k]? = some x) (hn : n < 256) (he : x = dec n) : Parts xs (k + 1) (a * 256 + n) := by
  obtain ⟨ns, h1, h2, h3, rfl⟩ := h
  refine ⟨ns ++ [n], by simp [h1], ?_, ?_, by simp⟩
  · intro m hm
    rcases List.mem_append.1 hm with hm | hm
    · exact h2 m hm
    · have : m = n := by simpa using hm
      omega
  · rw [List.take_add_one, hx, h3]
    simp [he]

theorem or_shl {a n : Nat} (ha : a < 16777216) (hn : n < 256) : bits BinOp.or IntKind.u32 ((a * 256 : Nat) : Int) (n : Int) = ((a * 256 + n : Nat) : Int) := by
  rw [u32_or_nat _ _ (by omega) (by omega)]
  congr 1
  have := Nat.two_pow_add_eq_or_of_lt (i := 8) (b := n) (by omega) a
  rw [Nat.mul_comm, show (256 : Nat) = 2 ^ 8 from rfl]
  exact this.symm

theorem parts_uniq {x1 x2 x3 x4 : List UInt8} (g1 : (46 : UInt8) ∉ x1) (g2 : (46 : UInt8) ∉ x2) (g3 : (46 : UInt8) ∉ x3) {a : Nat} (h : x1 ++ 46 :: (x2 ++ 46 :: (x3 ++ 46 :: x4)) = atext a) : [x1, x2, x3, x4] = [a / 16777216, a / 65536 % 256, a / 256 % 256, a % 256].map dec := by
  unfold atext quad at h
  obtain ⟨e1, h⟩ := first_unique g1 (dec_free dot_dg _) h
  obtain ⟨e2, h⟩ := first_unique g2 (dec_free dot_dg _) h
  obtain ⟨e3, e4⟩ := first_unique g3 (dec_free dot_dg _) h
  simp [e1, e2, e3, e4]
end Go.Proofs.YtjfadoealhlccaaGreatDoor
