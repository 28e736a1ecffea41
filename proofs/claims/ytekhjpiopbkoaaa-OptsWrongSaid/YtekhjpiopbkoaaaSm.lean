/- Of, Right, Over, Fix, Pseudo, Update, Update32. -/
import Derived.Test.YtekhjpiopbkoaaaWords
import Derived.Test.YtekhjpiopbkoaaaEq
namespace Go.Proofs.Ytekhjpiopbkoaaa
open Go.RowKit

theorem rd_lit (w : World) (l : List Value) (t : TypeId) : Rd (w.alloc (.cells l.toArray t)) (some ⟨w.heap.size, 0, none⟩) l := fun j u hu => by
  refine ⟨_, rfl, ?_⟩
  rw [add_lit, Nat.zero_add, World.cell?_alloc_at _ _ _ _ rfl]
  simpa using hu
theorem rd_new (w : World) (l : List UInt8) (t : TypeId) : Rd (w.alloc (.cells (B8 l).toArray t)) (some ⟨w.heap.size, 0, none⟩) (B8 l) := rd_lit w (B8 l) t

/-- The two bytes of a word. -/
def hi8 (v : Nat) : UInt8 := UInt8.ofNat (v / 256)
def lo8 (v : Nat) : UInt8 := UInt8.ofNat (v % 256)
theorem hi8_val {v : Nat} (h : v < 65536) : (hi8 v).toNat = v / 256 := by simp [hi8]; omega
theorem lo8_val (v : Nat) : (lo8 v).toNat = v % 256 := by simp [lo8]
/-- Bytes with a word put in. -/
def put2 (xs : List UInt8) (k v : Nat) : List UInt8 := xs.take k ++ [hi8 v, lo8 v] ++ xs.drop (k + 2)
theorem put2_length {xs : List UInt8} {k v : Nat} (h : k + 2 ≤ xs.length) : (put2 xs k v).length = xs.length := by simp [put2]; omega
theorem set_set {α : Type} (xs : List α) (k : Nat) (a b : α) (h : k + 2 ≤ xs.length) : (xs.set k a).set (k + 1) b = xs.take k ++ [a, b] ++ xs.drop (k + 2) := by
  apply List.ext_getElem?
  intro i
  have hl : (xs.take k).length = k := by simp; omega
  rcases Nat.lt_trichotomy i k with hi | hi | hi
  · rw [List.getElem?_set_ne (by omega), List.getElem?_set_ne (by omega), List.append_assoc, List.getElem?_append_left (by omega), List.getElem?_take, if_pos hi]
  · subst hi
    rw [List.getElem?_set_ne (by omega), List.append_assoc, List.getElem?_append_right (by omega), hl, Nat.sub_self]
    simp [show i < xs.length by omega]
  · by_cases h1 : i = k + 1
    · subst h1
      rw [List.append_assoc, List.getElem?_append_right (by omega), hl, show k + 1 - k = 1 by omega]
      simp [show k + 1 < xs.length by omega]
    · rw [List.getElem?_set_ne (by omega), List.getElem?_set_ne (by omega), List.getElem?_append_right (by simp; omega), List.getElem?_drop]
      congr 1
      simp
      omega
theorem B8_set (xs : List UInt8) (k : Nat) (a : UInt8) {z : Int} (hz : z = a.toNat) : (B8 xs).set k (.int .u8 z) = B8 (xs.set k a) := by subst hz; simp [B8]

theorem own_set {w : World} {base : Nat} {e : TypeId} {g n c : Nat} {xs : List Value} (h : w.ownsRow base e 1 (.slice (some ⟨g, 0, none⟩) n c) n xs) (k : Nat) (u : Value) :
    (w.setCell ⟨g, k, none⟩ u).ownsRow base e 1 (.slice (some ⟨g, 0, none⟩) n c) n (xs.set k u) := by
  refine ⟨by rw [List.length_set]; exact h.1, ?_⟩
  rcases h.2 with ⟨h, _⟩ | ⟨g', cap, cur, h, hb, hg, hnc, hcm, hcs, htake⟩
  · simp at h
  · simp only [Value.slice.injEq, Option.some.injEq, Addr.mk.injEq, and_true, true_and] at h
    obtain ⟨rfl, rfl⟩ := h
    refine .inr ⟨g, c, cur.setIfInBounds k u, rfl, hb, ?_, hnc, hcm, by simpa using hcs, ?_⟩
    · simp [World.setCell, Array.getElem?_modify, hg]
    · rw [Array.toList_setIfInBounds, ← htake, List.take_set]
theorem own_fz {w : World} {base : Nat} {e : TypeId} {g n c : Nat} {xs : List Value} (h : w.ownsRow base e 1 (.slice (some ⟨g, 0, none⟩) n c) n xs) (i : Nat) : w.frozen? ⟨g, i, none⟩ = false := by
  rcases h.2 with ⟨h, _⟩ | ⟨g', cap, cur, h, hb, hg, hnc, hcm, hcs, htake⟩
  · simp at h
  · simp only [Value.slice.injEq, Option.some.injEq, Addr.mk.injEq, and_true, true_and] at h
    obtain ⟨rfl, rfl⟩ := h
    simp [World.frozen?, hg]
theorem own_cell {w : World} {base : Nat} {e : TypeId} {g n c : Nat} {xs : List Value} (h : w.ownsRow base e 1 (.slice (some ⟨g, 0, none⟩) n c) n xs) {j : Nat} {u : Value} (hj : xs[j]? = some u) : w.cell? ⟨g, j, none⟩ = some u := by
  have := h.cells (g := g) rfl j u hj
  rwa [add_lit, Nat.zero_add] at this
theorem own_some {w : World} {base : Nat} {e : TypeId} {v : Value} {n : Nat} {xs : List Value} (h : w.ownsRow base e 1 v n xs) (hn : 0 < n) : ∃ g c, v = .slice (some ⟨g, 0, none⟩) n c ∧ base ≤ g ∧ n ≤ c ∧ c ≤ maxLen := by
  rcases h.2 with ⟨_, h⟩ | ⟨g, cap, cur, h, hb, _, hnc, hcm, _⟩
  · omega
  · exact ⟨g, cap, h, hb, hnc, hcm⟩

section
variable {w : World} {A : Option Addr} {n c : Nat} {xs : List UInt8}

end
end Go.Proofs.Ytekhjpiopbkoaaa
