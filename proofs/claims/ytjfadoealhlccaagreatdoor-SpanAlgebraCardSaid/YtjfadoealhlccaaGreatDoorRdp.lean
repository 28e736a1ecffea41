/- ReadPrefix, and what a cut says. -/
import Derived.Test.YtjfadoealhlccaaGreatDoorRead
import Derived.Test.YtjfadoealhlccaaGreatDoorPre
namespace Go.Proofs.YtjfadoealhlccaaGreatDoor
open Go.RowKit
set_option linter.unusedVariables false
set_option maxRecDepth 20000

/-- What stands before and behind the first c; all and nothing, if there is none. -/
def Sep (c : UInt8) (l x y : List UInt8) (b : Bool) : Prop := (b = true ∧ l = x ++ c :: y ∧ c ∉ x) ∨ (b = false ∧ c ∉ l ∧ x = l ∧ y = [])
theorem Sep.fwd {c : UInt8} {l x y u v : List UInt8} {b : Bool} (h : Sep c l x y b) (hu : c ∉ u) (e : l = u ++ c :: v) : x = u ∧ y = v := by
  rcases h with ⟨_, h1, h2⟩ | ⟨_, h1, _⟩
  · exact first_unique h2 hu (h1.symm.trans e)
  · exact absurd (by rw [e]; simp) h1
theorem Sep.bwd {c : UInt8} {l x y u v : List UInt8} {b : Bool} (h : Sep c l x y b) (hv : v ≠ []) (e1 : x = u) (e2 : y = v) : l = u ++ c :: v := by
  rcases h with ⟨_, h1, h2⟩ | ⟨_, _, _, h1⟩
  · rw [h1, e1, e2]
  · exact absurd (e2.symm.trans h1) hv
theorem Sep.len {c : UInt8} {l x y : List UInt8} {b : Bool} (h : Sep c l x y b) : x.length ≤ l.length ∧ y.length ≤ l.length := by
  rcases h with ⟨_, h1, _⟩ | ⟨_, _, rfl, rfl⟩
  · rw [h1]; simp only [List.length_append, List.length_cons]; omega
  · exact ⟨Nat.le_refl _, Nat.zero_le _⟩
theorem cut_any (s : ByteArray) (c : UInt8) (hs : s.size ≤ 281474976710656) (W : World) : Calls Tryz.prog 71 #[.string s, .string ⟨#[c]⟩] W fun e w' => Fr [] W w' ∧ ∃ x y b, Sep c s.data.toList x y b ∧ e = .returned (.tuple #[.string ⟨x.toArray⟩, .string ⟨y.toArray⟩, .bool b]) := by
  refine (cutS_any s c hs W).mono ?_
  rintro e w' ⟨hF, ⟨h1, rfl⟩ | ⟨x, y, h1, h2, rfl⟩⟩
  · exact ⟨hF, s.data.toList, [], false, .inr ⟨rfl, h1, rfl, rfl⟩, by rw [← str_of rfl]⟩
  · exact ⟨hF, x, y, true, .inl ⟨rfl, h1, h2⟩, rfl⟩

/-- A block of the call's own, as it was made. -/
theorem blk_cell {w : World} {g j : Nat} {cs : Array Value} {t : TypeId} {v : Value} (h : w.heap[g]? = some (.cells cs t (0, 0))) (hv : cs[j]? = some v) : w.cell? ⟨g, j, none⟩ = some v := by
  simp [World.cell?, h, hv]
theorem blk_fz {w : World} {g j : Nat} {cs : Array Value} {t : TypeId} (h : w.heap[g]? = some (.cells cs t (0, 0))) : w.frozen? ⟨g, j, none⟩ = false := by
  simp [World.frozen?, h]
theorem blk_new (w : World) (cs : Array Value) (t : TypeId) : (w.alloc (.cells cs t)).heap[w.heap.size]? = some (.cells cs t (0, 0)) := by
  show (w.heap.push _)[w.heap.size]? = _
  simp

theorem two_set {w : World} {g : Nat} {t : TypeId} {o0 o1 : Value} (hb : w.heap[g]? = some (.cells #[o0, o1] t (0, 0))) (v0 v1 : Value) :
    ((w.setCell ⟨g, 0, none⟩ v0).setCell ⟨g, 1, none⟩ v1).cell? ⟨g, 0, none⟩ = some v0 ∧ ((w.setCell ⟨g, 0, none⟩ v0).setCell ⟨g, 1, none⟩ v1).cell? ⟨g, 1, none⟩ = some v1 := by
  constructor
  · rw [World.cell?_setCell_other _ _ _ _ (by simp)]
    exact World.cell?_setCell_same _ _ _ (blk_cell (j := 0) hb rfl)
  · refine World.cell?_setCell_same _ _ _ (?_ : _ = some o1)
    rw [World.cell?_setCell_other _ _ _ _ (by simp)]
    exact blk_cell (j := 1) hb rfl

def RdpP (W : World) (s : ByteArray) (e : Ending) (w' : World) : Prop :=
  Fr [] W w' ∧ ((∃ a n, a < 4294967296 ∧ n < 256 ∧ PR a n ∧ s.data.toList = ptext a n ∧ e = .returned (.tuple #[.agg #[.int .u32 a, .int .u8 n], .int .i64 0])) ∨
    ((∀ a n, a < 4294967296 → n < 256 → PR a n → s.data.toList ≠ ptext a n) ∧ e = .returned (.tuple #[.agg #[.int .u32 0, .int .u8 0], .int .i64 30])))
end Go.Proofs.YtjfadoealhlccaaGreatDoor
