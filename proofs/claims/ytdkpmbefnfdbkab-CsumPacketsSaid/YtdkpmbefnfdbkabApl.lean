/- append of bytes to a literal slice. -/
import Derived.Test.YtdkpmbefnfdbkabLem
namespace Go.Proofs.Ytdkpmbefnfdbkab
open Go.RowKit

/-- append of bytes to a literal slice. -/
theorem app_lit (l ys : List UInt8) (p m c : Nat) (A : Option Addr) (w : World) (hl : ys.length = m) (hp : l.length = p) (hrd : Rd w A (B8 ys)) (hnil : A = none → c = 0) (hm : m ≤ 3000) (hp2 : p ≤ 8) :
    ∃ v' w', (Builtin.append_ #[23, 23] 23 #[.slice (some ⟨w.heap.size, 0, none⟩) p p, .slice A m c]).run Try.prog (w.alloc (.cells (B8 l).toArray 5)) = .ok v' w' ∧ w'.ownsRow w.heap.size 5 1 v' (p + m) (B8 (l ++ ys)) ∧ Fr [] w w' := by
  have hF : Fr [] w (w.alloc (.cells (B8 l).toArray 5)) := (Fr.refl _ _).alloc _
  subst hp
  obtain ⟨v', w', hr, ho, hg, _⟩ := app_run el8 (w.alloc (.cells (B8 l).toArray 5)) w.heap.size 23 (.slice (some ⟨w.heap.size, 0, none⟩) l.length l.length) l.length (B8 l)
    (by have h := World.ownsRow_lit (base := w.heap.size) (e := 5) (size := 1) w (B8 l).toArray l.length (Nat.le_refl _) (by unfold maxLen; omega) (by simp [B8]); simpa using h)
    A m c (B8 ys) (by rw [B8_length]; omega) (hrd.fr hF (by simp)) (B8_one ys) hnil (by unfold maxLen; omega) (by omega) (by simp)
  refine ⟨v', w', hr, by rw [B8_append]; exact ho, hF.trans2 (fr_grown hg) (by simp [Value.ownBlock])⟩

end Go.Proofs.Ytdkpmbefnfdbkab
