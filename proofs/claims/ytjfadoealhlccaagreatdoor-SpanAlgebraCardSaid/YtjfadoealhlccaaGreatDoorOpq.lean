/- An argument that is a slice of pieces, opened. -/
import Derived.Test.YtjfadoealhlccaaGreatDoorMad
import Derived.Test.YtjfadoealhlccaaGreatDoorVvl
import Derived.Deep.Slices
import Derived.OpenShut
namespace Go.Proofs.YtjfadoealhlccaaGreatDoor
open Go.RowKit Go.WideShapes Go.ChangeShapes
set_option linter.unusedVariables false
set_option maxRecDepth 100000

theorem CQ_at {l : List (Nat × Nat × Bool)} {j : Nat} {u : Value} (h : (CQ l)[j]? = some u) : ∃ i x, l[i]? = some x ∧ ((j = i * 3 ∧ u = .int .u8 x.1) ∨ (j = i * 3 + 1 ∧ u = .int .u8 x.2.1) ∨ (j = i * 3 + 2 ∧ u = .bool x.2.2)) := by
  have hj : j < 3 * l.length := by rw [← CQ_length]; exact (List.getElem?_eq_some_iff.1 h).1
  have hx : l[j / 3]? = some (l[j / 3]'(by omega)) := List.getElem?_eq_getElem (by omega)
  obtain ⟨g0, g1, g2⟩ := CQ_get hx
  refine ⟨j / 3, _, hx, ?_⟩
  rcases (show j = j / 3 * 3 ∨ j = j / 3 * 3 + 1 ∨ j = j / 3 * 3 + 2 by omega) with e | e | e
  · rw [← e, h] at g0; exact .inl ⟨e, Option.some.inj g0⟩
  · rw [← e, h] at g1; exact .inr (.inl ⟨e, Option.some.inj g1⟩)
  · rw [← e, h] at g2; exact .inr (.inr ⟨e, Option.some.inj g2⟩)

variable {H : Type} {enc : TypeId × Value → H} {w : World} {base : Nat} {held : Bool}
theorem one_at {cs : List Value} {i : Nat} {v : Value} (h : (cs.drop i).take 1 = [v]) : cs[i]? = some v := by
  have := congrArg (·[0]?) h
  simpa [List.getElem?_take, List.getElem?_drop] using this
/-- One piece, in cells. -/
theorem open_piece {fuel : Nat} {cs : List Value} {x : DataW H × List MemPlace} {sp : Nat → Bool} (h : DataW.trod enc Tryz.prog w base sp held fuel 69 cs = some x) :
    ∃ (g l : Nat) (b : Bool), cs[0]? = some (.int .u8 g) ∧ cs[1]? = some (.int .u8 l) ∧ cs[2]? = some (.bool b) ∧ g < 256 ∧ l < 256 := by
  obtain ⟨xs, m, _, _, _, hlen, hg⟩ := DataW.trod_struct Tryz.underlying69 h
  have hl3 : xs.length = 3 := hlen
  have at_ (i : Nat) (hi : i < 3) : xs[i]? = some (xs[i]'(by omega)) := List.getElem?_eq_getElem (by omega)
  have k1 : Tryz.prog.cellsOf 5 = 1 := by kernel_rfl
  have k2 : Tryz.prog.cellsOf 4 = 1 := by kernel_rfl
  have h0 : DataW.trod enc Tryz.prog w base sp held m 5 ((cs.drop 0).take (Tryz.prog.cellsOf 5)) = xs[0]? := hg 0 _ rfl
  have h1 : DataW.trod enc Tryz.prog w base sp held m 5 ((cs.drop 1).take (Tryz.prog.cellsOf 5)) = xs[1]? := hg 1 _ rfl
  have h2 : DataW.trod enc Tryz.prog w base sp held m 4 ((cs.drop 2).take (Tryz.prog.cellsOf 4)) = xs[2]? := hg 2 _ rfl
  rw [k1, at_ 0 (by decide)] at h0
  rw [k1, at_ 1 (by decide)] at h1
  rw [k2, at_ 2 (by decide)] at h2
  obtain ⟨z0, e0, _, w0⟩ := DataW.trod_int Tryz.underlying5 h0
  obtain ⟨z1, e1, _, w1⟩ := DataW.trod_int Tryz.underlying5 h1
  obtain ⟨b, e2, _⟩ := DataW.trod_bool Tryz.underlying4 h2
  obtain ⟨g, rfl, hg0⟩ := nat_of w0 rfl
  obtain ⟨l, rfl, hl0⟩ := nat_of w1 rfl
  have kk : IntKind.u8.max = 255 := rfl
  exact ⟨g, l, b, one_at e0, one_at e1, one_at e2, by omega, by omega⟩
theorem open_pieces {b0 : Nat} {v : Value} {d : DataW H} {p : List MemPlace} {r : Reach} (hv : Value.okWide Tryz.prog w r b0 22 v) (h : DataW.Trod enc Tryz.prog w 0 (fun _ => true) held 22 v d p) :
    ∃ (A : Option Addr) (n c : Nat) (l : List (Nat × Nat × Bool)), v = .slice A n c ∧ ArgQ w A n c l := by
  obtain ⟨A, n, c, rfl⟩ := okWide_slice Tryz.underlying22 hv
  obtain ⟨fuel, hf⟩ := h
  have hf' : DataW.trod enc Tryz.prog w 0 (fun _ => true) held fuel 22 [.slice A n c] = some (d, p) := by simpa [Value.cells] using hf
  have hC : Tryz.prog.cellsOf 69 = 3 := by kernel_rfl
  refine ⟨A, n, c, ?_⟩
  rcases Go.Deep.open_slice Tryz.underlying22 hf' with ⟨hcs, _⟩ | ⟨a, len, cap, m, k, D, Pl, hcs, _, hl, hm, hmm, _, hi⟩
  · simp only [List.cons.injEq, Value.slice.injEq, and_true] at hcs
    obtain ⟨rfl, rfl, rfl⟩ := hcs
    exact ⟨[], rfl, rfl, by simp, Rd.nil _ _, Nat.le_refl _, by decide⟩
  · simp only [List.cons.injEq, Value.slice.injEq, and_true] at hcs
    obtain ⟨rfl, rfl, rfl⟩ := hcs
    simp only [if_true] at hmm
    subst hmm
    have hex : ∀ i : Nat, ∃ x : Nat × Nat × Bool, i < m → w.cell? (a.add (i * 3)) = some (.int .u8 x.1) ∧ w.cell? (a.add (i * 3 + 1)) = some (.int .u8 x.2.1) ∧ w.cell? (a.add (i * 3 + 2)) = some (.bool x.2.2) ∧ x.1 < 256 ∧ x.2.1 < 256 := by
      intro i
      by_cases him : i < m
      · obtain ⟨cs', hc, ht⟩ := hi i him
        rw [hC] at hc
        obtain ⟨_, hcl, hat⟩ := World.cells?_some hc
        obtain ⟨g, l, b, e0, e1, e2, l0, l1⟩ := open_piece ht
        have a0 := hat 0 (by decide)
        have a1 := hat 1 (by decide)
        have a2 := hat 2 (by decide)
        rw [add_add, e0] at a0
        rw [add_add, e1] at a1
        rw [add_add, e2] at a2
        exact ⟨(g, l, b), fun _ => ⟨a0, a1, a2, l0, l1⟩⟩
      · exact ⟨(0, 0, false), fun h => absurd h him⟩
    have hch := Classical.choice (show Nonempty {f : Nat → Nat × Nat × Bool // ∀ i, i < m → w.cell? (a.add (i * 3)) = some (.int .u8 (f i).1) ∧ w.cell? (a.add (i * 3 + 1)) = some (.int .u8 (f i).2.1) ∧ w.cell? (a.add (i * 3 + 2)) = some (.bool (f i).2.2) ∧ (f i).1 < 256 ∧ (f i).2.1 < 256} from ⟨⟨fun i => Classical.choose (hex i), fun i => Classical.choose_spec (hex i)⟩⟩)
    obtain ⟨f, hf⟩ := hch
    refine ⟨(List.range n).map f, rfl, by simp, ?_, ?_, hl, by simp only [maxLen] at hm; omega⟩
    · intro x hx
      obtain ⟨i, hi', rfl⟩ := List.mem_map.1 hx
      have := hf i (by have := List.mem_range.1 hi'; omega)
      exact this.2.2.2
    · intro j u hu
      obtain ⟨i, x, hx, hw⟩ := CQ_at hu
      have hin : i < n := by have := (List.getElem?_eq_some_iff.1 hx).1; simpa using this
      rw [List.getElem?_map, List.getElem?_range hin] at hx
      simp only [Option.map_some, Option.some.injEq] at hx
      subst hx
      obtain ⟨c0, c1, c2, _⟩ := hf i (by omega)
      refine ⟨a, rfl, ?_⟩
      rcases hw with ⟨rfl, rfl⟩ | ⟨rfl, rfl⟩ | ⟨rfl, rfl⟩
      · exact c0
      · exact c1
      · exact c2
end Go.Proofs.YtjfadoealhlccaaGreatDoor
