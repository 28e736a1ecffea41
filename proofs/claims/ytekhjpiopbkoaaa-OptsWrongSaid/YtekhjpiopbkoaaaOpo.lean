/- An argument that is a slice of small options, opened. -/
import Derived.Test.YtekhjpiopbkoaaaOmw
import Derived.Test.YtekhjpiopbkoaaaOps
import Derived.Deep.Slices
namespace Go.Proofs.Ytekhjpiopbkoaaa
open Go.RowKit Go.WideShapes Go.ChangeShapes
set_option linter.unusedVariables false
set_option maxRecDepth 100000

variable {H : Type} {enc : TypeId × Value → H} {w : World} {base : Nat} {held : Bool}
/-- One small option, in cells. -/
theorem open_smallc {fuel : Nat} {cs : List Value} {x : DataW H × List MemPlace} (h : DataW.trod enc Try.prog w 0 (fun _ => true) held fuel 41 cs = some x) :
    ∃ y : SmO, cs[0]? = some (.int .u8 y.k) ∧ cs[1]? = some (.int .u8 y.m) ∧ cs[2]? = some (.int .u8 y.u) ∧ cs[3]? = some (.slice y.A y.n y.c) ∧ SmOk w y := by
  obtain ⟨xs, m, _, _, _, hlen, hg⟩ := DataW.trod_struct Try.underlying41 h
  have hl4 : xs.length = 4 := hlen
  have some_ (i : Nat) (hi : i < 4) : ∃ x, xs[i]? = some x := ⟨_, List.getElem?_eq_getElem (by omega)⟩
  obtain ⟨a0, e0, n0⟩ := u8_cell (w := w) (cs := cs) (i := 0) Try.underlying5 (hg 0 _ rfl) (some_ 0 (by decide))
  obtain ⟨a1, e1, n1⟩ := u8_cell (w := w) (cs := cs) (i := 1) Try.underlying5 (hg 1 _ rfl) (some_ 1 (by decide))
  obtain ⟨a2, e2, n2⟩ := u8_cell (w := w) (cs := cs) (i := 2) Try.underlying5 (hg 2 _ rfl) (some_ 2 (by decide))
  obtain ⟨A, n, c, bs, e3, q1, q2, q3, q4, q5⟩ := bytes_cell (w := w) (cs := cs) (i := 3) Try.underlying27 Try.underlying5 (by kernel_rfl) (hg 3 _ rfl) (some_ 3 (by decide))
  simp only [maxLen] at q5
  exact ⟨⟨a0, a1, a2, A, n, c, bs⟩, e0, e1, e2, e3, ⟨q2, q1, by show n ≤ _; omega, n0, n1, n2⟩⟩
theorem open_smalls {b0 : Nat} {v : Value} {d : DataW H} {p : List MemPlace} {r : Reach} (hv : Value.okWide Try.prog w r b0 22 v) (h : DataW.Trod enc Try.prog w 0 (fun _ => true) held 22 v d p) :
    ∃ (A : Option Addr) (n c : Nat) (l : List SmO), v = .slice A n c ∧ l.length = n ∧ n ≤ c ∧ RdSm w A l := by
  obtain ⟨A, n, c, rfl⟩ := okWide_slice Try.underlying22 hv
  obtain ⟨fuel, hf⟩ := h
  have hf' : DataW.trod enc Try.prog w 0 (fun _ => true) held fuel 22 [.slice A n c] = some (d, p) := by simpa [Value.cells] using hf
  have hC : Try.prog.cellsOf 41 = 4 := by kernel_rfl
  refine ⟨A, n, c, ?_⟩
  rcases Go.Deep.open_slice Try.underlying22 hf' with ⟨hcs, _⟩ | ⟨a, len, cap, m, k, D, Pl, hcs, _, hl, hm, hmm, _, hi⟩
  · simp only [List.cons.injEq, Value.slice.injEq, and_true] at hcs
    obtain ⟨rfl, rfl, rfl⟩ := hcs
    exact ⟨[], rfl, rfl, Nat.le_refl _, fun i x hx => by simp at hx⟩
  · simp only [List.cons.injEq, Value.slice.injEq, and_true] at hcs
    obtain ⟨rfl, rfl, rfl⟩ := hcs
    simp only [if_true] at hmm
    subst hmm
    have hex : ∀ i : Nat, ∃ y : SmO, i < m → w.cell? (a.add (i * 4)) = some (.int .u8 y.k) ∧ w.cell? (a.add (i * 4 + 1)) = some (.int .u8 y.m) ∧ w.cell? (a.add (i * 4 + 2)) = some (.int .u8 y.u) ∧ w.cell? (a.add (i * 4 + 3)) = some (.slice y.A y.n y.c) ∧ SmOk w y := by
      intro i
      by_cases him : i < m
      · obtain ⟨cs', hc, ht⟩ := hi i him
        rw [hC] at hc
        obtain ⟨_, hcl, hat⟩ := World.cells?_some hc
        obtain ⟨y, e0, e1, e2, e3, hy⟩ := open_smallc ht
        have a0 := hat 0 (by decide)
        have a1 := hat 1 (by decide)
        have a2 := hat 2 (by decide)
        have a3 := hat 3 (by decide)
        rw [add_add, e0] at a0
        rw [add_add, e1] at a1
        rw [add_add, e2] at a2
        rw [add_add, e3] at a3
        exact ⟨y, fun _ => ⟨a0, a1, a2, a3, hy⟩⟩
      · exact ⟨⟨0, 0, 0, none, 0, 0, []⟩, fun h => absurd h him⟩
    have hch := Classical.choice (show Nonempty {f : Nat → SmO // ∀ i, i < m → w.cell? (a.add (i * 4)) = some (.int .u8 (f i).k) ∧ w.cell? (a.add (i * 4 + 1)) = some (.int .u8 (f i).m) ∧ w.cell? (a.add (i * 4 + 2)) = some (.int .u8 (f i).u) ∧ w.cell? (a.add (i * 4 + 3)) = some (.slice (f i).A (f i).n (f i).c) ∧ SmOk w (f i)} from ⟨⟨fun i => Classical.choose (hex i), fun i => Classical.choose_spec (hex i)⟩⟩)
    obtain ⟨f, hf⟩ := hch
    refine ⟨(List.range n).map f, rfl, by simp, hl, ?_⟩
    intro i x hx
    have hin : i < n := by have := (List.getElem?_eq_some_iff.1 hx).1; simpa using this
    rw [List.getElem?_map, List.getElem?_range hin] at hx
    simp only [Option.map_some, Option.some.injEq] at hx
    subst hx
    obtain ⟨c0, c1, c2, c3, hy⟩ := hf i (by omega)
    have hab : ∃ b o, a = ⟨b, o, none⟩ := by
      have h0 := (hf 0 (by omega)).1
      have hR : Rd w (some a) [.int .u8 (f 0).k] := fun j u hu => by
        cases j with
        | zero => simp at hu; subst hu; exact ⟨a, rfl, by simpa using h0⟩
        | succ j => simp at hu
      obtain ⟨b, o, e⟩ := rd_addr hR (by simp)
      injection e with e
      exact ⟨b, o, e⟩
    obtain ⟨b, o, rfl⟩ := hab
    rw [add_pl] at c0 c1 c2 c3
    exact ⟨b, o, rfl, c0, by rw [Nat.add_assoc]; exact c1, by rw [Nat.add_assoc]; exact c2, by rw [Nat.add_assoc]; exact c3, hy⟩
end Go.Proofs.Ytekhjpiopbkoaaa
