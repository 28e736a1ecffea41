/- Read: what is known between two rounds, the body's two ways. -/
import Derived.Test.YtekhjpiopbkoaaaOrf
import Derived.OwnWalkIn
namespace Go.Proofs.Ytekhjpiopbkoaaa
open Go.RowKit Go.Shelf
set_option linter.unusedVariables false
set_option maxRecDepth 100000
attribute [local go_sem] Oper.semAt_some

/-- At the operation, inside a fence: the run that was laid ahead. -/
theorem wpListIn_app {F : Fence} {nn : Nat} {P : Program} {t : TypeId} {ops : Array Oper} {rest : List Oper} {o : Oper} {a : Act} {w : World} {Q : Exit → Act → World → Prop} (hgd : o.guard = none) (s x : Operand) (t2 : TypeId)
    (ho : o.op = .call { callee := .builtin .append, args := #[s, x], argTypes := #[t, t2] }) {v xv v' : Value} {w' : World}
    (hr : (Builtin.append_ #[t, t2] o.type #[v, xv]).run P w = .ok v' w') (hs : a.eval s = v) (hx : a.eval x = xv)
    (h : wpListIn F nn P ops Q rest (a.put o.dst v') w') : wpListIn F nn P ops Q (o :: rest) a w := by
  refine wpListIn_plain hgd fun K hK' => ?_
  unfold Oper.wpIn
  refine ⟨?_, ?_⟩
  · simp [Oper.about, ho, resolve, Target.leads, Sem.run_pure]
  · rw [Oper.semAt_plain F _ _ (by rw [ho]; intro c hc'; cases hc')]
    simp [execOp, ho, resolve, invoke, builtin, hs, hx, hr, Result.andThen]
    exact hK' _ _ h

theorem optInfo : (Try.prog.info? 35).map (fun i => (i.zero, i.size, i.bytes)) = some (some (.agg #[.int .u8 0, .slice none 0 0]), 2, 32) := by kernel_rfl
theorem elO : El Try.prog 24 35 2 32 := .of (z := .agg #[.int .u8 0, .slice none 0 0]) Try.underlying24 optInfo rfl (by decide)
/-- Options as cells. -/
def CO (l : List Opt) : List Value := l.flatMap fun o => [.int .u8 o.k, .slice o.A o.n o.c]
theorem CO_snoc (l : List Opt) (o : Opt) : CO (l ++ [o]) = CO l ++ [.int .u8 o.k, .slice o.A o.n o.c] := by simp [CO]
theorem CO_length (l : List Opt) : (CO l).length = 2 * l.length := by
  induction l with
  | nil => rfl
  | cons o l ih => simp only [CO, List.flatMap_cons, List.length_append, List.length_cons, List.length_nil] at ih ⊢; omega
def opO (o : Opt) : Value := .slice o.A o.n o.c
/-- Options in memory of their own, from a block on, no two in one block. -/
structure OO (w : World) (B : Nat) (l : List Opt) : Prop where
  own : ∀ o ∈ l, w.ownsRow B 5 1 (opO o) o.n (B8 o.d)
  len : ∀ o ∈ l, o.d.length = o.n ∧ o.n ≤ 38 ∧ o.k < 256
  apart : l.Pairwise fun a b => ∀ g, (opO a).ownBlock = some g → (opO b).ownBlock ≠ some g
theorem OO.nil (w : World) (B : Nat) : OO w B [] := ⟨by simp, by simp, List.Pairwise.nil⟩
theorem OO.fr {w w' : World} {B : Nat} {l : List Opt} {S : List Nat} (h : OO w B l) (hF : Fr S w w') (hS : ∀ o ∈ l, ∀ k, (opO o).ownBlock = some k → k ∉ S) : OO w' B l :=
  ⟨fun o ho => hF.own (h.own o ho) (hS o ho), h.len, h.apart⟩
theorem OO.ext {w : World} {B B' : Nat} {l : List Opt} (h : OO w B l) (hb : B' ≤ B) : OO w B' l := ⟨fun o ho => own_ext (h.own o ho) hb, h.len, h.apart⟩
theorem OO.snoc {w : World} {B : Nat} {l : List Opt} {o : Opt} (h : OO w B l) (h1 : w.ownsRow B 5 1 (opO o) o.n (B8 o.d)) (h2 : o.d.length = o.n ∧ o.n ≤ 38 ∧ o.k < 256) (h3 : ∀ a ∈ l, ∀ g, (opO a).ownBlock = some g → (opO o).ownBlock ≠ some g) : OO w B (l ++ [o]) := by
  refine ⟨fun x hx => ?_, fun x hx => ?_, ?_⟩
  · rcases List.mem_append.1 hx with hx | hx
    · exact h.own x hx
    · rw [List.mem_singleton.1 hx]; exact h1
  · rcases List.mem_append.1 hx with hx | hx
    · exact h.len x hx
    · rw [List.mem_singleton.1 hx]; exact h2
  · refine List.pairwise_append.2 ⟨h.apart, List.pairwise_singleton _ _, fun a ha b hb => ?_⟩
    rw [List.mem_singleton.1 hb]; exact h3 a ha
theorem OO.ok {w : World} {B : Nat} {l : List Opt} (h : OO w B l) {o : Opt} (ho : o ∈ l) : OptOk w o := by
  have h1 := h.own o ho
  obtain ⟨h2, h3, h4⟩ := h.len o ho
  obtain ⟨A, c, e, hc, hm, hb⟩ := own_slice h1
  injection e with ea eb ec
  refine ⟨Rd.own h1, h2, by omega, h4, fun hA => ?_, by omega⟩
  rcases h1.2 with ⟨hv, _⟩ | ⟨g, cap, cur, hv, _⟩
  · injection hv
  · injection hv with h1; rw [hA] at h1; cases h1
theorem CO_get {l : List Opt} {i : Nat} {o : Opt} (h : l[i]? = some o) : (CO l)[i * 2]? = some (.int .u8 o.k) ∧ (CO l)[i * 2 + 1]? = some (.slice o.A o.n o.c) := by
  induction l generalizing i with
  | nil => simp at h
  | cons x l ih =>
    cases i with
    | zero => simp at h; subst h; exact ⟨rfl, rfl⟩
    | succ i =>
      have := ih (by simpa using h)
      have e1 : (i + 1) * 2 = i * 2 + 2 := by omega
      have e2 : (i + 1) * 2 + 1 = i * 2 + 1 + 2 := by omega
      rw [e1, show i * 2 + 2 + 1 = i * 2 + 1 + 2 by omega]
      exact ⟨this.1, this.2⟩
/-- A row of our own of such options reads as they do. -/
theorem OO.rd {w : World} {B B' c : Nat} {A : Option Addr} {l : List Opt} (h : OO w B l) (ho : w.ownsRow B' 35 2 (.slice A l.length c) l.length (CO l)) : RdO w A l := fun i o hi => by
  have hm : o ∈ l := List.mem_of_getElem? hi
  obtain ⟨c1, c2⟩ := CO_get hi
  have hlt := (List.getElem?_eq_some_iff.1 hi).1
  rcases ho.2 with ⟨hv, _⟩ | ⟨g, cap, cur, hv, _⟩
  · exfalso
    injection hv with _ h0
    omega
  · injection hv with hA _ _
    subst hA
    have q1 := ho.cells (g := g) rfl (i * 2) _ c1
    have q2 := ho.cells (g := g) rfl (i * 2 + 1) _ c2
    rw [add_pl, Nat.zero_add] at q1 q2
    exact ⟨g, 0, rfl, by simpa using q1, by simpa [Nat.add_assoc] using q2, h.ok hm⟩
end Go.Proofs.Ytekhjpiopbkoaaa
