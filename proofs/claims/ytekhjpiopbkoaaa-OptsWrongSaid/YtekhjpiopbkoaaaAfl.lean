/- append to a slice without spare room: what was there is left alone; what comes is a slice or so many zeros. -/
import Derived.Test.YtekhjpiopbkoaaaApp
import Derived.ArgAppend
namespace Go.Proofs.Ytekhjpiopbkoaaa
open Go.RowKit
set_option linter.unusedVariables false

/-- What an append to a full slice gives. -/
def AflP (w : World) (olds news : List Value) (n : Nat) (v : Value) (w' : World) : Prop :=
  ∃ A c, v = .slice A n c ∧ Rd w' A (olds ++ news) ∧ n ≤ c ∧ c ≤ maxLen ∧ (A = none → c = 0) ∧ Fr [] w w'
section
variable {P : Program} {t e : TypeId} {bytes : Nat}
theorem afl_own {w w' : World} {olds news : List Value} {n : Nat} {v : Value} (h : w'.ownsRow w.heap.size e 1 v n (olds ++ news)) (hg : w.grownBy w' none) : AflP w olds news n v w' := by
  obtain ⟨A, c, rfl, h1, h2, _⟩ := own_slice h
  refine ⟨A, c, rfl, Rd.own h, h1, h2, ?_, (Fr.refl [] w).grown hg (by simp)⟩
  intro hA; subst hA
  rcases h.2 with ⟨hv, _⟩ | ⟨g, cap, cur, hv, _⟩
  · injection hv
  · injection hv with hv; cases hv
theorem afl_run (E : El P t e 1 bytes) (w : World) (ty : TypeId) (A : Option Addr) (n : Nat) (olds : List Value) (hlo : olds.length = n) (ho : Rd w A olds) (hnil : A = none → n = 0)
    (A2 : Option Addr) (m c2 : Nat) (news : List Value) (hl : news.length = m) (hrd : Rd w A2 news) (h1 : ∀ u ∈ news, u.oneCell' = true) (hnil2 : A2 = none → c2 = 0)
    (h63 : n + m ≤ maxLen) (hbytes : (n + m) * bytes ≤ 140737488355328) :
    ∃ v' w', (Builtin.append_ #[t, t] ty #[.slice A n n, .slice A2 m c2]).run P w = .ok v' w' ∧ AflP w olds news (n + m) v' w' := by
  by_cases hm : m = 0
  · subst hm
    obtain rfl : news = [] := List.eq_nil_of_length_eq_zero hl
    obtain ⟨i, z, hi, hz, hs, hb, hzs⟩ := E.hi
    refine ⟨.slice A n n, w, ?_, A, n, rfl, by simpa using ho, Nat.le_refl _, by omega, hnil, Fr.refl _ _⟩
    have hf : (Builtin.firstCells 1 0 (.slice A2 0 c2)).run P w = .ok #[] w := by
      cases A2 with
      | none => exact run_firstCells_none _ _ _ _ _
      | some a => exact run_firstCells_some w 1 0 a 0 c2 [] rfl (by simp)
    cases A with
    | none => simp [Builtin.append_, run_underlying E.ht, sizeOf, typeInfo, hi, hs, Builtin.lenOf, hf]
    | some a => simp [Builtin.append_, run_underlying E.ht, sizeOf, typeInfo, hi, hs, Builtin.lenOf, hf, storeCells]
  · cases A with
    | none =>
      obtain rfl := hnil rfl
      obtain rfl : olds = [] := List.eq_nil_of_length_eq_zero hlo
      obtain ⟨v', w', hr, h2, h3, _⟩ := app_run E w w.heap.size ty (.slice none 0 0) 0 [] (World.ownsRow_nil w _ e 1) A2 m c2 news (by omega) hrd h1 hnil2 h63 hbytes (Nat.le_refl _)
      exact ⟨v', w', hr, afl_own h2 (by simpa [Value.ownBlock] using h3)⟩
    | some b =>
      obtain ⟨i, z, hi, hz, hs, hb, hzs⟩ := E.hi
      have hx : ∃ u, news[0]? = some u := ⟨_, List.getElem?_eq_getElem (by omega)⟩
      obtain ⟨u, hu⟩ := hx
      obtain ⟨a2, rfl, _⟩ := hrd 0 u hu
      obtain ⟨v', w', hr, h2, h3⟩ := run_append_arg_grows (P := P) (w := w) t ty e i z 1 bytes E.ht hi hz hs hb hzs E.hsz b n n olds (by omega) (fun j u hu => ho.get hu) a2 m c2 news (by omega) (fun j u hu => hrd.get hu) (by omega) h63 hbytes
      exact ⟨v', w', hr, afl_own h2 h3⟩

theorem asInt_run8 (k : IntKind) (x : Int) (w : World) : (asInt (.int k x)).run P w = .ok x w := by simp [asInt, asIntOf]
/-- append(s, make([]T, m)...), the number of any kind. -/
theorem afz_run {ti : TypeId} {k k2 : IntKind} {z : Value} (ht : P.underlying t = some (.slice e)) (hi0 : (P.info? e).map (fun i => (i.zero, i.size, i.bytes)) = some (some z, 1, bytes)) (hz1 : z.cells = #[z]) (hti : P.underlying ti = some (.int k)) (w : World) (ty : TypeId)
    (b : Addr) (n : Nat) (olds : List Value) (hlo : olds.length = n) (ho : Rd w (some b) olds) (m : Nat)
    (h63 : n + m ≤ maxLen) (hbytes : (n + m) * bytes ≤ 140737488355328) :
    ∃ v' w', (Builtin.append_ #[t, ti] ty #[.slice (some b) n n, .int k2 m]).run P w = .ok v' w' ∧ AflP w olds (List.replicate m z) (n + m) v' w' := by
  obtain ⟨i, hi, hz, hs, hb⟩ := info_parts hi0
  subst hb
  have hml : n + m ≤ 9223372036854775807 := by simp only [maxLen] at h63; omega
  have hwm : IntKind.i64.wrap (m : Int) = m := IntWalk.i64_in _ (by omega)
  have hm0 : ¬ ((m : Int) < 0) := by omega
  have hw0 : IntKind.i64.wrap 0 = 0 := by decide
  have hmb : ¬ ((281474976710656 : Int) < (m : Int) * (i.bytes : Int)) := by
    have h1 : m * i.bytes ≤ (n + m) * i.bytes := Nat.mul_le_mul_right _ (by omega)
    have h2 : ((m * i.bytes : Nat) : Int) ≤ 140737488355328 := by omega
    rw [Int.natCast_mul] at h2
    omega
  by_cases hm : m = 0
  · subst hm
    refine ⟨.slice (some b) n n, w, ?_, some b, n, rfl, by simpa using ho, Nat.le_refl _, by omega, by simp, Fr.refl _ _⟩
    simp [Builtin.append_, run_underlying ht, run_underlying hti, sizeOf, typeInfo, hi, asInt_run8, hw0, storeCells]
  · have hroom : ¬ (n + m ≤ n) := by omega
    have h63' : ¬ (9223372036854775807 < (n : Int) + (m : Int)) := by omega
    have h48 : ¬ (281474976710656 < Builtin.nextslicecap (n + m) n * i.bytes) := by
      have := growslice_fits (need := n + m) (old := n) (bytes := i.bytes) (by omega) hbytes
      omega
    have hzz : Builtin.zeroCells #[z] m = Array.replicate m z := by apply Array.ext'; rw [zeroCells_one]; simp
    have hfo := run_firstCells_some (P := P) w.drew 1 n b n n olds (by simpa using hlo) (by simpa using fun j u (hu : olds[j]? = some u) => ho.get hu)
    have hge := grownCap_ge w (n + m) n e
    have hcm : grownCap w (n + m) n e ≤ maxLen := grownCap_le_maxLen w (n + m) n e h63
    have own : (w.drew.alloc (.cells (olds.toArray ++ (List.replicate m z).toArray ++ Builtin.zeroCells z.cells (grownCap w (n + m) n e - (n + m))) e)).ownsRow w.heap.size e 1
        (.slice (some ⟨w.heap.size, 0, none⟩) (n + m) (grownCap w (n + m) n e)) (n + m) (olds ++ List.replicate m z) := by
      refine ⟨by simp [hlo], .inr ⟨w.heap.size, _, _, rfl, Nat.le_refl _, heap_alloc_new w.drew _, hge, hcm, ?_, ?_⟩⟩
      · simp only [Array.size_append, List.size_toArray, size_zeroCells, hz1, hlo, List.length_replicate, List.size_toArray, List.length_cons, List.length_nil]
        omega
      · simp only [Array.toList_append, List.append_assoc]
        have hl2 : (n + m) * 1 = (olds ++ List.replicate m z).length := by simp [hlo]
        rw [hl2, ← List.append_assoc]
        exact List.take_left
    refine ⟨_, _, ?_, afl_own own ⟨rfl, rfl, rfl, by simp, fun k' hk _ => Below.heap_alloc w.drew _ k' hk⟩⟩
    simp [Builtin.append_, run_underlying ht, run_underlying hti, sizeOf, zeroValue, typeInfo, hi, hz, asInt_run8, hwm, hm0, hmb, hm, hroom, h63', h48, Question.forced, hfo, newRow, grownCap, hs, hz1, hzz]
end
end Go.Proofs.Ytekhjpiopbkoaaa
