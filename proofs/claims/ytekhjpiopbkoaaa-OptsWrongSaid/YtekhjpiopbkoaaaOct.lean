/- OptsCut, in mathematics; what else is known of lists that exclude nothing. -/
import Derived.Test.YtekhjpiopbkoaaaOag
namespace Go.Proofs.Ytekhjpiopbkoaaa
open Go.RowKit
set_option linter.unusedVariables false
set_option maxRecDepth 100000

theorem rdF_flat_err {r : List UInt8} {e : Nat} (he : e ≠ 0) (hr : ∀ gs, rdF gs r = (e, [])) (L : List (Nat × List UInt8)) : ∀ gs, (∀ p ∈ L, OkP p) → twP gs L = false → rdF gs (flatP L ++ r) = (e, []) := by
  induction L with
  | nil => intro gs _ _; exact hr gs
  | cons p L ih =>
    intro gs hO ht
    have e1 : flatP (p :: L) ++ r = optP p ++ (flatP L ++ r) := by simp [flatP]
    obtain ⟨hk, hd, h0⟩ := fir_opt (hO p (by simp)) (flatP L ++ r)
    obtain ⟨t1, t2⟩ := twP_cons.1 ht
    rw [e1, rdF_more h0 (by rw [hk]) (by rw [hk]; exact t1), hk, hd]
    simp only
    rw [show (optP p ++ (flatP L ++ r)).drop (optP p).length = flatP L ++ r by simp, ih _ (fun q hq => hO q (by simp [hq])) t2]
    simp [he]
/-- An option that does not end. -/
theorem rdF_part {p : Nat × List UInt8} (h : OkP p) {j : Nat} (h0 : 0 < j) (hj : j < (optP p).length) (gs : List Nat) : rdF gs ((optP p).take j) = (60, []) := by
  have hz := h.zero
  by_cases h1 : p.1 = 1
  · have : (optP p).length = 1 := by unfold optP; rw [if_pos h1]; rfl
    omega
  · have hl := h.len
    have e : optP p = UInt8.ofNat p.1 :: UInt8.ofNat (2 + p.2.length) :: p.2 := by unfold optP; rw [if_neg h1]
    have hn : (optP p).length = 2 + p.2.length := by rw [e]; simp; omega
    obtain ⟨i, rfl⟩ : ∃ i, j = i + 1 := ⟨j - 1, by omega⟩
    have b0 : bt ((optP p).take (i + 1)) 0 = p.1 := by rw [e, List.take_succ_cons]; exact ofNat_nat h.1
    have hlen : ((optP p).take (i + 1)).length = i + 1 := by rw [List.length_take]; omega
    have hk : firK ((optP p).take (i + 1)) = (0, 0, 60) := by
      unfold firK
      rw [b0, if_neg h1]
      by_cases hi : i = 0
      · rw [if_pos (by omega)]
      · have b1 : bt ((optP p).take (i + 1)) 1 = 2 + p.2.length := by
          obtain ⟨i', rfl⟩ : ∃ i', i = i' + 1 := ⟨i - 1, by omega⟩
          rw [e, List.take_succ_cons, List.take_succ_cons]; exact ofNat_nat (by omega)
        rw [if_neg (by omega), b1, if_neg (by omega), if_pos (by omega)]
    rw [rdF_bad (by rw [hlen, b0]; omega) (by rw [hk]; decide), hk]
theorem flatP_take_succ {L : List (Nat × List UInt8)} {n : Nat} {p : Nat × List UInt8} (h : L[n]? = some p) : flatP (L.take (n + 1)) = flatP (L.take n) ++ optP p := by
  unfold flatP
  rw [List.take_add_one, h, List.flatMap_append]; simp
theorem flatP_split (L : List (Nat × List UInt8)) (n : Nat) : flatP L = flatP (L.take n) ++ flatP (L.drop n) := by
  unfold flatP; rw [← List.flatMap_append, List.take_append_drop]
theorem twP_take (L : List (Nat × List UInt8)) (n : Nat) : ∀ gs, twP gs L = false → twP gs (L.take n) = false := by
  induction L generalizing n with
  | nil => intro gs h; rw [List.take_nil]; exact h
  | cons p L ih =>
    intro gs h
    cases n with
    | zero => rfl
    | succ n =>
      obtain ⟨h1, h2⟩ := twP_cons.1 h
      rw [List.take_succ_cons, twP_cons]
      exact ⟨h1, ih n _ h2⟩
/-- Bytes that are cut between two options. -/
theorem cut_between {L : List (Nat × List UInt8)} {k n : Nat} (h40 : (flatP L).length ≤ 40) (hO : ∀ p ∈ L, OkP p) (ht : twP [] L = false) (he : (flatP (L.take n)).length = k) : rdN ((flatP L).take k) = (0, L.take n) := by
  have e : (flatP L).take k = flatP (L.take n) := by rw [flatP_split L n, ← he, List.take_left]
  rw [e]
  refine rdN_flat rfl ?_ (fun p hp => hO p (List.mem_of_mem_take hp)) (twP_take L n [] ht)
  have := congrArg List.length (flatP_split L n)
  rw [List.length_append] at this; omega
/-- Bytes that are cut within an option. -/
theorem cut_within {L : List (Nat × List UInt8)} {k n : Nat} {p : Nat × List UInt8} (h40 : (flatP L).length ≤ 40) (hO : ∀ p ∈ L, OkP p) (ht : twP [] L = false) (hp : L[n]? = some p) (h1 : (flatP (L.take n)).length < k) (h2 : k < (flatP (L.take (n + 1))).length) : rdN ((flatP L).take k) = (60, []) := by
  rw [flatP_take_succ hp, List.length_append] at h2
  have e : (flatP L).take k = flatP (L.take n) ++ (optP p).take (k - (flatP (L.take n)).length) := by
    rw [flatP_split L (n + 1), flatP_take_succ hp, List.append_assoc, List.take_append]
    rw [List.take_of_length_le (by omega), List.take_append_of_le_length (by omega)]
  unfold rdN
  rw [if_neg (by rw [List.length_take]; omega), e]
  exact rdF_flat_err (by decide) (fun gs => rdF_part (hO p (List.mem_of_getElem? hp)) (by omega) (by omega) gs) _ [] (fun q hq => hO q (List.mem_of_mem_take hq)) (twP_take L n [] ht)
theorem twP_two (L : List (Nat × List UInt8)) : ∀ gs, twP gs L = false → (∀ p ∈ L, grp p.1 ≠ 0 → grp p.1 ∉ gs) ∧ (∀ p ∈ L, ∀ q ∈ L, grp p.1 ≠ 0 → grp p.1 = grp q.1 → p = q) := by
  induction L with
  | nil => intro gs _; exact ⟨by simp, by simp⟩
  | cons a L ih =>
    intro gs h
    obtain ⟨h1, h2⟩ := twP_cons.1 h
    obtain ⟨i1, i2⟩ := ih _ h2
    have hin : ∀ p ∈ L, grp p.1 ≠ 0 → grp p.1 ∉ gs ∧ (grp a.1 ≠ 0 → grp p.1 ≠ grp a.1) := fun p hp h0 => by
      have := i1 p hp h0
      unfold gs' at this
      split at this
      · rename_i hz; exact ⟨this, fun h => absurd hz h⟩
      · simp at this; exact ⟨this.1, fun _ => this.2⟩
    refine ⟨fun p hp h0 => ?_, fun p hp q hq h0 he => ?_⟩
    · rcases List.mem_cons.1 hp with rfl | hp
      · exact fun hm => h1 ⟨h0, hm⟩
      · exact (hin p hp h0).1
    · rcases List.mem_cons.1 hp with hpa | hpL
      · rcases List.mem_cons.1 hq with hqa | hqL
        · rw [hpa, hqa]
        · subst hpa; exact absurd he.symm ((hin q hqL (by rw [← he]; exact h0)).2 h0)
      · rcases List.mem_cons.1 hq with hqa | hqL
        · subst hqa; exact absurd he ((hin p hpL h0).2 (by rw [← he]; exact h0))
        · exact i2 p hpL q hqL h0 he
end Go.Proofs.Ytekhjpiopbkoaaa
