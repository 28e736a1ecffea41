/- What Made makes, in mathematics. -/
import Derived.Test.YtekhjpiopbkoaaaOml
namespace Go.Proofs.Ytekhjpiopbkoaaa
open Go.RowKit
set_option linter.unusedVariables false
set_option maxRecDepth 100000

/-- A small option as it came in. -/
structure SmO where
  k : Nat
  m : Nat
  u : Nat
  A : Option Addr
  n : Nat
  c : Nat
  bs : List UInt8
def mkK (x : SmO) : Nat := [1, 7, 131, 137, 68, 148, 130, 2 + x.u % 5].getD (x.k % 8) 0
def mkG (K : Nat) : Int := if K = 7 then 0 else if K = 131 ∨ K = 137 then 1 else if K = 68 then 2 else -1
def mkH (K : Nat) : Nat := if K = 7 then 1 else if K = 131 ∨ K = 137 then 1 else if K = 68 then 2 else if K = 148 then 2 else 0
def mkS (K m : Nat) : Nat := if K = 7 then 4 else if K = 131 ∨ K = 137 then 4 else if K = 68 then [4, 8, 8].getD (m % 3) 0 else 1
def mkN (K m : Nat) : Nat := if K = 1 ∨ K = 148 then 0 else m % 10
def mkT (x : SmO) : Nat := mkH (mkK x) + mkN (mkK x) x.m * mkS (mkK x) x.m
def mkB (x : SmO) (i : Nat) : UInt8 := if 0 < x.bs.length then x.bs.getD (i % x.bs.length) 0 else UInt8.ofNat i
def mkD0 (x : SmO) : List UInt8 := (List.range (mkT x)).map (mkB x)
def mkP (x : SmO) : Nat := 3 + mkH (mkK x) + x.u % (mkN (mkK x) x.m + 1) * mkS (mkK x) x.m
def mkD1 (x : SmO) : List UInt8 := if 0 ≤ mkG (mkK x) then (mkD0 x).set 0 (UInt8.ofNat (mkP x)) else mkD0 x
def mkD (x : SmO) : List UInt8 := if mkG (mkK x) = 2 then (mkD1 x).set 1 (UInt8.ofNat (bt (mkD1 x) 1 / 16 * 16 + [0, 1, 3].getD (x.m % 3) 0)) else mkD1 x
def mkMore (x : SmO) : Nat := if mkK x = 1 then 1 else 2 + (mkD x).length
abbrev MSt := List (Nat × List UInt8) × Nat × List Nat
def mkOk (st : MSt) (x : SmO) : Prop := st.2.1 + mkMore x ≤ 40 ∧ ¬ (0 ≤ mkG (mkK x) ∧ 0 < st.2.2.getD (mkG (mkK x)).toNat 0)
instance (st : MSt) (x : SmO) : Decidable (mkOk st x) := by unfold mkOk; infer_instance
def mkStep (st : MSt) (x : SmO) : MSt :=
  if mkOk st x then (st.1 ++ [(mkK x, mkD x)], st.2.1 + mkMore x, if 0 ≤ mkG (mkK x) then st.2.2.set (mkG (mkK x)).toNat (st.2.2.getD (mkG (mkK x)).toNat 0 + 1) else st.2.2) else st
def mkAll (l : List SmO) : MSt := l.foldl mkStep ([], 0, [0, 0, 0])
theorem mkAll_snoc (l : List SmO) (x : SmO) : mkAll (l ++ [x]) = mkStep (mkAll l) x := by simp [mkAll]

theorem mkK_cases (x : SmO) : (mkK x = 1 ∨ mkK x = 7 ∨ mkK x = 131 ∨ mkK x = 137 ∨ mkK x = 68 ∨ mkK x = 148 ∨ mkK x = 130 ∨ (2 ≤ mkK x ∧ mkK x ≤ 6)) := by
  unfold mkK
  have h : x.k % 8 < 8 := Nat.mod_lt _ (by decide)
  generalize x.k % 8 = j at h
  match j, h with
  | 0, _ => left; rfl
  | 1, _ => right; left; rfl
  | 2, _ => right; right; left; rfl
  | 3, _ => right; right; right; left; rfl
  | 4, _ => right; right; right; right; left; rfl
  | 5, _ => right; right; right; right; right; left; rfl
  | 6, _ => right; right; right; right; right; right; left; rfl
  | 7, _ => right; right; right; right; right; right; right; simp; omega
theorem mkK_lt (x : SmO) : mkK x < 256 := by have := mkK_cases x; omega
theorem s68 (m : Nat) : ∃ s : Nat, [4, 8, 8].getD (m % 3) 0 = s ∧ ((m % 3 = 0 ∧ s = 4) ∨ (m % 3 = 1 ∧ s = 8) ∨ (m % 3 = 2 ∧ s = 8)) := by
  have h : m % 3 < 3 := Nat.mod_lt _ (by decide)
  generalize m % 3 = j at h
  match j, h with
  | 0, _ => exact ⟨4, rfl, by omega⟩
  | 1, _ => exact ⟨8, rfl, by omega⟩
  | 2, _ => exact ⟨8, rfl, by omega⟩
theorem f68 (m : Nat) : ∃ f : Nat, [0, 1, 3].getD (m % 3) 0 = f ∧ ((m % 3 = 0 ∧ f = 0) ∨ (m % 3 = 1 ∧ f = 1) ∨ (m % 3 = 2 ∧ f = 3)) := by
  have h : m % 3 < 3 := Nat.mod_lt _ (by decide)
  generalize m % 3 = j at h
  match j, h with
  | 0, _ => exact ⟨0, rfl, by omega⟩
  | 1, _ => exact ⟨1, rfl, by omega⟩
  | 2, _ => exact ⟨3, rfl, by omega⟩
theorem mkS_le (K m : Nat) : 1 ≤ mkS K m ∧ mkS K m ≤ 8 := by
  unfold mkS
  obtain ⟨s, hs, h⟩ := s68 m
  rw [hs]
  split <;> (try split) <;> (try split) <;> omega
theorem mkH_le (K : Nat) : mkH K ≤ 2 := by unfold mkH; split <;> (try split) <;> (try split) <;> (try split) <;> omega
theorem mkN_le (K m : Nat) : mkN K m ≤ 9 := by unfold mkN; split <;> omega
theorem mkT_le (x : SmO) : mkT x ≤ 74 := by
  unfold mkT
  have h1 := mkH_le (mkK x)
  have h2 := mkN_le (mkK x) x.m
  have h3 := mkS_le (mkK x) x.m
  have := Nat.mul_le_mul h2 h3.2
  omega
theorem mkP_le (x : SmO) : mkP x ≤ 77 := by
  unfold mkP
  have h1 := mkH_le (mkK x)
  have h2 := mkN_le (mkK x) x.m
  have h3 := mkS_le (mkK x) x.m
  have h4 : x.u % (mkN (mkK x) x.m + 1) < mkN (mkK x) x.m + 1 := Nat.mod_lt _ (by omega)
  have := Nat.mul_le_mul (show x.u % (mkN (mkK x) x.m + 1) ≤ 9 by omega) h3.2
  omega
theorem mkD0_len (x : SmO) : (mkD0 x).length = mkT x := by simp [mkD0]
theorem mkD1_len (x : SmO) : (mkD1 x).length = mkT x := by unfold mkD1; split <;> simp [mkD0_len]
theorem mkD_len (x : SmO) : (mkD x).length = mkT x := by unfold mkD; split <;> simp [mkD1_len]
theorem mkD0_snoc (x : SmO) (k : Nat) : (List.range (k + 1)).map (mkB x) = (List.range k).map (mkB x) ++ [mkB x k] := by simp [List.range_succ]
theorem mkG_nn {K : Nat} : 0 ≤ mkG K ↔ (K = 7 ∨ K = 131 ∨ K = 137 ∨ K = 68) := by
  unfold mkG; split <;> (try split) <;> (try split) <;> omega
theorem mkG_two {K : Nat} : mkG K = 2 ↔ K = 68 := by
  unfold mkG; split <;> (try split) <;> (try split) <;> omega
theorem mkT_pos {x : SmO} (h : 0 ≤ mkG (mkK x)) : 1 ≤ mkT x := by
  have := mkG_nn.1 h
  unfold mkT mkH
  split <;> (try split) <;> (try split) <;> omega
theorem mkT_two {x : SmO} (h : mkG (mkK x) = 2) : 2 ≤ mkT x := by
  have := mkG_two.1 h
  unfold mkT mkH
  rw [if_neg (by omega), if_neg (by omega), if_pos this]; omega
theorem bt_set0 {l : List UInt8} {v : Nat} (h : 1 ≤ l.length) (hv : v < 256) : bt (l.set 0 (UInt8.ofNat v)) 0 = v := by
  cases l with
  | nil => simp at h
  | cons a l => exact ofNat_nat hv
theorem bt_set10 {l : List UInt8} {y : UInt8} : bt (l.set 1 y) 0 = bt l 0 := by
  cases l with
  | nil => rfl
  | cons a l => cases l <;> rfl
theorem bt_set1 {l : List UInt8} {v : Nat} (h : 2 ≤ l.length) (hv : v < 256) : bt (l.set 1 (UInt8.ofNat v)) 1 = v := by
  cases l with
  | nil => simp at h
  | cons a l =>
    cases l with
    | nil => simp at h
    | cons b l => exact ofNat_nat hv
/-- The pointer of what is made. -/
theorem mkD_ptr {x : SmO} (h : 0 ≤ mkG (mkK x)) : bt (mkD x) 0 = mkP x := by
  have h1 : bt (mkD1 x) 0 = mkP x := by
    unfold mkD1
    rw [if_pos h]
    exact bt_set0 (by rw [mkD0_len]; exact mkT_pos h) (by have := mkP_le x; omega)
  unfold mkD
  split
  · rw [bt_set10, h1]
  · exact h1
theorem mul_sub_mod (a b s : Nat) : (a * s) % s = 0 := Nat.mul_mod_left _ _
theorem ptB_mk {x : SmO} (h : 0 ≤ mkG (mkK x)) : ptB (mkD x) (mkH (mkK x)) (mkS (mkK x) x.m) = true := by
  unfold ptB
  rw [mkD_ptr h, mkD_len]
  unfold mkP mkT
  have h4 : x.u % (mkN (mkK x) x.m + 1) < mkN (mkK x) x.m + 1 := Nat.mod_lt _ (by omega)
  generalize x.u % (mkN (mkK x) x.m + 1) = j at h4 ⊢
  generalize mkN (mkK x) x.m = N at h4 ⊢
  generalize mkS (mkK x) x.m = S
  generalize mkH (mkK x) = H
  have hjN := Nat.mul_le_mul_right S (show j ≤ N by omega)
  refine decide_eq_true ⟨by omega, ?_, by omega, by omega, ?_⟩
  · rw [show H + N * S - H = N * S by omega]; exact Nat.mul_mod_left _ _
  · rw [show 3 + H + j * S - 3 - H = j * S by omega]; exact Nat.mul_mod_left _ _
theorem mk_stamp {x : SmO} (h : mkK x = 68) : stampN (mkD x) = mkS (mkK x) x.m := by
  have hG : mkG (mkK x) = 2 := mkG_two.2 h
  have hl : 2 ≤ mkT x := mkT_two hG
  obtain ⟨f, hf, hc⟩ := f68 x.m
  obtain ⟨s, hs, hd⟩ := s68 x.m
  have hb := bt_lt (mkD1 x) 1
  have h1 : bt (mkD x) 1 = bt (mkD1 x) 1 / 16 * 16 + f := by
    unfold mkD
    rw [if_pos hG, hf]
    exact bt_set1 (by rw [mkD1_len]; exact hl) (by omega)
  have e : mkS (mkK x) x.m = s := by
    unfold mkS
    rw [if_neg (by omega), if_neg (by omega), if_pos h, hs]
  rw [e]
  unfold stampN
  rw [if_neg (by rw [mkD_len]; omega), h1]
  rcases hc with ⟨h1, rfl⟩ | ⟨h1, rfl⟩ | ⟨h1, rfl⟩
  · rw [if_pos (by omega)]; omega
  · rw [if_neg (by omega), if_pos (by omega)]; omega
  · rw [if_neg (by omega), if_pos (by omega)]; omega
theorem mk_okP {x : SmO} {N : Nat} (h : N + mkMore x ≤ 40) : OkP (mkK x, mkD x) := by
  have hlt := mkK_lt x
  have hlen : (mkD x).length ≤ 38 := by
    unfold mkMore at h
    split at h
    · rename_i h1
      rw [mkD_len]; unfold mkT mkH mkN; rw [h1]; simp
    · omega
  refine ⟨hlt, ?_⟩
  unfold rightO
  rw [decide_eq_true hlen, Bool.true_and]
  unfold demB
  simp only
  have hc := mkK_cases x
  rcases hc with h1 | h1 | h1 | h1 | h1 | h1 | h1 | h1
  · rw [if_neg (by omega), if_pos h1]
    refine decide_eq_true ?_
    rw [mkD_len]; unfold mkT mkH mkN; rw [h1]; simp
  · have := ptB_mk (x := x) (mkG_nn.2 (by omega))
    rw [if_neg (by omega), if_neg (by omega), if_pos (by omega)]
    rw [show mkH (mkK x) = 1 by unfold mkH; rw [if_pos h1], show mkS (mkK x) x.m = 4 by unfold mkS; rw [if_pos h1]] at this
    exact this
  · have := ptB_mk (x := x) (mkG_nn.2 (by omega))
    rw [if_neg (by omega), if_neg (by omega), if_pos (by omega)]
    rw [show mkH (mkK x) = 1 by unfold mkH; rw [if_neg (by omega), if_pos (by omega)], show mkS (mkK x) x.m = 4 by unfold mkS; rw [if_neg (by omega), if_pos (by omega)]] at this
    exact this
  · have := ptB_mk (x := x) (mkG_nn.2 (by omega))
    rw [if_neg (by omega), if_neg (by omega), if_pos (by omega)]
    rw [show mkH (mkK x) = 1 by unfold mkH; rw [if_neg (by omega), if_pos (by omega)], show mkS (mkK x) x.m = 4 by unfold mkS; rw [if_neg (by omega), if_pos (by omega)]] at this
    exact this
  · have := ptB_mk (x := x) (mkG_nn.2 (by omega))
    have hst := mk_stamp h1
    have hS := mkS_le (mkK x) x.m
    rw [if_neg (by omega), if_neg (by omega), if_neg (by omega), if_pos h1, hst]
    rw [show mkH (mkK x) = 2 by unfold mkH; rw [if_neg (by omega), if_neg (by omega), if_pos h1]] at this
    rw [this, decide_eq_true (by omega)]; rfl
  · rw [if_neg (by omega), if_neg (by omega), if_neg (by omega), if_neg (by omega), if_pos h1]
    refine decide_eq_true ?_
    rw [mkD_len]; unfold mkT mkH mkN; rw [h1]; simp
  · rw [if_neg (by omega), if_neg (by omega), if_neg (by omega), if_neg (by omega), if_neg (by omega)]
  · rw [if_neg (by omega), if_neg (by omega), if_neg (by omega), if_neg (by omega), if_neg (by omega)]
/-- How many bytes an option has. -/
theorem optP_len {x : SmO} : (optP (mkK x, mkD x)).length = mkMore x := by
  unfold optP mkMore
  split
  · rfl
  · simp; omega
theorem twP_snoc (L : List (Nat × List UInt8)) (p : Nat × List UInt8) : ∀ gs, twP gs (L ++ [p]) = false ↔ twP gs L = false ∧ (grp p.1 = 0 ∨ (grp p.1 ∉ gs ∧ ∀ q ∈ L, grp q.1 ≠ grp p.1)) := by
  induction L with
  | nil =>
    intro gs
    rw [List.nil_append, twP_cons]
    simp only [twP, List.not_mem_nil, false_implies, implies_true, and_true]
    by_cases h : grp p.1 = 0
    · simp [h]
    · simp [h]
  | cons q L ih =>
    intro gs
    rw [List.cons_append, twP_cons, ih, twP_cons]
    unfold gs'
    by_cases hq : grp q.1 = 0
    · by_cases hp : grp p.1 = 0
      · simp [hq, hp]
      · rw [if_pos hq]
        simp only [hq, hp, false_or, List.mem_cons, forall_eq_or_imp]
        have h0 : ¬ (0 : Nat) = grp p.1 := fun e => hp e.symm
        simp [h0]
    · rw [if_neg hq]
      by_cases hp : grp p.1 = 0
      · simp [hp, and_assoc]
      · simp only [hp, false_or, List.mem_append, List.mem_cons, List.not_mem_nil, or_false, forall_eq_or_imp, not_or]
        constructor
        · rintro ⟨a, b, ⟨c, d⟩, e⟩
          exact ⟨⟨a, b⟩, c, fun h => d h.symm, e⟩
        · rintro ⟨⟨a, b⟩, c, d, e⟩
          exact ⟨a, b, ⟨c, fun h => d h.symm⟩, e⟩
theorem grp_G (K : Nat) : (grp K = 0 ∧ mkG K = -1) ∨ (grp K = 7 ∧ mkG K = 0) ∨ (grp K = 131 ∧ mkG K = 1) ∨ (grp K = 68 ∧ mkG K = 2) := by
  unfold grp mkG
  by_cases h1 : K = 7
  · simp [h1]
  · by_cases h2 : K = 131
    · simp [h2]
    · by_cases h3 : K = 137
      · simp [h3]
      · by_cases h4 : K = 68
        · simp [h4]
        · simp [h1, h2, h3, h4]
/-- What is known of all that was made so far. -/
structure MInv (st : MSt) : Prop where
  n : st.2.1 = (flatP st.1).length
  le : st.2.1 ≤ 40
  ok : ∀ p ∈ st.1, OkP p
  tw : twP [] st.1 = false
  ml : st.2.2.length = 3
  mt : ∀ p ∈ st.1, 0 ≤ mkG p.1 → 0 < st.2.2.getD (mkG p.1).toNat 0
  mb : ∀ j, st.2.2.getD j 0 ≤ st.1.length
theorem set_getD {l : List Nat} {i j v : Nat} : (l.set i v).getD j 0 = if i = j ∧ j < l.length then v else l.getD j 0 := by
  rw [List.getD_eq_getElem?_getD, List.getD_eq_getElem?_getD, List.getElem?_set]
  by_cases h : i = j
  · subst h
    by_cases h2 : i < l.length
    · simp [h2]
    · simp [h2]
  · simp [h]
theorem MInv.step {st : MSt} (h : MInv st) (x : SmO) : MInv (mkStep st x) := by
  unfold mkStep
  split
  · rename_i hk
    obtain ⟨h1, h2⟩ := hk
    have hG3 : (mkG (mkK x)).toNat < 3 := by have := grp_G (mkK x); omega
    refine ⟨?_, h1, fun p hp => ?_, (twP_snoc _ _ []).2 ⟨h.tw, ?_⟩, ?_, fun p hp hg => ?_, fun j => ?_⟩
    · simp only
      rw [h.n, show flatP (st.1 ++ [(mkK x, mkD x)]) = flatP st.1 ++ optP (mkK x, mkD x) by simp [flatP], List.length_append, optP_len]
    · rcases List.mem_append.1 hp with hp | hp
      · exact h.ok p hp
      · rw [List.mem_singleton.1 hp]; exact mk_okP h1
    · by_cases hz : grp (mkK x) = 0
      · exact .inl hz
      · right
        refine ⟨by simp, fun q hq e => ?_⟩
        have hx := grp_G (mkK x)
        have hq2 := grp_G q.1
        have e' : grp q.1 = grp (mkK x) := e
        have he : mkG q.1 = mkG (mkK x) := by
          rcases hx with ⟨a, b⟩ | ⟨a, b⟩ | ⟨a, b⟩ | ⟨a, b⟩ <;> rcases hq2 with ⟨c, d⟩ | ⟨c, d⟩ | ⟨c, d⟩ | ⟨c, d⟩ <;> rw [b, d] <;> omega
        have hnn : 0 ≤ mkG (mkK x) := by
          rcases hx with ⟨a, b⟩ | ⟨a, b⟩ | ⟨a, b⟩ | ⟨a, b⟩ <;> rw [b] <;> omega
        have := h.mt q hq (by rw [he]; exact hnn)
        rw [he] at this
        exact h2 ⟨hnn, this⟩
    · simp only
      split
      · rw [List.length_set]; exact h.ml
      · exact h.ml
    · simp only at hg ⊢
      rcases List.mem_append.1 hp with hp | hp
      · have h3 := h.mt p hp hg
        split
        · rw [set_getD]; split
          · omega
          · exact h3
        · exact h3
      · rw [List.mem_singleton.1 hp] at hg ⊢
        simp only at hg ⊢
        rw [if_pos hg, set_getD, if_pos ⟨rfl, by rw [h.ml]; exact hG3⟩]
        omega
    · simp only [List.length_append, List.length_singleton]
      have h3 := h.mb j
      split
      · rw [set_getD]; split
        · have := h.mb (mkG (mkK x)).toNat; omega
        · omega
      · omega
  · exact h
theorem MInv.zero : MInv ([], 0, [0, 0, 0]) := ⟨rfl, by decide, by simp, rfl, rfl, by simp, fun j => by
  match j with
  | 0 => decide
  | 1 => decide
  | 2 => decide
  | j + 3 => simp⟩
theorem mkAll_inv (l : List SmO) : MInv (mkAll l) := by
  unfold mkAll
  have : ∀ (l : List SmO) st, MInv st → MInv (l.foldl mkStep st) := by
    intro l
    induction l with
    | nil => intro st h; exact h
    | cons x l ih => intro st h; exact ih _ (h.step x)
  exact this l _ MInv.zero
end Go.Proofs.Ytekhjpiopbkoaaa
