/- How many numbers a set has: plain facts. No program's text is named here. -/
import Derived.Test.YtjfadoealhlccaaGreatDoorCho
namespace Go.Proofs.YtjfadoealhlccaaGreatDoor
set_option linter.unusedVariables false

def cntP (p : Nat → Bool) : Nat → Nat
  | 0 => 0
  | n + 1 => cntP p n + (if p n = true then 1 else 0)
theorem cntP_congr {p q : Nat → Bool} {N : Nat} (h : ∀ n, n < N → p n = q n) : cntP p N = cntP q N := by
  induction N with
  | zero => rfl
  | succ N ih => simp only [cntP]; rw [ih fun n hn => h n (by omega), h N (by omega)]
theorem cntP_or_and (p q : Nat → Bool) (N : Nat) : cntP p N + cntP q N = cntP (fun n => p n || q n) N + cntP (fun n => p n && q n) N := by
  induction N with
  | zero => rfl
  | succ N ih =>
    simp only [cntP]
    by_cases hp : p N = true <;> by_cases hq : q N = true <;> simp [hp, hq] <;> omega
theorem cntP_not (p : Nat → Bool) (N : Nat) : cntP p N + cntP (fun n => !p n) N = N := by
  induction N with
  | zero => rfl
  | succ N ih =>
    simp only [cntP]
    by_cases hp : p N = true <;> simp [hp] <;> omega
theorem cntP_minus (p q : Nat → Bool) (N : Nat) : cntP (fun n => p n && !q n) N + cntP (fun n => p n && q n) N = cntP p N := by
  induction N with
  | zero => rfl
  | succ N ih =>
    simp only [cntP]
    by_cases hp : p N = true <;> by_cases hq : q N = true <;> simp [hp, hq] <;> omega
theorem cntP_false (N : Nat) : cntP (fun _ => false) N = 0 := by
  induction N with
  | zero => rfl
  | succ N ih => simp only [cntP]; rw [ih]; rfl
theorem cntP_span (a b : Nat) (h : a ≤ b + 1) (N : Nat) : cntP (fun n => decide (a ≤ n ∧ n ≤ b)) N = min N (b + 1) - min N a := by
  induction N with
  | zero => rw [Nat.zero_min, Nat.zero_min]; rfl
  | succ N ih =>
    simp only [cntP]
    rw [ih]
    by_cases h1 : a ≤ N ∧ N ≤ b
    · rw [if_pos (decide_eq_true h1)]; omega
    · rw [if_neg (by simpa using h1)]; omega
/-- How many numbers the spans of a set have. -/
def szS : List Sp → Nat
  | [] => 0
  | x :: l => (x.2 - x.1 + 1) + szS l
theorem szS_snoc (l : List Sp) (x : Sp) : szS (l ++ [x]) = szS l + (x.2 - x.1 + 1) := by
  induction l with
  | nil => simp [szS]
  | cons y l ih => rw [List.cons_append]; simp only [szS]; rw [ih]; omega
theorem cnt_sz {l : List Sp} {b N : Nat} (h : RSf b l) (hN : ∀ x ∈ l, x.2 < N) : cntP (fun n => decide (hasS l n)) N = szS l := by
  induction l generalizing b with
  | nil => rw [cntP_congr (q := fun _ => false) fun n _ => decide_eq_false (hasS_nil n), cntP_false]; rfl
  | cons x l ih =>
    have h1 := ih h.2.2 fun y hy => hN y (by simp [hy])
    have h2 := cntP_span x.1 x.2 (by have := h.2.1; omega) N
    have h3 := cntP_or_and (fun n => decide (x.1 ≤ n ∧ n ≤ x.2)) (fun n => decide (hasS l n)) N
    have h4 : cntP (fun n => decide (hasS (x :: l) n)) N = cntP (fun n => decide (x.1 ≤ n ∧ n ≤ x.2) || decide (hasS l n)) N := cntP_congr fun n _ => by
      rw [Bool.eq_iff_iff]
      simp only [decide_eq_true_eq, Bool.or_eq_true]
      exact hasS_cons x l n
    have h5 : cntP (fun n => decide (x.1 ≤ n ∧ n ≤ x.2) && decide (hasS l n)) N = 0 := by
      rw [cntP_congr (q := fun _ => false) fun n _ => ?_, cntP_false]
      rw [Bool.and_eq_false_iff, decide_eq_false_iff_not, decide_eq_false_iff_not]
      by_cases h6 : hasS l n
      · have := rsf_ge h.2.2 h6
        exact .inl (by omega)
      · exact .inr h6
    have h6 := hN x (by simp)
    have h7 := h.2.1
    simp only [szS]
    omega
theorem szS_le {l : List Sp} (h : RSf 0 l) (hs : SB l) : szS l ≤ 4294967296 := by
  have hN : ∀ x ∈ l, x.2 < 4294967296 := fun x hx => (hs x hx).2
  generalize 4294967296 = N at hN
  rw [← cnt_sz h hN]
  have := cntP_not (fun n => decide (hasS l n)) N
  omega
/-- The laws of counting. -/
theorem sz_laws {a b u c d o : List Sp} (ha : RSf 0 a) (sa : SB a) (hb : RSf 0 b) (sb : SB b) (hu : Comb (fun x y => x || y) a b u) (hc : Comb (fun x y => x && y) a b c) (hd : Comb (fun x y => x && !y) a b d)
    (ho : RSf 0 o) (so : SB o) (hoo : ∀ n, hasS o n ↔ n < 4294967296 ∧ ¬ hasS a n) : szS a + szS b = szS u + szS c ∧ szS a + szS o = 4294967296 ∧ szS d + szS c = szS a := by
  have up : ∀ {l : List Sp}, SB l → ∀ x ∈ l, x.2 < 4294967296 := fun h x hx => (h x hx).2
  have ea := cnt_sz ha (up sa)
  have eb := cnt_sz hb (up sb)
  have eu := cnt_sz hu.rs (up hu.sb)
  have ec := cnt_sz hc.rs (up hc.sb)
  have ed := cnt_sz hd.rs (up hd.sb)
  have eo := cnt_sz ho (up so)
  have hu' := hu.has
  have hc' := hc.has
  have hd' := hd.has
  clear up hu hc hd ha sa hb sb ho so
  unfold tkS at hu' hc' hd'
  generalize 4294967296 = N at *
  have h1 := cntP_or_and (fun n => decide (hasS a n)) (fun n => decide (hasS b n)) N
  have h2 := cntP_not (fun n => decide (hasS a n)) N
  have h3 := cntP_minus (fun n => decide (hasS a n)) (fun n => decide (hasS b n)) N
  have k1 : cntP (fun n => decide (hasS u n)) N = cntP (fun n => decide (hasS a n) || decide (hasS b n)) N := cntP_congr fun n hn => by
    rw [Bool.eq_iff_iff, decide_eq_true_eq, hu']; exact ⟨fun h => h.2, fun h => ⟨hn, h⟩⟩
  have k2 : cntP (fun n => decide (hasS c n)) N = cntP (fun n => decide (hasS a n) && decide (hasS b n)) N := cntP_congr fun n hn => by
    rw [Bool.eq_iff_iff, decide_eq_true_eq, hc']; exact ⟨fun h => h.2, fun h => ⟨hn, h⟩⟩
  have k3 : cntP (fun n => decide (hasS d n)) N = cntP (fun n => decide (hasS a n) && !decide (hasS b n)) N := cntP_congr fun n hn => by
    rw [Bool.eq_iff_iff, decide_eq_true_eq, hd']; exact ⟨fun h => h.2, fun h => ⟨hn, h⟩⟩
  have k4 : cntP (fun n => decide (hasS o n)) N = cntP (fun n => !decide (hasS a n)) N := cntP_congr fun n hn => by
    rw [Bool.eq_iff_iff, decide_eq_true_eq, hoo]; simp [hn]
  omega
end Go.Proofs.YtjfadoealhlccaaGreatDoor
