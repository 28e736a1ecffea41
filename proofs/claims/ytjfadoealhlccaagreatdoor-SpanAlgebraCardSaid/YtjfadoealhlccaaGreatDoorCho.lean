/- What the loop over two sets yields: plain facts. No program's text is named here. -/
import Derived.Test.YtjfadoealhlccaaGreatDoorSet
namespace Go.Proofs.YtjfadoealhlccaaGreatDoor
set_option linter.unusedVariables false

/-- How many borders of a set lie ahead. -/
def mu (s : List Sp) (n : Nat) : Nat :=
  match restS s n with
  | [] => 0
  | x :: l => 2 * l.length + (if n < x.1 then 2 else 1)
theorem mu_zero_le (s : List Sp) (n : Nat) : mu s n ≤ 2 * s.length := by
  have hl : (restS s n).length ≤ s.length := (List.dropWhile_sublist _).length_le
  unfold mu
  cases hr : restS s n with
  | nil => exact Nat.zero_le _
  | cons x l =>
    rw [hr] at hl
    simp only [List.length_cons] at hl
    show 2 * l.length + (if n < x.1 then 2 else 1) ≤ _
    split <;> omega
theorem restS_self {l : List Sp} {b n : Nat} (h : RSf b l) (hn : n ≤ b) : restS l n = l := by
  cases l with
  | nil => rfl
  | cons x l =>
    have h1 := h.1
    have h2 := h.2.1
    exact List.dropWhile_cons_of_neg (by simp; omega)
theorem mu_step {s : List Sp} {b n t : Nat} (h : RSf b s) (hn : n ≤ t) (ht : t ≤ (aheadS (restS s n) n).2) (hlt : t < 4294967295) :
    mu s (t + 1) ≤ mu s n ∧ (t = (aheadS (restS s n) n).2 → mu s (t + 1) + 1 ≤ mu s n) := by
  have hrr := rest_rest (s := s) (show n ≤ t + 1 by omega)
  have hr : RSf b (restS s n) := restS_rs h
  unfold mu
  rw [← hrr]
  cases hl : restS s n with
  | nil =>
    rw [hl] at ht
    refine ⟨Nat.le_refl _, fun e => ?_⟩
    exact absurd e (by show t ≠ 4294967295; omega)
  | cons x l =>
    rw [hl] at ht hr
    have hx := restS_head hl
    unfold aheadS at ht ⊢
    simp only at ht ⊢
    have hxx := hr.2.1
    by_cases hc : n < x.1
    · rw [if_pos hc] at ht ⊢
      simp only at ht
      have e : restS (x :: l) (t + 1) = x :: l := List.dropWhile_cons_of_neg (by simp; omega)
      rw [e]
      simp only
      rw [if_pos hc]
      refine ⟨by split <;> omega, fun e => ?_⟩
      rw [if_neg (by omega)]
      omega
    · rw [if_neg hc] at ht ⊢
      simp only at ht ⊢
      rw [if_neg hc]
      by_cases he : t = x.2
      · have e : restS (x :: l) (t + 1) = l := by
          have e1 : restS (x :: l) (t + 1) = restS l (t + 1) := List.dropWhile_cons_of_pos (by simp; omega)
          rw [e1]
          exact restS_self hr.2.2 (by omega)
        rw [e]
        cases l with
        | nil => simp
        | cons y l =>
          have hy := hr.2.2.1
          simp only [List.length_cons]
          rw [if_pos (by omega)]
          omega
      · have e : restS (x :: l) (t + 1) = x :: l := List.dropWhile_cons_of_neg (by simp; omega)
        rw [e]
        simp only
        rw [if_neg (by omega)]
        exact ⟨Nat.le_refl _, fun e => absurd e he⟩

/-- Which numbers are taken. -/
def tkS (tk : Bool → Bool → Bool) (a b : List Sp) (n : Nat) : Bool := tk (decide (hasS a n)) (decide (hasS b n))
/-- What has been yielded when g is next. -/
structure Cho (tk : Bool → Bool → Bool) (a b pre : List Sp) (g : Nat) : Prop where
  asc : Asc 0 pre
  last : LastLe pre g
  sb : SB pre
  len : pre.length ≤ g
  has : ∀ n, hasS pre n ↔ (n < g ∧ tkS tk a b n = true)
theorem cho_start (tk : Bool → Bool → Bool) (a b : List Sp) : Cho tk a b [] 0 :=
  ⟨trivial, lastLe_nil _, SB.nil, Nat.le_refl _, fun n => by simp [hasS_nil]⟩
theorem cho_has {tk : Bool → Bool → Bool} {a b pre : List Sp} {g t n : Nat} {ba bb : Nat} (ha : RSf ba a) (hb : RSf bb b) (sa : SB a) (sb : SB b) (h1 : g ≤ n) (h2 : n ≤ t)
    (ht : t = min (aheadS (restS a g) g).2 (aheadS (restS b g) g).2) : tkS tk a b n = tk (aheadS (restS a g) g).1 (aheadS (restS b g) g).1 := by
  unfold tkS
  rw [ahead_has ha sa rfl h1 (by omega), ahead_has hb sb rfl h1 (by omega)]
theorem cho_yes {tk : Bool → Bool → Bool} {a b pre : List Sp} {g t : Nat} {ba bb : Nat} (h : Cho tk a b pre g) (ha : RSf ba a) (hb : RSf bb b) (sa : SB a) (sb : SB b) (hg : g < 4294967296)
    (ht : t = min (aheadS (restS a g) g).2 (aheadS (restS b g) g).2) (hy : tk (aheadS (restS a g) g).1 (aheadS (restS b g) g).1 = true) : Cho tk a b (pre ++ [(g, t)]) (t + 1) := by
  have g1 := ahead_ge (s := a) hg
  have g2 := ahead_ge (s := b) hg
  have l1 := ahead_lt (n := g) sa
  have hgt : g ≤ t := by omega
  refine ⟨(asc_app _ _ _).2 ⟨h.asc, hgt, Nat.zero_le _, h.last⟩, fun e he => ?_, h.sb.app (SB.one hg (by show t < _; omega)), ?_, fun n => ?_⟩
  · simp at he
    rw [← he]
    show g ≤ t + 1
    omega
  · have := h.len
    simp only [List.length_append, List.length_cons, List.length_nil]
    omega
  · rw [hasS_app, hasS_one, h.has]
    constructor
    · rintro (⟨h1, h2⟩ | ⟨h1, h2⟩)
      · exact ⟨by omega, h2⟩
      · refine ⟨by show n < t + 1; simp only at h2; omega, ?_⟩
        rw [cho_has (pre := pre) ha hb sa sb h1 h2 ht]
        exact hy
    · rintro ⟨h1, h2⟩
      by_cases hn : n < g
      · exact .inl ⟨hn, h2⟩
      · exact .inr ⟨by show g ≤ n; omega, by show n ≤ t; omega⟩
theorem cho_no {tk : Bool → Bool → Bool} {a b pre : List Sp} {g t : Nat} {ba bb : Nat} (h : Cho tk a b pre g) (ha : RSf ba a) (hb : RSf bb b) (sa : SB a) (sb : SB b) (hg : g < 4294967296)
    (ht : t = min (aheadS (restS a g) g).2 (aheadS (restS b g) g).2) (hy : tk (aheadS (restS a g) g).1 (aheadS (restS b g) g).1 = false) : Cho tk a b pre (t + 1) := by
  have g1 := ahead_ge (s := a) hg
  have g2 := ahead_ge (s := b) hg
  have hgt : g ≤ t := by omega
  refine ⟨h.asc, fun e he => Nat.le_trans (h.last e he) (by omega), h.sb, Nat.le_trans h.len (by omega), fun n => ?_⟩
  rw [h.has]
  constructor
  · rintro ⟨h1, h2⟩; exact ⟨by omega, h2⟩
  · rintro ⟨h1, h2⟩
    by_cases hn : n < g
    · exact ⟨hn, h2⟩
    · rw [cho_has (pre := pre) (t := t) ha hb sa sb (by omega) (by omega) ht, hy] at h2
      cases h2
/-- The set that is made. -/
structure Comb (tk : Bool → Bool → Bool) (a b r : List Sp) : Prop where
  rs : RSf 0 r
  sb : SB r
  has : ∀ n, hasS r n ↔ (n < 4294967296 ∧ tkS tk a b n = true)
theorem cho_end {tk : Bool → Bool → Bool} {a b pre : List Sp} (h : Cho tk a b pre 4294967296) : Comb tk a b (buildS pre) := by
  obtain ⟨h1, _, h3⟩ := buildS_ok h.asc
  exact ⟨h1, buildS_sb h.sb, fun n => by rw [h3, h.has]⟩
theorem comb_uniq {tk : Bool → Bool → Bool} {a b r r' : List Sp} (h : Comb tk a b r) (h' : Comb tk a b r') : r = r' :=
  rsf_uniq h.rs h'.rs fun n => by rw [h.has, h'.has]
/-- How many spans there can be. -/
def ChoLen (a b pre : List Sp) (g : Nat) : Prop := pre.length + mu a g + mu b g ≤ 2 * a.length + 2 * b.length
theorem choLen_start (a b : List Sp) : ChoLen a b [] 0 := by
  have h1 := mu_zero_le a 0
  have h2 := mu_zero_le b 0
  unfold ChoLen
  simp only [List.length_nil]
  omega
theorem choLen_step {a b pre pre' : List Sp} {g t : Nat} {ba bb : Nat} (h : ChoLen a b pre g) (ha : RSf ba a) (hb : RSf bb b) (hg : g ≤ t)
    (ht : t = min (aheadS (restS a g) g).2 (aheadS (restS b g) g).2) (hlt : t < 4294967295) (hp : pre'.length ≤ pre.length + 1) : ChoLen a b pre' (t + 1) := by
  obtain ⟨a1, a2⟩ := mu_step ha hg (show t ≤ (aheadS (restS a g) g).2 by omega) hlt
  obtain ⟨b1, b2⟩ := mu_step hb hg (show t ≤ (aheadS (restS b g) g).2 by omega) hlt
  unfold ChoLen at h ⊢
  rcases Nat.le_total (aheadS (restS a g) g).2 (aheadS (restS b g) g).2 with hc | hc
  · have := a2 (by omega); omega
  · have := b2 (by omega); omega
theorem choLen_le {a b pre : List Sp} {g : Nat} (h : ChoLen a b pre g) : pre.length ≤ 2 * a.length + 2 * b.length := by unfold ChoLen at h; omega
end Go.Proofs.YtjfadoealhlccaaGreatDoor
