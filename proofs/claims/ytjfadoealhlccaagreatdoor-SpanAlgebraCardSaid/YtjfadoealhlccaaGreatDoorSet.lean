/- Sets of numbers as lists of spans: plain facts. No program's text is named here. -/
import Derived.Test.YtjfadoealhlccaaGreatDoorBase
namespace Go.Proofs.YtjfadoealhlccaaGreatDoor
set_option linter.unusedVariables false

abbrev Sp := Nat × Nat
/-- A list of spans has a number. -/
def hasS (l : List Sp) (n : Nat) : Prop := ∃ x ∈ l, x.1 ≤ n ∧ n ≤ x.2
instance (l : List Sp) (n : Nat) : Decidable (hasS l n) := by unfold hasS; infer_instance
theorem hasS_nil (n : Nat) : ¬ hasS [] n := by simp [hasS]
theorem hasS_cons (x : Sp) (l : List Sp) (n : Nat) : hasS (x :: l) n ↔ (x.1 ≤ n ∧ n ≤ x.2) ∨ hasS l n := by simp [hasS]
theorem hasS_app (l m : List Sp) (n : Nat) : hasS (l ++ m) n ↔ hasS l n ∨ hasS m n := by
  induction l with
  | nil => simp [hasS_nil]
  | cons x l ih => rw [List.cons_append, hasS_cons, hasS_cons, ih, or_assoc]
theorem hasS_one (x : Sp) (n : Nat) : hasS [x] n ↔ x.1 ≤ n ∧ n ≤ x.2 := by simp [hasS]
theorem hasS_perm {l m : List Sp} (h : l.Perm m) (n : Nat) : hasS l n ↔ hasS m n := by
  unfold hasS
  constructor
  · rintro ⟨x, hx, h1⟩; exact ⟨x, h.mem_iff.1 hx, h1⟩
  · rintro ⟨x, hx, h1⟩; exact ⟨x, h.mem_iff.2 hx, h1⟩

/-- A set is right, and begins at b or later. -/
def RSf (b : Nat) : List Sp → Prop
  | [] => True
  | x :: l => b ≤ x.1 ∧ x.1 ≤ x.2 ∧ RSf (x.2 + 2) l
def decRSf : (b : Nat) → (l : List Sp) → Decidable (RSf b l)
  | _, [] => isTrue trivial
  | b, x :: l => by
    unfold RSf
    have := decRSf (x.2 + 2) l
    infer_instance
instance (b : Nat) (l : List Sp) : Decidable (RSf b l) := decRSf b l
/-- Where the next span may begin. -/
def nxt (b : Nat) : List Sp → Nat
  | [] => b
  | x :: l => nxt (x.2 + 2) l
theorem nxt_snoc (b : Nat) (l : List Sp) (x : Sp) : nxt b (l ++ [x]) = x.2 + 2 := by
  induction l generalizing b with
  | nil => rfl
  | cons y l ih => exact ih _
theorem rsf_app (b : Nat) (l m : List Sp) : RSf b (l ++ m) ↔ RSf b l ∧ RSf (nxt b l) m := by
  induction l generalizing b with
  | nil => simp [RSf, nxt]
  | cons y l ih =>
    show (b ≤ y.1 ∧ y.1 ≤ y.2 ∧ RSf (y.2 + 2) (l ++ m)) ↔ (b ≤ y.1 ∧ y.1 ≤ y.2 ∧ RSf (y.2 + 2) l) ∧ RSf (nxt (y.2 + 2) l) m
    rw [ih]
    constructor
    · rintro ⟨h1, h2, h3, h4⟩; exact ⟨⟨h1, h2, h3⟩, h4⟩
    · rintro ⟨⟨h1, h2, h3⟩, h4⟩; exact ⟨h1, h2, h3, h4⟩
theorem rsf_mono {b c : Nat} {l : List Sp} (h : RSf b l) (hc : c ≤ b) : RSf c l := by
  cases l with
  | nil => trivial
  | cons x l => exact ⟨Nat.le_trans hc h.1, h.2⟩
theorem rsf_ge {b n : Nat} {l : List Sp} (h : RSf b l) (hn : hasS l n) : b ≤ n := by
  induction l generalizing b with
  | nil => exact absurd hn (hasS_nil n)
  | cons x l ih =>
    obtain ⟨h1, h2, h3⟩ := h
    rcases (hasS_cons x l n).1 hn with h4 | h4
    · omega
    · have := ih h3 h4; omega
theorem rsf_tail {b n : Nat} {x : Sp} {l : List Sp} (h : RSf b (x :: l)) : hasS l n ↔ hasS (x :: l) n ∧ x.2 < n := by
  rw [hasS_cons]
  constructor
  · intro h4
    have := rsf_ge h.2.2 h4
    exact ⟨.inr h4, by omega⟩
  · rintro ⟨h4 | h4, h5⟩
    · omega
    · exact h4
theorem rsf_uniq {l m : List Sp} {b c : Nat} (h : RSf b l) (k : RSf c m) (e : ∀ n, hasS l n ↔ hasS m n) : l = m := by
  induction l generalizing b c m with
  | nil =>
    cases m with
    | nil => rfl
    | cons y m => exact absurd ((e y.1).2 ((hasS_cons y m y.1).2 (.inl ⟨Nat.le_refl _, k.2.1⟩))) (hasS_nil _)
  | cons x l ih =>
    cases m with
    | nil => exact absurd ((e x.1).1 ((hasS_cons x l x.1).2 (.inl ⟨Nat.le_refl _, h.2.1⟩))) (hasS_nil _)
    | cons y m =>
      have hx : hasS (x :: l) x.1 := (hasS_cons _ _ _).2 (.inl ⟨Nat.le_refl _, h.2.1⟩)
      have hy : hasS (y :: m) y.1 := (hasS_cons _ _ _).2 (.inl ⟨Nat.le_refl _, k.2.1⟩)
      have h1 : y.1 ≤ x.1 := rsf_ge (b := y.1) (l := y :: m) ⟨Nat.le_refl _, k.2⟩ ((e _).1 hx)
      have h2 : x.1 ≤ y.1 := rsf_ge (b := x.1) (l := x :: l) ⟨Nat.le_refl _, h.2⟩ ((e _).2 hy)
      have hxx := h.2.1
      have hyy := k.2.1
      have h3 : ¬ x.2 < y.2 := fun hl => by
        have := (e (x.2 + 1)).2 ((hasS_cons y m _).2 (.inl ⟨by omega, by omega⟩))
        have := (rsf_tail h).2 ⟨this, by omega⟩
        have := rsf_ge h.2.2 this
        omega
      have h4 : ¬ y.2 < x.2 := fun hl => by
        have := (e (y.2 + 1)).1 ((hasS_cons x l _).2 (.inl ⟨by omega, by omega⟩))
        have := (rsf_tail k).2 ⟨this, by omega⟩
        have := rsf_ge k.2.2 this
        omega
      obtain ⟨x1, x2⟩ := x
      obtain ⟨y1, y2⟩ := y
      simp only at *
      obtain rfl : x1 = y1 := by omega
      obtain rfl : x2 = y2 := by omega
      congr 1
      refine ih h.2.2 k.2.2 fun n => ?_
      rw [rsf_tail h, rsf_tail k, e]
theorem rsf_snoc (b : Nat) (l : List Sp) (x : Sp) : RSf b (l ++ [x]) ↔ RSf b l ∧ nxt b l ≤ x.1 ∧ x.1 ≤ x.2 := by
  rw [rsf_app]
  simp [RSf]

/-- What the builder does with a span. -/
def addS (s : List Sp) (x : Sp) : List Sp :=
  match s.getLast? with
  | none => [x]
  | some e => if e.2 + 1 < x.1 then s ++ [x] else s.dropLast ++ [(e.1, max e.2 x.2)]
theorem addS_nil (x : Sp) : addS [] x = [x] := rfl
theorem addS_far (l : List Sp) (e x : Sp) (h : e.2 + 1 < x.1) : addS (l ++ [e]) x = l ++ [e] ++ [x] := by simp [addS, h]
theorem addS_near (l : List Sp) (e x : Sp) (h : ¬ e.2 + 1 < x.1) : addS (l ++ [e]) x = l ++ [(e.1, max e.2 x.2)] := by simp [addS, h]
theorem snoc_cases (s : List Sp) : s = [] ∨ ∃ l e, s = l ++ [e] := by
  rcases List.eq_nil_or_concat s with h | ⟨l, e, h⟩
  · exact .inl h
  · exact .inr ⟨l, e, by simpa using h⟩
/-- The last span begins at or ahead of c. -/
def LastLe (s : List Sp) (c : Nat) : Prop := ∀ e, s.getLast? = some e → e.1 ≤ c
theorem lastLe_nil (c : Nat) : LastLe [] c := fun e h => by simp at h
theorem addS_ok {s : List Sp} {x : Sp} (h : RSf 0 s) (hx : x.1 ≤ x.2) (hl : LastLe s x.1) :
    RSf 0 (addS s x) ∧ LastLe (addS s x) x.1 ∧ ∀ n, hasS (addS s x) n ↔ hasS s n ∨ (x.1 ≤ n ∧ n ≤ x.2) := by
  rcases snoc_cases s with rfl | ⟨l, e, rfl⟩
  · rw [addS_nil]
    refine ⟨⟨Nat.zero_le _, hx, trivial⟩, fun e he => ?_, fun n => ?_⟩
    · simp at he; rw [← he]; exact Nat.le_refl _
    · rw [hasS_one]; simp [hasS_nil]
  · have he := hl e (by simp)
    have hR := (rsf_snoc 0 l e).1 h
    by_cases hf : e.2 + 1 < x.1
    · rw [addS_far _ _ _ hf]
      refine ⟨(rsf_snoc _ _ _).2 ⟨h, by rw [nxt_snoc]; omega, hx⟩, fun y hy => ?_, fun n => ?_⟩
      · simp at hy; rw [← hy]; exact Nat.le_refl _
      · rw [hasS_app, hasS_one]
    · rw [addS_near _ _ _ hf]
      refine ⟨(rsf_snoc _ _ _).2 ⟨hR.1, hR.2.1, by show e.1 ≤ max e.2 x.2; omega⟩, fun y hy => ?_, fun n => ?_⟩
      · simp at hy; rw [← hy]; exact he
      · rw [hasS_app, hasS_app, hasS_one, hasS_one, or_assoc]
        refine or_congr Iff.rfl ?_
        show (e.1 ≤ n ∧ n ≤ max e.2 x.2) ↔ _
        have := hR.2.2
        omega
theorem addS_len (s : List Sp) (x : Sp) : (addS s x).length ≤ s.length + 1 := by
  rcases snoc_cases s with rfl | ⟨l, e, rfl⟩
  · simp [addS_nil]
  · by_cases hf : e.2 + 1 < x.1
    · rw [addS_far _ _ _ hf]; simp
    · rw [addS_near _ _ _ hf]; simp
/-- All numbers are below 2^32. -/
def SB (l : List Sp) : Prop := ∀ x ∈ l, x.1 < 4294967296 ∧ x.2 < 4294967296
theorem SB.nil : SB [] := fun x h => by simp at h
theorem SB.app {l m : List Sp} (h : SB l) (k : SB m) : SB (l ++ m) := fun x hx => by
  rcases List.mem_append.1 hx with h1 | h1
  · exact h x h1
  · exact k x h1
theorem SB.one {x : Sp} (h1 : x.1 < 4294967296) (h2 : x.2 < 4294967296) : SB [x] := fun y hy => by
  have : y = x := by simpa using hy
  rw [this]; exact ⟨h1, h2⟩
theorem SB.left {l m : List Sp} (h : SB (l ++ m)) : SB l := fun x hx => h x (List.mem_append.2 (.inl hx))
theorem SB.right {l m : List Sp} (h : SB (l ++ m)) : SB m := fun x hx => h x (List.mem_append.2 (.inr hx))
theorem SB.get {l : List Sp} (h : SB l) {k : Nat} {x : Sp} (hx : l[k]? = some x) : x.1 < 4294967296 ∧ x.2 < 4294967296 := h x (List.mem_of_getElem? hx)
theorem addS_sb {s : List Sp} {x : Sp} (h : SB s) (h1 : x.1 < 4294967296) (h2 : x.2 < 4294967296) : SB (addS s x) := by
  rcases snoc_cases s with rfl | ⟨l, e, rfl⟩
  · rw [addS_nil]; exact SB.one h1 h2
  · by_cases hf : e.2 + 1 < x.1
    · rw [addS_far _ _ _ hf]; exact h.app (SB.one h1 h2)
    · rw [addS_near _ _ _ hf]
      have := h.right e (by simp)
      exact h.left.app (SB.one this.1 (by show max e.2 x.2 < 4294967296; omega))

/-- Spans that are right, none begins before the one ahead of it. -/
def Asc : Nat → List Sp → Prop
  | _, [] => True
  | b, x :: l => b ≤ x.1 ∧ x.1 ≤ x.2 ∧ Asc x.1 l
theorem asc_app (b : Nat) (l : List Sp) (x : Sp) : Asc b (l ++ [x]) ↔ Asc b l ∧ x.1 ≤ x.2 ∧ b ≤ x.1 ∧ LastLe l x.1 := by
  induction l generalizing b with
  | nil => simp [Asc, LastLe]; exact And.comm
  | cons y l ih =>
    show (b ≤ y.1 ∧ y.1 ≤ y.2 ∧ Asc y.1 (l ++ [x])) ↔ (b ≤ y.1 ∧ y.1 ≤ y.2 ∧ Asc y.1 l) ∧ x.1 ≤ x.2 ∧ b ≤ x.1 ∧ LastLe (y :: l) x.1
    rw [ih]
    have hL : LastLe (y :: l) x.1 ∧ y.1 ≤ x.1 ↔ LastLe l x.1 ∧ y.1 ≤ x.1 := by
      unfold LastLe
      cases l with
      | nil => simp
      | cons z l => simp
    have hA : Asc y.1 l → LastLe (y :: l) x.1 → y.1 ≤ x.1 := by
      clear ih hL
      intro h1 h2
      have : ∀ (l : List Sp) (y : Sp), Asc y.1 l → ∃ e, (y :: l).getLast? = some e ∧ y.1 ≤ e.1 := by
        intro l
        induction l with
        | nil => intro y _; exact ⟨y, rfl, Nat.le_refl _⟩
        | cons z l ih =>
          intro y hy
          obtain ⟨e, h1, h2⟩ := ih z hy.2.2
          exact ⟨e, by rw [List.getLast?_cons_cons]; exact h1, Nat.le_trans hy.1 h2⟩
      obtain ⟨e, h3, h4⟩ := this l y h1
      exact Nat.le_trans h4 (h2 e h3)
    constructor
    · rintro ⟨h1, h2, h3, h4, h5, h6⟩
      exact ⟨⟨h1, h2, h3⟩, h4, by omega, (hL.2 ⟨h6, h5⟩).1⟩
    · rintro ⟨⟨h1, h2, h3⟩, h4, h5, h6⟩
      have h7 := hA h3 h6
      exact ⟨h1, h2, h3, h4, h7, (hL.1 ⟨h6, h7⟩).1⟩
def buildS (l : List Sp) : List Sp := l.foldl addS []
theorem buildS_snoc (l : List Sp) (x : Sp) : buildS (l ++ [x]) = addS (buildS l) x := by simp [buildS]
theorem buildS_len (l : List Sp) : (buildS l).length ≤ l.length := by
  have : ∀ (l s : List Sp), (l.foldl addS s).length ≤ s.length + l.length := by
    intro l
    induction l with
    | nil => intro s; simp
    | cons x l ih => intro s; have := ih (addS s x); have := addS_len s x; simp only [List.foldl_cons, List.length_cons]; omega
  simpa [buildS] using this l []
theorem buildS_sb {l : List Sp} (h : SB l) : SB (buildS l) := by
  have : ∀ (l s : List Sp), SB l → SB s → SB (l.foldl addS s) := by
    intro l
    induction l with
    | nil => intro s _ h; exact h
    | cons x l ih => intro s hl hs; exact ih _ (fun y hy => hl y (by simp [hy])) (addS_sb hs (hl x (by simp)).1 (hl x (by simp)).2)
  exact this l [] h SB.nil
theorem buildS_ok {l : List Sp} (h : Asc 0 l) : RSf 0 (buildS l) ∧ (∀ c, LastLe l c → LastLe (buildS l) c) ∧ ∀ n, hasS (buildS l) n ↔ hasS l n := by
  suffices H : ∀ (k : Nat) (l : List Sp), l.length = k → Asc 0 l → RSf 0 (buildS l) ∧ (∀ c, LastLe l c → LastLe (buildS l) c) ∧ ∀ n, hasS (buildS l) n ↔ hasS l n from H _ l rfl h
  intro k
  induction k with
  | zero =>
    intro l hl _
    have : l = [] := List.eq_nil_of_length_eq_zero hl
    subst this
    exact ⟨trivial, fun c _ => lastLe_nil c, fun n => Iff.rfl⟩
  | succ k ih =>
    intro l hl ha
    rcases snoc_cases l with rfl | ⟨l, x, rfl⟩
    · simp at hl
    · have h1 := (asc_app 0 l x).1 ha
      obtain ⟨i1, i2, i3⟩ := ih l (by simpa using hl) h1.1
      obtain ⟨j1, j2, j3⟩ := addS_ok i1 h1.2.1 (i2 _ h1.2.2.2)
      rw [buildS_snoc]
      refine ⟨j1, fun c hc => ?_, fun n => ?_⟩
      · have hx : x.1 ≤ c := hc x (by simp)
        exact fun e he => Nat.le_trans (j2 e he) hx
      · rw [j3, i3, hasS_app, hasS_one]
theorem rsf_asc {b : Nat} {l : List Sp} (h : RSf b l) : Asc b l := by
  induction l generalizing b with
  | nil => trivial
  | cons x l ih =>
    obtain ⟨h1, h2, h3⟩ := h
    exact ⟨h1, h2, ih (rsf_mono h3 (by omega))⟩
/-- Of: a right set is its own. -/
theorem buildS_self {l : List Sp} (h : RSf 0 l) : buildS l = l := by
  obtain ⟨h1, _, h3⟩ := buildS_ok (rsf_asc h)
  exact rsf_uniq h1 h h3

/-- What is left of a set without the spans that end before n. -/
def restS (s : List Sp) (n : Nat) : List Sp := s.dropWhile fun x => decide (x.2 < n)
theorem restS_has {s : List Sp} {b n m : Nat} (h : RSf b s) (hm : n ≤ m) : hasS (restS s n) m ↔ hasS s m := by
  induction s generalizing b with
  | nil => exact Iff.rfl
  | cons x s ih =>
    unfold restS
    by_cases hx : x.2 < n
    · rw [List.dropWhile_cons_of_pos (by simpa using hx), hasS_cons]
      have := ih h.2.2
      unfold restS at this
      rw [this]
      constructor
      · exact .inr
      · rintro (h1 | h1)
        · omega
        · exact h1
    · rw [List.dropWhile_cons_of_neg (by simpa using hx)]
theorem restS_rs {s : List Sp} {b n : Nat} (h : RSf b s) : RSf b (restS s n) := by
  induction s generalizing b with
  | nil => exact h
  | cons x s ih =>
    unfold restS
    by_cases hx : x.2 < n
    · rw [List.dropWhile_cons_of_pos (by simpa using hx)]
      exact rsf_mono (ih h.2.2) (by have := h.1; have := h.2.1; omega)
    · rw [List.dropWhile_cons_of_neg (by simpa using hx)]
      exact h
theorem restS_head {s : List Sp} {n : Nat} {x : Sp} {l : List Sp} (h : restS s n = x :: l) : n ≤ x.2 := by
  have : ∀ s : List Sp, ∀ x l, restS s n = x :: l → n ≤ x.2 := by
    intro s
    induction s with
    | nil => intro x l h; simp [restS] at h
    | cons y s ih =>
      intro x l h
      unfold restS at h
      by_cases hy : y.2 < n
      · rw [List.dropWhile_cons_of_pos (by simpa using hy)] at h
        exact ih x l h
      · rw [List.dropWhile_cons_of_neg (by simpa using hy)] at h
        injection h with h1 h2
        subst h1
        omega
  exact this s x l h
/-- Whether a set, none of whose spans ends before n, has n, and up to where that stays so. -/
def aheadS (s : List Sp) (n : Nat) : Bool × Nat :=
  match s with
  | [] => (false, 4294967295)
  | x :: _ => if n < x.1 then (false, x.1 - 1) else (true, x.2)
theorem ahead_has {s l : List Sp} {b n m : Nat} (h : RSf b s) (hs : SB s) (hl : restS s n = l) (h1 : n ≤ m) (h2 : m ≤ (aheadS l n).2) : (aheadS l n).1 = decide (hasS s m) := by
  subst hl
  have hh := restS_has (m := m) h h1
  have hr : RSf b (restS s n) := restS_rs h
  cases hl : restS s n with
  | nil =>
    rw [hl] at hh
    exact (decide_eq_false (fun h => hasS_nil m (hh.2 h))).symm
  | cons x l =>
    rw [hl] at hh hr h2
    have hx := restS_head hl
    unfold aheadS at h2 ⊢
    simp only at h2 ⊢
    by_cases hn : n < x.1
    · rw [if_pos hn] at h2 ⊢
      refine (decide_eq_false (fun h => ?_)).symm
      have := rsf_ge (b := x.1) (l := x :: l) ⟨Nat.le_refl _, hr.2⟩ (hh.2 h)
      simp only at h2
      omega
    · rw [if_neg hn] at h2 ⊢
      refine (decide_eq_true (hh.1 ?_)).symm
      exact (hasS_cons _ _ _).2 (.inl ⟨by omega, h2⟩)
theorem ahead_ge {s : List Sp} {n : Nat} (hn : n < 4294967296) : n ≤ (aheadS (restS s n) n).2 := by
  cases hl : restS s n with
  | nil => show n ≤ 4294967295; omega
  | cons x l =>
    have hx := restS_head hl
    unfold aheadS
    simp only
    by_cases h : n < x.1
    · rw [if_pos h]; show n ≤ x.1 - 1; omega
    · rw [if_neg h]; exact hx
theorem ahead_lt {s : List Sp} {n : Nat} (hs : SB s) : (aheadS (restS s n) n).2 < 4294967296 := by
  have hsub : ∀ x ∈ restS s n, x ∈ s := fun x hx => List.dropWhile_sublist _ |>.mem hx
  cases hl : restS s n with
  | nil => show 4294967295 < 4294967296; omega
  | cons x l =>
    have hx := hs x (hsub x (by rw [hl]; simp))
    unfold aheadS
    simp only
    split
    · show x.1 - 1 < 4294967296; omega
    · exact hx.2
theorem rest_rest {s : List Sp} {m n : Nat} (h : m ≤ n) : restS (restS s m) n = restS s n := by
  induction s with
  | nil => rfl
  | cons x s ih =>
    by_cases hx : x.2 < m
    · have e1 : restS (x :: s) m = restS s m := List.dropWhile_cons_of_pos (by simpa using hx)
      have e2 : restS (x :: s) n = restS s n := List.dropWhile_cons_of_pos (by simpa using (show x.2 < n by omega))
      rw [e1, e2, ih]
    · have e1 : restS (x :: s) m = x :: s := List.dropWhile_cons_of_neg (by simpa using hx)
      rw [e1]
end Go.Proofs.YtjfadoealhlccaaGreatDoor
