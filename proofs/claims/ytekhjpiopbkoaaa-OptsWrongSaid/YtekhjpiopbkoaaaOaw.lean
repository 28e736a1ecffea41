/- The examples of the chapter. -/
import Derived.Test.YtekhjpiopbkoaaaOrx
import Derived.Test.YtekhjpiopbkoaaaOrg
import Derived.Test.YtekhjpiopbkoaaaOsm
import Derived.Deep.DeepCutAuto
namespace Go.Proofs.Ytekhjpiopbkoaaa
open Go.RowKit
set_option linter.unusedVariables false
set_option maxRecDepth 100000

theorem rdN_flat {xs : List UInt8} {L : List (Nat × List UInt8)} (h : flatP L = xs) (hl : xs.length ≤ 40) (hO : ∀ p ∈ L, OkP p) (ht : twP [] L = false) : rdN xs = (0, L) := by
  unfold rdN
  rw [if_neg (by omega), ← h]
  have := rdF_flat L [] hO ht [] rfl
  rwa [List.append_nil] at this
theorem ex_r1 : rdN [1, 7, 7, 4, 0, 0, 0, 0] = (0, [(1, []), (7, [4, 0, 0, 0, 0])]) := rdN_flat (by decide) (by decide) (by intro p hp; simp at hp; rcases hp with rfl | rfl <;> exact ⟨by decide, by decide⟩) (by decide)
theorem ex_e1 : (rdN [7, 6, 4, 0, 0, 0]).1 = 61 := by unfold rdN; rw [if_neg (by decide), rdF_bad (by decide) (by decide)]; decide
theorem ex_e2 : (rdN [5]).1 = 60 := by unfold rdN; rw [if_neg (by decide), rdF_bad (by decide) (by decide)]; decide
theorem ex_e3 : (rdN [5, 9, 0]).1 = 60 := by unfold rdN; rw [if_neg (by decide), rdF_bad (by decide) (by decide)]; decide
theorem ex_e4 : (rdN [5, 1]).1 = 61 := by unfold rdN; rw [if_neg (by decide), rdF_bad (by decide) (by decide)]; decide
theorem ex_e5 : (rdN [0, 0, 3]).1 = 62 := by unfold rdN; rw [if_neg (by decide), rdF_end (by decide)]; decide
theorem ex_e6 : (rdN [7, 3, 4, 7, 3, 4]).1 = 63 := by
  unfold rdN; rw [if_neg (by decide), rdF_more (by decide) (by decide) (by decide)]
  have : rdF (gs' [] (firK [7, 3, 4, 7, 3, 4]).1) (([7, 3, 4, 7, 3, 4] : List UInt8).drop (firK [7, 3, 4, 7, 3, 4]).2.1) = (63, []) := rdF_twice (by decide) (by decide) (by decide)
  rw [this]
theorem ex_e7 : (rdN [68, 12, 5, 1, 0, 0, 0, 0, 0, 0, 0, 0]).1 = 0 := by
  rw [rdN_flat (L := [(68, [5, 1, 0, 0, 0, 0, 0, 0, 0, 0])]) (by decide) (by decide) (by intro p hp; simp at hp; subst hp; exact ⟨by decide, by decide⟩) (by decide)]
/-- Read, its number alone. -/
theorem read_num (A : Option Addr) (n c : Nat) (xs : List UInt8) (w : World) (hl : xs.length = n) (hrd : Rd w A (B8 xs)) (hnil : A = none → c = 0) (hnc : n ≤ c) (hc : c ≤ 9223372036854775807) (E : Nat) (hE : (rdN xs).1 = E) :
    Calls Try.prog 12 #[.slice A n c] w fun e w' => (∃ v, e = .returned (.tuple #[v, .int .i64 E])) ∧ Fr [] w w' := by
  refine (read_any A n c xs w hl hrd hnil hnc hc).mono ?_
  rintro e w' ⟨hF, ⟨E', hE0, hr, rfl⟩ | ⟨os, A', c', hr, rfl, ho, hO⟩⟩
  · rw [hr] at hE; simp only at hE; subst hE; exact ⟨⟨_, rfl⟩, hF⟩
  · rw [hr] at hE; simp only at hE; subst hE; exact ⟨⟨_, rfl⟩, hF⟩
/-- Write, where all is well. -/
theorem write_good (A : Option Addr) (n c : Nat) (l : List Opt) (L : List (Nat × List UInt8)) (w : World) (hl : l.length = n) (hrd : RdO w A l) (hn : n ≤ 140737488351232) (hL : l.map pr = L) (hO : ∀ p ∈ L, OkP p) (ht : twP [] L = false) (h40 : (flatP L).length ≤ 40) (hd : ∀ o ∈ l, o.d.length = o.n) :
    Calls Try.prog 11 #[.slice A n c] w fun e w' => ∃ (A : Option Addr) (c : Nat), e = .returned (.tuple #[.slice A (pad4 (flatP L)).length c, .int .i64 0]) ∧ w'.ownsRow w.heap.size 5 1 (.slice A (pad4 (flatP L)).length c) (pad4 (flatP L)).length (B8 (pad4 (flatP L))) ∧ Fr [] w w' := by
  have h0 : fltN l = 0 := flt_of (by rw [hL]; exact hO) (by rw [hL]; exact ht)
  have hf : flatO l = flatP L := by rw [flat_pr hd, hL]
  refine (write_any A n c l w hl hrd hn).mono ?_
  rintro e w' ⟨hF, ⟨h, _⟩ | ⟨_, h, _⟩ | ⟨_, _, A', c', rfl, ho⟩⟩
  · exact absurd h0 h
  · rw [hf] at h; omega
  · rw [hf] at ho; exact ⟨A', c', by rw [hf], ho, hF⟩
theorem RdO.len {w : World} {A : Option Addr} {l : List Opt} (h : RdO w A l) : ∀ o ∈ l, o.d.length = o.n := fun o ho => by
  obtain ⟨i, hi, rfl⟩ := List.getElem_of_mem ho
  obtain ⟨_, _, _, _, _, h3⟩ := h i _ (List.getElem?_eq_getElem hi)
  exact h3.len
theorem rdO_lit {w : World} {l : List Opt} (t : TypeId) (h : ∀ o ∈ l, OptOk w o) : RdO (w.alloc (.cells (CO l).toArray t)) (some ⟨w.heap.size, 0, none⟩) l := fun i o hi => by
  obtain ⟨c1, c2⟩ := CO_get hi
  have r := rd_lit w (CO l) t
  obtain ⟨a1, e1, q1⟩ := r _ _ c1
  obtain ⟨a2, e2, q2⟩ := r _ _ c2
  injection e1 with e1
  injection e2 with e2
  subst e1 e2
  rw [add_pl, Nat.zero_add] at q1 q2
  exact ⟨_, 0, rfl, by simpa using q1, by simpa [Nat.add_assoc] using q2, (h o (List.mem_of_getElem? hi)).fr ((Fr.refl _ _).alloc _)⟩
theorem RdO.tail {w : World} {b off : Nat} {x : Opt} {l : List Opt} (h : RdO w (some ⟨b, off, none⟩) (x :: l)) : RdO w (some ⟨b, off + 2, none⟩) l := fun i o hi => by
  obtain ⟨b', off', e, h1, h2, h3⟩ := h (i + 1) o (by simpa using hi)
  injection e with e
  injection e with e1 e2
  subst e1 e2
  exact ⟨b, off + 2, rfl, by rw [show off + 2 + i * 2 = off + (i + 1) * 2 by omega]; exact h1, by rw [show off + 2 + i * 2 + 1 = off + (i + 1) * 2 + 1 by omega]; exact h2, h3⟩
theorem sameB_yes (A B : Option Addr) (n m c d : Nat) (xs : List UInt8) (w : World) (hx : xs.length = n) (hy : xs.length = m) (ha : Rd w A (B8 xs)) (hb : Rd w B (B8 xs)) (hn : n ≤ 9223372036854775000) :
    Calls Try.prog 21 #[.slice A n c, .slice B m d] w fun e w' => e = .returned (.bool true) ∧ Fr [] w w' := by
  refine (same_any A B n m c d xs xs w hx hy ha hb hn).mono ?_
  rintro e w' ⟨rfl, hs⟩
  exact ⟨by simp, hs.fr⟩
theorem own_blk {w : World} {B n c : Nat} {A : Option Addr} {e : TypeId} {s : Nat} {xs : List Value} (h : w.ownsRow B e s (.slice A n c) n xs) (hn : 0 < n) : ∃ g, A = some ⟨g, 0, none⟩ ∧ n ≤ c := by
  rcases h.2 with ⟨hv, _⟩ | ⟨g, cap, cur, hv, _, _, hc, _⟩
  · injection hv with _ h0; omega
  · injection hv with h1 _ h3; subst h3; exact ⟨g, h1, hc⟩
def exL : List (Nat × List UInt8) := [(1, []), (7, [4, 0, 0, 0, 0])]
theorem exL_ok : ∀ p ∈ exL, OkP p := by intro p hp; simp [exL] at hp; rcases hp with rfl | rfl <;> exact ⟨by decide, by decide⟩
theorem two_of {l : List Opt} {p q : Nat × List UInt8} (h : l.map pr = [p, q]) : ∃ a b, l = [a, b] ∧ pr a = p ∧ pr b = q := by
  match l, h with
  | [a, b], h => simp at h; exact ⟨a, b, rfl, h.1, h.2⟩
/-- The wrong bytes and what is wrong. -/
def IT : List (List UInt8 × Nat) := [([7, 6, 4, 0, 0, 0], 61), ([5], 60), ([5, 9, 0], 60), ([5, 1], 61), ([0, 0, 3], 62), ([7, 3, 4, 7, 3, 4], 63), ([68, 12, 5, 1, 0, 0, 0, 0, 0, 0, 0, 0], 0)]
theorem IT_ok : ∀ x ∈ IT, (rdN x.1).1 = x.2 ∧ x.1.length ≤ 40 ∧ x.1 ≠ [] := by
  intro x hx
  simp [IT] at hx
  rcases hx with rfl | rfl | rfl | rfl | rfl | rfl | rfl
  · exact ⟨ex_e1, by decide, by decide⟩
  · exact ⟨ex_e2, by decide, by decide⟩
  · exact ⟨ex_e3, by decide, by decide⟩
  · exact ⟨ex_e4, by decide, by decide⟩
  · exact ⟨ex_e5, by decide, by decide⟩
  · exact ⟨ex_e6, by decide, by decide⟩
  · exact ⟨ex_e7, by decide, by decide⟩
def allocR (t : TypeId) (w : World) : List (List UInt8) → World
  | [] => w
  | r :: l => allocR t (w.alloc (.cells (B8 r).toArray t)) l
theorem allocR_fr (t : TypeId) (l : List (List UInt8)) : ∀ w, Fr [] w (allocR t w l) := by
  induction l with
  | nil => intro w; exact Fr.refl _ _
  | cons r l ih => intro w; exact ((Fr.refl [] w).alloc _).trans (ih _)
theorem allocR_size (t : TypeId) (l : List (List UInt8)) : ∀ w, (allocR t w l).heap.size = w.heap.size + l.length := by
  induction l with
  | nil => intro w; rfl
  | cons r l ih => intro w; rw [allocR, ih, World.size_alloc, List.length_cons]; omega
theorem allocR_rd (t : TypeId) (l : List (List UInt8)) : ∀ (w : World) (i : Nat) (r : List UInt8), l[i]? = some r → Rd (allocR t w l) (some ⟨w.heap.size + i, 0, none⟩) (B8 r) := by
  induction l with
  | nil => intro w i r h; simp at h
  | cons x l ih =>
    intro w i r h
    cases i with
    | zero =>
      simp at h; subst h
      exact (rd_new w x t).fr (allocR_fr t l _) (by simp)
    | succ i =>
      have := ih (w.alloc (.cells (B8 x).toArray t)) i r (by simpa using h)
      rw [World.size_alloc] at this
      rw [show w.heap.size + (i + 1) = w.heap.size + 1 + i by omega]
      exact this
/-- An array of bytes and numbers reads as these. -/
def ItOk (w : World) (A : Option Addr) (B : Nat) (l : List (List UInt8 × Nat)) : Prop := ∀ i x, l[i]? = some x → ∃ b off, A = some ⟨b, off, none⟩ ∧ w.cell? ⟨b, off + i * 2, none⟩ = some (.slice (some ⟨B + i, 0, none⟩) x.1.length x.1.length) ∧ w.cell? ⟨b, off + i * 2 + 1, none⟩ = some (.int .i64 (x.2 : Nat)) ∧ Rd w (some ⟨B + i, 0, none⟩) (B8 x.1)
theorem ItOk.fr {w w' : World} {A : Option Addr} {B : Nat} {l : List (List UInt8 × Nat)} (h : ItOk w A B l) (hF : Fr [] w w') : ItOk w' A B l := fun i x hi => by
  obtain ⟨b, off, hA, h1, h2, h3⟩ := h i x hi
  exact ⟨b, off, hA, hF.cell h1 (by simp), hF.cell h2 (by simp), h3.fr hF (by simp)⟩
theorem items_ok (w13 : World) : ItOk (((((((((w13).alloc (.cells #[.int .u8 7, .int .u8 6, .int .u8 4, .int .u8 0, .int .u8 0, .int .u8 0] 5)).alloc (.cells #[.int .u8 5] 5)).alloc (.cells #[.int .u8 5, .int .u8 9, .int .u8 0] 5)).alloc (.cells #[.int .u8 5, .int .u8 1] 5)).alloc (.cells #[.int .u8 0, .int .u8 0, .int .u8 3] 5)).alloc (.cells #[.int .u8 7, .int .u8 3, .int .u8 4, .int .u8 7, .int .u8 3, .int .u8 4] 5)).alloc (.cells #[.int .u8 68, .int .u8 12, .int .u8 5, .int .u8 1, .int .u8 0, .int .u8 0, .int .u8 0, .int .u8 0, .int .u8 0, .int .u8 0, .int .u8 0, .int .u8 0] 5)).alloc (.cells #[.slice (some ⟨w13.heap.size, 0, none⟩) 6 6, .int .i64 61, .slice (some ⟨w13.heap.size + 1, 0, none⟩) 1 1, .int .i64 60, .slice (some ⟨w13.heap.size + 2, 0, none⟩) 3 3, .int .i64 60, .slice (some ⟨w13.heap.size + 3, 0, none⟩) 2 2, .int .i64 61, .slice (some ⟨w13.heap.size + 4, 0, none⟩) 3 3, .int .i64 62, .slice (some ⟨w13.heap.size + 5, 0, none⟩) 6 6, .int .i64 63, .slice (some ⟨w13.heap.size + 6, 0, none⟩) 12 12, .int .i64 0] 57)) (some ⟨w13.heap.size + 7, 0, none⟩) w13.heap.size IT ∧ Fr [] w13 (((((((((w13).alloc (.cells #[.int .u8 7, .int .u8 6, .int .u8 4, .int .u8 0, .int .u8 0, .int .u8 0] 5)).alloc (.cells #[.int .u8 5] 5)).alloc (.cells #[.int .u8 5, .int .u8 9, .int .u8 0] 5)).alloc (.cells #[.int .u8 5, .int .u8 1] 5)).alloc (.cells #[.int .u8 0, .int .u8 0, .int .u8 3] 5)).alloc (.cells #[.int .u8 7, .int .u8 3, .int .u8 4, .int .u8 7, .int .u8 3, .int .u8 4] 5)).alloc (.cells #[.int .u8 68, .int .u8 12, .int .u8 5, .int .u8 1, .int .u8 0, .int .u8 0, .int .u8 0, .int .u8 0, .int .u8 0, .int .u8 0, .int .u8 0, .int .u8 0] 5)).alloc (.cells #[.slice (some ⟨w13.heap.size, 0, none⟩) 6 6, .int .i64 61, .slice (some ⟨w13.heap.size + 1, 0, none⟩) 1 1, .int .i64 60, .slice (some ⟨w13.heap.size + 2, 0, none⟩) 3 3, .int .i64 60, .slice (some ⟨w13.heap.size + 3, 0, none⟩) 2 2, .int .i64 61, .slice (some ⟨w13.heap.size + 4, 0, none⟩) 3 3, .int .i64 62, .slice (some ⟨w13.heap.size + 5, 0, none⟩) 6 6, .int .i64 63, .slice (some ⟨w13.heap.size + 6, 0, none⟩) 12 12, .int .i64 0] 57)) ∧ (((((((((w13).alloc (.cells #[.int .u8 7, .int .u8 6, .int .u8 4, .int .u8 0, .int .u8 0, .int .u8 0] 5)).alloc (.cells #[.int .u8 5] 5)).alloc (.cells #[.int .u8 5, .int .u8 9, .int .u8 0] 5)).alloc (.cells #[.int .u8 5, .int .u8 1] 5)).alloc (.cells #[.int .u8 0, .int .u8 0, .int .u8 3] 5)).alloc (.cells #[.int .u8 7, .int .u8 3, .int .u8 4, .int .u8 7, .int .u8 3, .int .u8 4] 5)).alloc (.cells #[.int .u8 68, .int .u8 12, .int .u8 5, .int .u8 1, .int .u8 0, .int .u8 0, .int .u8 0, .int .u8 0, .int .u8 0, .int .u8 0, .int .u8 0, .int .u8 0] 5)).alloc (.cells #[.slice (some ⟨w13.heap.size, 0, none⟩) 6 6, .int .i64 61, .slice (some ⟨w13.heap.size + 1, 0, none⟩) 1 1, .int .i64 60, .slice (some ⟨w13.heap.size + 2, 0, none⟩) 3 3, .int .i64 60, .slice (some ⟨w13.heap.size + 3, 0, none⟩) 2 2, .int .i64 61, .slice (some ⟨w13.heap.size + 4, 0, none⟩) 3 3, .int .i64 62, .slice (some ⟨w13.heap.size + 5, 0, none⟩) 6 6, .int .i64 63, .slice (some ⟨w13.heap.size + 6, 0, none⟩) 12 12, .int .i64 0] 57)).heap.size = w13.heap.size + 8 := by
  have hr := allocR_rd 5 (IT.map (·.1)) w13
  have hs := allocR_size 5 (IT.map (·.1)) w13
  have hf := allocR_fr 5 (IT.map (·.1)) w13
  have hW : (((((((w13).alloc (.cells #[.int .u8 7, .int .u8 6, .int .u8 4, .int .u8 0, .int .u8 0, .int .u8 0] 5)).alloc (.cells #[.int .u8 5] 5)).alloc (.cells #[.int .u8 5, .int .u8 9, .int .u8 0] 5)).alloc (.cells #[.int .u8 5, .int .u8 1] 5)).alloc (.cells #[.int .u8 0, .int .u8 0, .int .u8 3] 5)).alloc (.cells #[.int .u8 7, .int .u8 3, .int .u8 4, .int .u8 7, .int .u8 3, .int .u8 4] 5)).alloc (.cells #[.int .u8 68, .int .u8 12, .int .u8 5, .int .u8 1, .int .u8 0, .int .u8 0, .int .u8 0, .int .u8 0, .int .u8 0, .int .u8 0, .int .u8 0, .int .u8 0] 5) = allocR 5 w13 (IT.map (·.1)) := rfl
  rw [hW]
  generalize allocR 5 w13 (IT.map (·.1)) = W at hr hs hf
  rw [show w13.heap.size + (IT.map (·.1)).length = w13.heap.size + 7 from rfl] at hs
  refine ⟨?_, hf.alloc _, by rw [World.size_alloc, hs]⟩
  rw [← hs]
  intro i x hi
  have hx : (IT.map (·.1))[i]? = some x.1 := by rw [List.getElem?_map, hi]; rfl
  have h3 := (hr i x.1 hx).fr ((Fr.refl [] W).alloc (.cells #[.slice (some ⟨w13.heap.size, 0, none⟩) 6 6, .int .i64 61, .slice (some ⟨w13.heap.size + 1, 0, none⟩) 1 1, .int .i64 60, .slice (some ⟨w13.heap.size + 2, 0, none⟩) 3 3, .int .i64 60, .slice (some ⟨w13.heap.size + 3, 0, none⟩) 2 2, .int .i64 61, .slice (some ⟨w13.heap.size + 4, 0, none⟩) 3 3, .int .i64 62, .slice (some ⟨w13.heap.size + 5, 0, none⟩) 6 6, .int .i64 63, .slice (some ⟨w13.heap.size + 6, 0, none⟩) 12 12, .int .i64 0] 57)) (by simp)
  have rl := rd_lit W [.slice (some ⟨w13.heap.size, 0, none⟩) 6 6, .int .i64 61, .slice (some ⟨w13.heap.size + 1, 0, none⟩) 1 1, .int .i64 60, .slice (some ⟨w13.heap.size + 2, 0, none⟩) 3 3, .int .i64 60, .slice (some ⟨w13.heap.size + 3, 0, none⟩) 2 2, .int .i64 61, .slice (some ⟨w13.heap.size + 4, 0, none⟩) 3 3, .int .i64 62, .slice (some ⟨w13.heap.size + 5, 0, none⟩) 6 6, .int .i64 63, .slice (some ⟨w13.heap.size + 6, 0, none⟩) 12 12, .int .i64 0] 57
  refine ⟨W.heap.size, 0, rfl, ?_, ?_, h3⟩
  · have : ([.slice (some ⟨w13.heap.size, 0, none⟩) 6 6, .int .i64 61, .slice (some ⟨w13.heap.size + 1, 0, none⟩) 1 1, .int .i64 60, .slice (some ⟨w13.heap.size + 2, 0, none⟩) 3 3, .int .i64 60, .slice (some ⟨w13.heap.size + 3, 0, none⟩) 2 2, .int .i64 61, .slice (some ⟨w13.heap.size + 4, 0, none⟩) 3 3, .int .i64 62, .slice (some ⟨w13.heap.size + 5, 0, none⟩) 6 6, .int .i64 63, .slice (some ⟨w13.heap.size + 6, 0, none⟩) 12 12, .int .i64 0] : List Value)[i * 2]? = some (.slice (some ⟨w13.heap.size + i, 0, none⟩) x.1.length x.1.length) := by
      match i, hi with
      | 0, hi => simp [IT] at hi; subst hi; rfl
      | 1, hi => simp [IT] at hi; subst hi; rfl
      | 2, hi => simp [IT] at hi; subst hi; rfl
      | 3, hi => simp [IT] at hi; subst hi; rfl
      | 4, hi => simp [IT] at hi; subst hi; rfl
      | 5, hi => simp [IT] at hi; subst hi; rfl
      | 6, hi => simp [IT] at hi; subst hi; rfl
    obtain ⟨a, e, q⟩ := rl _ _ this
    injection e with e; subst e
    rw [add_pl] at q; exact q
  · have : ([.slice (some ⟨w13.heap.size, 0, none⟩) 6 6, .int .i64 61, .slice (some ⟨w13.heap.size + 1, 0, none⟩) 1 1, .int .i64 60, .slice (some ⟨w13.heap.size + 2, 0, none⟩) 3 3, .int .i64 60, .slice (some ⟨w13.heap.size + 3, 0, none⟩) 2 2, .int .i64 61, .slice (some ⟨w13.heap.size + 4, 0, none⟩) 3 3, .int .i64 62, .slice (some ⟨w13.heap.size + 5, 0, none⟩) 6 6, .int .i64 63, .slice (some ⟨w13.heap.size + 6, 0, none⟩) 12 12, .int .i64 0] : List Value)[i * 2 + 1]? = some (.int .i64 (x.2 : Nat)) := by
      match i, hi with
      | 0, hi => simp [IT] at hi; subst hi; rfl
      | 1, hi => simp [IT] at hi; subst hi; rfl
      | 2, hi => simp [IT] at hi; subst hi; rfl
      | 3, hi => simp [IT] at hi; subst hi; rfl
      | 4, hi => simp [IT] at hi; subst hi; rfl
      | 5, hi => simp [IT] at hi; subst hi; rfl
      | 6, hi => simp [IT] at hi; subst hi; rfl
    obtain ⟨a, e, q⟩ := rl _ _ this
    injection e with e; subst e
    rw [add_pl, ← Nat.add_assoc] at q; exact q
set_option maxHeartbeats 8000000 in
theorem awake6 (w : World) : Calls Try.prog 9 #[] w fun e w' => e = .returned (.bool true) ∧ Fr [] w w' := by
  go_enter Try.func9, Try.ntmps9
  go_wp2_with fail
  have hF3 : Fr [] w (((w.alloc (.cells #[.int .u8 4, .int .u8 0, .int .u8 0, .int .u8 0, .int .u8 0] 5)).alloc (.cells #[.int .u8 7, .slice (some ⟨w.heap.size, 0, none⟩) 5 5] 35)).alloc (.cells #[.int .u8 1, .int .u8 7, .int .u8 7, .int .u8 4, .int .u8 0, .int .u8 0, .int .u8 0, .int .u8 0] 5)) := (((Fr.refl [] w).alloc _).alloc _).alloc _
  have r5 : Rd (((w.alloc (.cells #[.int .u8 4, .int .u8 0, .int .u8 0, .int .u8 0, .int .u8 0] 5)).alloc (.cells #[.int .u8 7, .slice (some ⟨w.heap.size, 0, none⟩) 5 5] 35)).alloc (.cells #[.int .u8 1, .int .u8 7, .int .u8 7, .int .u8 4, .int .u8 0, .int .u8 0, .int .u8 0, .int .u8 0] 5)) (some ⟨w.heap.size, 0, none⟩) (B8 [4, 0, 0, 0, 0]) := (rd_new w [4, 0, 0, 0, 0] 5).fr (((Fr.refl [] _).alloc _).alloc _) (by simp)
  have b1 : (((w.alloc (.cells #[.int .u8 4, .int .u8 0, .int .u8 0, .int .u8 0, .int .u8 0] 5)).alloc (.cells #[.int .u8 7, .slice (some ⟨w.heap.size, 0, none⟩) 5 5] 35)).alloc (.cells #[.int .u8 1, .int .u8 7, .int .u8 7, .int .u8 4, .int .u8 0, .int .u8 0, .int .u8 0, .int .u8 0] 5)).heap[w.heap.size + 1]? = some (.cells #[.int .u8 7, .slice (some ⟨w.heap.size, 0, none⟩) 5 5] 35 (0, 0)) := by
    refine ((Fr.refl [] _).alloc _).blk ?_ (by simp)
    rw [← World.size_alloc w (.cells #[.int .u8 4, .int .u8 0, .int .u8 0, .int .u8 0, .int .u8 0] 5)]
    exact heap_alloc_new _ _
  have r8 : Rd (((w.alloc (.cells #[.int .u8 4, .int .u8 0, .int .u8 0, .int .u8 0, .int .u8 0] 5)).alloc (.cells #[.int .u8 7, .slice (some ⟨w.heap.size, 0, none⟩) 5 5] 35)).alloc (.cells #[.int .u8 1, .int .u8 7, .int .u8 7, .int .u8 4, .int .u8 0, .int .u8 0, .int .u8 0, .int .u8 0] 5)) (some ⟨w.heap.size + 1 + 1, 0, none⟩) (B8 [1, 7, 7, 4, 0, 0, 0, 0]) := by
    have e : ((w.alloc (.cells #[.int .u8 4, .int .u8 0, .int .u8 0, .int .u8 0, .int .u8 0] 5)).alloc (.cells #[.int .u8 7, .slice (some ⟨w.heap.size, 0, none⟩) 5 5] 35)).heap.size = w.heap.size + 1 + 1 := by simp
    rw [← e]
    exact rd_new _ [1, 7, 7, 4, 0, 0, 0, 0] 5
  generalize (((w.alloc (.cells #[.int .u8 4, .int .u8 0, .int .u8 0, .int .u8 0, .int .u8 0] 5)).alloc (.cells #[.int .u8 7, .slice (some ⟨w.heap.size, 0, none⟩) 5 5] 35)).alloc (.cells #[.int .u8 1, .int .u8 7, .int .u8 7, .int .u8 4, .int .u8 0, .int .u8 0, .int .u8 0, .int .u8 0] 5)) = w3 at hF3 r5 b1 r8 ⊢
  have R5 := Lib.hid r5
  have B1 := Lib.hid b1
  have F3 := Lib.hid hF3
  clear r5 b1 hF3
  refine (read_any _ 8 8 [1, 7, 7, 4, 0, 0, 0, 0] w3 rfl r8 (fun h => by cases h) (Nat.le_refl _) (by decide)).mono ?_
  clear r8
  rintro e w4 ⟨hF4, ⟨E, hE0, hr, _⟩ | ⟨os, A, c, hr, rfl, ho, hO⟩⟩
  · rw [ex_r1] at hr
    injection hr with hr _
    exact absurd hr.symm hE0
  rw [ex_r1] at hr
  injection hr with _ hr
  have hRO := hO.rd ho
  obtain ⟨g4, rfl, hc4⟩ := own_blk ho (by rw [← List.length_map (f := pr), ← hr]; decide)
  obtain ⟨o1, o2, rfl, hp1, hp2⟩ := two_of hr.symm
  have hl2 : [o1, o2].length = 2 := rfl
  have c5 := rdO_lit (w := w4) (l := [⟨1, none, 0, 0, []⟩, ⟨7, some ⟨w.heap.size, 0, none⟩, 5, 5, [4, 0, 0, 0, 0]⟩]) 35 (by
    intro o ho; simp at ho; rcases ho with rfl | rfl
    · exact ⟨Rd.nil _ _, rfl, by decide, by decide, fun _ => rfl, Nat.le_refl _⟩
    · exact ⟨R5.out.fr hF4 (by simp), rfl, Nat.le_of_ble_eq_true rfl, Nat.le_of_ble_eq_true rfl, fun h => (by cases h), Nat.le_refl _⟩)
  have hFx : Fr [] w4 (w4.alloc (.cells (CO [⟨1, none, 0, 0, []⟩, ⟨7, some ⟨w.heap.size, 0, none⟩, 5, 5, [4, 0, 0, 0, 0]⟩]).toArray 35)) := (Fr.refl _ _).alloc _
  have cS := sameL_any (some ⟨g4, 0, none⟩) (some ⟨w4.heap.size, 0, none⟩) 2 2 c 2 [o1, o2] _ _ rfl rfl (hRO.fr hFx) c5 (by decide)
  rw [decide_eq_true (by rw [List.map_cons, List.map_cons, List.map_nil, hp1, hp2]; rfl)] at cS
  have hq0 := hF4.blk B1.out (by simp)
  have q0 := obx0 (k := 7) hq0
  have q1 := obx1 (k := 7) hq0
  have CS := Lib.hid cS
  have R5b := Lib.hid (R5.out.fr (hF4.trans hFx) (by simp))
  have B1b := Lib.hid (hFx.blk hq0 (by simp))
  have F4 := Lib.hid (F3.out.trans (hF4.trans hFx))
  have RO := Lib.hid (hRO.fr hFx)
  have HP1 := Lib.hid hp1
  have HP2 := Lib.hid hp2
  clear hF4 hFx hRO cS c5 hp1 hp2 hr ho hO hq0 F3 R5 B1 hl2
  rw [show [o1, o2].length = 2 from rfl] at hc4 ⊢
  go_wp2_with fail
  refine CS.out.mono ?_
  rintro e w5 ⟨rfl, hF5⟩
  clear CS q0 q1
  have hRO5 := RO.out.fr hF5
  have cW := write_good (some ⟨g4, 0, none⟩) 2 c [o1, o2] exL w5 rfl hRO5 (by decide) (by rw [List.map_cons, List.map_cons, List.map_nil, HP1.out, HP2.out]; rfl) exL_ok (by decide) (by decide) hRO5.len
  rw [show pad4 (flatP exL) = [1, 7, 7, 4, 0, 0, 0, 0] by decide] at cW
  have CW := Lib.hid cW
  have R5c := Lib.hid (R5b.out.fr hF5 (by simp))
  have B1c := Lib.hid (hF5.blk B1b.out (by simp))
  have F5 := Lib.hid (F4.out.trans hF5)
  have RO5 := Lib.hid hRO5
  clear cW hRO5 hF5 R5b B1b F4 RO
  go_wp2_with fail
  refine CW.out.mono ?_
  rintro e w6 ⟨A6, c6, rfl, o6, hF6⟩
  clear CW
  rw [show ([1, 7, 7, 4, 0, 0, 0, 0] : List UInt8).length = 8 from rfl] at o6 ⊢
  have hRO6 := (RO5.out.fr hF6).tail
  have cW2 := write_good (some ⟨g4, 0 + 2, none⟩) 1 (c - 1) [o2] [(7, [4, 0, 0, 0, 0])] w6 rfl hRO6 (by decide) (by rw [List.map_cons, List.map_nil, HP2.out]) (fun p hp => exL_ok p (by simp [exL] at hp ⊢; exact .inr hp)) (by decide) (by decide) hRO6.len
  rw [show pad4 (flatP [(7, [4, 0, 0, 0, 0])]) = [7, 7, 4, 0, 0, 0, 0, 0] by decide] at cW2
  have CW2 := Lib.hid cW2
  have R5d := Lib.hid (R5c.out.fr hF6 (by simp))
  have B1d := Lib.hid (hF6.blk B1c.out (by simp))
  have F6 := Lib.hid (F5.out.trans hF6)
  have O6 := Lib.hid o6
  have hc1 : ¬ c = 1 := by omega
  clear cW2 hRO6 hF6 R5c B1c F5 RO5 o6
  go_wp2_with fail
  refine CW2.out.mono ?_
  rintro e w7 ⟨A7, c7, rfl, o7, hF7⟩
  clear CW2
  rw [show ([7, 7, 4, 0, 0, 0, 0, 0] : List UInt8).length = 8 from rfl] at o7 ⊢
  have cR := record_go 7 (some ⟨w.heap.size, 0, none⟩) 5 5 [4, 0, 0, 0, 0] 167772161 1 w7 rfl (R5d.out.fr hF7 (by simp)) (by decide) (by decide) (by decide) (by decide) (by decide) (by decide) (by decide)
  rw [show recD [4, 0, 0, 0, 0] 1 167772161 = [8, 10, 0, 0, 1] by decide] at cR
  unfold OV at cR
  have q0 := obx0 (k := 7) (hF7.blk B1d.out (by simp))
  have q1 := obx1 (k := 7) (hF7.blk B1d.out (by simp))
  have CR := Lib.hid cR
  have F7 := Lib.hid (F6.out.trans hF7)
  have O67 := Lib.hid (hF7.own O6.out (by simp))
  have O7 := Lib.hid o7
  clear cR hF7 R5d B1d F6 O6 o7
  go_wp2_with fail
  refine CR.out.mono ?_
  rintro e w8 ⟨A8, c8, rfl, o8, hF8⟩
  clear CR q0 q1
  rw [show ([8, 10, 0, 0, 1] : List UInt8).length = 5 from rfl] at o8 ⊢
  unfold OV
  have hFx8 : Fr [] w8 (w8.alloc (.cells #[.int .u8 7, .slice A8 5 c8] 35)) := (Fr.refl _ _).alloc _
  have hbx8 : (w8.alloc (.cells #[.int .u8 7, .slice A8 5 c8] 35)).heap[w8.heap.size]? = some (.cells #[.int .u8 7, .slice A8 5 c8] 35 (0, 0)) := heap_alloc_new _ _
  have q0 := obx0 (k := 7) hbx8
  have q1 := obx1 (k := 7) hbx8
  have cR := record_full 7 A8 5 c8 [8, 10, 0, 0, 1] 1 (w8.alloc (.cells #[.int .u8 7, .slice A8 5 c8] 35)) rfl ((Rd.own o8).fr hFx8 (by simp)) (by decide) (by decide) (by decide) (by decide) (by decide)
  unfold OV at cR
  have CR := Lib.hid cR
  have F8 := Lib.hid (F7.out.trans (hF8.trans hFx8))
  have R6 := Lib.hid ((Rd.own O67.out).fr (hF8.trans hFx8) (by simp))
  have R7 := Lib.hid ((Rd.own O7.out).fr (hF8.trans hFx8) (by simp))
  have R8 := Lib.hid ((Rd.own o8).fr hFx8 (by simp))
  have BX8 := Lib.hid hbx8
  clear cR hF8 o8 F7 O67 O7 hbx8 hFx8
  go_wp2_with fail
  refine CR.out.mono ?_
  rintro e w9 ⟨rfl, hF9⟩
  unfold OV
  clear CR q0 q1
  have hFx9 : Fr [] w9 (w9.alloc (.cells #[.int .u8 0, .slice none 0 0] 35)) := (Fr.refl _ _).alloc _
  have F9 := Lib.hid (F8.out.trans (hF9.trans hFx9))
  have R69 := Lib.hid (R6.out.fr (hF9.trans hFx9) (by simp))
  have R79 := Lib.hid (R7.out.fr (hF9.trans hFx9) (by simp))
  have R89 := Lib.hid (R8.out.fr (hF9.trans hFx9) (by simp))
  have BX9 := Lib.hid ((hF9.trans hFx9).blk BX8.out (by simp))
  clear hF9 F8 R6 R7 R8 BX8 hFx9
  go_wp2_with fail
  have hA9 : ∀ o, Fr [] (w9.alloc (.cells #[.int .u8 0, .slice none 0 0] 35)) ((w9.alloc (.cells #[.int .u8 0, .slice none 0 0] 35)).alloc o) := fun o => (Fr.refl _ _).alloc _
  have hL9 : Rd ((w9.alloc (.cells #[.int .u8 0, .slice none 0 0] 35)).alloc (.cells #[.int .u8 1, .int .u8 7, .int .u8 7, .int .u8 4, .int .u8 0, .int .u8 0, .int .u8 0, .int .u8 0] 5)) (some ⟨w9.heap.size + 1, 0, none⟩) (B8 [1, 7, 7, 4, 0, 0, 0, 0]) := by
    have h := rd_new (w9.alloc (.cells #[.int .u8 0, .slice none 0 0] 35)) [1, 7, 7, 4, 0, 0, 0, 0] 5
    rw [World.size_alloc] at h
    exact h
  refine (sameB_yes A6 (some ⟨w9.heap.size + 1, 0, none⟩) 8 8 c6 8 [1, 7, 7, 4, 0, 0, 0, 0] _ rfl rfl (R69.out.fr (hA9 _) (by simp)) hL9 (by decide)).mono ?_
  rintro e w11 ⟨rfl, hF11⟩
  have hF12 := (hA9 _).trans hF11
  have F11 := Lib.hid (F9.out.trans hF12)
  have R711 := Lib.hid (R79.out.fr hF12 (by simp))
  have R811 := Lib.hid (R89.out.fr hF12 (by simp))
  have BX11 := Lib.hid (hF12.blk BX9.out (by simp))
  clear hF11 hF12 hA9 hL9 R69 R79 R89 BX9 F9
  go_wp2_with fail
  have hA : ∀ o, Fr [] w11 (w11.alloc o) := fun o => (Fr.refl _ _).alloc _
  refine (sameB_yes A7 (some ⟨w11.heap.size, 0, none⟩) 8 8 c7 8 [7, 7, 4, 0, 0, 0, 0, 0] _ rfl rfl (R711.out.fr (hA _) (by simp)) (rd_new w11 _ _) (by decide)).mono ?_
  rintro e w12 ⟨rfl, hF12⟩
  have hF13 := (hA _).trans hF12
  have F12 := Lib.hid (F11.out.trans hF13)
  have R812 := Lib.hid (R811.out.fr hF13 (by simp))
  have q0 := obx0 (k := 7) (hF13.blk BX11.out (by simp))
  have q1 := obx1 (k := 7) (hF13.blk BX11.out (by simp))
  clear hF12 hF13 hA R711 R811 BX11 F11
  go_wp2_with fail
  have hA : ∀ o, Fr [] w12 (w12.alloc o) := fun o => (Fr.refl _ _).alloc _
  refine (sameB_yes A8 (some ⟨w12.heap.size, 0, none⟩) 5 5 c8 5 [8, 10, 0, 0, 1] _ rfl rfl (R812.out.fr (hA _) (by simp)) (rd_new w12 _ _) (by decide)).mono ?_
  rintro e w13 ⟨rfl, hF13⟩
  have F13 := Lib.hid (F12.out.trans ((hA _).trans hF13))
  clear hF13 hA R812 q0 q1 F12
  go_wp2_with fail
  simp only [Nat.add_assoc, Nat.reduceAdd]
  obtain ⟨hI, hFI, hsI⟩ := items_ok w13
  generalize ((((((((w13).alloc (.cells #[.int .u8 7, .int .u8 6, .int .u8 4, .int .u8 0, .int .u8 0, .int .u8 0] 5)).alloc (.cells #[.int .u8 5] 5)).alloc (.cells #[.int .u8 5, .int .u8 9, .int .u8 0] 5)).alloc (.cells #[.int .u8 5, .int .u8 1] 5)).alloc (.cells #[.int .u8 0, .int .u8 0, .int .u8 3] 5)).alloc (.cells #[.int .u8 7, .int .u8 3, .int .u8 4, .int .u8 7, .int .u8 3, .int .u8 4] 5)).alloc (.cells #[.int .u8 68, .int .u8 12, .int .u8 5, .int .u8 1, .int .u8 0, .int .u8 0, .int .u8 0, .int .u8 0, .int .u8 0, .int .u8 0, .int .u8 0, .int .u8 0] 5)).alloc (.cells #[.slice (some ⟨w13.heap.size, 0, none⟩) 6 6, .int .i64 61, .slice (some ⟨w13.heap.size + 1, 0, none⟩) 1 1, .int .i64 60, .slice (some ⟨w13.heap.size + 2, 0, none⟩) 3 3, .int .i64 60, .slice (some ⟨w13.heap.size + 3, 0, none⟩) 2 2, .int .i64 61, .slice (some ⟨w13.heap.size + 4, 0, none⟩) 3 3, .int .i64 62, .slice (some ⟨w13.heap.size + 5, 0, none⟩) 6 6, .int .i64 63, .slice (some ⟨w13.heap.size + 6, 0, none⟩) 12 12, .int .i64 0] 57) = wL at hI hFI hsI ⊢
  have HI := Lib.hid hI
  have FL := Lib.hid (F13.out.trans hFI)
  clear hI hFI hsI F13
  go_loopw [98] (fun i wr => ∃ k : Nat, k ≤ 7 ∧ i = .int .i64 k ∧ Fr [] wL wr) (fun i _ => 7 - (intOf i).toNat)
  case atStart => exact ⟨0, Nat.zero_le _, rfl, Fr.refl _ _⟩
  case round =>
    obtain ⟨k, hk, rfl, hF⟩ := hrel
    by_cases hlt : k < 7
    · obtain ⟨x, hx⟩ : ∃ x, IT[k]? = some x := ⟨_, List.getElem?_eq_getElem hlt⟩
      obtain ⟨hx1, hx2, hx3⟩ := IT_ok x (List.mem_of_getElem? hx)
      obtain ⟨b, off, hA, p1, p2, p3⟩ := (HI.out.fr hF) k x hx
      injection hA with hA
      injection hA with hA1 hA2
      subst hA1 hA2
      rw [Nat.zero_add] at p1 p2
      have cN := fun W (hW : Fr [] wr W) => read_num (some ⟨w13.heap.size + k, 0, none⟩) x.1.length x.1.length x.1 W rfl (p3.fr hW (by simp)) (fun h => by cases h) (Nat.le_refl _) (by omega) x.2 hx1
      have hlti : (k : Int) < 7 := by omega
      have i0 : (0 : Int) ≤ (k : Int) ∧ (k : Int) < 7 := by omega
      have wk : IntKind.i64.wrap ((k : Int) + 1) = (k : Int) + 1 := IntWalk.i64_in _ (by omega)
      have wk2 : ((k : Int) + 1) = ((k + 1 : Nat) : Int) := by omega
      have e0 : (((x.2 : Nat) : Int) != ((x.2 : Nat) : Int)) = false := by simp
      have WK := Lib.hid wk2
      have CN := Lib.hid cN
      have HF := Lib.hid hF
      clear wk2 cN hF p3 hx hx1 hx2 hx3
      go_wp2_with fail
      refine (CN.out _ ((Fr.refl _ _).alloc _)).mono ?_
      rintro e w5 ⟨⟨v, rfl⟩, hF5⟩
      have q1 := hF5.cell (new_cell wr #[.slice (some ⟨w13.heap.size + k, 0, none⟩) x.1.length x.1.length, .int .i64 (x.2 : Nat)] 57 1 _ rfl) (by simp)
      have HFF := Lib.hid ((HF.out.trans ((Fr.refl [] _).alloc _)).trans hF5)
      clear hF5 CN p1 p2
      go_wp2_with fail
      exact ⟨⟨k + 1, by omega, by rw [WK.out], HFF.out⟩, by simp [intOf]; omega⟩
    · obtain rfl : k = 7 := by omega
      have HF := Lib.hid (FL.out.trans hF)
      clear hF
      go_wp2_with fail
      go_ret
      exact ⟨rfl, HF.out⟩
end Go.Proofs.Ytekhjpiopbkoaaa
