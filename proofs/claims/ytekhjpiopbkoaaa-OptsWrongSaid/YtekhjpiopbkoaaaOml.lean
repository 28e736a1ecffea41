/- Lists of options and their bytes: what is written is read, what is read was written so. -/
import Derived.Test.YtekhjpiopbkoaaaOrf
namespace Go.Proofs.Ytekhjpiopbkoaaa
open Go.RowKit
set_option linter.unusedVariables false
set_option maxRecDepth 100000

theorem bt_zero (x : UInt8) (l : List UInt8) : bt (x :: l) 0 = x.toNat := rfl
theorem bt_one (x y : UInt8) (l : List UInt8) : bt (x :: y :: l) 1 = y.toNat := rfl
/-- The bytes of an option, told by kind and data. -/
def optP (p : Nat × List UInt8) : List UInt8 := if p.1 = 1 then [1] else UInt8.ofNat p.1 :: UInt8.ofNat (2 + p.2.length) :: p.2
def flatP (L : List (Nat × List UInt8)) : List UInt8 := L.flatMap optP
def OkP (p : Nat × List UInt8) : Prop := p.1 < 256 ∧ rightO p.1 p.2 = true
def twP : List Nat → List (Nat × List UInt8) → Bool
  | _, [] => false
  | gs, p :: r => if grp p.1 = 0 then twP gs r else if grp p.1 ∈ gs then true else twP (gs ++ [grp p.1]) r
theorem twP_cons {gs : List Nat} {p : Nat × List UInt8} {r : List (Nat × List UInt8)} : twP gs (p :: r) = false ↔ ¬ (grp p.1 ≠ 0 ∧ grp p.1 ∈ gs) ∧ twP (gs' gs p.1) r = false := by
  unfold gs'
  rw [twP]
  by_cases h : grp p.1 = 0
  · simp [h]
  · by_cases h2 : grp p.1 ∈ gs
    · simp [h, h2]
    · simp [h, h2]
theorem OkP.len {p : Nat × List UInt8} (h : OkP p) : p.2.length ≤ 38 := by
  have := h.2; unfold rightO at this; simp at this; exact this.1
theorem OkP.zero {p : Nat × List UInt8} (h : OkP p) : p.1 ≠ 0 := fun e => by
  have := h.2; unfold rightO demB at this; simp [e] at this
theorem OkP.nop {p : Nat × List UInt8} (h : OkP p) (h1 : p.1 = 1) : p.2 = [] := by
  have := h.2; unfold rightO demB at this; simp [h1] at this; exact this.2
theorem ofNat_nat {k : Nat} (h : k < 256) : (UInt8.ofNat k).toNat = k := by rw [UInt8.toNat_ofNat']; omega
theorem fir_opt {p : Nat × List UInt8} (h : OkP p) (r : List UInt8) : firK (optP p ++ r) = (p.1, (optP p).length, 0) ∧ firD (optP p ++ r) = p.2 ∧ ¬ ((optP p ++ r).length = 0 ∨ bt (optP p ++ r) 0 = 0) := by
  by_cases h1 : p.1 = 1
  · have e : optP p = [1] := by unfold optP; rw [if_pos h1]
    have b0 : bt ([1] ++ r) 0 = 1 := rfl
    have hk : firK ([1] ++ r) = (1, 1, 0) := by unfold firK; rw [if_pos b0]
    rw [e, hk, h1]
    refine ⟨rfl, ?_, ?_⟩
    · unfold firD; rw [if_neg (by rw [b0]; simp), h.nop h1]
    · rw [b0]; simp
  · have hl := h.len
    have e : optP p = UInt8.ofNat p.1 :: UInt8.ofNat (2 + p.2.length) :: p.2 := by unfold optP; rw [if_neg h1]
    have hz := h.zero
    have b0 : bt (optP p ++ r) 0 = p.1 := by rw [e]; exact ofNat_nat h.1
    have b1 : bt (optP p ++ r) 1 = 2 + p.2.length := by rw [e]; exact ofNat_nat (by omega)
    have hn : (optP p ++ r).length = 2 + p.2.length + r.length := by rw [e]; simp; omega
    have hd : ((optP p ++ r).take (2 + p.2.length)).drop 2 = p.2 := by
      rw [e]
      have : 2 + p.2.length = p.2.length + 1 + 1 := by omega
      rw [this]
      simp
    have hk : firK (optP p ++ r) = (p.1, 2 + p.2.length, 0) := by
      unfold firK
      rw [b0, b1, hd, if_neg h1, if_neg (by omega), if_neg (by omega), if_neg (by omega), if_pos h.2]
    refine ⟨by rw [hk, e]; simp; omega, ?_, ?_⟩
    · unfold firD; rw [hk, b0, b1, if_pos ⟨rfl, h1⟩, hd]
    · rw [b0, hn]; omega
theorem rdF_flat (L : List (Nat × List UInt8)) : ∀ gs, (∀ p ∈ L, OkP p) → twP gs L = false → ∀ z : List UInt8, z.any (fun x => x != 0) = false → rdF gs (flatP L ++ z) = (0, L) := by
  induction L with
  | nil =>
    intro gs _ _ z hz
    rw [show flatP [] ++ z = z from rfl, rdF_end, hz]
    · rfl
    · cases z with
      | nil => exact .inl rfl
      | cons x z =>
        right
        simp at hz
        rw [bt_zero, hz.1]; rfl
  | cons p L ih =>
    intro gs hO ht z hz
    have e : flatP (p :: L) ++ z = optP p ++ (flatP L ++ z) := by simp [flatP]
    obtain ⟨hk, hd, h0⟩ := fir_opt (hO p (by simp)) (flatP L ++ z)
    obtain ⟨t1, t2⟩ := twP_cons.1 ht
    rw [e, rdF_more h0 (by rw [hk]) (by rw [hk]; exact t1), hk, hd]
    simp only
    rw [show (optP p ++ (flatP L ++ z)).drop (optP p).length = flatP L ++ z by simp, ih _ (fun q hq => hO q (by simp [hq])) t2 z hz]
    rfl
theorem fir_split {ys : List UInt8} (h0 : ¬ (ys.length = 0 ∨ bt ys 0 = 0)) (h1 : (firK ys).2.2 = 0) : ys = optP ((firK ys).1, firD ys) ++ ys.drop (firK ys).2.1 ∧ OkP ((firK ys).1, firD ys) := by
  cases ys with
  | nil => exact absurd (.inl rfl) h0
  | cons x r =>
    by_cases hx : bt (x :: r) 0 = 1
    · have hk : firK (x :: r) = (1, 1, 0) := by unfold firK; rw [if_pos hx]
      have hd : firD (x :: r) = [] := by unfold firD; rw [if_neg (by rw [hx]; simp)]
      have hx1 : x = 1 := UInt8.toNat_inj.1 (by rw [bt_zero] at hx; rw [hx]; rfl)
      rw [hk, hd, hx1]
      exact ⟨rfl, by decide, by decide⟩
    · cases r with
      | nil =>
        exfalso
        unfold firK at h1
        rw [if_neg hx, if_pos (by simp)] at h1
        cases h1
      | cons y r =>
        unfold firK at h1
        rw [if_neg hx, if_neg (by simp)] at h1
        by_cases h2 : bt (x :: y :: r) 1 < 2
        · rw [if_pos h2] at h1; cases h1
        · rw [if_neg h2] at h1
          by_cases h3 : (x :: y :: r).length < bt (x :: y :: r) 1
          · rw [if_pos h3] at h1; cases h1
          · rw [if_neg h3] at h1
            by_cases h4 : rightO (bt (x :: y :: r) 0) (((x :: y :: r).take (bt (x :: y :: r) 1)).drop 2) = true
            · have hk : firK (x :: y :: r) = (bt (x :: y :: r) 0, bt (x :: y :: r) 1, 0) := by
                unfold firK; rw [if_neg hx, if_neg (by simp), if_neg h2, if_neg h3, if_pos h4]
              have hd : firD (x :: y :: r) = ((x :: y :: r).take (bt (x :: y :: r) 1)).drop 2 := by
                unfold firD; rw [hk, if_pos ⟨rfl, hx⟩]
              have hb := bt_lt (x :: y :: r) 0
              refine ⟨?_, by rw [hk]; exact hb, by rw [hk, hd]; exact h4⟩
              rw [hk, hd]
              have e0 : bt (x :: y :: r) 0 = x.toNat := rfl
              have e1 : bt (x :: y :: r) 1 = y.toNat := rfl
              rw [e0] at hx
              rw [e1] at h2 h3
              obtain ⟨m, hm⟩ : ∃ m, y.toNat = m + 1 + 1 := ⟨y.toNat - 2, by omega⟩
              rw [e0, e1, hm]
              unfold optP
              rw [if_neg hx]
              have hl : (r.take m).length = m := by
                rw [List.length_take]; simp at h3; omega
              simp only [List.take_succ_cons, List.drop_succ_cons, List.drop_zero]
              rw [hl, show UInt8.ofNat (2 + m) = y from UInt8.toNat_inj.1 (by rw [ofNat_nat (by have := y.toNat_lt; omega)]; omega), show UInt8.ofNat x.toNat = x from UInt8.toNat_inj.1 (ofNat_nat x.toNat_lt)]
              simp
            · rw [if_neg h4] at h1; cases h1
theorem rdF_sound (N : Nat) : ∀ gs (ys : List UInt8), ys.length ≤ N → (rdF gs ys).1 = 0 → ∃ z : List UInt8, ys = flatP (rdF gs ys).2 ++ z ∧ z.any (fun x => x != 0) = false ∧ (∀ p ∈ (rdF gs ys).2, OkP p) ∧ twP gs (rdF gs ys).2 = false := by
  induction N with
  | zero =>
    intro gs ys hl hz
    rw [rdF_end (.inl (by omega))] at hz ⊢
    have : ys = [] := List.eq_nil_of_length_eq_zero (by omega)
    subst this
    exact ⟨[], rfl, rfl, by simp, rfl⟩
  | succ N ih =>
    intro gs ys hl hz
    by_cases h0 : ys.length = 0 ∨ bt ys 0 = 0
    · rw [rdF_end h0] at hz ⊢
      refine ⟨ys, rfl, ?_, by simp, rfl⟩
      cases h : ys.any (fun x => x != 0) with
      | false => rfl
      | true => rw [h] at hz; cases hz
    · by_cases h1 : (firK ys).2.2 = 0
      · by_cases h2 : grp (firK ys).1 ≠ 0 ∧ grp (firK ys).1 ∈ gs
        · rw [rdF_twice h0 h1 h2] at hz; cases hz
        · rw [rdF_more h0 h1 h2] at hz ⊢
          simp only at hz ⊢
          rw [if_pos hz]
          obtain ⟨hs, hO⟩ := fir_split h0 h1
          have hsz := fir_size (xs := ys) (by omega) h1
          obtain ⟨z, e, a, o, t⟩ := ih (gs' gs (firK ys).1) (ys.drop (firK ys).2.1) (by rw [List.length_drop]; omega) hz
          refine ⟨z, ?_, a, fun p hp => ?_, twP_cons.2 ⟨h2, t⟩⟩
          · rw [show flatP (((firK ys).1, firD ys) :: (rdF (gs' gs (firK ys).1) (ys.drop (firK ys).2.1)).2) ++ z = optP ((firK ys).1, firD ys) ++ (flatP (rdF (gs' gs (firK ys).1) (ys.drop (firK ys).2.1)).2 ++ z) by simp [flatP], ← e]
            exact hs
          · rcases List.mem_cons.1 hp with rfl | hp
            · exact hO
            · exact o p hp
      · rw [rdF_bad h0 h1] at hz; exact absurd hz h1
/-- Options in memory as pairs. -/
def pr (o : Opt) : Nat × List UInt8 := (o.k, o.d)
theorem flat_pr {l : List Opt} (h : ∀ o ∈ l, o.d.length = o.n) : flatO l = flatP (l.map pr) := by
  induction l with
  | nil => rfl
  | cons o l ih =>
    have h1 : optB o = optP (pr o) := by unfold optB optP pr; rw [h o (by simp)]
    have h2 := ih (fun x hx => h x (by simp [hx]))
    unfold flatO flatP at h2 ⊢
    simp only [List.map_cons, List.flatMap_cons, h1, h2]
theorem tw_pr (l : List Opt) : ∀ gs, twB gs l = twP gs (l.map pr) := by
  induction l with
  | nil => intro gs; rfl
  | cons o l ih =>
    intro gs
    rw [List.map_cons, twB, twP]
    simp only [ih]
    rfl
theorem flt_zero {l : List Opt} : fltN l = 0 ↔ (∀ o ∈ l, rightO o.k o.d = true) ∧ twB [] l = false := by
  unfold fltN
  cases h : l.any badO with
  | true =>
    rw [if_pos rfl]
    refine ⟨fun e => (by cases e), fun ⟨h1, _⟩ => ?_⟩
    obtain ⟨o, ho, hb⟩ := List.any_eq_true.1 h
    unfold badO at hb
    rw [h1 o ho] at hb; cases hb
  | false =>
    have h1 : ∀ o ∈ l, rightO o.k o.d = true := fun o ho => by
      have := List.any_eq_false.1 h o ho
      unfold badO at this
      simpa using this
    rw [if_neg (by simp)]
    cases twB [] l with
    | true => simp
    | false => exact ⟨fun _ => ⟨h1, rfl⟩, fun _ => rfl⟩
theorem flt_of {l : List Opt} (h1 : ∀ p ∈ l.map pr, OkP p) (h2 : twP [] (l.map pr) = false) : fltN l = 0 :=
  flt_zero.2 ⟨fun o ho => (h1 (pr o) (List.mem_map_of_mem ho)).2, by rw [tw_pr]; exact h2⟩
end Go.Proofs.Ytekhjpiopbkoaaa
