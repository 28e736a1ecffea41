/- Routed; the search of Find. -/
import Derived.Test.YtekhjpiopbkoaaaOls
namespace Go.Proofs.Ytekhjpiopbkoaaa
open Go.RowKit
set_option linter.unusedVariables false
set_option maxRecDepth 100000

/-- Is it a route of the source? -/
def rouB (o : Opt) : Bool := (o.k : Int) == 131 || (o.k : Int) == 137
theorem rou_any (k : Nat) (A : Option Addr) (n c : Nat) (w : World) :
    Calls Try.prog 34 #[OV k A n c] w fun e w' => e = .returned (.bool ((k : Int) == 131 || (k : Int) == 137)) ∧ Fr [] w w' := by
  have HF := Lib.hid ((Fr.refl [] w).alloc (.cells #[.int .u8 k, .slice A n c] 35))
  unfold OV
  cases h1 : ((k : Int) == 131) with
  | true =>
    go_enter Try.func34, Try.ntmps34
    go_wp2
    go_ret
    exact ⟨rfl, HF.out⟩
  | false =>
    go_enter Try.func34, Try.ntmps34
    go_wp2
    go_ret
    exact ⟨rfl, HF.out⟩
/-- Is it of this kind? -/
def fndB (kd : Nat) (o : Opt) : Bool := (o.k : Int) == (kd : Int)
theorem fnd_any (kd bk k : Nat) (A : Option Addr) (n c : Nat) (w : World) (hkd : w.cell? ⟨bk, 0, none⟩ = some (.int .u8 kd)) :
    Calls Try.prog 32 #[OV k A n c, .pointer (some ⟨bk, 0, none⟩)] w fun e w' => e = .returned (.bool ((k : Int) == (kd : Int))) ∧ Fr [] w w' := by
  have hF := (Fr.refl [] w).alloc (.cells #[.int .u8 k, .slice A n c] 35)
  have q0 := hF.cell hkd (by simp)
  have HF := Lib.hid hF
  clear hF
  unfold OV
  go_enter Try.func32, Try.ntmps32
  go_wp2
  go_ret
  exact ⟨rfl, HF.out⟩

set_option maxHeartbeats 1000000 in
theorem indexR (A : Option Addr) (n c : Nat) (l : List Opt) (w : World) (hl : l.length = n) (hrd : RdO w A l) (hn : n ≤ 140737488351232) :
    Calls Try.prog 31 #[.slice A n c, .func (.func 34) #[] #[]] w (FIdx w (idxI l rouB)) := by
  have HL := Lib.hid hl
  clear hl
  go_enter Try.func31, Try.ntmps31
  go_wp2
  go_loopw [8] (fun i wr => ∃ k : Nat, k ≤ n ∧ i = .int .i64 k ∧ (∀ j o', j < k → l[j]? = some o' → rouB o' = false) ∧ Fr [] w wr) (fun i _ => n - (intOf i).toNat)
  case atStart => exact ⟨0, Nat.zero_le _, rfl, fun j o' h => by omega, Fr.refl _ _⟩
  case round =>
    obtain ⟨k, hk, rfl, hb, hF⟩ := hrel
    by_cases hlt : k < n
    · obtain ⟨o, ho⟩ : ∃ o, l[k]? = some o := ⟨_, List.getElem?_eq_getElem (by rw [HL.out]; exact hlt)⟩
      obtain ⟨b, off, rfl, h1, h2, h3⟩ := (hrd.fr hF) k o ho
      have cF := rou_any o.k o.A o.n o.c wr
      change Calls _ _ _ _ (fun e w' => e = .returned (.bool (rouB o)) ∧ Fr [] wr w') at cF
      unfold OV at cF
      have hlti : (k : Int) < (n : Int) := by omega
      have wk : IntKind.i64.wrap ((k : Int) + 1) = (k : Int) + 1 := IntWalk.i64_in _ (by omega)
      have wk2 : ((k : Int) + 1) = ((k + 1 : Nat) : Int) := by omega
      have HO := Lib.hid ho
      have HB := Lib.hid hb
      have HF := Lib.hid hF
      have WK := Lib.hid wk2
      cases hr : rouB o with
      | false =>
        rw [hr] at cF
        have CF := Lib.hid cF
        have HR := Lib.hid hr
        clear cF ho hb hF hr h3 wk2
        go_wp2_with fail
        refine CF.out.mono ?_
        rintro e w5 ⟨rfl, hF5⟩
        have HF5 := Lib.hid (HF.out.trans hF5)
        clear hF5 h1 h2
        go_wp2_with fail
        refine ⟨⟨k + 1, by omega, by rw [WK.out], fun j o' hj hjo => ?_, HF5.out⟩, by simp [intOf]; omega⟩
        rcases Nat.lt_or_ge j k with h | h
        · exact HB.out j o' h hjo
        · obtain rfl : j = k := by omega
          rw [HO.out] at hjo
          injection hjo with hjo
          subst hjo
          exact HR.out
      | true =>
        rw [hr] at cF
        have CF := Lib.hid cF
        have HR := Lib.hid hr
        clear cF ho hb hF hr h3 wk2
        go_wp2_with fail
        refine CF.out.mono ?_
        rintro e w5 ⟨rfl, hF5⟩
        have HF5 := Lib.hid (HF.out.trans hF5)
        clear hF5 h1 h2
        go_wp2_with fail
        go_ret
        exact ⟨ret_int (idx_at HO.out (HR.out) HB.out).symm, HF5.out⟩
    · have hlti : ¬ (k : Int) < (n : Int) := by omega
      have hI := idx_no (l := l) (p := rouB) (fun j o' hj => hb j o' (by have := (List.getElem?_eq_some_iff.1 hj).1; rw [HL.out] at this; omega) hj)
      have HI := Lib.hid hI
      have HF := Lib.hid hF
      clear hI hb hF
      go_wp2_with fail
      go_ret
      exact ⟨ret_int HI.out.symm, HF.out⟩
set_option maxHeartbeats 1000000 in
theorem indexF (kd bk : Nat) (A : Option Addr) (n c : Nat) (l : List Opt) (w : World) (hl : l.length = n) (hrd : RdO w A l) (hn : n ≤ 140737488351232) (hkd : w.cell? ⟨bk, 0, none⟩ = some (.int .u8 kd)) :
    Calls Try.prog 31 #[.slice A n c, .func (.func 32) #[] #[.pointer (some ⟨bk, 0, none⟩)]] w (FIdx w (idxI l (fndB kd))) := by
  have HL := Lib.hid hl
  clear hl
  go_enter Try.func31, Try.ntmps31
  go_wp2
  go_loopw [8] (fun i wr => ∃ k : Nat, k ≤ n ∧ i = .int .i64 k ∧ (∀ j o', j < k → l[j]? = some o' → (fndB kd) o' = false) ∧ Fr [] w wr) (fun i _ => n - (intOf i).toNat)
  case atStart => exact ⟨0, Nat.zero_le _, rfl, fun j o' h => by omega, Fr.refl _ _⟩
  case round =>
    obtain ⟨k, hk, rfl, hb, hF⟩ := hrel
    by_cases hlt : k < n
    · obtain ⟨o, ho⟩ : ∃ o, l[k]? = some o := ⟨_, List.getElem?_eq_getElem (by rw [HL.out]; exact hlt)⟩
      obtain ⟨b, off, rfl, h1, h2, h3⟩ := (hrd.fr hF) k o ho
      have cF := fnd_any kd bk o.k o.A o.n o.c wr (hF.cell hkd (by simp))
      change Calls _ _ _ _ (fun e w' => e = .returned (.bool ((fndB kd) o)) ∧ Fr [] wr w') at cF
      unfold OV at cF
      have hlti : (k : Int) < (n : Int) := by omega
      have wk : IntKind.i64.wrap ((k : Int) + 1) = (k : Int) + 1 := IntWalk.i64_in _ (by omega)
      have wk2 : ((k : Int) + 1) = ((k + 1 : Nat) : Int) := by omega
      have HO := Lib.hid ho
      have HB := Lib.hid hb
      have HF := Lib.hid hF
      have WK := Lib.hid wk2
      cases hr : (fndB kd) o with
      | false =>
        rw [hr] at cF
        have CF := Lib.hid cF
        have HR := Lib.hid hr
        clear cF ho hb hF hr h3 wk2
        go_wp2_with fail
        refine CF.out.mono ?_
        rintro e w5 ⟨rfl, hF5⟩
        have HF5 := Lib.hid (HF.out.trans hF5)
        clear hF5 h1 h2
        go_wp2_with fail
        refine ⟨⟨k + 1, by omega, by rw [WK.out], fun j o' hj hjo => ?_, HF5.out⟩, by simp [intOf]; omega⟩
        rcases Nat.lt_or_ge j k with h | h
        · exact HB.out j o' h hjo
        · obtain rfl : j = k := by omega
          rw [HO.out] at hjo
          injection hjo with hjo
          subst hjo
          exact HR.out
      | true =>
        rw [hr] at cF
        have CF := Lib.hid cF
        have HR := Lib.hid hr
        clear cF ho hb hF hr h3 wk2
        go_wp2_with fail
        refine CF.out.mono ?_
        rintro e w5 ⟨rfl, hF5⟩
        have HF5 := Lib.hid (HF.out.trans hF5)
        clear hF5 h1 h2
        go_wp2_with fail
        go_ret
        exact ⟨ret_int (idx_at HO.out (HR.out) HB.out).symm, HF5.out⟩
    · have hlti : ¬ (k : Int) < (n : Int) := by omega
      have hI := idx_no (l := l) (p := (fndB kd)) (fun j o' hj => hb j o' (by have := (List.getElem?_eq_some_iff.1 hj).1; rw [HL.out] at this; omega) hj)
      have HI := Lib.hid hI
      have HF := Lib.hid hF
      clear hI hb hF
      go_wp2_with fail
      go_ret
      exact ⟨ret_int HI.out.symm, HF.out⟩
set_option maxHeartbeats 400000 in
theorem containsR (A : Option Addr) (n c : Nat) (l : List Opt) (w : World) (hl : l.length = n) (hrd : RdO w A l) (hn : n ≤ 140737488351232) :
    Calls Try.prog 33 #[.slice A n c, .func (.func 34) #[] #[]] w fun e w' => e = .returned (.bool (l.any rouB)) ∧ Fr [] w w' := by
  have cI := indexR A n c l w hl hrd hn
  rw [← idx_any]
  generalize idxI l rouB = z at cI ⊢
  have hd : decide (0 ≤ z) = decide (0 ≤ z) := rfl
  have CI := Lib.hid cI
  clear cI hl hrd hd
  go_enter Try.func33, Try.ntmps33
  go_wp2_with fail
  refine CI.out.mono ?_
  rintro e w' ⟨rfl, hF⟩
  go_wp2
  go_ret
  exact ⟨rfl, hF⟩

theorem routed_any (A : Option Addr) (n c : Nat) (l : List Opt) (w : World) (hl : l.length = n) (hrd : RdO w A l) (hn : n ≤ 140737488351232) :
    Calls Try.prog 20 #[.slice A n c] w fun e w' => e = .returned (.bool (l.any rouB)) ∧ Fr [] w w' := by
  have cI := containsR A n c l w hl hrd hn
  generalize l.any rouB = b at cI ⊢
  have CI := Lib.hid cI
  clear cI hl hrd
  go_enter Try.func20, Try.ntmps20
  go_wp2_with fail
  refine CI.out.mono ?_
  rintro e w' ⟨rfl, hF⟩
  go_wp2
  go_ret
  exact ⟨rfl, hF⟩
end Go.Proofs.Ytekhjpiopbkoaaa
