/- What is left behind the options: IndexFunc and ContainsFunc of bytes; parts. -/
import Derived.Test.YtekhjpiopbkoaaaOft
namespace Go.Proofs.Ytekhjpiopbkoaaa
open Go.RowKit
set_option linter.unusedVariables false
set_option maxRecDepth 100000

theorem nz_any (x : Nat) (w : World) : Calls Try.prog 42 #[.int .u8 x] w fun e w' => e = .returned (.bool (((x : Int)) != 0)) ∧ w = w' := by
  go_enter Try.func42, Try.ntmps42
  go_wp2
  go_ret
  exact ⟨rfl, rfl⟩
/-- Where the first byte lies that is not nought. -/
def idxNz (xs : List UInt8) : Int := match xs.findIdx? (fun x => x != 0) with
  | some i => (i : Int)
  | none => -1
theorem nz8 (x : UInt8) : (((x.toNat : Int)) != 0) = (x != 0) := by
  by_cases h : x = 0
  · subst h; rfl
  · have : x.toNat ≠ 0 := fun e => h (UInt8.toNat_inj.1 (by simpa using e))
    have h1 : ((x.toNat : Int) != 0) = true := by rw [bne_iff_ne]; omega
    have h2 : (x != 0) = true := by rw [bne_iff_ne]; exact h
    rw [h1, h2]
theorem idxNz_at {xs : List UInt8} {k : Nat} {x : UInt8} (hk : xs[k]? = some x) (hp : (x != 0) = true) (hb : ∀ j x', j < k → xs[j]? = some x' → (x' != 0) = false) : idxNz xs = (k : Int) := by
  have hlt : k < xs.length := (List.getElem?_eq_some_iff.1 hk).1
  have : xs.findIdx? (fun x => x != 0) = some k := by
    rw [List.findIdx?_eq_some_iff_getElem]
    refine ⟨hlt, ?_, fun j hj => ?_⟩
    · rw [(List.getElem?_eq_some_iff.1 hk).2]; exact hp
    · rw [hb j xs[j] hj (List.getElem?_eq_getElem (by omega))]; simp
  unfold idxNz; rw [this]
theorem idxNz_no {xs : List UInt8} (hb : ∀ (j : Nat) (x' : UInt8), xs[j]? = some x' → (x' != 0) = false) : idxNz xs = -1 := by
  have : xs.findIdx? (fun x => x != 0) = none := by
    rw [List.findIdx?_eq_none_iff]
    intro x hx
    obtain ⟨j, hj, rfl⟩ := List.getElem_of_mem hx
    exact hb j _ (List.getElem?_eq_getElem hj)
  unfold idxNz; rw [this]
theorem idxNz_any {xs : List UInt8} : decide (0 ≤ idxNz xs) = xs.any (fun x => x != 0) := by
  unfold idxNz
  cases h : xs.findIdx? (fun x => x != 0) with
  | none =>
    rw [List.findIdx?_eq_none_iff] at h
    have : xs.any (fun x => x != 0) = false := by rw [List.any_eq_false]; intro x hx; simpa using h x hx
    rw [this]; rfl
  | some i =>
    rw [List.findIdx?_eq_some_iff_getElem] at h
    obtain ⟨hi, hp, _⟩ := h
    have : xs.any (fun x => x != 0) = true := List.any_eq_true.2 ⟨xs[i], List.getElem_mem hi, hp⟩
    rw [this]; simp
set_option maxHeartbeats 1000000 in
theorem indexNz (A : Option Addr) (n c : Nat) (xs : List UInt8) (w : World) (hl : xs.length = n) (hrd : Rd w A (B8 xs)) (hn : n ≤ 140737488351232) :
    Calls Try.prog 51 #[.slice A n c, .func (.func 42) #[] #[]] w (FIdx w (idxNz xs)) := by
  have HL := Lib.hid hl
  clear hl
  go_enter Try.func51, Try.ntmps51
  go_wp2
  go_loopw [8] (fun i wr => ∃ k : Nat, k ≤ n ∧ i = .int .i64 k ∧ (∀ j x', j < k → xs[j]? = some x' → (x' != 0) = false) ∧ Fr [] w wr) (fun i _ => n - (intOf i).toNat)
  case atStart => exact ⟨0, Nat.zero_le _, rfl, fun j o' h => by omega, Fr.refl _ _⟩
  case round =>
    obtain ⟨k, hk, rfl, hb, hF⟩ := hrel
    by_cases hlt : k < n
    · obtain ⟨x, hx⟩ : ∃ x, xs[k]? = some x := ⟨_, List.getElem?_eq_getElem (by rw [HL.out]; exact hlt)⟩
      obtain ⟨a, rfl, h1⟩ := (hrd.fr hF (by simp)) k (.int .u8 x.toNat) (by rw [B8_get, hx]; rfl)
      obtain ⟨b, off, pth⟩ := a
      have cF := fun W => nz_any x.toNat W
      have hnz := nz8 x
      have hlti : (k : Int) < (n : Int) := by omega
      have wk : IntKind.i64.wrap ((k : Int) + 1) = (k : Int) + 1 := IntWalk.i64_in _ (by omega)
      have wk2 : ((k : Int) + 1) = ((k + 1 : Nat) : Int) := by omega
      have HX := Lib.hid hx
      have HB := Lib.hid hb
      have HF := Lib.hid hF
      have WK := Lib.hid wk2
      cases hr : (x != 0) with
      | false =>
        rw [hr] at hnz
        rw [hnz] at cF
        have CF := Lib.hid cF
        have HR := Lib.hid hr
        clear cF hx hb hF hr wk2 hnz
        go_wp2_with fail
        refine (CF.out _).mono ?_
        rintro e w5 ⟨rfl, rfl⟩
        clear h1
        go_wp2_with fail
        refine ⟨⟨k + 1, by omega, by rw [WK.out], fun j o' hj hjo => ?_, HF.out⟩, by simp [intOf]; omega⟩
        rcases Nat.lt_or_ge j k with h | h
        · exact HB.out j o' h hjo
        · obtain rfl : j = k := by omega
          rw [HX.out] at hjo
          injection hjo with hjo
          subst hjo
          exact HR.out
      | true =>
        rw [hr] at hnz
        rw [hnz] at cF
        have CF := Lib.hid cF
        have HR := Lib.hid hr
        clear cF hx hb hF hr wk2 hnz
        go_wp2_with fail
        refine (CF.out _).mono ?_
        rintro e w5 ⟨rfl, rfl⟩
        clear h1
        go_wp2_with fail
        go_ret
        exact ⟨ret_int (idxNz_at HX.out HR.out HB.out).symm, HF.out⟩
    · have hlti : ¬ (k : Int) < (n : Int) := by omega
      have hI := idxNz_no (xs := xs) (fun j o' hj => hb j o' (by have := (List.getElem?_eq_some_iff.1 hj).1; rw [HL.out] at this; omega) hj)
      have HI := Lib.hid hI
      have HF := Lib.hid hF
      clear hI hb hF
      go_wp2_with fail
      go_ret
      exact ⟨ret_int HI.out.symm, HF.out⟩
set_option maxHeartbeats 400000 in
theorem containsNz (A : Option Addr) (n c : Nat) (xs : List UInt8) (w : World) (hl : xs.length = n) (hrd : Rd w A (B8 xs)) (hn : n ≤ 140737488351232) :
    Calls Try.prog 41 #[.slice A n c, .func (.func 42) #[] #[]] w fun e w' => e = .returned (.bool (xs.any (fun x => x != 0))) ∧ Fr [] w w' := by
  have cI := indexNz A n c xs w hl hrd hn
  rw [← idxNz_any]
  generalize idxNz xs = z at cI ⊢
  have CI := Lib.hid cI
  clear cI hl hrd
  go_enter Try.func41, Try.ntmps41
  go_wp2_with fail
  refine CI.out.mono ?_
  rintro e w' ⟨rfl, hF⟩
  go_wp2
  go_ret
  exact ⟨rfl, hF⟩
end Go.Proofs.Ytekhjpiopbkoaaa
