/- OptsAgain. -/
import Derived.Test.YtekhjpiopbkoaaaOaw
namespace Go.Proofs.Ytekhjpiopbkoaaa
open Go.RowKit
set_option linter.unusedVariables false
set_option maxRecDepth 100000

theorem all0_get {z : List UInt8} (h : z.any (fun x => x != 0) = false) {i : Nat} {x : UInt8} (hx : z[i]? = some x) : x = 0 := by
  have := List.any_eq_false.1 h x (List.mem_of_getElem? hx)
  simpa using this
/-- The bytes of what is read and written again: the same, up to noughts. -/
theorem again_same {xs F z : List UInt8} (hx : xs = F ++ z) (hz : z.any (fun x => x != 0) = false) (i : Nat) : xs.getD i 0 = (pad4 F).getD i 0 := by
  subst hx
  unfold pad4
  rw [List.getD_eq_getElem?_getD, List.getD_eq_getElem?_getD]
  rcases Nat.lt_or_ge i F.length with h | h
  · rw [List.getElem?_append_left h, List.getElem?_append_left h]
  · rw [List.getElem?_append_right h, List.getElem?_append_right h]
    have h1 : z[i - F.length]?.getD 0 = 0 := by
      cases e : z[i - F.length]? with
      | none => rfl
      | some x => exact all0_get hz e
    have h2 : (List.replicate (padN F.length) (0 : UInt8))[i - F.length]?.getD 0 = 0 := by
      rw [List.getElem?_replicate]; split <;> rfl
    rw [h1, h2]
theorem pad4_le {F : List UInt8} (h : F.length ≤ 40) : (pad4 F).length ≤ 40 := by
  unfold pad4 padN; simp; omega
theorem getD_some {xs : List UInt8} {k : Nat} (h : k < xs.length) : xs[k]? = some (xs.getD k 0) := by
  rw [List.getD_eq_getElem?_getD, List.getElem?_eq_getElem h]; rfl
theorem getD_none {xs : List UInt8} {k : Nat} (h : xs.length ≤ k) : xs.getD k 0 = 0 := by
  rw [List.getD_eq_getElem?_getD, List.getElem?_eq_none h]; rfl
/-- What is read of at most 40 bytes, seen as bytes again. -/
theorem rdN_sound {xs : List UInt8} {L : List (Nat × List UInt8)} (h : rdN xs = (0, L)) : xs.length ≤ 40 ∧ ∃ z : List UInt8, xs = flatP L ++ z ∧ z.any (fun x => x != 0) = false ∧ (∀ p ∈ L, OkP p) ∧ twP [] L = false := by
  unfold rdN at h
  split at h
  · injection h with h; cases h
  · have h2 := rdF_sound xs.length [] xs (Nat.le_refl _) (by rw [h])
    rw [h] at h2
    exact ⟨by omega, h2⟩
theorem flatP_len (L : List (Nat × List UInt8)) : L.length ≤ (flatP L).length := by
  induction L with
  | nil => exact Nat.le_refl _
  | cons p L ih =>
    have h : 1 ≤ (optP p).length := by unfold optP; split <;> simp
    simp only [flatP, List.flatMap_cons, List.length_append, List.length_cons] at ih ⊢
    omega
set_option maxHeartbeats 8000000 in
theorem optsAgain_any (A : Option Addr) (n c : Nat) (xs : List UInt8) (w : World) (hl : xs.length = n) (hrd : Rd w A (B8 xs)) (hnil : A = none → c = 0) (hnc : n ≤ c) (hcm : c ≤ maxLen) :
    Calls Try.prog 4 #[.slice A n c] w fun e w' => e = .returned (.bool true) ∧ Fr [] w w' := by
  have cA := awake6 w
  have cR := fun W (hW : Fr [] w W) => read_any A n c xs W hl (hrd.fr hW (by simp)) hnil hnc (by simp only [maxLen] at hcm; omega)
  have HRD := Lib.hid hrd
  have HL := Lib.hid hl
  have CR := Lib.hid cR
  clear hrd hl cR
  go_enter Try.func4, Try.ntmps4
  go_wp2_with fail
  refine cA.mono ?_
  rintro e wa ⟨rfl, hFa⟩
  clear cA
  go_wp2_with fail
  refine (CR.out _ hFa).mono ?_
  rintro e w1 ⟨hF1, ⟨E, hE0, hr, rfl⟩ | ⟨os, A', c', hr, rfl, ho, hO⟩⟩
  · have HF := Lib.hid (hFa.trans hF1)
    have e0 : (((E : Nat) : Int) != 0) = true := by rw [bne_iff_ne]; omega
    clear hF1 hFa hr hE0 CR
    by_cases h60 : n ≤ 60
    · have d0 : decide ((60 : Int) < (n : Int)) = false := decide_eq_false (by omega)
      have d1 : ¬ (60 : Int) < (n : Int) := by omega
      clear h60
      go_wp2_with fail
      go_ret
      exact ⟨rfl, HF.out⟩
    · have d0 : decide ((60 : Int) < (n : Int)) = true := decide_eq_true (by omega)
      have d1 : (60 : Int) < (n : Int) := by omega
      clear h60
      go_wp2_with fail
      go_ret
      exact ⟨rfl, HF.out⟩
  · obtain ⟨h40, z, hxz, hz, hOk, htw⟩ := rdN_sound hr
    rw [HL.out] at h40
    have hRO := hO.rd ho
    have hfl : (flatP (os.map pr)).length ≤ 40 := by
      have := congrArg List.length hxz; rw [List.length_append, HL.out] at this; omega
    have hos : os.length ≤ 40 := by
      have := flatP_len (os.map pr); rw [List.length_map] at this; omega
    have cW := write_good A' os.length c' os (os.map pr) w1 rfl hRO (by omega) rfl hOk htw hfl hRO.len
    have hm40 := pad4_le hfl
    have hsame := again_same hxz hz
    generalize pad4 (flatP (os.map pr)) = ys at cW hm40 hsame
    obtain ⟨m, hm⟩ : ∃ m, m = ys.length := ⟨_, rfl⟩
    rw [← hm] at cW hm40
    have d0 : decide ((60 : Int) < (n : Int)) = false := decide_eq_false (by omega)
    have d1 : ¬ (60 : Int) < (n : Int) := by omega
    have CW := Lib.hid cW
    have HSAME := Lib.hid hsame
    have HM := Lib.hid hm
    have HF := Lib.hid (hFa.trans hF1)
    clear hFa hF1 cW hsame hm ho hO hRO hr hOk htw hxz hz hfl CR
    go_wp2_with fail
    refine CW.out.mono ?_
    rintro e w2 ⟨A2, c2, rfl, o2, hF2⟩
    have HF2 := Lib.hid (HF.out.trans hF2)
    have O2 := Lib.hid o2
    have d2 : decide ((40 : Int) < (m : Int)) = false := decide_eq_false (by omega)
    have d3 : ¬ (40 : Int) < (m : Int) := by omega
    clear CW HF hF2 o2
    rcases Nat.lt_or_ge n m with hnm | hnm
    · have dm : n < m := hnm
      have dmi : (n : Int) < (m : Int) := by omega
      clear d2 d3
      have d2 : decide ((40 : Int) < (m : Int)) = false := decide_eq_false (by omega)
      go_wp2_with fail
      go_loopw [48] (fun i wr => ∃ k : Nat, k ≤ m ∧ i = .int .i64 k ∧ Fr [] w2 wr) (fun i _ => m - (intOf i).toNat)
      case atStart => exact ⟨0, Nat.zero_le _, rfl, Fr.refl _ _⟩
      case round =>
        obtain ⟨k, hk, rfl, hF⟩ := hrel
        by_cases hlt : k < m
        · have hlti : (k : Int) < (m : Int) := by omega
          have wk : IntKind.i64.wrap ((k : Int) + 1) = (k : Int) + 1 := IntWalk.i64_in _ (by omega)
          have wk2 : ((k : Int) + 1) = ((k + 1 : Nat) : Int) := by omega
          have WK := Lib.hid wk2
          have hs := HSAME.out k
          have rx := HRD.out.fr (HF2.out.trans hF) (by simp)
          have ry := (Rd.own O2.out).fr hF (by simp)
          have HF := Lib.hid hF
          clear wk2 hF
          by_cases ho : k < n
          · have dn : (k : Int) < (n : Int) := by omega
            have dmm : (k : Int) < (m : Int) := by omega
            have dnN : decide (k < n) = true := decide_eq_true (by omega)
            have dmN : decide (k < m) = true := decide_eq_true (by omega)
            have hxk := getD_some (xs := xs) (k := k) (by rw [HL.out]; omega)
            obtain ⟨ax, rfl, qx⟩ := rx k (.int .u8 (xs.getD k 0).toNat) (by rw [B8_get, hxk]; rfl)
            have ix : (0 : Int) ≤ (k : Int) ∧ (k : Int) < (n : Int) := by omega
            have hyk := getD_some (xs := ys) (k := k) (by rw [← HM.out]; omega)
            obtain ⟨ay, rfl, qy⟩ := ry k (.int .u8 (ys.getD k 0).toNat) (by rw [B8_get, hyk]; rfl)
            have iy : (0 : Int) ≤ (k : Int) ∧ (k : Int) < (m : Int) := by omega
            rw [← hs] at qy
            have e0 : (((xs.getD k 0).toNat : Int) != ((xs.getD k 0).toNat : Int)) = false := by simp
            generalize (xs.getD k 0).toNat = v at qx qy e0
            clear hs hxk hyk rx ry
            go_wp2_with fail
            exact ⟨⟨k + 1, by omega, by rw [WK.out], HF.out⟩, by simp [intOf]; omega⟩
          · have dn : ¬ (k : Int) < (n : Int) := by omega
            have dmm : (k : Int) < (m : Int) := by omega
            have dnN : decide (k < n) = false := decide_eq_false (by omega)
            have dmN : decide (k < m) = true := decide_eq_true (by omega)
            have hxk := getD_none (xs := xs) (k := k) (by rw [HL.out]; omega)
            rw [hxk] at hs
            have hyk := getD_some (xs := ys) (k := k) (by rw [← HM.out]; omega)
            obtain ⟨ay, rfl, qy⟩ := ry k (.int .u8 (ys.getD k 0).toNat) (by rw [B8_get, hyk]; rfl)
            have iy : (0 : Int) ≤ (k : Int) ∧ (k : Int) < (m : Int) := by omega
            rw [← hs] at qy
            clear hs hxk hyk rx ry
            go_wp2_with fail
            exact ⟨⟨k + 1, by omega, by rw [WK.out], HF.out⟩, by simp [intOf]; omega⟩
        · obtain rfl : k = m := by omega
          have hlti : ¬ (k : Int) < (k : Int) := by omega
          have HF := Lib.hid (HF2.out.trans hF)
          clear hF
          go_wp2_with fail
          go_ret
          exact ⟨rfl, HF.out⟩
    · have dm : ¬ n < m := Nat.not_lt.2 hnm
      have dmi : ¬ (n : Int) < (m : Int) := by omega
      clear d2 d3
      have d2 : decide ((40 : Int) < (m : Int)) = false := decide_eq_false (by omega)
      go_wp2_with fail
      go_loopw [48] (fun i wr => ∃ k : Nat, k ≤ n ∧ i = .int .i64 k ∧ Fr [] w2 wr) (fun i _ => n - (intOf i).toNat)
      case atStart => exact ⟨0, Nat.zero_le _, rfl, Fr.refl _ _⟩
      case round =>
        obtain ⟨k, hk, rfl, hF⟩ := hrel
        by_cases hlt : k < n
        · have hlti : (k : Int) < (n : Int) := by omega
          have wk : IntKind.i64.wrap ((k : Int) + 1) = (k : Int) + 1 := IntWalk.i64_in _ (by omega)
          have wk2 : ((k : Int) + 1) = ((k + 1 : Nat) : Int) := by omega
          have WK := Lib.hid wk2
          have hs := HSAME.out k
          have rx := HRD.out.fr (HF2.out.trans hF) (by simp)
          have ry := (Rd.own O2.out).fr hF (by simp)
          have HF := Lib.hid hF
          clear wk2 hF
          by_cases ho : k < m
          · have dn : (k : Int) < (n : Int) := by omega
            have dmm : (k : Int) < (m : Int) := by omega
            have dnN : decide (k < n) = true := decide_eq_true (by omega)
            have dmN : decide (k < m) = true := decide_eq_true (by omega)
            have hxk := getD_some (xs := xs) (k := k) (by rw [HL.out]; omega)
            obtain ⟨ax, rfl, qx⟩ := rx k (.int .u8 (xs.getD k 0).toNat) (by rw [B8_get, hxk]; rfl)
            have ix : (0 : Int) ≤ (k : Int) ∧ (k : Int) < (n : Int) := by omega
            have hyk := getD_some (xs := ys) (k := k) (by rw [← HM.out]; omega)
            obtain ⟨ay, rfl, qy⟩ := ry k (.int .u8 (ys.getD k 0).toNat) (by rw [B8_get, hyk]; rfl)
            have iy : (0 : Int) ≤ (k : Int) ∧ (k : Int) < (m : Int) := by omega
            rw [← hs] at qy
            have e0 : (((xs.getD k 0).toNat : Int) != ((xs.getD k 0).toNat : Int)) = false := by simp
            generalize (xs.getD k 0).toNat = v at qx qy e0
            clear hs hxk hyk rx ry
            go_wp2_with fail
            exact ⟨⟨k + 1, by omega, by rw [WK.out], HF.out⟩, by simp [intOf]; omega⟩
          · have dn : (k : Int) < (n : Int) := by omega
            have dmm : ¬ (k : Int) < (m : Int) := by omega
            have dnN : decide (k < n) = true := decide_eq_true (by omega)
            have dmN : decide (k < m) = false := decide_eq_false (by omega)
            have hxk := getD_some (xs := xs) (k := k) (by rw [HL.out]; omega)
            obtain ⟨ax, rfl, qx⟩ := rx k (.int .u8 (xs.getD k 0).toNat) (by rw [B8_get, hxk]; rfl)
            have ix : (0 : Int) ≤ (k : Int) ∧ (k : Int) < (n : Int) := by omega
            have hyk := getD_none (xs := ys) (k := k) (by rw [← HM.out]; omega)
            rw [hyk] at hs
            rw [hs] at qx
            clear hs hxk hyk rx ry
            go_wp2_with fail
            exact ⟨⟨k + 1, by omega, by rw [WK.out], HF.out⟩, by simp [intOf]; omega⟩
        · obtain rfl : k = n := by omega
          have hlti : ¬ (k : Int) < (k : Int) := by omega
          have HF := Lib.hid (HF2.out.trans hF)
          clear hF
          go_wp2_with fail
          go_ret
          exact ⟨rfl, HF.out⟩
end Go.Proofs.Ytekhjpiopbkoaaa
