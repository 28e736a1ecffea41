/- OptsBack. -/
import Derived.Test.YtnollgbfgkjmlaaOmw
namespace Go.Proofs.Ytnollgbfgkjmlaa
open Go.RowKit
set_option linter.unusedVariables false
set_option maxRecDepth 100000

theorem pad4_mod (F : List UInt8) : (pad4 F).length % 4 = 0 ∧ F.length ≤ (pad4 F).length ∧ (pad4 F).length < F.length + 4 := by
  unfold pad4 padN; simp; omega
theorem pad4_zero (F : List UInt8) (j : Nat) (h : F.length + j < (pad4 F).length) : (pad4 F)[F.length + j]? = some 0 := by
  unfold pad4 at h ⊢
  rw [List.getElem?_append_right (by omega), List.getElem?_replicate, if_pos (by simp at h; omega)]
theorem rdN_pad {L : List (Nat × List UInt8)} (h40 : (flatP L).length ≤ 40) (hO : ∀ p ∈ L, OkP p) (ht : twP [] L = false) : rdN (pad4 (flatP L)) = (0, L) := by
  have := pad4_le h40
  unfold rdN
  rw [if_neg (by omega)]
  refine rdF_flat L [] hO ht _ ?_
  rw [List.any_eq_false]
  intro x hx
  rw [(List.mem_replicate.1 hx).2]; simp
theorem own_nil0 {w : World} {B n c : Nat} {A : Option Addr} {e : TypeId} {s : Nat} {xs : List Value} (h : w.ownsRow B e s (.slice A n c) n xs) (hA : A = none) : c = 0 := by
  rcases h.2 with ⟨hv, _⟩ | ⟨g, cap, cur, hv, _⟩
  · injection hv
  · injection hv with h1; rw [hA] at h1; cases h1
theorem own_cap {w : World} {B n c : Nat} {A : Option Addr} {e : TypeId} {s : Nat} {xs : List Value} (h : w.ownsRow B e s (.slice A n c) n xs) : n ≤ c ∧ c ≤ 9223372036854775807 := by
  obtain ⟨A', c', hv, h1, h2, _⟩ := own_slice h
  injection hv with _ _ h3
  subst h3
  simp only [maxLen] at h2
  exact ⟨h1, by omega⟩
set_option maxHeartbeats 8000000 in
theorem optsBack_any (A : Option Addr) (n c : Nat) (l : List SmO) (w : World) (hl : l.length = n) (hnc : n ≤ c) (hrd : RdSm w A l) :
    Calls Try.prog 3 #[.slice A n c] w fun e w' => e = .returned (.bool true) ∧ Fr [] w w' := by
  have cA := awake6 w
  have cM := fun W (hW : Fr [] w W) => made_any A n c l W hl hnc (hrd.fr hW)
  have CM := Lib.hid cM
  clear hrd hl cM
  go_enter Try.func3, Try.ntmps3
  go_wp2_with fail
  refine cA.mono ?_
  rintro e wa ⟨rfl, hFa⟩
  clear cA
  go_wp2_with fail
  refine (CM.out _ hFa).mono ?_
  rintro e w1 ⟨os, A1, c1, rfl, ho1, hO1, hm1, hF1⟩
  have hI := mkAll_inv (l.take 40)
  generalize mkAll (l.take 40) = st at hm1 hI ⊢
  obtain ⟨L, N, ms⟩ := st
  simp only at hm1 hI ⊢
  have hN : N = (flatP L).length := hI.n
  have h40 : (flatP L).length ≤ 40 := by rw [← hN]; exact hI.le
  have hok := hI.ok
  have htw := hI.tw
  simp only at hok htw
  have hol : os.length ≤ 40 := by have := flatP_len L; rw [← hm1, List.length_map] at this; rw [hm1] at this; omega
  have hRO := hO1.rd ho1
  have cW := write_good A1 os.length c1 os L w1 rfl hRO (by omega) hm1 hok htw h40 hRO.len
  obtain ⟨p4, pN, pN4⟩ := pad4_mod (flatP L)
  have hp40 := pad4_le h40
  have hz0 := pad4_zero (flatP L)
  have hrN := rdN_pad h40 hok htw
  obtain ⟨P, hP⟩ : ∃ P, P = pad4 (flatP L) := ⟨_, rfl⟩
  rw [← hP] at cW p4 pN pN4 hp40 hz0 hrN
  rw [← hN] at pN pN4 hz0
  obtain ⟨p, hp⟩ : ∃ p, p = P.length := ⟨_, rfl⟩
  rw [← hp] at cW p4 pN pN4 hp40 hz0
  have CW := Lib.hid cW
  have HP := Lib.hid hp
  have HZ0 := Lib.hid hz0
  have HRN := Lib.hid hrN
  have HOK := Lib.hid hok
  have HM1 := Lib.hid hm1
  have HRO := Lib.hid hRO
  have HF1 := Lib.hid (hFa.trans hF1)
  clear cW hp hz0 hrN hok htw hm1 hRO hF1 hFa ho1 hO1 hI hN h40 hP CM
  go_wp2_with fail
  refine CW.out.mono ?_
  rintro e w2 ⟨A2, c2, rfl, o2, hF2⟩
  obtain ⟨hpc, hcm⟩ := own_cap o2
  have cR := read_any A2 p c2 P w2 HP.out.symm (Rd.own o2) (own_nil0 o2) hpc hcm
  have CR := Lib.hid cR
  have O2 := Lib.hid o2
  have HF2 := Lib.hid (HF1.out.trans hF2)
  have HRO2 := Lib.hid (HRO.out.fr hF2)
  clear cR o2 hF2 CW HF1 HRO
  go_wp2_with fail
  refine CR.out.mono ?_
  rintro e w3 ⟨hF3, ⟨E, hE0, hr, _⟩ | ⟨os3, A3, c3, hr, rfl, ho3, hO3⟩⟩
  · rw [HRN.out] at hr; injection hr with hr _; exact absurd hr.symm hE0
  rw [HRN.out] at hr
  injection hr with _ hr
  have cS := sameL_any A3 A1 os3.length os.length c3 c1 os3 os w3 rfl rfl (hO3.rd ho3) (HRO2.out.fr hF3) (by have := congrArg List.length hr; rw [List.length_map, ← HM1.out, List.length_map] at this; omega)
  rw [decide_eq_true (by rw [HM1.out, hr])] at cS
  have CS := Lib.hid cS
  have HF3 := Lib.hid (HF2.out.trans hF3)
  have HRO3 := Lib.hid (HRO2.out.fr hF3)
  have O3 := Lib.hid (hF3.own O2.out (by simp))
  have m4 : (p : Int) % 4 = 0 := by omega
  have d1 : decide ((p : Int) < (N : Int)) = false := decide_eq_false (by omega)
  have d1' : decide (p < N) = false := decide_eq_false (by omega)
  have d2 : decide ((N : Int) + 4 ≤ (p : Int)) = false := decide_eq_false (by omega)
  have d3 : ¬ (N : Int) + 4 ≤ (p : Int) := by omega
  have d4 : ¬ (p : Int) < (N : Int) := by omega
  have w4 : IntKind.i64.wrap ((N : Int) + 4) = (N : Int) + 4 := IntWalk.i64_in _ (by omega)
  clear cS hF3 hr ho3 hO3 CR HF2 HRO2 O2
  go_wp2_with fail
  refine CS.out.mono ?_
  rintro e w5 ⟨rfl, hF5⟩
  have HF5 := Lib.hid (HF3.out.trans hF5)
  have HRO5 := Lib.hid (HRO3.out.fr hF5)
  have O5 := Lib.hid (hF5.own O3.out (by simp))
  clear hF5 CS HF3 HRO3 O3
  have hgr : ∀ (k : Nat) (o : Opt), os[k]? = some o → rightO o.k o.d = true := fun k o ho => (HOK.out (pr o) (by rw [← HM1.out]; exact List.mem_map_of_mem (List.mem_of_getElem? ho))).2
  have HGR := Lib.hid hgr
  clear hgr
  rcases O5.out.2 with ⟨hv, hp0⟩ | ⟨g, cap, cur, hv, _⟩
  · injection hv with hv1 hv2 hv3
    subst hv1 hv2 hv3
    obtain rfl : N = 0 := by omega
    go_wp2_with fail
    clear m4 d1 d1' d2 d3 d4 w4
    go_loopw [61] (fun i wr => ∃ k : Nat, k ≤ os.length ∧ i = .int .i64 k ∧ Fr [] w5 wr) (fun i _ => os.length - (intOf i).toNat)
    case atStart => exact ⟨0, Nat.zero_le _, rfl, Fr.refl _ _⟩
    case round =>
      obtain ⟨k, hk, rfl, hF⟩ := hrel
      by_cases hlt : k < os.length
      · obtain ⟨o, ho⟩ : ∃ o, os[k]? = some o := ⟨_, List.getElem?_eq_getElem hlt⟩
        obtain ⟨b, off, rfl, h1, h2, h3⟩ := (HRO5.out.fr hF) k o ho
        have cF := fun W (hW : Fr [] wr W) => right6_any o.k o.A o.n o.c o.d W h3.len (h3.rd.fr hW (by simp)) h3.n h3.k
        rw [HGR.out k o ho] at cF
        unfold OV at cF
        have hlti : (k : Int) < (os.length : Int) := by omega
        have i0 : (0 : Int) ≤ (k : Int) ∧ (k : Int) < (os.length : Int) := by omega
        have wk : IntKind.i64.wrap ((k : Int) + 1) = (k : Int) + 1 := IntWalk.i64_in _ (by omega)
        have wk2 : ((k : Int) + 1) = ((k + 1 : Nat) : Int) := by omega
        have WK := Lib.hid wk2
        have CF := Lib.hid cF
        have HF := Lib.hid hF
        clear wk2 cF hF ho h3
        go_wp2_with fail
        refine (CF.out _ ((Fr.refl _ _).alloc _)).mono ?_
        rintro e w6 ⟨rfl, hF6⟩
        have HFF := Lib.hid ((HF.out.trans ((Fr.refl [] _).alloc _)).trans hF6)
        clear hF6 CF h1 h2
        go_wp2_with fail
        exact ⟨⟨k + 1, by omega, by rw [WK.out], HFF.out⟩, by simp [intOf]; omega⟩
      · obtain rfl : k = os.length := by omega
        have hlti : ¬ (os.length : Int) < (os.length : Int) := by omega
        have HF := Lib.hid hF
        clear hF
        go_wp2_with fail
        go_loopw [73] (fun i wr => i = .int .i64 0 ∧ Fr [] w wr) (fun i _ => 0)
        case atStart => exact ⟨rfl, HF5.out.trans HF.out⟩
        case round =>
          obtain ⟨rfl, hF⟩ := hrel
          have HF := Lib.hid hF
          clear hF
          go_wp2_with fail
          go_ret
          exact ⟨rfl, HF.out⟩
  · injection hv with hv1 hv2 hv3
    subst hv1
    clear hv2 hv3
    go_wp2_with fail
    clear m4 d1 d1' d2 d3 d4 w4
    go_loopw [61] (fun i wr => ∃ k : Nat, k ≤ os.length ∧ i = .int .i64 k ∧ Fr [] w5 wr) (fun i _ => os.length - (intOf i).toNat)
    case atStart => exact ⟨0, Nat.zero_le _, rfl, Fr.refl _ _⟩
    case round =>
      obtain ⟨k, hk, rfl, hF⟩ := hrel
      by_cases hlt : k < os.length
      · obtain ⟨o, ho⟩ : ∃ o, os[k]? = some o := ⟨_, List.getElem?_eq_getElem hlt⟩
        obtain ⟨b, off, rfl, h1, h2, h3⟩ := (HRO5.out.fr hF) k o ho
        have cF := fun W (hW : Fr [] wr W) => right6_any o.k o.A o.n o.c o.d W h3.len (h3.rd.fr hW (by simp)) h3.n h3.k
        rw [HGR.out k o ho] at cF
        unfold OV at cF
        have hlti : (k : Int) < (os.length : Int) := by omega
        have i0 : (0 : Int) ≤ (k : Int) ∧ (k : Int) < (os.length : Int) := by omega
        have wk : IntKind.i64.wrap ((k : Int) + 1) = (k : Int) + 1 := IntWalk.i64_in _ (by omega)
        have wk2 : ((k : Int) + 1) = ((k + 1 : Nat) : Int) := by omega
        have WK := Lib.hid wk2
        have CF := Lib.hid cF
        have HF := Lib.hid hF
        clear wk2 cF hF ho h3
        go_wp2_with fail
        refine (CF.out _ ((Fr.refl _ _).alloc _)).mono ?_
        rintro e w6 ⟨rfl, hF6⟩
        have HFF := Lib.hid ((HF.out.trans ((Fr.refl [] _).alloc _)).trans hF6)
        clear hF6 CF h1 h2
        go_wp2_with fail
        exact ⟨⟨k + 1, by omega, by rw [WK.out], HFF.out⟩, by simp [intOf]; omega⟩
      · obtain rfl : k = os.length := by omega
        have hlti : ¬ (os.length : Int) < (os.length : Int) := by omega
        have HF := Lib.hid hF
        clear hF
        obtain ⟨E, hE⟩ : ∃ E : Option Addr, E = if c2 = N then some ⟨g, 0, none⟩ else some ⟨g, N, none⟩ := ⟨_, rfl⟩
        have hif := hE.symm
        have hEr : ∀ W, Fr [] w5 W → ∀ j, j < p - N → ∃ b o, E = some ⟨b, o, none⟩ ∧ W.cell? ⟨b, o + j, none⟩ = some (.int .u8 0) := fun W hW j hj => by
          have hz := HZ0.out j (by omega)
          have hc := (Rd.own O5.out).fr hW (by simp) (N + j) (.int .u8 0) (by rw [B8_get, hz]; rfl)
          obtain ⟨ad, e, q⟩ := hc
          injection e with e; subst e
          rw [add_pl, Nat.zero_add] at q
          refine ⟨g, N, ?_, q⟩
          rw [hE, if_neg (by omega)]
        have HER := Lib.hid hEr
        clear hE hEr
        go_wp2_with fail
        go_loopw [73] (fun i wr => ∃ k : Nat, k ≤ p - N ∧ i = .int .i64 k ∧ Fr [] w5 wr) (fun i _ => (p - N) - (intOf i).toNat)
        case atStart => exact ⟨0, Nat.zero_le _, rfl, HF.out⟩
        case round =>
          obtain ⟨k, hk, rfl, hF⟩ := hrel
          by_cases hlt : k < p - N
          · obtain ⟨b, o, hEE, q⟩ := HER.out _ hF k hlt
            have hlti : (k : Int) < ((p - N : Nat) : Int) := by omega
            have i0 : (0 : Int) ≤ (k : Int) ∧ (k : Int) < ((p - N : Nat) : Int) := by omega
            have wk : IntKind.i64.wrap ((k : Int) + 1) = (k : Int) + 1 := IntWalk.i64_in _ (by omega)
            have wk2 : ((k : Int) + 1) = ((k + 1 : Nat) : Int) := by omega
            have WK := Lib.hid wk2
            have HF := Lib.hid hF
            clear wk2 hF
            subst hEE
            go_wp2_with fail
            exact ⟨⟨k + 1, by omega, by rw [WK.out], HF.out⟩, by simp [intOf]; omega⟩
          · obtain rfl : k = p - N := by omega
            have hlti : ¬ ((p - N : Nat) : Int) < ((p - N : Nat) : Int) := by omega
            have HF := Lib.hid (HF5.out.trans hF)
            clear hF
            go_wp2_with fail
            go_ret
            exact ⟨rfl, HF.out⟩
end Go.Proofs.Ytnollgbfgkjmlaa
